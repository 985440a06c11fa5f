/- What the helpers of the statements on lists return: whether a list has a number, and whether it ascends. -/
import Derived.Test.YtdockkmodjbfpaaIntsW
import Derived.Test.YtdockkmodjbfpaaWLaw
namespace Go.Proofs.Ytdockkmodjbfpaa
open Go.ChangeShapes Go.WideShapes Go.ChangeAt Go.RowKit
set_option linter.unusedVariables false

theorem hasInt_any (w : World) (v : Value) (xs : List Int) (n : Int) (h : Ints w v xs) :
    Calls Try.prog 23 #[v, .int .i64 n] w fun e w' => e = .returned (.bool (decide (n ∈ xs))) ∧ w = w' := by
  obtain ⟨a, ca, rfl, hla, hma, hxa⟩ := h
  unfold maxLen at hma
  obtain ⟨m, hm⟩ : ∃ m, m = xs.length := ⟨_, rfl⟩
  rw [← hm] at hla hxa ⊢
  have HM := Lib.hid hm
  clear hm
  go_enter Try.func23, Try.ntmps23
  go_wp2
  go_loop [5] (fun i => ∃ k : Nat, k ≤ m ∧ i = .int .i64 k ∧ Hid (∀ j, j < k → xs.getD j 0 ≠ n)) (fun i => m - (intOf i).toNat)
  case atStart => exact ⟨0, Nat.zero_le _, rfl, Lib.hid (fun j hj => by omega)⟩
  case round =>
    obtain ⟨k, hk, rfl, HB⟩ := hrel
    by_cases hlt : k < m
    · obtain ⟨ba, oa, rfl, hca⟩ := hxa k hlt
      obtain ⟨x, hx⟩ : ∃ x, x = xs.getD k 0 := ⟨_, rfl⟩
      rw [← hx] at hca
      have HX := Lib.hid hx
      clear hx hxa
      have hlt' : (k : Int) < (m : Int) := by omega
      by_cases he : x = n
      · have HE : Hid (decide (n ∈ xs) = true) := Lib.hid (decide_eq_true (by
          rw [← he, HX.out, getD_lt (by have := HM.out; omega)]
          exact List.getElem_mem _))
        have he' : (x == n) = true := by simpa using he
        clear he
        go_wp2
        go_ret
        exact ret_bool HE.out.symm
      · have he' : (x == n) = false := by simpa using he
        have HE := Lib.hid he
        clear he
        go_wp2
        go_round
        case rel => exact ⟨k + 1, by omega, by go_num, Lib.hid (fun j hj => by
          by_cases hjk : j = k
          · rw [hjk, ← HX.out]; exact HE.out
          · exact HB.out j (by omega))⟩
        case measure => simp [intOf]; omega
    · have HE : Hid (decide (n ∈ xs) = false) := Lib.hid (decide_eq_false (fun hh => by
        obtain ⟨j, hj, e⟩ := List.getElem_of_mem hh
        have := HB.out j (by have := HM.out; omega)
        rw [getD_lt hj] at this
        exact this e))
      go_wp2
      go_ret
      exact ret_bool HE.out.symm


theorem srt_asc (l : List Int) {i : Nat} (h0 : 0 < i) (h1 : i < (srt l 12).length) : (srt l 12).getD (i - 1) 0 < (srt l 12).getD i 0 := by
  have hp : (srt l 12).Pairwise (fun a b => a < b) := by
    unfold srt
    refine List.Pairwise.map _ (fun a b h => ?_) (List.Pairwise.filter _ (List.pairwise_lt_range (n := 12)))
    omega
  rw [getD_lt h1, getD_lt (by omega)]
  exact List.pairwise_iff_getElem.1 hp (i - 1) i (by omega) h1 (by omega)

theorem ascends_any (w : World) (v : Value) (xs : List Int) (h : Ints w v xs) (ha : ∀ i, 0 < i → i < xs.length → xs.getD (i - 1) 0 < xs.getD i 0) :
    Calls Try.prog 24 #[v] w (Reads (.bool true) w) := by
  obtain ⟨a, ca, rfl, hla, hma, hxa⟩ := h
  unfold maxLen at hma
  obtain ⟨n, hn⟩ : ∃ n, n = xs.length := ⟨_, rfl⟩
  rw [← hn] at hla hxa ha ⊢
  have HA := Lib.hid ha
  clear ha
  go_enter Try.func24, Try.ntmps24
  go_wp2
  go_loopw [3] (fun i wr => ∃ k d : Nat, 1 ≤ k ∧ k ≤ n + 1 ∧ i = .int .i64 k ∧ wr = w.drewN d) (fun i _ => n + 1 - (intOf i).toNat)
  case atStart => exact ⟨1, 0, Nat.le_refl _, by omega, rfl, rfl⟩
  case round =>
    obtain ⟨k, d, hk1, hk, rfl, rfl⟩ := hrel
    by_cases hlt : k < n
    · obtain ⟨ba, oa, rfl, hcb⟩ := hxa k hlt
      obtain ⟨m, rfl⟩ : ∃ m, k = m + 1 := ⟨k - 1, by omega⟩
      obtain ⟨_, _, e0, hca⟩ := hxa m (by omega)
      cases e0
      have hlt2 := HA.out (m + 1) (by omega) hlt
      rw [Nat.add_sub_cancel] at hlt2
      obtain ⟨x, hx⟩ : ∃ x, x = xs.getD m 0 := ⟨_, rfl⟩
      obtain ⟨y, hy⟩ : ∃ y, y = xs.getD (m + 1) 0 := ⟨_, rfl⟩
      rw [← hx] at hca hlt2
      rw [← hy] at hcb hlt2
      clear hx hy hxa
      have hlt' : ((m : Int) + 1) < (n : Int) := by omega
      have hm' : (m : Int) < (n : Int) := by omega
      have hge : decide (y ≤ x) = false := by simp; omega
      have hsub : IntKind.i64.wrap ((m : Int) + 1 - 1) = (m : Int) := by rw [IntKind.wrap_i64]; omega
      go_wp2_with fail
      go_quiet (fail)
      go_wp2
      go_roundw
      case rel => exact ⟨m + 1 + 1, _, by omega, by omega, by go_num, rfl⟩
      case measure => simp [intOf]; omega
    · have hge : decide ((k : Int) < (n : Int)) = false := by simp; omega
      go_wp2
      go_ret
      exact reads_mk rfl
end Go.Proofs.Ytdockkmodjbfpaa
