/- Whether a list has a number. -/
import Derived.Test.YtijgpimjmphaoaaIntsW
import Derived.Test.YtijgpimjmphaoaaSame
namespace Go.Proofs.Ytijgpimjmphaoaa
open Go.ChangeShapes Go.WideShapes Go.ChangeAt Go.RowKit
set_option linter.unusedVariables false

theorem ret_bool {b c : Bool} {w : World} (h : b = c) : Ending.returned (.bool b) = .returned (.bool c) ∧ w = w := ⟨by rw [h], rfl⟩
theorem hasNumber_any (w : World) (v : Value) (xs : List Int) (n : Int) (h : Ints w v xs) :
    Calls Try.prog 20 #[v, .int .i64 n] w fun e w' => e = .returned (.bool (decide (n ∈ xs))) ∧ w = w' := by
  obtain ⟨a, ca, rfl, hla, hma, hxa⟩ := h
  unfold maxLen at hma
  obtain ⟨m, hm⟩ : ∃ m, m = xs.length := ⟨_, rfl⟩
  rw [← hm] at hla hxa ⊢
  have HM := Lib.hid hm
  clear hm
  go_enter Try.func20, Try.ntmps20
  go_wp2
  go_loop [5] (fun i => ∃ k : Nat, k ≤ m ∧ i = .int .i64 k ∧ Hid (∀ j, j < k → xs.getD j 0 ≠ n)) (fun i => m - (intOf i).toNat)
  case atStart => exact ⟨0, Nat.zero_le _, rfl, Lib.hid (fun j hj => by omega)⟩
  case round =>
    obtain ⟨k, hk, rfl, HB⟩ := hrel
    by_cases hlt : k < m
    · obtain ⟨ba, oa, rfl, hca⟩ := hxa k hlt
      obtain ⟨x, hx⟩ : ∃ x, x = xs.getD k 0 := ⟨_, rfl⟩
      rw [← hx] at hca
      have HX := Lib.hid hx
      clear hx hxa
      have hlt' : (k : Int) < (m : Int) := by omega
      by_cases he : x = n
      · have HE : Hid (decide (n ∈ xs) = true) := Lib.hid (decide_eq_true (by
          rw [← he, HX.out, getD_lt (by have := HM.out; omega)]
          exact List.getElem_mem _))
        have he' : (x == n) = true := by simpa using he
        clear he
        go_wp2
        go_ret
        exact ret_bool HE.out.symm
      · have he' : (x == n) = false := by simpa using he
        have HE := Lib.hid he
        clear he
        go_wp2
        go_round
        case rel => exact ⟨k + 1, by omega, by go_num, Lib.hid (fun j hj => by
          by_cases hjk : j = k
          · rw [hjk, ← HX.out]; exact HE.out
          · exact HB.out j (by omega))⟩
        case measure => simp [intOf]; omega
    · have HE : Hid (decide (n ∈ xs) = false) := Lib.hid (decide_eq_false (fun hh => by
        obtain ⟨j, hj, e⟩ := List.getElem_of_mem hh
        have := HB.out j (by have := HM.out; omega)
        rw [getD_lt hj] at this
        exact this e))
      go_wp2
      go_ret
      exact ret_bool HE.out.symm


end Go.Proofs.Ytijgpimjmphaoaa
