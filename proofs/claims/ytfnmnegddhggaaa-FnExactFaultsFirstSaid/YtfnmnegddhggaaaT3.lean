/- What the proofs stand on, part 3. -/
import Derived.Test.YtfnmnegddhggaaaRows
import Derived.Test.YtfnmnegddhggaaaT1
import Derived.Test.YtfnmnegddhggaaaT2
set_option linter.unusedSimpArgs false
set_option linter.unusedVariables false
namespace Go.Proofs.Ytfnmnegddhggaaa
open Go.ChangeShapes Go.WideShapes Go.ChangeAt Go.RowKit
set_option linter.unusedVariables false
set_option maxHeartbeats 1000000 in
theorem l33Find_any (w : World) (v : Value) (xs : List Int) (p : Int) (h : Ints w v xs) :
    Calls Try.prog 51 #[v, .int .i64 p] w fun e w' => e = .returned (.int .i64 (lfind xs p)) ∧ w = w' := by
  obtain ⟨a, ca, rfl, hla, hma, hxa⟩ := h
  unfold maxLen at hma
  obtain ⟨n, hn⟩ : ∃ n, n = xs.length := ⟨_, rfl⟩
  rw [← hn] at hla hxa ⊢
  have HN := Lib.hid hn
  have HX := Lib.hid hxa
  obtain ⟨r, hr⟩ : ∃ r, r = lfind xs p := ⟨_, rfl⟩
  rw [← hr]
  have HR := Lib.hid hr
  clear hn hxa hr
  go_enter Try.func51, Try.ntmps51
  go_wp2
  go_loopw [5] (fun i wr => ∃ k : Nat, k ≤ n ∧ i = .int .i64 k ∧ Hid (∀ i, i < k → xs.getD i 0 ≠ p) ∧ w = wr) (fun i _ => n - (intOf i).toNat)
  case atStart => exact ⟨0, Nat.zero_le _, rfl, Lib.hid (fun i hi => by omega), by first | trivial | rfl⟩
  case round =>
    obtain ⟨k, hk, rfl, HB, rfl⟩ := hrel
    by_cases hlt : k < n
    · obtain ⟨ba, oa, rfl, hca⟩ := HX.out k hlt
      have hlt' : (k : Int) < (n : Int) := by omega
      obtain ⟨x, hx⟩ : ∃ x, x = xs.getD k 0 := ⟨_, rfl⟩
      rw [← hx] at hca
      have HXV := Lib.hid hx
      clear hx HX
      by_cases hxp : x = p
      · have h1 : (x == p) = true := by rw [beq_iff_eq]; exact hxp
        have HF : Hid (r = (k : Int)) := Lib.hid (by rw [HR.out]; exact lfind_first (by rw [← HN.out]; exact hlt) HB.out (by rw [← HXV.out]; exact hxp))
        clear HB
        go_wp2
        go_ret
        exact ⟨by rw [HF.out]; rfl, by first | trivial | rfl⟩
      · have h1 : (x == p) = false := by simpa using hxp
        go_wp2
        go_roundw
        case rel => exact ⟨k + 1, by omega, by go_num, Lib.hid (fun i hij => by
          by_cases hk2 : i = k
          · rw [hk2, ← HXV.out]; exact hxp
          · exact HB.out i (by omega)), by first | trivial | rfl⟩
        case measure => simp [intOf]; omega
    · have e : k = n := by omega
      subst e
      have HF : Hid (r = -1) := Lib.hid (by rw [HR.out]; exact lfind_none (by rw [← HN.out]; exact HB.out))
      go_wp2
      go_ret
      exact ⟨by rw [HF.out]; rfl, by first | trivial | rfl⟩
end Go.Proofs.Ytfnmnegddhggaaa
