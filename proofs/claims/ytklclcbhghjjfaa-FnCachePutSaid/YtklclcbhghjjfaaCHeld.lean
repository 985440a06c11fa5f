/- Marks that translations hold are found. -/
import Derived.Test.YtklclcbhghjjfaaCMark
namespace Go.Proofs.Ytklclcbhghjjfaa
open Go.ChangeShapes Go.WideShapes Go.ChangeAt Go.RowKit
set_option linter.unusedVariables false

set_option maxRecDepth 100000 in
set_option maxHeartbeats 1000000 in
theorem heldCachedS_any (w : World) (v : Value) (n : Nat) (h : Cs w v (mkC n)) (hn : n ≤ 1048580) :
    Calls Try.prog 33 #[v, .int .i64 1] w fun e w' => e = .returned (.int .i64 (1 + 4 * (n : Int))) ∧ w = w' := by
  obtain ⟨a, ca, rfl, hla, hma, hxa⟩ := h
  unfold maxLen at hma
  rw [mkC_len] at hla hxa ⊢
  have HXA := Lib.hid hxa
  clear hxa
  go_enter Try.func33, Try.ntmps33
  go_wp2
  go_loopw [1, 5] (fun q i wr => ∃ k : Nat, k ≤ n ∧ i = .int .i64 k ∧ q = .int .i64 (1 + 4 * (k : Int)) ∧ wr = w) (fun _ i _ => n - (intOf i).toNat)
  case atStart => exact ⟨0, Nat.zero_le _, rfl, rfl, rfl⟩
  case round =>
    obtain ⟨k, hk, rfl, rfl, rfl⟩ := hrel
    by_cases hlt : k < n
    · obtain ⟨g, p, rfl, hf⟩ := HXA.out k hlt
      rw [mkC_get hlt] at hf
      obtain ⟨g0, g1, g2, g3⟩ := hf
      have hlt' : (k : Int) < (n : Int) := by omega
      have z1 : (1 + 4 * (k : Int) + 1) = 2 + 4 * (k : Int) := by omega
      have z2 : (2 + 4 * (k : Int) + 1) = 3 + 4 * (k : Int) := by omega
      have z3 : (3 + 4 * (k : Int) + 1) = 4 + 4 * (k : Int) := by omega
      simp only [mkE] at g0 g1 g2 g3
      have z4 : (!decide ((4 + 4 * (k : Int)) % 3 = 0) == ((4 + 4 * (k : Int)) % 3 == 0)) = false := by
        have e : ((4 + 4 * (k : Int)) % 3 == 0) = decide ((4 + 4 * (k : Int)) % 3 = 0) := rfl
        rw [e]; simp
      go_wp2_with fail
      exact ⟨⟨k + 1, by omega, by go_num, by congr 1; omega, trivial⟩, by simp [intOf]; omega⟩
    · have ek : k = n := by omega
      subst ek
      go_wp2
      go_ret
      exact ⟨rfl, rfl⟩
end Go.Proofs.Ytklclcbhghjjfaa
