/- What the proofs stand on, part 31. -/
import Derived.Test.YtachiggolgdocaaRows
import Derived.Test.YtachiggolgdocaaM1
import Derived.Test.YtachiggolgdocaaM2
import Derived.Test.YtachiggolgdocaaM3
import Derived.Test.YtachiggolgdocaaM4
import Derived.Test.YtachiggolgdocaaM5
import Derived.Test.YtachiggolgdocaaM6
import Derived.Test.YtachiggolgdocaaM8
import Derived.Test.YtachiggolgdocaaM9
import Derived.Test.YtachiggolgdocaaM13
import Derived.Test.YtachiggolgdocaaM21
import Derived.Test.YtachiggolgdocaaM22
import Derived.Test.YtachiggolgdocaaM27
set_option linter.unusedSimpArgs false
set_option linter.unusedVariables false
namespace Go.Proofs.Ytachiggolgdocaa
open Go.ChangeShapes Go.WideShapes Go.ChangeAt Go.RowKit
set_option linter.unusedVariables false
set_option maxRecDepth 100000 in
set_option maxHeartbeats 1000000 in
theorem heldMailS_any (w : World) (v : Value) (n : Nat) (h : Is w v (mkIs n)) (hn : n ≤ 1048580) :
    Calls Try.prog 34 #[v, .int .i64 1] w fun e w' => e = .returned (.int .i64 (1 + 3 * (n : Int))) ∧ w = w' := by
  obtain ⟨a, ca, rfl, hla, hma, hxa⟩ := h
  unfold maxLen at hma
  rw [mkIs_len] at hla hxa ⊢
  have HXA := Lib.hid hxa
  clear hxa
  go_enter Try.func34, Try.ntmps34
  go_wp2
  go_loopw [1, 5] (fun q i wr => ∃ k : Nat, k ≤ n ∧ i = .int .i64 k ∧ q = .int .i64 (1 + 3 * (k : Int)) ∧ wr = w) (fun _ i _ => n - (intOf i).toNat)
  case atStart => exact ⟨0, Nat.zero_le _, rfl, rfl, rfl⟩
  case round =>
    obtain ⟨k, hk, rfl, rfl, rfl⟩ := hrel
    by_cases hlt : k < n
    · obtain ⟨g, p, rfl, hf⟩ := HXA.out k hlt
      rw [mkIs_get hlt] at hf
      obtain ⟨g0, g1, g2⟩ := hf
      have hlt' : (k : Int) < (n : Int) := by omega
      have z1 : (1 + 3 * (k : Int) + 1) = 2 + 3 * (k : Int) := by omega
      have z2 : (2 + 3 * (k : Int) + 1) = 3 + 3 * (k : Int) := by omega
      simp only [mkI] at g0 g1 g2
      go_wp2_with fail
      exact ⟨⟨k + 1, by omega, by go_num, by congr 1; omega, trivial⟩, by simp [intOf]; omega⟩
    · have ek : k = n := by omega
      subst ek
      go_wp2
      go_ret
      exact ⟨rfl, rfl⟩
end Go.Proofs.Ytachiggolgdocaa
namespace Go.Proofs.Ytachiggolgdocaa
open Go.ChangeShapes Go.WideShapes Go.ChangeAt Go.RowKit
set_option linter.unusedVariables false
def HeldI (w : World) (v : Value) (n : Nat) : Prop := Calls Try.prog 34 #[v, .int .i64 1] w fun e w' => e = .returned (.int .i64 (1 + 3 * (n : Int))) ∧ Chg 0 0 w w'
theorem heldI_of {w : World} {v : Value} {n : Nat} (h : Is w v (mkIs n)) (hn : n ≤ 1048576) : HeldI w v n :=
  (heldMailS_any w v n h (by omega)).mono (fun e w' ⟨he, hb⟩ => ⟨he, by rw [← hb]; exact ⟨rfl, rfl, rfl, Nat.le_refl _, fun _ _ _ => rfl⟩⟩)
end Go.Proofs.Ytachiggolgdocaa
