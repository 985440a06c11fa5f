/- What the proofs stand on, part 18. -/
import Derived.Test.YtfnmnegddhggaaaRows
import Derived.Test.YtfnmnegddhggaaaT1
import Derived.Test.YtfnmnegddhggaaaT2
import Derived.Test.YtfnmnegddhggaaaT3
import Derived.Test.YtfnmnegddhggaaaT4
import Derived.Test.YtfnmnegddhggaaaT5
import Derived.Test.YtfnmnegddhggaaaT6
import Derived.Test.YtfnmnegddhggaaaT7
import Derived.Test.YtfnmnegddhggaaaT8
import Derived.Test.YtfnmnegddhggaaaT9
import Derived.Test.YtfnmnegddhggaaaT10
import Derived.Test.YtfnmnegddhggaaaT11
import Derived.Test.YtfnmnegddhggaaaT12
import Derived.Test.YtfnmnegddhggaaaT13
import Derived.Test.YtfnmnegddhggaaaT17
set_option linter.unusedSimpArgs false
set_option linter.unusedVariables false
namespace Go.Proofs.Ytfnmnegddhggaaa
open Go.ChangeShapes Go.WideShapes Go.ChangeAt Go.RowKit
set_option linter.unusedVariables false
set_option linter.unusedSimpArgs false
theorem ftOk_mk {xs : List Int} {F : Nat} (h : trOk xs = true) (h1 : 1 ≤ F) (h2 : F ≤ 12) : ftOk xs (F : Int) = true := by
  unfold ftOk
  rw [h, inR_iff.2 (by omega)]; rfl
structure FtYes (xs : List Int) (f : Int) (F : Nat) : Prop where
  eq : f = (F : Int)
  lo : 1 ≤ F
  hi : F ≤ 12
  ok : trOk xs = true
  first : ffirst xs f = (costF F [] xs : Nat)
  last : flast xs f = (costL F [] xs : Nat)
  best : fbest xs f = (costB evL F [] xs : Nat)
theorem ft_mk {xs : List Int} {F : Nat} (h : trOk xs = true) (h1 : 1 ≤ F) (h2 : F ≤ 12) : FtYes xs (F : Int) F := by
  have hk := ftOk_mk h h1 h2
  exact ⟨rfl, h1, h2, h, by rw [ffirst, if_pos hk, Int.toNat_natCast], by rw [flast, if_pos hk, fltN_all], by rw [fbest, if_pos hk, Int.toNat_natCast]⟩
theorem ft_yes {xs : List Int} {f : Int} (h : ftOk xs f = true) : ∃ F, FtYes xs f F := by
  obtain ⟨F, hF, h1, h2⟩ := ftOk_f h
  subst hF
  exact ⟨F, ft_mk (ftOk_tr h) h1 h2⟩
theorem ft_of {xs : List Int} {f : Int} (h : 0 ≤ ffirst xs f ∨ 0 ≤ flast xs f ∨ 0 ≤ fbest xs f) : ∃ F, FtYes xs f F := by
  by_cases hk : ftOk xs f = true
  · exact ft_yes hk
  · have := ft_no hk
    omega
end Go.Proofs.Ytfnmnegddhggaaa
