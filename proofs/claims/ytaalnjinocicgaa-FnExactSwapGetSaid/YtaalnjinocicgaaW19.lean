/- What the proofs stand on, part 19. -/
import Derived.Test.YtaalnjinocicgaaRows
import Derived.Test.YtaalnjinocicgaaW1
import Derived.Test.YtaalnjinocicgaaW2
import Derived.Test.YtaalnjinocicgaaW3
import Derived.Test.YtaalnjinocicgaaW4
import Derived.Test.YtaalnjinocicgaaW13
import Derived.Test.YtaalnjinocicgaaW14
import Derived.Test.YtaalnjinocicgaaW16
set_option linter.unusedSimpArgs false
set_option linter.unusedVariables false
namespace Go.Proofs.Ytaalnjinocicgaa
open Go.ChangeShapes Go.WideShapes Go.ChangeAt Go.RowKit
set_option linter.unusedVariables false
theorem OwnInts.ints {w : World} {g : Nat} {v : Value} {xs : List Int} (h : OwnInts w g v xs) : Ints w v xs := by
  obtain ⟨rfl, hm, hr⟩ := h
  exact ⟨_, _, rfl, Nat.le_refl _, hm, fun i hi => ⟨g, 0, rfl, by simpa using hr.cell hi⟩⟩
end Go.Proofs.Ytaalnjinocicgaa
namespace Go.Proofs.Ytaalnjinocicgaa
open Go.ChangeShapes Go.WideShapes Go.ChangeAt Go.RowKit
set_option linter.unusedVariables false
theorem eqs_c (w : World) (va vb : Value) (xs : List Int) (ha : Ints w va xs) (hb : Ints w vb xs) :
    Calls Try.prog 29 #[va, vb] w fun e w' => e = .returned (.bool true) ∧ Chg 0 0 w w' :=
  (eqIntS_any w va vb xs xs ha hb).mono fun e w' ⟨he, n, hn⟩ => ⟨by rw [he]; simp, by rw [hn]; exact Chg.of_drewN w n⟩
end Go.Proofs.Ytaalnjinocicgaa
