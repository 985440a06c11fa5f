/- What the holding helpers of the laws return where the marks stand: the next number; they change nothing. -/
import Derived.Test.YtopnomklfkkjfaaMark
namespace Go.Proofs.Ytopnomklfkkjfaa
open Go.ChangeShapes Go.WideShapes Go.ChangeAt Go.RowKit
set_option linter.unusedVariables false

/-- what is read of the rows of a matrix -/
theorem MatAt.rows {w : World} {B0 B1 : Nat} {a : Option Addr} {cap : Nat} {A : Nat → Option Addr} {L C : Nat → Nat} {X : Nat → Nat → Int} {xss : List (List Int)}
    (h : MatAt w B0 B1 a xss.length A L C X) (hc : xss.length ≤ cap) (hm : cap ≤ maxLen) (hL : ∀ j, j < xss.length → L j = (xss.getD j []).length) (hX : ∀ j, j < xss.length → ∀ i, i < L j → X j i = (xss.getD j []).getD i 0) :
    Rows2 w (.slice a xss.length cap) xss := by
  refine ⟨a, cap, rfl, hc, hm, fun j hj => ?_⟩
  obtain ⟨b, o, rfl, _, _, h3, h4, h5⟩ := h.top j hj
  refine ⟨b, o, _, rfl, h3, A j, C j, by rw [hL j hj], by rw [← hL j hj]; exact h4, h5.1, fun i hi => ?_⟩
  rw [← hL j hj] at hi
  obtain ⟨g, p, e, _, _, h6, _⟩ := h.row j hj i hi
  exact ⟨g, p, e, by rw [h6, hX j hj i hi]⟩

end Go.Proofs.Ytopnomklfkkjfaa
