/- What the proofs stand on, part 7. -/
import Derived.Test.YtachiggolgdocaaRows
import Derived.Test.YtachiggolgdocaaM1
import Derived.Test.YtachiggolgdocaaM3
set_option linter.unusedSimpArgs false
set_option linter.unusedVariables false
namespace Go.Proofs.Ytachiggolgdocaa
open Go.ChangeShapes Go.WideShapes Go.ChangeAt Go.RowKit
set_option linter.unusedVariables false
theorem Tri.drewN {w : World} {b o : Nat} {x : IV} (h : Tri w b o x) (n : Nat) : Tri (w.drewN n) b o x := ⟨h.c0, h.c1, h.c2⟩
theorem Is.drewN {w : World} {v : Value} {xs : List IV} (h : Is w v xs) (n : Nat) : Is (w.drewN n) v xs := by
  obtain ⟨a, cap, e, h1, h2, h3⟩ := h
  refine ⟨a, cap, e, h1, h2, fun i hi => ?_⟩
  obtain ⟨b, o, e2, h4⟩ := h3 i hi
  exact ⟨b, o, e2, h4.drewN n⟩
end Go.Proofs.Ytachiggolgdocaa
