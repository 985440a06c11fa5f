/- What the proofs stand on, part 15. -/
import Derived.Test.YtachiggolgdocaaRows
import Derived.Test.YtachiggolgdocaaM1
import Derived.Test.YtachiggolgdocaaM2
import Derived.Test.YtachiggolgdocaaM3
import Derived.Test.YtachiggolgdocaaM4
import Derived.Test.YtachiggolgdocaaM5
import Derived.Test.YtachiggolgdocaaM6
import Derived.Test.YtachiggolgdocaaM7
import Derived.Test.YtachiggolgdocaaM8
import Derived.Test.YtachiggolgdocaaM9
import Derived.Test.YtachiggolgdocaaM11
import Derived.Test.YtachiggolgdocaaM13
set_option linter.unusedSimpArgs false
set_option linter.unusedVariables false
namespace Go.Proofs.Ytachiggolgdocaa
open Go.ChangeShapes Go.WideShapes Go.ChangeAt Go.RowKit
set_option linter.unusedVariables false
theorem IsW.out_box {W : World} {B B1 : Nat} {v : Value} {ys : List IV} {R o : Nat} {vs : List Value} (h : IsW W B B1 v ys) (hR : R < B) : IsW (W.setCells R o vs) B B1 v ys := by
  obtain ⟨a, cap, e, h1, h2, h3⟩ := h
  refine ⟨a, cap, e, h1, h2, fun i hi => ?_⟩
  obtain ⟨g, p, e, hg0, hg1, ht⟩ := h3 i hi
  exact ⟨g, p, e, hg0, hg1, ht.block (heap_setCells_other W R vs o _ _ (by omega))⟩
end Go.Proofs.Ytachiggolgdocaa
