/- What the proofs stand on, part 18. -/
import Derived.Test.YtachiggolgdocaaRows
import Derived.Test.YtachiggolgdocaaM1
import Derived.Test.YtachiggolgdocaaM3
import Derived.Test.YtachiggolgdocaaM6
import Derived.Test.YtachiggolgdocaaM7
import Derived.Test.YtachiggolgdocaaM10
import Derived.Test.YtachiggolgdocaaM11
import Derived.Test.YtachiggolgdocaaM12
import Derived.Test.YtachiggolgdocaaM14
set_option linter.unusedSimpArgs false
set_option linter.unusedVariables false
namespace Go.Proofs.Ytachiggolgdocaa
open Go.ChangeShapes Go.WideShapes Go.ChangeAt Go.RowKit
set_option linter.unusedVariables false
theorem DIs.of {W w1 w' : World} {k : Nat} {v : Value} {ys : List IV} (h : RowBI W W.heap.size k w1 v ys w') (hl : ys.length ≤ 9) : DIs W v ys w' := ⟨h.row.is, hl, rdr_below h.rdr, h.form⟩
end Go.Proofs.Ytachiggolgdocaa
