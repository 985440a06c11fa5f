/- What the proofs stand on, part 26. -/
import Derived.Test.YtachiggolgdocaaRows
import Derived.Test.YtachiggolgdocaaM1
import Derived.Test.YtachiggolgdocaaM2
import Derived.Test.YtachiggolgdocaaM3
import Derived.Test.YtachiggolgdocaaM5
import Derived.Test.YtachiggolgdocaaM6
import Derived.Test.YtachiggolgdocaaM7
import Derived.Test.YtachiggolgdocaaM10
import Derived.Test.YtachiggolgdocaaM11
import Derived.Test.YtachiggolgdocaaM12
import Derived.Test.YtachiggolgdocaaM14
import Derived.Test.YtachiggolgdocaaM16
import Derived.Test.YtachiggolgdocaaM18
import Derived.Test.YtachiggolgdocaaM20
set_option linter.unusedSimpArgs false
set_option linter.unusedVariables false
namespace Go.Proofs.Ytachiggolgdocaa
open Go.ChangeShapes Go.WideShapes Go.ChangeAt Go.RowKit
set_option linter.unusedVariables false
theorem split_at {ys : List IV} {k : Nat} (hk : k < ys.length) : ys = ys.take k ++ ([ys.getD k iz] ++ ys.drop (k + 1)) := by
  rw [← List.append_assoc, ← take_snoc_getD ys k iz hk, List.take_append_drop]
end Go.Proofs.Ytachiggolgdocaa
