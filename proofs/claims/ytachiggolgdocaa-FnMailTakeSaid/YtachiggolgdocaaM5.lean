/- What the proofs stand on, part 5. -/
import Derived.Test.YtachiggolgdocaaRows
import Derived.Test.YtachiggolgdocaaM1
import Derived.Test.YtachiggolgdocaaM2
import Derived.Test.YtachiggolgdocaaM3
set_option linter.unusedSimpArgs false
set_option linter.unusedVariables false
namespace Go.Proofs.Ytachiggolgdocaa
set_option linter.unusedVariables false
theorem msok_len {xs : List IV} (h : msok xs = true) : xs.length ≤ 8 := (msok_iff.1 h).2
end Go.Proofs.Ytachiggolgdocaa
