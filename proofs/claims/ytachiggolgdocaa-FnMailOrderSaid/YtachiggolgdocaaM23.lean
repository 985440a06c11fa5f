/- What the proofs stand on, part 23. -/
import Derived.Test.YtachiggolgdocaaRows
import Derived.Test.YtachiggolgdocaaM1
import Derived.Test.YtachiggolgdocaaM2
import Derived.Test.YtachiggolgdocaaM3
import Derived.Test.YtachiggolgdocaaM5
import Derived.Test.YtachiggolgdocaaM7
import Derived.Test.YtachiggolgdocaaM12
import Derived.Test.YtachiggolgdocaaM16
set_option linter.unusedSimpArgs false
set_option linter.unusedVariables false
namespace Go.Proofs.Ytachiggolgdocaa
set_option linter.unusedVariables false
theorem mws_len {xs : List IV} {f t : Int} : (mws xs f t).length ≤ 8 := by
  unfold mws
  split
  · rename_i h
    rw [mws0, List.length_map]
    exact Nat.le_trans (List.length_filter_le _ _) (msok_len h)
  · exact Nat.zero_le _
end Go.Proofs.Ytachiggolgdocaa
