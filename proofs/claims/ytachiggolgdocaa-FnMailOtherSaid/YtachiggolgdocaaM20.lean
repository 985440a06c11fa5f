/- What the proofs stand on, part 20. -/
import Derived.Test.YtachiggolgdocaaRows
import Derived.Test.YtachiggolgdocaaM1
import Derived.Test.YtachiggolgdocaaM2
import Derived.Test.YtachiggolgdocaaM3
import Derived.Test.YtachiggolgdocaaM5
import Derived.Test.YtachiggolgdocaaM6
import Derived.Test.YtachiggolgdocaaM7
import Derived.Test.YtachiggolgdocaaM10
import Derived.Test.YtachiggolgdocaaM11
import Derived.Test.YtachiggolgdocaaM12
import Derived.Test.YtachiggolgdocaaM14
import Derived.Test.YtachiggolgdocaaM16
set_option linter.unusedSimpArgs false
set_option linter.unusedVariables false
namespace Go.Proofs.Ytachiggolgdocaa
open Go.ChangeShapes Go.WideShapes Go.ChangeAt Go.RowKit
set_option linter.unusedVariables false
theorem mws0_app (xs ys : List IV) (f t : Int) : mws0 (xs ++ ys) f t = mws0 xs f t ++ mws0 ys f t := by simp [mws0]
theorem mws0_one (x : IV) (f t : Int) : mws0 [x] f t = if msel f t x = true then [x.r] else [] := by
  unfold mws0
  by_cases h : msel f t x = true
  · rw [if_pos h, List.filter_cons_of_pos h]; rfl
  · rw [if_neg h, List.filter_cons_of_neg h]; rfl
end Go.Proofs.Ytachiggolgdocaa
