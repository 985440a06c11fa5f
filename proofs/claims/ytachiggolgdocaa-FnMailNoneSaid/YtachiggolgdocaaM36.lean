/- What the proofs stand on, part 36. -/
import Derived.Test.YtachiggolgdocaaRows
import Derived.Test.YtachiggolgdocaaM1
import Derived.Test.YtachiggolgdocaaM3
import Derived.Test.YtachiggolgdocaaM6
import Derived.Test.YtachiggolgdocaaM7
import Derived.Test.YtachiggolgdocaaM9
import Derived.Test.YtachiggolgdocaaM10
import Derived.Test.YtachiggolgdocaaM11
import Derived.Test.YtachiggolgdocaaM12
import Derived.Test.YtachiggolgdocaaM14
import Derived.Test.YtachiggolgdocaaM18
set_option linter.unusedSimpArgs false
set_option linter.unusedVariables false
namespace Go.Proofs.Ytachiggolgdocaa
open Go.ChangeShapes Go.WideShapes Go.ChangeAt Go.RowKit
set_option linter.unusedVariables false
theorem inR_iff {x lo hi : Int} : inR x lo hi = true ↔ lo ≤ x ∧ x ≤ hi := by unfold inR; rw [decide_eq_true_eq]
end Go.Proofs.Ytachiggolgdocaa
namespace Go.Proofs.Ytachiggolgdocaa
set_option linter.unusedVariables false
theorem mok_iff {x : IV} : mok x = true ↔ (0 ≤ x.k ∧ x.k ≤ 2) ∧ (0 ≤ x.g ∧ x.g ≤ 2) ∧ (0 ≤ x.r ∧ x.r ≤ 9999) := by
  unfold mok
  rw [Bool.and_eq_true, Bool.and_eq_true, inR_iff, inR_iff, inR_iff]
end Go.Proofs.Ytachiggolgdocaa
