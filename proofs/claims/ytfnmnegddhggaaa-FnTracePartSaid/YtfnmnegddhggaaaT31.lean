/- What the proofs stand on, part 31. -/
import Derived.Test.YtfnmnegddhggaaaRows
import Derived.Test.YtfnmnegddhggaaaT1
import Derived.Test.YtfnmnegddhggaaaT12
set_option linter.unusedSimpArgs false
set_option linter.unusedVariables false
namespace Go.Proofs.Ytfnmnegddhggaaa
open Go.ChangeShapes Go.WideShapes Go.ChangeAt Go.RowKit
set_option linter.unusedVariables false
theorem neB (b : Bool) : (b != b) = false := by simp
end Go.Proofs.Ytfnmnegddhggaaa
