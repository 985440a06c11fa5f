/- What the proofs stand on, part 10. -/
import Derived.Test.YtcmmlgdfhkcmoaaGreatRows
import Derived.Test.YtcmmlgdfhkcmoaaGreatKe1
import Derived.Test.YtcmmlgdfhkcmoaaGreatKe2
import Derived.Test.YtcmmlgdfhkcmoaaGreatKe3
import Derived.Test.YtcmmlgdfhkcmoaaGreatKe4
import Derived.Test.YtcmmlgdfhkcmoaaGreatKe5
import Derived.Test.YtcmmlgdfhkcmoaaGreatKe6
import Derived.Test.YtcmmlgdfhkcmoaaGreatKe7
import Derived.Test.YtcmmlgdfhkcmoaaGreatKe8
set_option linter.unusedSimpArgs false
set_option linter.unusedVariables false
namespace Go.Proofs.YtcmmlgdfhkcmoaaGreat
open Go.ChangeShapes Go.WideShapes Go.ChangeAt Go.RowKit
set_option linter.unusedVariables false
set_option maxRecDepth 100000
theorem neB (b : Bool) : (b != b) = false := by simp
end Go.Proofs.YtcmmlgdfhkcmoaaGreat
