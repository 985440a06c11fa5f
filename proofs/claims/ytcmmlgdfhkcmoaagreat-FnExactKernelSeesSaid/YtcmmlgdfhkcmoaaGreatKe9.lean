/- What the proofs stand on, part 9. -/
import Derived.Test.YtcmmlgdfhkcmoaaGreatRows
import Derived.Test.YtcmmlgdfhkcmoaaGreatKe1
import Derived.Test.YtcmmlgdfhkcmoaaGreatKe2
import Derived.Test.YtcmmlgdfhkcmoaaGreatKe3
import Derived.Test.YtcmmlgdfhkcmoaaGreatKe4
import Derived.Test.YtcmmlgdfhkcmoaaGreatKe5
import Derived.Test.YtcmmlgdfhkcmoaaGreatKe6
import Derived.Test.YtcmmlgdfhkcmoaaGreatKe7
import Derived.Test.YtcmmlgdfhkcmoaaGreatKe8
set_option linter.unusedSimpArgs false
set_option linter.unusedVariables false
namespace Go.Proofs.YtcmmlgdfhkcmoaaGreat
open Go.ChangeShapes Go.WideShapes Go.ChangeAt Go.RowKit
set_option linter.unusedVariables false
set_option maxRecDepth 100000
theorem kvalid_len {K : KV} (h : kvalid K = true) : memOk K.m = true ∧ K.e.length = 3 ∧ ∀ j, j < 3 → -1 ≤ (K.e.getD j ez).t ∧ (K.e.getD j ez).t ≤ 11 := by
  have hk := kvalid_iff.1 h
  exact ⟨hk.m, (envsOk_bd hk.e).1, (envsOk_bd hk.e).2⟩
end Go.Proofs.YtcmmlgdfhkcmoaaGreat
