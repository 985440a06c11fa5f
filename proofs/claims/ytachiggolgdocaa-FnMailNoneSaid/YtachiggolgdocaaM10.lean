/- What the proofs stand on, part 10. -/
import Derived.Test.YtachiggolgdocaaRows
import Derived.Test.YtachiggolgdocaaM1
import Derived.Test.YtachiggolgdocaaM3
import Derived.Test.YtachiggolgdocaaM6
set_option linter.unusedSimpArgs false
set_option linter.unusedVariables false
namespace Go.Proofs.Ytachiggolgdocaa
open Go.ChangeShapes Go.WideShapes Go.ChangeAt Go.RowKit
set_option linter.unusedVariables false
theorem is_one (w : World) (x : IV) : Is (w.alloc (.cells #[.int .i64 x.k, .int .i64 x.g, .int .i64 x.r] 25)) (.slice (some ⟨w.heap.size, 0, none⟩) 1 1) [x] :=
  ⟨_, 1, rfl, Nat.le_refl _, by decide, fun i hi => ⟨w.heap.size, 0, rfl, by
    have e : i = 0 := by simpa using hi
    subst e
    exact tri_new w x _⟩⟩
end Go.Proofs.Ytachiggolgdocaa
