/- What the proofs stand on, part 33. -/
import Derived.Test.YtachiggolgdocaaRows
import Derived.Test.YtachiggolgdocaaM1
set_option linter.unusedSimpArgs false
set_option linter.unusedVariables false
namespace Go.Proofs.Ytachiggolgdocaa
open Go.ChangeShapes Go.WideShapes Go.ChangeAt Go.RowKit
set_option linter.unusedVariables false
set_option maxRecDepth 100000 in
theorem imv_any (w : World) (v : Value) (xs : List IV) (h : Is w v xs) : Calls Try.prog 28 #[v] w (BRes (msok xs) w) := by
  have HC := Lib.hid (queueOf_any w v xs h)
  clear h
  generalize msok xs = b at HC
  go_enter Try.func28, Try.ntmps28
  go_wp2_with fail
  refine HC.out.mono ?_
  rintro e w1 ⟨v1, rfl, h1, h2, hb1⟩
  clear h1 h2
  have B1 := Lib.hid hb1
  clear hb1
  go_wp2_with fail
  go_ret
  exact ⟨rfl, B1.out⟩
end Go.Proofs.Ytachiggolgdocaa
