/- What the proofs stand on, part 33. -/
import Derived.Test.YtfnmnegddhggaaaRows
import Derived.Test.YtfnmnegddhggaaaT1
import Derived.Test.YtfnmnegddhggaaaT2
import Derived.Test.YtfnmnegddhggaaaT3
import Derived.Test.YtfnmnegddhggaaaT4
import Derived.Test.YtfnmnegddhggaaaT5
import Derived.Test.YtfnmnegddhggaaaT6
import Derived.Test.YtfnmnegddhggaaaT7
import Derived.Test.YtfnmnegddhggaaaT8
import Derived.Test.YtfnmnegddhggaaaT9
import Derived.Test.YtfnmnegddhggaaaT10
import Derived.Test.YtfnmnegddhggaaaT11
import Derived.Test.YtfnmnegddhggaaaT12
import Derived.Test.YtfnmnegddhggaaaT13
import Derived.Test.YtfnmnegddhggaaaT17
import Derived.Test.YtfnmnegddhggaaaT21
import Derived.Test.YtfnmnegddhggaaaT24
import Derived.Test.YtfnmnegddhggaaaT27
set_option linter.unusedSimpArgs false
set_option linter.unusedVariables false
namespace Go.Proofs.Ytfnmnegddhggaaa
open Go.ChangeShapes Go.WideShapes Go.ChangeAt Go.RowKit
set_option linter.unusedVariables false
set_option linter.unusedSimpArgs false
theorem drawFaultsLast_any (W : World) (a : Option Addr) (len cap : Nat) (zs : List Int) (hr : Row .u8 W a len cap zs) :
    Calls Try.prog 24 #[.slice a len cap] W (DT1 W) := by
  go_enter Try.func24, Try.ntmps24
  go_wp2_with fail
  refine (drawFaultsFirst_any W a len cap zs hr).mono ?_
  clear hr
  rintro e w1 ⟨v, ys, f, rfl, hf, hd⟩
  have HD := Lib.hid hd
  have HF := Lib.hid hf
  clear hd hf
  go_wp2_with fail
  go_ret2
  exact ⟨v, ys, f, rfl, HF.out, HD.out⟩
end Go.Proofs.Ytfnmnegddhggaaa
