/- What the proofs stand on, part 25. -/
import Derived.Test.YtachiggolgdocaaRows
import Derived.Test.YtachiggolgdocaaM1
import Derived.Test.YtachiggolgdocaaM2
import Derived.Test.YtachiggolgdocaaM3
import Derived.Test.YtachiggolgdocaaM4
import Derived.Test.YtachiggolgdocaaM5
import Derived.Test.YtachiggolgdocaaM6
import Derived.Test.YtachiggolgdocaaM7
import Derived.Test.YtachiggolgdocaaM8
import Derived.Test.YtachiggolgdocaaM9
import Derived.Test.YtachiggolgdocaaM10
import Derived.Test.YtachiggolgdocaaM11
import Derived.Test.YtachiggolgdocaaM12
import Derived.Test.YtachiggolgdocaaM13
import Derived.Test.YtachiggolgdocaaM14
import Derived.Test.YtachiggolgdocaaM15
import Derived.Test.YtachiggolgdocaaM17
import Derived.Test.YtachiggolgdocaaM18
import Derived.Test.YtachiggolgdocaaM19
set_option linter.unusedSimpArgs false
set_option linter.unusedVariables false
namespace Go.Proofs.Ytachiggolgdocaa
open Go.ChangeShapes Go.WideShapes Go.ChangeAt Go.RowKit
set_option linter.unusedVariables false
def DrewI2 (W : World) (e : Ending) (w' : World) : Prop := ∃ v ys t, e = .returned (.tuple #[v, .int .i64 t]) ∧ DIs W v ys w'
set_option maxHeartbeats 1000000 in
theorem drawMailTake_any (W : World) (a : Option Addr) (len cap : Nat) (zs : List Int) (hr : Row .u8 W a len cap zs) :
    Calls Try.prog 21 #[.slice a len cap] W (DrewI2 W) := by
  go_enter Try.func21, Try.ntmps21
  go_wp2_with fail
  refine (open_any W a len cap zs hr).mono ?_
  clear hr
  rintro e w1 ⟨rfl, hR1⟩
  go_wp2_with fail
  refine (mails_any W _ _ _ hR1 (by omega)).mono ?_
  rintro e w2 ⟨v, ys, rfl, hl, h⟩
  have HB := Lib.hid h
  clear h hR1
  go_wp2_with fail
  refine (pick_any W _ _ _ _ HB.out.rdr (by omega) (by omega)).mono ?_
  rintro e w3 ⟨m, h0, h1, rfl, hR3, hO3⟩
  have HD := Lib.hid (DIs.of (HB.out.drew hR3 hO3.grown) hl)
  clear hR3 hO3 HB hl
  go_wp2_with fail
  go_ret2
  exact ⟨_, ys, _, rfl, HD.out⟩
end Go.Proofs.Ytachiggolgdocaa
namespace Go.Proofs.Ytachiggolgdocaa
open Go.ChangeShapes Go.WideShapes Go.ChangeAt Go.RowKit
set_option linter.unusedVariables false
theorem mgot_yes {ys : List IV} {t : Int} (h : mgot ys t = true) : msok ys = true ∧ mix ys t < ys.length ∧ mrest ys t = ys.take (mix ys t) ++ ys.drop (mix ys t + 1) ∧ mtaken ys t = ys.getD (mix ys t) iz := by
  have h0 := h
  unfold mgot at h
  rw [Bool.and_eq_true, decide_eq_true_eq] at h
  exact ⟨h.1, h.2, by rw [mrest, if_pos h.1, List.eraseIdx_eq_take_drop_succ], by rw [mtaken, if_pos h0]⟩
end Go.Proofs.Ytachiggolgdocaa
