/- What the proofs stand on, part 40. -/
import Derived.Test.YtachiggolgdocaaRows
import Derived.Test.YtachiggolgdocaaM1
import Derived.Test.YtachiggolgdocaaM2
import Derived.Test.YtachiggolgdocaaM4
import Derived.Test.YtachiggolgdocaaM8
import Derived.Test.YtachiggolgdocaaM21
import Derived.Test.YtachiggolgdocaaM33
set_option linter.unusedSimpArgs false
set_option linter.unusedVariables false
namespace Go.Proofs.Ytachiggolgdocaa
open Go.ChangeShapes Go.WideShapes Go.ChangeAt Go.RowKit
set_option linter.unusedVariables false
theorem exMailsValid_walk (W0 : World) (v0 : Value) (xs : List IV) (h : Is W0 v0 xs) :
    Calls Try.prog 11 #[v0] W0 fun e w' => e = .returned (.bool true) ∧ Below W0.heap.size W0 w' := by
  have H0 := Lib.hid h
  go_enter Try.func11, Try.ntmps11
  go_wp2_with fail
  refine (szMailS_any W0 v0 xs 1048576 (by exact h) (by omega) (by omega)).mono ?_
  clear h
  rintro e w0 ⟨r, hr, rfl, hw0⟩
  have B0 : Hid (Below W0.heap.size W0 w0) := Lib.hid (by rw [← hw0]; exact Below.refl _ _)
  clear hw0
  by_cases hr0 : r < 0
  · go_wp2_with fail
    go_ret
    exact ⟨rfl, B0.out⟩
  have hr1 : decide (r < 0) = false := by simpa using hr0
  have hn : xs.length ≤ 1048576 := by rcases hr with h | h <;> omega
  clear hr hr0
  have HSP : Hid (∀ w v, Is w v xs → Calls Try.prog 20 #[v] w (BRes (msok xs) w)) := Lib.hid (fun w v h => sMailsValid_any w v xs h)
  have HIM : Hid (∀ w v, Is w v xs → NilOkI v → Calls Try.prog 28 #[v] w (BRes (msok xs) w)) := Lib.hid (fun w v h hn => imv_any w v xs h)
  obtain ⟨b, hb⟩ : ∃ b, b = msok xs := ⟨_, rfl⟩
  rw [← hb] at HSP HIM
  clear hb
  have hbb := neB b
  go_wp2_with fail
  refine (toInfoS_any w0 v0 xs (H0.out.below B0.out) hn).mono ?_
  rintro e w1 ⟨u1, rfl, ho1, hb1, -⟩
  have B1 := Lib.hid (B0.out.trans (hb1.mono B0.out.size))
  have R1 := Lib.hid ho1.is
  clear hb1 ho1 B0
  go_wp2_with fail
  refine (HSP.out w1 u1 R1.out).mono ?_
  rintro e w2 ⟨rfl, hb2⟩
  have B2 := Lib.hid (B1.out.trans (hb2.mono B1.out.size))
  clear hb2 R1 B1
  go_wp2_with fail
  refine (toInfoS_any w2 v0 xs (H0.out.below B2.out) hn).mono ?_
  rintro e w3 ⟨u3, rfl, ho3, hb3, hv3⟩
  have B3 := Lib.hid (B2.out.trans (hb3.mono B2.out.size))
  have R3 := Lib.hid ho3.is
  have N3 := Lib.hid (nilOk_of hv3)
  clear hb3 ho3 B2 hv3
  go_wp2_with fail
  refine (HIM.out w3 u3 R3.out N3.out).mono ?_
  rintro e w4 ⟨rfl, hb4⟩
  have B4 := Lib.hid (B3.out.trans (hb4.mono B3.out.size))
  have R4 := Lib.hid (R3.out.below hb4)
  clear hb4 R3 B3
  go_wp2_with fail
  refine (toInfoS_any w4 v0 xs (H0.out.below B4.out) hn).mono ?_
  rintro e w5 ⟨u5, rfl, ho5, hb5, -⟩
  have B5 := Lib.hid (B4.out.trans (hb5.mono B4.out.size))
  have R5 := Lib.hid ho5.is
  have R45 := Lib.hid (R4.out.below hb5)
  clear hb5 ho5 R4 B4
  go_wp2_with fail
  refine (eqI_same w5 u3 u5 xs R45.out R5.out).mono ?_
  rintro e w6 ⟨rfl, C6⟩
  have B6 := Lib.hid (Below.chg B5.out C6 B5.out.size (.inr rfl))
  clear C6 B5 R5 R45
  go_wp2_with fail
  go_ret
  exact ⟨rfl, B6.out⟩
end Go.Proofs.Ytachiggolgdocaa
