/- What the proofs stand on, part 24. -/
import Derived.Test.YtaalnjinocicgaaRows
import Derived.Test.YtaalnjinocicgaaW1
import Derived.Test.YtaalnjinocicgaaW2
import Derived.Test.YtaalnjinocicgaaW4
import Derived.Test.YtaalnjinocicgaaW10
import Derived.Test.YtaalnjinocicgaaW13
set_option linter.unusedSimpArgs false
set_option linter.unusedVariables false
namespace Go.Proofs.Ytaalnjinocicgaa
open Go.ChangeShapes Go.WideShapes Go.ChangeAt Go.RowKit
set_option linter.unusedVariables false
set_option linter.unusedSimpArgs false
set_option maxRecDepth 100000 in
set_option maxHeartbeats 2000000 in
theorem exSwapValid_walk (W : World) (v0 : Value) (xss : Rs) (b : Bool) (h : Rows2 W v0 xss)
    (hS : ∀ w v, Rows2 w v xss → Calls Try.prog 21 #[v] w (BRes b w))
    (hI : ∀ w v, Rows2 w v xss → Calls Try.prog 19 #[v] w (BRes b w)) :
    Calls Try.prog 9 #[v0] W fun e w' => e = .returned (.bool true) ∧ Below W.heap.size W w' := by
  have HSPEC := Lib.hid hS
  have HIMPL := Lib.hid hI
  have H0 := Lib.hid h
  clear hS hI h
  have hbb := neB b
  go_enter Try.func9, Try.ntmps9
  go_wp2_with fail
  refine (szIntSS_any W v0 xss 1048576 H0.out (by omega) (by omega)).mono ?_
  rintro e w' ⟨r, hr, rfl, rfl⟩
  by_cases hr0 : r < 0
  · clear hr
    go_wp2_with fail
    go_ret
    exact ⟨rfl, Below.refl _ _⟩
  have hr1 : decide (r < 0) = false := by simp; omega
  have hn : xss.length + total xss ≤ 1048576 := by
    rcases hr with h' | ⟨h1, h2⟩
    · omega
    · omega
  clear hr hr0
  have BW := Lib.hid (Below.refl W.heap.size W)
  have ZW : W.heap.size ≤ W.heap.size := Nat.le_refl _
  go_wp2_with fail
  refine (toM_of W v0 xss H0.out hn).mono ?_
  rintro e w1 ⟨u1, rfl, ho, hb⟩
  have Cw1 := Chg.of_below hb
  have Q_ := Lib.hid ho
  clear ho hb
  have Zw1 := Cw1.size
  have Bw1 := Lib.hid (Below.chg BW.out Cw1 (by omega) (.inr rfl))
  clear Cw1 BW
  have Xw1 := Q_
  clear Q_
  go_wp2_with fail
  refine (HSPEC.out w1 u1 Xw1.out.rows).mono ?_
  rintro e w2 ⟨rfl, hb2⟩
  have Cw2 := Chg.of_below hb2
  clear hb2
  clear Xw1
  have Zw2 := Cw2.size
  have Bw2 := Lib.hid (Below.chg Bw1.out Cw2 (by omega) (.inr rfl))
  clear Cw2 Bw1
  go_wp2_with fail
  refine (toM_of w2 v0 xss (H0.out.below Bw2.out) hn).mono ?_
  rintro e w3 ⟨u3, rfl, ho, hb⟩
  have Cw3 := Chg.of_below hb
  have Q_ := Lib.hid ho
  clear ho hb
  have Zw3 := Cw3.size
  have Bw3 := Lib.hid (Below.chg Bw2.out Cw3 (by omega) (.inr rfl))
  clear Cw3 Bw2
  have Xw3 := Q_
  clear Q_
  go_wp2_with fail
  refine (HIMPL.out w3 u3 Xw3.out.rows).mono ?_
  rintro e w4 ⟨rfl, hb4⟩
  have Cw4 := Chg.of_below hb4
  clear hb4
  have Zw4 := Cw4.size
  have Bw4 := Lib.hid (Below.chg Bw3.out Cw4 (by omega) (.inr rfl))
  have Xw4 := Lib.hid (Xw3.out.chg Cw4 (by omega) (.inr (by omega)))
  clear Cw4 Bw3 Xw3
  go_wp2_with fail
  refine (toM_of w4 v0 xss (H0.out.below Bw4.out) hn).mono ?_
  rintro e w5 ⟨u5, rfl, ho, hb⟩
  have Cw5 := Chg.of_below hb
  have Q_ := Lib.hid ho
  clear ho hb
  have Zw5 := Cw5.size
  have Bw5 := Lib.hid (Below.chg Bw4.out Cw5 (by omega) (.inr rfl))
  have Xw5 := Lib.hid (Xw4.out.chg Cw5 (by omega) (.inr (by omega)))
  clear Cw5 Bw4 Xw4
  have Yw5 := Q_
  clear Q_
  go_wp2_with fail
  refine (eq_c w5 u3 u5 xss Xw5.out.rows Yw5.out.rows).mono ?_
  rintro e w6 ⟨rfl, Cw6⟩
  have Zw6 := Cw6.size
  have Bw6 := Lib.hid (Below.chg Bw5.out Cw6 (by omega) (.inr rfl))
  have Xw6 := Lib.hid (Xw5.out.chg Cw6 (by omega) (.inr (by omega)))
  have Yw6 := Lib.hid (Yw5.out.chg Cw6 (by omega) (.inr (by omega)))
  clear Cw6 Bw5 Xw5 Yw5
  go_wp2_with fail
  go_ret
  exact ⟨rfl, Bw6.out⟩
end Go.Proofs.Ytaalnjinocicgaa
