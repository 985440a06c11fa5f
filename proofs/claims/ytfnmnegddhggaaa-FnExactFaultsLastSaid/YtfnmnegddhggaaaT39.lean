/- What the proofs stand on, part 39. -/
import Derived.Test.YtfnmnegddhggaaaRows
import Derived.Test.YtfnmnegddhggaaaT1
import Derived.Test.YtfnmnegddhggaaaT2
import Derived.Test.YtfnmnegddhggaaaT3
import Derived.Test.YtfnmnegddhggaaaT4
import Derived.Test.YtfnmnegddhggaaaT6
import Derived.Test.YtfnmnegddhggaaaT7
import Derived.Test.YtfnmnegddhggaaaT10
import Derived.Test.YtfnmnegddhggaaaT14
import Derived.Test.YtfnmnegddhggaaaT19
import Derived.Test.YtfnmnegddhggaaaT21
import Derived.Test.YtfnmnegddhggaaaT22
import Derived.Test.YtfnmnegddhggaaaT24
import Derived.Test.YtfnmnegddhggaaaT25
import Derived.Test.YtfnmnegddhggaaaT27
set_option linter.unusedSimpArgs false
set_option linter.unusedVariables false
namespace Go.Proofs.Ytfnmnegddhggaaa
open Go.ChangeShapes Go.WideShapes Go.ChangeAt Go.RowKit
set_option linter.unusedVariables false
set_option maxRecDepth 100000 in
set_option maxHeartbeats 2000000 in
theorem exFaultsLast_walk (W : World) (v0 : Value) (xs0 : List Int) (f1 : Int) (n : Int) (h0 : Ints W v0 xs0)
    (hS : ∀ w u0, Ints w u0 xs0 → Calls Try.prog 26 #[u0, .int .i64 f1] w (IRes n w))
    (hI : ∀ w u0, Ints w u0 xs0 → Calls Try.prog 25 #[u0, .int .i64 f1] w (IRes n w)) :
    Calls Try.prog 16 #[v0, .int .i64 f1] W fun e w' => e = .returned (.bool true) ∧ Below W.heap.size W w' := by
  have HSPEC := Lib.hid hS
  have HIMPL := Lib.hid hI
  clear hS hI
  obtain ⟨a0, c0, e0, hla0, hma0, hx0⟩ := h0
  obtain ⟨V0, hV0⟩ : ∃ V, V = v0 := ⟨_, rfl⟩
  have H0 : Hid (Ints W V0 xs0) := Lib.hid (by rw [hV0]; exact ⟨a0, c0, e0, hla0, hma0, hx0⟩)
  subst e0
  clear hx0
  unfold maxLen at hma0
  obtain ⟨m0, hm0⟩ : ∃ m, m = xs0.length := ⟨_, rfl⟩
  rw [← hm0] at hla0 hV0 ⊢
  have HV0 := Lib.hid hV0
  have HM0 := Lib.hid hm0
  clear hm0 hV0
  go_enter Try.func16, Try.ntmps16
  by_cases hq0 : 1048576 < m0
  · go_wp2_with fail
    go_ret
    exact ⟨rfl, Below.refl _ _⟩
  have hr0 : ¬ (1048576 : Int) < (m0 : Int) := by omega
  have hs0 : m0 ≤ 1048576 := by omega
  clear hq0
  have hxx : decide ((1 : Int) + (m0 : Int) < 0) = false := by simp; omega
  have BW := Lib.hid (Below.refl W.heap.size W)
  have ZW : W.heap.size ≤ W.heap.size := Nat.le_refl _
  go_wp2_with fail
  refine (toN_of W _ xs0 (by rw [← HV0.out]; exact H0.out) (by rw [← HM0.out]; exact hs0)).mono ?_
  rintro e wa0 ⟨ua0, rfl, ho, hb⟩
  have Cwa0 := Chg.of_below hb
  have Q_ := Lib.hid ho
  clear ho hb
  have Zwa0 := Cwa0.size
  have Bwa0 := Lib.hid (Below.chg BW.out Cwa0 (by omega) (.inr rfl))
  clear Cwa0 BW
  have X0_wa0 := Q_
  clear Q_
  go_wp2_with fail
  refine (HSPEC.out wa0 ua0 X0_wa0.out.ints).mono ?_
  rintro e w2 ⟨rfl, hb⟩
  have Cw2 := Chg.of_below hb
  clear hb
  have Zw2 := Cw2.size
  have Bw2 := Lib.hid (Below.chg Bwa0.out Cw2 (by omega) (.inr rfl))
  have X0_w2 := Lib.hid (X0_wa0.out.chg Cw2 (by omega) (.inr (by omega)))
  clear Cw2 Bwa0 X0_wa0
  clear X0_w2
  go_wp2_with fail
  refine (toN_of w2 _ xs0 (by rw [← HV0.out]; exact (Ints.below (B := 0) H0.out Bw2.out)) (by rw [← HM0.out]; exact hs0)).mono ?_
  rintro e wb0 ⟨ub0, rfl, ho, hb⟩
  have Cwb0 := Chg.of_below hb
  have Q_ := Lib.hid ho
  clear ho hb
  have Zwb0 := Cwb0.size
  have Bwb0 := Lib.hid (Below.chg Bw2.out Cwb0 (by omega) (.inr rfl))
  clear Cwb0 Bw2
  have X0_wb0 := Q_
  clear Q_
  go_wp2_with fail
  refine (HIMPL.out wb0 ub0 X0_wb0.out.ints).mono ?_
  rintro e w4 ⟨rfl, hb⟩
  have Cw4 := Chg.of_below hb
  clear hb
  have Zw4 := Cw4.size
  have Bw4 := Lib.hid (Below.chg Bwb0.out Cw4 (by omega) (.inr rfl))
  have X0_w4 := Lib.hid (X0_wb0.out.chg Cw4 (by omega) (.inr (by omega)))
  clear Cw4 Bwb0 X0_wb0
  go_wp2_with fail
  refine (toN_of w4 _ xs0 (by rw [← HV0.out]; exact (Ints.below (B := 0) H0.out Bw4.out)) (by rw [← HM0.out]; exact hs0)).mono ?_
  rintro e wc0 ⟨uc0, rfl, ho, hb⟩
  have Cwc0 := Chg.of_below hb
  have Q_ := Lib.hid ho
  clear ho hb
  have Zwc0 := Cwc0.size
  have Bwc0 := Lib.hid (Below.chg Bw4.out Cwc0 (by omega) (.inr rfl))
  have X0_wc0 := Lib.hid (X0_w4.out.chg Cwc0 (by omega) (.inr (by omega)))
  clear Cwc0 Bw4 X0_w4
  have Twc0 := Q_
  clear Q_
  go_wp2_with fail
  refine (eqs_c wc0 ub0 uc0 xs0 X0_wc0.out.ints Twc0.out.ints).mono ?_
  rintro e wd0 ⟨rfl, Cwd0⟩
  have Zwd0 := Cwd0.size
  have Bwd0 := Lib.hid (Below.chg Bwc0.out Cwd0 (by omega) (.inr rfl))
  have X0_wd0 := Lib.hid (X0_wc0.out.chg Cwd0 (by omega) (.inr (by omega)))
  have Twd0 := Lib.hid (Twc0.out.chg Cwd0 (by omega) (.inr (by omega)))
  clear Cwd0 Bwc0 X0_wc0 Twc0
  clear Twd0
  go_wp2_with fail
  go_ret
  exact ⟨rfl, Bwd0.out⟩
end Go.Proofs.Ytfnmnegddhggaaa
