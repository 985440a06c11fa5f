/- What the proofs stand on, part 38. -/
import Derived.Test.YtachiggolgdocaaRows
import Derived.Test.YtachiggolgdocaaM1
import Derived.Test.YtachiggolgdocaaM2
import Derived.Test.YtachiggolgdocaaM3
import Derived.Test.YtachiggolgdocaaM4
import Derived.Test.YtachiggolgdocaaM5
import Derived.Test.YtachiggolgdocaaM6
import Derived.Test.YtachiggolgdocaaM7
import Derived.Test.YtachiggolgdocaaM8
import Derived.Test.YtachiggolgdocaaM9
import Derived.Test.YtachiggolgdocaaM11
import Derived.Test.YtachiggolgdocaaM13
import Derived.Test.YtachiggolgdocaaM15
import Derived.Test.YtachiggolgdocaaM19
import Derived.Test.YtachiggolgdocaaM21
import Derived.Test.YtachiggolgdocaaM22
import Derived.Test.YtachiggolgdocaaM27
import Derived.Test.YtachiggolgdocaaM31
set_option linter.unusedSimpArgs false
set_option linter.unusedVariables false
namespace Go.Proofs.Ytachiggolgdocaa
set_option linter.unusedVariables false
theorem mrest_len {xs : List IV} {e : Int} : (mrest xs e).length ≤ 8 := by
  unfold mrest
  split
  · rename_i h
    exact Nat.le_trans (List.length_eraseIdx_le _ _) (msok_len h)
  · exact Nat.zero_le _
end Go.Proofs.Ytachiggolgdocaa
namespace Go.Proofs.Ytachiggolgdocaa
open Go.ChangeShapes Go.WideShapes Go.ChangeAt Go.RowKit
set_option linter.unusedVariables false
theorem eqx_same (w : World) (x : IV) : Calls Try.prog 35 #[ivV x, ivV x] w fun e w' => e = .returned (.bool true) ∧ Chg 0 0 w w' := by
  refine (eqInfo_any w x x).mono ?_
  rintro e w' ⟨rfl, hb⟩
  rw [decide_eq_true (rfl : x = x)]
  exact ⟨rfl, Chg.of_below hb⟩
structure BoxW (w : World) (B0 B1 : Nat) (x : IV) : Prop where
  tri : Tri w B0 0 x
  lt : B0 < B1
theorem BoxW.chg {lo hi B0 B1 : Nat} {w w' : World} {x : IV} (h : BoxW w B0 B1 x) (c : Chg lo hi w w') (hB : B1 ≤ w.heap.size) (hh : B1 ≤ lo ∨ hi ≤ B0) : BoxW w' B0 B1 x :=
  ⟨h.tri.block (c.block B0 (by have := h.lt; omega) (by have := h.lt; omega)), h.lt⟩
theorem BoxW.new (w : World) (x : IV) (t : TypeId) : BoxW (w.alloc (.cells #[.int .i64 x.k, .int .i64 x.g, .int .i64 x.r] t)) w.heap.size (w.alloc (.cells #[.int .i64 x.k, .int .i64 x.g, .int .i64 x.r] t)).heap.size x := ⟨tri_new w x t, by simp⟩
set_option maxRecDepth 100000 in
set_option maxHeartbeats 2000000 in
theorem exMailTake_walk (W0 : World) (v0 : Value) (xs : List IV) (t : Int) (h : Is W0 v0 xs) :
    Calls Try.prog 13 #[v0, .int .i64 t] W0 fun e w' => e = .returned (.bool true) ∧ Below W0.heap.size W0 w' := by
  have H0 := Lib.hid h
  obtain ⟨ys, hys⟩ : ∃ ys, ys = mrest xs t := ⟨_, rfl⟩
  obtain ⟨b, hb⟩ : ∃ b, b = mgot xs t := ⟨_, rfl⟩
  obtain ⟨y, hy⟩ : ∃ y, y = mtaken xs t := ⟨_, rfl⟩
  have hy6 : ys.length ≤ 8 := by rw [hys]; exact mrest_len
  have HYS := Lib.hid hys
  have HBB := Lib.hid hb
  have HYY := Lib.hid hy
  clear hys hb hy
  have hbb := neB b
  obtain ⟨ny, hny⟩ : ∃ n, n = ys.length := ⟨_, rfl⟩
  have HNY := Lib.hid hny
  have hny1 : ny ≤ 8 := by omega
  clear hny hy6
  have hge2 : decide ((1 : Int) + 3 * (ny : Int) < 0) = false := by simp; omega
  go_enter Try.func13, Try.ntmps13
  go_wp2_with fail
  refine (szMailS_any W0 v0 xs 1048576 (by exact h) (by omega) (by omega)).mono ?_
  clear h
  rintro e w0 ⟨r, hr, rfl, hw0⟩
  have B0 : Hid (Below W0.heap.size W0 w0) := Lib.hid (by rw [← hw0]; exact Below.refl _ _)
  clear hw0
  by_cases hr0 : r < 0
  · go_wp2_with fail
    go_ret
    exact ⟨rfl, B0.out⟩
  have hr1 : decide (r < 0) = false := by simpa using hr0
  have hn : xs.length ≤ 1048576 := by rcases hr with h | h <;> omega
  clear hr hr0
  have HSP : Hid (∀ w v, Is w v xs → NilOkI v → Calls Try.prog 23 #[v, .int .i64 t] w (NewVMB ys y b w)) := Lib.hid (fun w v h hn => by rw [HYS.out, HBB.out, HYY.out]; exact sMailTake_any w v xs t h hn)
  have HIM : Hid (∀ w v, Is w v xs → NilOkI v → Calls Try.prog 22 #[v, .int .i64 t] w (NewVMB ys y b w)) := Lib.hid (fun w v h hn => by rw [HYS.out, HBB.out, HYY.out]; exact imt_any w v xs t h)
  obtain ⟨m, hm⟩ : ∃ m, m = xs.length := ⟨_, rfl⟩
  have HM := Lib.hid hm
  have hm1 : m ≤ 1048576 := by omega
  clear hm
  have Z0 : W0.heap.size ≤ w0.heap.size := B0.out.size
  go_wp2_with fail
  refine (toInfoS_any w0 v0 xs (H0.out.below B0.out) hn).mono ?_
  rintro e w1 ⟨u1, rfl, ho1, hb1, hv1⟩
  have Bw1 := Lib.hid (B0.out.trans (hb1.mono B0.out.size))
  have Zw1 : W0.heap.size ≤ w1.heap.size := Bw1.out.size
  have R1 := Lib.hid ho1.is
  have N1 := Lib.hid (nilOk_of hv1)
  clear hb1 ho1 B0 hv1
  go_wp2_with fail
  refine (HSP.out w1 u1 R1.out N1.out).mono ?_
  rintro e w2 ⟨u2, rfl, hm2, hb2⟩
  have C2 := Chg.of_below hb2
  have M0 := Lib.hid hm2
  have Zw2 := C2.size
  have Bw2 := Lib.hid (Below.chg Bw1.out C2 (by omega) (.inr rfl))
  clear C2 Bw1 R1 N1 hm2 hb2
  have Mw2 := M0
  clear M0
  go_wp2_with fail
  obtain ⟨w2a, hw2a⟩ : ∃ w2a, w2a = w2.alloc (.cells #[.int .i64 y.k, .int .i64 y.g, .int .i64 y.r] 25) := ⟨_, rfl⟩
  have X0 : Hid (BoxW w2a w2.heap.size w2a.heap.size y) := Lib.hid (by rw [hw2a]; exact BoxW.new w2 y _)
  have Cw2a : Chg 0 0 w2 w2a := Chg.of_below (by rw [hw2a]; exact (Below.refl _ _).alloc (Nat.le_refl _) _)
  rw [← hw2a]
  clear hw2a
  have Zw2a := Cw2a.size
  have Bw2a := Lib.hid (Below.chg Bw2.out Cw2a (by omega) (.inr rfl))
  have Mw2a := Lib.hid (Mw2.out.chg Cw2a (by omega) (.inr (by omega)))
  clear Cw2a Bw2 Mw2
  have Xw2a := X0
  clear X0
  go_wp2_with fail
  refine (toInfoS_any w2a v0 xs (H0.out.below Bw2a.out) hn).mono ?_
  rintro e w3 ⟨u3, rfl, ho, hb, hv⟩
  have Cw3 := Chg.of_below hb
  have O0 := Lib.hid ho
  have N0 := Lib.hid (nilOk_of hv)
  have Zw3 := Cw3.size
  have Bw3 := Lib.hid (Below.chg Bw2a.out Cw3 (by omega) (.inr rfl))
  have Mw3 := Lib.hid (Mw2a.out.chg Cw3 (by omega) (.inr (by omega)))
  have Xw3 := Lib.hid (Xw2a.out.chg Cw3 (by omega) (.inr (by omega)))
  clear Cw3 Bw2a Mw2a Xw2a ho hb hv
  have Ow3 := O0
  clear O0
  go_wp2_with fail
  refine (HIM.out w3 u3 Ow3.out.is N0.out).mono ?_
  rintro e w4 ⟨u4, rfl, hm4, hb4⟩
  have C4 := Chg.of_below hb4
  have P0 := Lib.hid hm4
  have Zw4 := C4.size
  have Bw4 := Lib.hid (Below.chg Bw3.out C4 (by omega) (.inr rfl))
  have Mw4 := Lib.hid (Mw3.out.chg C4 (by omega) (.inr (by omega)))
  have Xw4 := Lib.hid (Xw3.out.chg C4 (by omega) (.inr (by omega)))
  have Ow4 := Lib.hid (Ow3.out.chg C4 (by omega) (.inr (by omega)))
  clear C4 Bw3 Mw3 Xw3 Ow3 hm4 hb4 N0
  have Pw4 := P0
  clear P0
  go_wp2_with fail
  obtain ⟨w4a, hw4a⟩ : ∃ w4a, w4a = w4.alloc (.cells #[.int .i64 y.k, .int .i64 y.g, .int .i64 y.r] 25) := ⟨_, rfl⟩
  have X0 : Hid (BoxW w4a w4.heap.size w4a.heap.size y) := Lib.hid (by rw [hw4a]; exact BoxW.new w4 y _)
  have Cw4a : Chg 0 0 w4 w4a := Chg.of_below (by rw [hw4a]; exact (Below.refl _ _).alloc (Nat.le_refl _) _)
  rw [← hw4a]
  clear hw4a
  have Zw4a := Cw4a.size
  have Bw4a := Lib.hid (Below.chg Bw4.out Cw4a (by omega) (.inr rfl))
  have Mw4a := Lib.hid (Mw4.out.chg Cw4a (by omega) (.inr (by omega)))
  have Xw4a := Lib.hid (Xw4.out.chg Cw4a (by omega) (.inr (by omega)))
  have Ow4a := Lib.hid (Ow4.out.chg Cw4a (by omega) (.inr (by omega)))
  have Pw4a := Lib.hid (Pw4.out.chg Cw4a (by omega) (.inr (by omega)))
  clear Cw4a Bw4 Mw4 Xw4 Ow4 Pw4
  have Yw4a := X0
  clear X0
  go_wp2_with fail
  refine (eqI_same w4a u4 u2 ys (Pw4a.out.is) (Mw4a.out.is)).mono ?_
  rintro e w5 ⟨rfl, Cw5⟩
  have Zw5 := Cw5.size
  have Bw5 := Lib.hid (Below.chg Bw4a.out Cw5 (by omega) (.inr rfl))
  have Mw5 := Lib.hid (Mw4a.out.chg Cw5 (by omega) (.inr (by omega)))
  have Xw5 := Lib.hid (Xw4a.out.chg Cw5 (by omega) (.inr (by omega)))
  have Ow5 := Lib.hid (Ow4a.out.chg Cw5 (by omega) (.inr (by omega)))
  have Pw5 := Lib.hid (Pw4a.out.chg Cw5 (by omega) (.inr (by omega)))
  have Yw5 := Lib.hid (Yw4a.out.chg Cw5 (by omega) (.inr (by omega)))
  clear Cw5 Bw4a Mw4a Xw4a Ow4a Pw4a Yw4a
  obtain ⟨p0, p1, p2⟩ := Yw5.out.tri
  obtain ⟨q0, q1, q2⟩ := Xw5.out.tri
  simp only [Nat.zero_add] at p0 p1 p2 q0 q1 q2
  go_wp2_with fail
  clear p0 p1 p2 q0 q1 q2
  refine (eqx_same w5 y).mono ?_
  rintro e w5a ⟨rfl, Cw5a⟩
  have Zw5a := Cw5a.size
  have Bw5a := Lib.hid (Below.chg Bw5.out Cw5a (by omega) (.inr rfl))
  have Mw5a := Lib.hid (Mw5.out.chg Cw5a (by omega) (.inr (by omega)))
  have Xw5a := Lib.hid (Xw5.out.chg Cw5a (by omega) (.inr (by omega)))
  have Ow5a := Lib.hid (Ow5.out.chg Cw5a (by omega) (.inr (by omega)))
  have Pw5a := Lib.hid (Pw5.out.chg Cw5a (by omega) (.inr (by omega)))
  have Yw5a := Lib.hid (Yw5.out.chg Cw5a (by omega) (.inr (by omega)))
  clear Cw5a Bw5 Mw5 Xw5 Ow5 Pw5 Yw5
  go_wp2_with fail
  refine (toInfoS_any w5a v0 xs (H0.out.below Bw5a.out) hn).mono ?_
  rintro e w6 ⟨u6, rfl, ho6, hb6, -⟩
  have C6 := Chg.of_below hb6
  have Q0 := Lib.hid ho6.is
  have Zw6 := C6.size
  have Bw6 := Lib.hid (Below.chg Bw5a.out C6 (by omega) (.inr rfl))
  have Mw6 := Lib.hid (Mw5a.out.chg C6 (by omega) (.inr (by omega)))
  have Xw6 := Lib.hid (Xw5a.out.chg C6 (by omega) (.inr (by omega)))
  have Ow6 := Lib.hid (Ow5a.out.chg C6 (by omega) (.inr (by omega)))
  have Pw6 := Lib.hid (Pw5a.out.chg C6 (by omega) (.inr (by omega)))
  have Yw6 := Lib.hid (Yw5a.out.chg C6 (by omega) (.inr (by omega)))
  clear C6 Bw5a Mw5a Xw5a Ow5a Pw5a Yw5a ho6 hb6
  go_wp2_with fail
  refine (eqI_same w6 u3 u6 xs Ow6.out.is Q0.out).mono ?_
  rintro e w7 ⟨rfl, Cw7⟩
  have Zw7 := Cw7.size
  have Bw7 := Lib.hid (Below.chg Bw6.out Cw7 (by omega) (.inr rfl))
  have Mw7 := Lib.hid (Mw6.out.chg Cw7 (by omega) (.inr (by omega)))
  have Xw7 := Lib.hid (Xw6.out.chg Cw7 (by omega) (.inr (by omega)))
  have Ow7 := Lib.hid (Ow6.out.chg Cw7 (by omega) (.inr (by omega)))
  have Pw7 := Lib.hid (Pw6.out.chg Cw7 (by omega) (.inr (by omega)))
  have Yw7 := Lib.hid (Yw6.out.chg Cw7 (by omega) (.inr (by omega)))
  clear Cw7 Bw6 Mw6 Xw6 Ow6 Pw6 Yw6
  clear Q0
  have HM7 := Lib.hid (markI_of Ow7.out (by omega) HM.out hm1)
  clear Ow7
  have hx2 : decide ((1 : Int) + 3 * (m : Int) < 0) = false := by simp; omega
  go_wp2_with fail
  refine HM7.out.mono ?_
  rintro e w8 ⟨rfl, _, C8⟩
  have Zw8 := C8.size
  have Bw8 := Lib.hid (Below.chg Bw7.out C8 (by omega) (.inl (by omega)))
  have Mw8 := Lib.hid (Mw7.out.chg C8 (by omega) (.inl (by omega)))
  have Xw8 := Lib.hid (Xw7.out.chg C8 (by omega) (.inl (by omega)))
  have Pw8 := Lib.hid (Pw7.out.chg C8 (by omega) (.inr (by omega)))
  have Yw8 := Lib.hid (Yw7.out.chg C8 (by omega) (.inr (by omega)))
  clear C8 Bw7 Mw7 Xw7 Pw7 Yw7 HM7
  go_wp2_with fail
  refine (eqI_same w8 u4 u2 ys (Pw8.out.is) (Mw8.out.is)).mono ?_
  rintro e w9 ⟨rfl, Cw9⟩
  have Zw9 := Cw9.size
  have Bw9 := Lib.hid (Below.chg Bw8.out Cw9 (by omega) (.inr rfl))
  have Mw9 := Lib.hid (Mw8.out.chg Cw9 (by omega) (.inr (by omega)))
  have Xw9 := Lib.hid (Xw8.out.chg Cw9 (by omega) (.inr (by omega)))
  have Pw9 := Lib.hid (Pw8.out.chg Cw9 (by omega) (.inr (by omega)))
  have Yw9 := Lib.hid (Yw8.out.chg Cw9 (by omega) (.inr (by omega)))
  clear Cw9 Bw8 Mw8 Xw8 Pw8 Yw8
  obtain ⟨p0, p1, p2⟩ := Yw9.out.tri
  obtain ⟨q0, q1, q2⟩ := Xw9.out.tri
  simp only [Nat.zero_add] at p0 p1 p2 q0 q1 q2
  go_wp2_with fail
  clear p0 p1 p2 q0 q1 q2
  refine (eqx_same w9 y).mono ?_
  rintro e w9a ⟨rfl, Cw9a⟩
  have Zw9a := Cw9a.size
  have Bw9a := Lib.hid (Below.chg Bw9.out Cw9a (by omega) (.inr rfl))
  have Mw9a := Lib.hid (Mw9.out.chg Cw9a (by omega) (.inr (by omega)))
  have Xw9a := Lib.hid (Xw9.out.chg Cw9a (by omega) (.inr (by omega)))
  have Pw9a := Lib.hid (Pw9.out.chg Cw9a (by omega) (.inr (by omega)))
  have Yw9a := Lib.hid (Yw9.out.chg Cw9a (by omega) (.inr (by omega)))
  clear Cw9a Bw9 Mw9 Xw9 Pw9 Yw9
  have HM9 := Lib.hid (markI_of Pw9a.out (by omega) HNY.out (by omega))
  clear Pw9a
  go_wp2_with fail
  refine HM9.out.mono ?_
  rintro e w10 ⟨rfl, hk10, C10⟩
  have P0 := Lib.hid hk10
  have Zw10 := C10.size
  have Bw10 := Lib.hid (Below.chg Bw9a.out C10 (by omega) (.inl (by omega)))
  have Mw10 := Lib.hid (Mw9a.out.chg C10 (by omega) (.inl (by omega)))
  have Xw10 := Lib.hid (Xw9a.out.chg C10 (by omega) (.inl (by omega)))
  have Yw10 := Lib.hid (Yw9a.out.chg C10 (by omega) (.inr (by omega)))
  clear C10 Bw9a Mw9a Xw9a Yw9a HM9 hk10
  have Pw10 := P0
  clear P0
  have HD := Lib.hid (heldI_of Pw10.out.is (by omega))
  go_wp2_with fail
  refine HD.out.mono ?_
  rintro e w11 ⟨rfl, Cw11⟩
  have Zw11 := Cw11.size
  have Bw11 := Lib.hid (Below.chg Bw10.out Cw11 (by omega) (.inr rfl))
  have Mw11 := Lib.hid (Mw10.out.chg Cw11 (by omega) (.inr (by omega)))
  have Xw11 := Lib.hid (Xw10.out.chg Cw11 (by omega) (.inr (by omega)))
  have Yw11 := Lib.hid (Yw10.out.chg Cw11 (by omega) (.inr (by omega)))
  have Pw11 := Lib.hid (Pw10.out.chg Cw11 (by omega) (.inr (by omega)))
  clear Cw11 Bw10 Mw10 Xw10 Yw10 Pw10 HD
  go_wp2_with fail
  refine (toInfoS_any w11 v0 xs (H0.out.below Bw11.out) hn).mono ?_
  rintro e w12 ⟨u12, rfl, ho, hb, hv⟩
  have Cw12 := Chg.of_below hb
  have Q0 := Lib.hid ho.is
  have N0 := Lib.hid (nilOk_of hv)
  have Zw12 := Cw12.size
  have Bw12 := Lib.hid (Below.chg Bw11.out Cw12 (by omega) (.inr rfl))
  have Mw12 := Lib.hid (Mw11.out.chg Cw12 (by omega) (.inr (by omega)))
  have Xw12 := Lib.hid (Xw11.out.chg Cw12 (by omega) (.inr (by omega)))
  have Yw12 := Lib.hid (Yw11.out.chg Cw12 (by omega) (.inr (by omega)))
  have Pw12 := Lib.hid (Pw11.out.chg Cw12 (by omega) (.inr (by omega)))
  clear Cw12 Bw11 Mw11 Xw11 Yw11 Pw11 ho hb hv
  go_wp2_with fail
  refine (HIM.out w12 u12 Q0.out N0.out).mono ?_
  rintro e w13 ⟨u13, rfl, hm13, hb13⟩
  have C13 := Chg.of_below hb13
  have Q1 := Lib.hid hm13.is
  have Zw13 := C13.size
  have Bw13 := Lib.hid (Below.chg Bw12.out C13 (by omega) (.inr rfl))
  have Mw13 := Lib.hid (Mw12.out.chg C13 (by omega) (.inr (by omega)))
  have Xw13 := Lib.hid (Xw12.out.chg C13 (by omega) (.inr (by omega)))
  have Yw13 := Lib.hid (Yw12.out.chg C13 (by omega) (.inr (by omega)))
  have Pw13 := Lib.hid (Pw12.out.chg C13 (by omega) (.inr (by omega)))
  clear C13 Bw12 Mw12 Xw12 Yw12 Pw12 hm13 hb13 Q0 N0
  go_wp2_with fail
  obtain ⟨w13a, hw13a⟩ : ∃ w13a, w13a = w13.alloc (.cells #[.int .i64 y.k, .int .i64 y.g, .int .i64 y.r] 25) := ⟨_, rfl⟩
  have X0 : Hid (BoxW w13a w13.heap.size w13a.heap.size y) := Lib.hid (by rw [hw13a]; exact BoxW.new w13 y _)
  have Cw13a : Chg 0 0 w13 w13a := Chg.of_below (by rw [hw13a]; exact (Below.refl _ _).alloc (Nat.le_refl _) _)
  replace Q1 := Lib.hid (Q1.out.below (by rw [hw13a]; exact (Below.refl _ _).alloc (Nat.le_refl _) _ : Below w13.heap.size w13 w13a))
  rw [← hw13a]
  clear hw13a
  have Zw13a := Cw13a.size
  have Bw13a := Lib.hid (Below.chg Bw13.out Cw13a (by omega) (.inr rfl))
  have Mw13a := Lib.hid (Mw13.out.chg Cw13a (by omega) (.inr (by omega)))
  have Xw13a := Lib.hid (Xw13.out.chg Cw13a (by omega) (.inr (by omega)))
  have Yw13a := Lib.hid (Yw13.out.chg Cw13a (by omega) (.inr (by omega)))
  have Pw13a := Lib.hid (Pw13.out.chg Cw13a (by omega) (.inr (by omega)))
  clear Cw13a Bw13 Mw13 Xw13 Yw13 Pw13
  have Z_w13a := X0
  clear X0
  go_wp2_with fail
  refine (eqI_same w13a u13 u2 ys (Q1.out) (Mw13a.out.is)).mono ?_
  rintro e w14 ⟨rfl, Cw14⟩
  have Zw14 := Cw14.size
  have Bw14 := Lib.hid (Below.chg Bw13a.out Cw14 (by omega) (.inr rfl))
  have Mw14 := Lib.hid (Mw13a.out.chg Cw14 (by omega) (.inr (by omega)))
  have Xw14 := Lib.hid (Xw13a.out.chg Cw14 (by omega) (.inr (by omega)))
  have Yw14 := Lib.hid (Yw13a.out.chg Cw14 (by omega) (.inr (by omega)))
  have Pw14 := Lib.hid (Pw13a.out.chg Cw14 (by omega) (.inr (by omega)))
  have Z_w14 := Lib.hid (Z_w13a.out.chg Cw14 (by omega) (.inr (by omega)))
  clear Cw14 Bw13a Mw13a Xw13a Yw13a Pw13a Z_w13a
  clear Q1
  obtain ⟨p0, p1, p2⟩ := Z_w14.out.tri
  obtain ⟨q0, q1, q2⟩ := Xw14.out.tri
  simp only [Nat.zero_add] at p0 p1 p2 q0 q1 q2
  go_wp2_with fail
  clear p0 p1 p2 q0 q1 q2
  refine (eqx_same w14 y).mono ?_
  rintro e w14a ⟨rfl, Cw14a⟩
  have Zw14a := Cw14a.size
  have Bw14a := Lib.hid (Below.chg Bw14.out Cw14a (by omega) (.inr rfl))
  have Mw14a := Lib.hid (Mw14.out.chg Cw14a (by omega) (.inr (by omega)))
  have Xw14a := Lib.hid (Xw14.out.chg Cw14a (by omega) (.inr (by omega)))
  have Yw14a := Lib.hid (Yw14.out.chg Cw14a (by omega) (.inr (by omega)))
  have Pw14a := Lib.hid (Pw14.out.chg Cw14a (by omega) (.inr (by omega)))
  have Z_w14a := Lib.hid (Z_w14.out.chg Cw14a (by omega) (.inr (by omega)))
  clear Cw14a Bw14 Mw14 Xw14 Yw14 Pw14 Z_w14
  have HD := Lib.hid (heldI_of Pw14a.out.is (by omega))
  go_wp2_with fail
  refine HD.out.mono ?_
  rintro e w15 ⟨rfl, Cw15⟩
  have Zw15 := Cw15.size
  have Bw15 := Lib.hid (Below.chg Bw14a.out Cw15 (by omega) (.inr rfl))
  have Mw15 := Lib.hid (Mw14a.out.chg Cw15 (by omega) (.inr (by omega)))
  have Xw15 := Lib.hid (Xw14a.out.chg Cw15 (by omega) (.inr (by omega)))
  have Yw15 := Lib.hid (Yw14a.out.chg Cw15 (by omega) (.inr (by omega)))
  have Pw15 := Lib.hid (Pw14a.out.chg Cw15 (by omega) (.inr (by omega)))
  have Z_w15 := Lib.hid (Z_w14a.out.chg Cw15 (by omega) (.inr (by omega)))
  clear Cw15 Bw14a Mw14a Xw14a Yw14a Pw14a Z_w14a HD
  go_wp2_with fail
  go_ret
  exact ⟨rfl, Bw15.out⟩
end Go.Proofs.Ytachiggolgdocaa
