/- The walks of the exact statements of RightsDrop and RightsAdd, out of contracts of the program. -/
import Derived.Test.YtjakelpdnmnofaaExRights
namespace Go.Proofs.Ytjakelpdnmnofaa
open Go.ChangeShapes Go.WideShapes Go.ChangeAt Go.RowKit
set_option linter.unusedVariables false

/-- the call answers a new slice of texts; it may be the reference's or the program's -/
def MarkS (w : World) (B0 B1 : Nat) (v : Value) (n : Nat) : Prop := Calls Try.prog 40 #[v, .int .i64 1] w fun e w' => e = .returned (.int .i64 (1 + n)) ∧ StrsW w' B0 B1 v (mkS n) ∧ Chg B0 B1 w w'
theorem markS_of {w : World} {B0 B1 : Nat} {v : Value} {xs : List Bs} {n : Nat} (h : StrsW w B0 B1 v xs) (hB : B1 ≤ w.heap.size) (hN : n = xs.length) (hn : n ≤ 1048576) : MarkS w B0 B1 v n := by
  have h0 := h
  obtain ⟨a, cap, rfl, _⟩ := h0
  subst hN
  exact markStringS_any w B0 B1 a _ cap xs h hB rfl hn
def HeldS (w : World) (v : Value) (n : Nat) : Prop := Calls Try.prog 41 #[v, .int .i64 1] w fun e w' => e = .returned (.int .i64 (1 + n)) ∧ Chg 0 0 w w'
theorem heldS_of {w : World} {v : Value} {n : Nat} (h : Strs w v (mkS n)) (hn : n ≤ 1048576) : HeldS w v n := by
  have h0 := h
  obtain ⟨a, cap, rfl, _⟩ := h0
  have h1 := heldStringS_any w a n cap (by rw [mkS_len] at h; exact h) hn
  rw [mkS_len]
  exact h1.mono (fun e w' ⟨he, hb⟩ => ⟨he, Chg.of_below hb⟩)

set_option maxHeartbeats 400000 in
theorem exRightsDrop_walk (hI : IRDrop) (W : World) (v0 : Value) (xs : List Bs) (s : Bs) (h : Strs W v0 xs) (hf : Fit xs) (hs : s.length ≤ maxLen) :
    Calls Try.prog 17 #[v0, .string ⟨s.toArray⟩] W fun e w' => e = .returned (.bool true) ∧ Below W.heap.size W w' := by
  have HI := Lib.hid hI
  have H0 := Lib.hid h
  clear hI
  unfold maxLen at hs
  have hsl : (s.length : Int) ≤ 9223372036854775807 := by omega
  by_cases hlong : 1048576 < s.length
  · have hl1 : (1048576 : Int) < (s.length : Int) := by omega
    go_enter Try.func17, Try.ntmps17
    go_wp2_with fail
    go_ret
    exact ⟨rfl, Below.refl _ _⟩
  have hl1 : ¬ (1048576 : Int) < (s.length : Int) := by omega
  have hsn : s.length ≤ 2000000 := by omega
  obtain ⟨ys, hys⟩ : ∃ ys, ys = rdrop xs s := ⟨_, rfl⟩
  have hy6 : ys.length ≤ 6 := by rw [hys]; exact rdrop_len xs s
  have HYS := Lib.hid hys
  clear hys
  obtain ⟨ny, hny⟩ : ∃ n, n = ys.length := ⟨_, rfl⟩
  have HNY := Lib.hid hny
  have hny1 : ny ≤ 6 := by omega
  clear hny hy6
  have hge : decide ((1 : Int) + (ny : Int) < 0) = false := by simp; omega
  go_enter Try.func17, Try.ntmps17
  go_wp2_with fail
  refine (szStringS_any W v0 xs 1048576 h hf (by omega) (by omega)).mono ?_
  clear h
  rintro e w' ⟨r, hr, rfl, rfl⟩
  by_cases hr0 : r < 0
  · go_wp2_with fail
    go_ret
    exact ⟨rfl, Below.refl _ _⟩
  have hr1 : decide (r < 0) = false := by simpa using hr0
  have hbd : xs.length ≤ 1048576 ∧ totalS xs ≤ 1048576 := by rcases hr with h | h <;> omega
  have hn : xs.length ≤ 1048576 := hbd.1
  have HS : Hid (Short xs) := Lib.hid (fun x hx => by have := totalS_mem hx; omega)
  clear hr hbd hf hr0
  have HSP : Hid (∀ w v, Strs w v xs → Calls Try.prog 35 #[v, .string ⟨s.toArray⟩] w (NewS ys w)) := Lib.hid (fun w v h => by rw [HYS.out]; exact sRightsDrop_any w v xs s h HS.out hsn)
  have HIM : Hid (∀ w v, Strs w v xs → Calls Try.prog 34 #[v, .string ⟨s.toArray⟩] w (NewS ys w)) := Lib.hid (fun w v h => by rw [HYS.out]; exact HI.out w v xs s h HS.out hsn)
  clear HI
  obtain ⟨m, hm⟩ : ∃ m, m = xs.length := ⟨_, rfl⟩
  have HM := Lib.hid hm
  have hm1 : m ≤ 1048576 := by omega
  clear hm
  go_wp2_with fail
  refine (toStringS_any W v0 xs H0.out hn).mono ?_
  rintro e w1 ⟨u1, rfl, ho1, hb1, -, -⟩
  have C1 := Chg.of_below hb1
  have Bw1 := Lib.hid hb1
  have Zw1 : W.heap.size ≤ w1.heap.size := C1.size
  have R1 := Lib.hid ho1.strs
  clear hb1 ho1 C1
  go_wp2_with fail
  refine (HSP.out w1 u1 R1.out).mono ?_
  rintro e w2 ⟨u2, rfl, hm2, hb2⟩
  have C2 := Chg.of_below hb2
  have M0 := Lib.hid hm2
  have Zw2 := C2.size
  have Bw2 := Lib.hid (Below.chg Bw1.out C2 (by omega) (.inr rfl))
  clear C2 Bw1 R1 hm2 hb2
  have Mw2 := M0
  clear M0
  go_wp2_with fail
  refine (toStringS_any w2 v0 xs (H0.out.below Bw2.out) hn).mono ?_
  rintro e w3 ⟨u3, rfl, ho3, hb3, hz3, -⟩
  have C3 := Chg.of_below hb3
  have O0 := Lib.hid (ho3.wide (C0 := w2.heap.size) (C1 := w3.heap.size) (Nat.le_refl _) (by omega))
  have Zw3 := C3.size
  have Bw3 := Lib.hid (Below.chg Bw2.out C3 (by omega) (.inr rfl))
  have Mw3 := Lib.hid (Mw2.out.chg C3 (by omega) (.inr (by omega)))
  clear C3 Bw2 Mw2 ho3 hb3 hz3
  have Ow3 := O0
  clear O0
  go_wp2_with fail
  refine (HIM.out w3 u3 Ow3.out.strs).mono ?_
  rintro e w4 ⟨u4, rfl, hm4, hb4⟩
  have C4 := Chg.of_below hb4
  have P0 := Lib.hid hm4
  have Zw4 := C4.size
  have Bw4 := Lib.hid (Below.chg Bw3.out C4 (by omega) (.inr rfl))
  have Mw4 := Lib.hid (Mw3.out.chg C4 (by omega) (.inr (by omega)))
  have Ow4 := Lib.hid (Ow3.out.chg C4 (by omega) (.inr (by omega)))
  clear C4 Bw3 Mw3 Ow3 hm4 hb4
  have Pw4 := P0
  clear P0
  go_wp2_with fail
  refine (eqS_same w4 u4 u2 ys Pw4.out.strs Mw4.out.strs).mono ?_
  rintro e w5 ⟨rfl, Cw5⟩
  have Zw5 := Cw5.size
  have Bw5 := Lib.hid (Below.chg Bw4.out Cw5 (by omega) (.inr rfl))
  have Mw5 := Lib.hid (Mw4.out.chg Cw5 (by omega) (.inr (by omega)))
  have Ow5 := Lib.hid (Ow4.out.chg Cw5 (by omega) (.inr (by omega)))
  have Pw5 := Lib.hid (Pw4.out.chg Cw5 (by omega) (.inr (by omega)))
  clear Cw5 Bw4 Mw4 Ow4 Pw4
  go_wp2_with fail
  refine (toStringS_any w5 v0 xs (H0.out.below Bw5.out) hn).mono ?_
  rintro e w6 ⟨u6, rfl, ho6, hb6, hz6, -⟩
  have C6 := Chg.of_below hb6
  have Q0 := Lib.hid ho6.strs
  have Zw6 := C6.size
  have Bw6 := Lib.hid (Below.chg Bw5.out C6 (by omega) (.inr rfl))
  have Mw6 := Lib.hid (Mw5.out.chg C6 (by omega) (.inr (by omega)))
  have Ow6 := Lib.hid (Ow5.out.chg C6 (by omega) (.inr (by omega)))
  have Pw6 := Lib.hid (Pw5.out.chg C6 (by omega) (.inr (by omega)))
  clear C6 Bw5 Mw5 Ow5 Pw5 ho6 hb6 hz6
  go_wp2_with fail
  refine (eqS_same w6 u3 u6 xs Ow6.out.strs Q0.out).mono ?_
  rintro e w7 ⟨rfl, Cw7⟩
  have Zw7 := Cw7.size
  have Bw7 := Lib.hid (Below.chg Bw6.out Cw7 (by omega) (.inr rfl))
  have Mw7 := Lib.hid (Mw6.out.chg Cw7 (by omega) (.inr (by omega)))
  have Ow7 := Lib.hid (Ow6.out.chg Cw7 (by omega) (.inr (by omega)))
  have Pw7 := Lib.hid (Pw6.out.chg Cw7 (by omega) (.inr (by omega)))
  clear Cw7 Bw6 Mw6 Ow6 Pw6
  clear Q0
  have HM7 := Lib.hid (markS_of Ow7.out (by omega) HM.out hm1)
  clear Ow7
  have hx1 : decide ((1 : Int) + (m : Int) < 0) = false := by simp; omega
  go_wp2_with fail
  refine HM7.out.mono ?_
  rintro e w8 ⟨rfl, _, C8⟩
  have Zw8 := C8.size
  have Bw8 := Lib.hid (Below.chg Bw7.out C8 (by omega) (.inl (by omega)))
  have Mw8 := Lib.hid (Mw7.out.chg C8 (by omega) (.inl (by omega)))
  have Pw8 := Lib.hid (Pw7.out.chg C8 (by omega) (.inr (by omega)))
  clear C8 Bw7 Mw7 Pw7 HM7
  go_wp2_with fail
  refine (eqS_same w8 u4 u2 ys Pw8.out.strs Mw8.out.strs).mono ?_
  rintro e w9 ⟨rfl, Cw9⟩
  have Zw9 := Cw9.size
  have Bw9 := Lib.hid (Below.chg Bw8.out Cw9 (by omega) (.inr rfl))
  have Mw9 := Lib.hid (Mw8.out.chg Cw9 (by omega) (.inr (by omega)))
  have Pw9 := Lib.hid (Pw8.out.chg Cw9 (by omega) (.inr (by omega)))
  clear Cw9 Bw8 Mw8 Pw8
  have HM9 := Lib.hid (markS_of Pw9.out (by omega) HNY.out (by omega))
  clear Pw9
  go_wp2_with fail
  refine HM9.out.mono ?_
  rintro e w10 ⟨rfl, hk10, C10⟩
  have P0 := Lib.hid hk10
  have Zw10 := C10.size
  have Bw10 := Lib.hid (Below.chg Bw9.out C10 (by omega) (.inl (by omega)))
  have Mw10 := Lib.hid (Mw9.out.chg C10 (by omega) (.inl (by omega)))
  clear C10 Bw9 Mw9 HM9 hk10
  have Pw10 := P0
  clear P0
  have HD := Lib.hid (heldS_of Pw10.out.strs (by omega))
  go_wp2_with fail
  refine HD.out.mono ?_
  rintro e w11 ⟨rfl, Cw11⟩
  have Zw11 := Cw11.size
  have Bw11 := Lib.hid (Below.chg Bw10.out Cw11 (by omega) (.inr rfl))
  have Mw11 := Lib.hid (Mw10.out.chg Cw11 (by omega) (.inr (by omega)))
  have Pw11 := Lib.hid (Pw10.out.chg Cw11 (by omega) (.inr (by omega)))
  clear Cw11 Bw10 Mw10 Pw10 HD
  go_wp2_with fail
  refine (toStringS_any w11 v0 xs (H0.out.below Bw11.out) hn).mono ?_
  rintro e w12 ⟨u12, rfl, ho12, hb12, hz12, -⟩
  have C12 := Chg.of_below hb12
  have Q0 := Lib.hid ho12.strs
  have Zw12 := C12.size
  have Bw12 := Lib.hid (Below.chg Bw11.out C12 (by omega) (.inr rfl))
  have Mw12 := Lib.hid (Mw11.out.chg C12 (by omega) (.inr (by omega)))
  have Pw12 := Lib.hid (Pw11.out.chg C12 (by omega) (.inr (by omega)))
  clear C12 Bw11 Mw11 Pw11 ho12 hb12 hz12
  go_wp2_with fail
  refine (HIM.out w12 u12 Q0.out).mono ?_
  rintro e w13 ⟨u13, rfl, hm13, hb13⟩
  have C13 := Chg.of_below hb13
  have Q1 := Lib.hid hm13.strs
  have Zw13 := C13.size
  have Bw13 := Lib.hid (Below.chg Bw12.out C13 (by omega) (.inr rfl))
  have Mw13 := Lib.hid (Mw12.out.chg C13 (by omega) (.inr (by omega)))
  have Pw13 := Lib.hid (Pw12.out.chg C13 (by omega) (.inr (by omega)))
  clear C13 Bw12 Mw12 Pw12 hm13 hb13 Q0
  go_wp2_with fail
  refine (eqS_same w13 u13 u2 ys Q1.out Mw13.out.strs).mono ?_
  rintro e w14 ⟨rfl, Cw14⟩
  have Zw14 := Cw14.size
  have Bw14 := Lib.hid (Below.chg Bw13.out Cw14 (by omega) (.inr rfl))
  have Mw14 := Lib.hid (Mw13.out.chg Cw14 (by omega) (.inr (by omega)))
  have Pw14 := Lib.hid (Pw13.out.chg Cw14 (by omega) (.inr (by omega)))
  clear Cw14 Bw13 Mw13 Pw13
  clear Q1
  have HD := Lib.hid (heldS_of Pw14.out.strs (by omega))
  go_wp2_with fail
  refine HD.out.mono ?_
  rintro e w15 ⟨rfl, Cw15⟩
  have Zw15 := Cw15.size
  have Bw15 := Lib.hid (Below.chg Bw14.out Cw15 (by omega) (.inr rfl))
  have Mw15 := Lib.hid (Mw14.out.chg Cw15 (by omega) (.inr (by omega)))
  have Pw15 := Lib.hid (Pw14.out.chg Cw15 (by omega) (.inr (by omega)))
  clear Cw15 Bw14 Mw14 Pw14 HD
  go_wp2_with fail
  go_ret
  exact ⟨rfl, Bw15.out⟩
set_option maxHeartbeats 400000 in
theorem exRightsAdd_walk (hI : IRAdd) (W : World) (v0 : Value) (xs : List Bs) (s : Bs) (h : Strs W v0 xs) (hf : Fit xs) (hs : s.length ≤ maxLen) :
    Calls Try.prog 16 #[v0, .string ⟨s.toArray⟩] W fun e w' => e = .returned (.bool true) ∧ Below W.heap.size W w' := by
  have HI := Lib.hid hI
  have H0 := Lib.hid h
  clear hI
  unfold maxLen at hs
  have hsl : (s.length : Int) ≤ 9223372036854775807 := by omega
  by_cases hlong : 1048576 < s.length
  · have hl1 : (1048576 : Int) < (s.length : Int) := by omega
    go_enter Try.func16, Try.ntmps16
    go_wp2_with fail
    go_ret
    exact ⟨rfl, Below.refl _ _⟩
  have hl1 : ¬ (1048576 : Int) < (s.length : Int) := by omega
  have hsn : s.length ≤ 2000000 := by omega
  obtain ⟨r0, hr00⟩ : ∃ r0, r0 = radd xs s := ⟨_, rfl⟩
  have hy6 : r0.1.length ≤ 6 := by rw [hr00]; exact radd_len xs s
  have HR0 := Lib.hid hr00
  clear hr00
  obtain ⟨ys, hys⟩ : ∃ ys, ys = r0.1 := ⟨_, rfl⟩
  obtain ⟨b, hb⟩ : ∃ b, b = r0.2 := ⟨_, rfl⟩
  rw [← hys] at hy6
  have HYS := Lib.hid hys
  have HBB := Lib.hid hb
  clear hys hb
  have hbb := neB b
  obtain ⟨ny, hny⟩ : ∃ n, n = ys.length := ⟨_, rfl⟩
  have HNY := Lib.hid hny
  have hny1 : ny ≤ 6 := by omega
  clear hny hy6
  have hge : decide ((1 : Int) + (ny : Int) < 0) = false := by simp; omega
  go_enter Try.func16, Try.ntmps16
  go_wp2_with fail
  refine (szStringS_any W v0 xs 1048576 h hf (by omega) (by omega)).mono ?_
  clear h
  rintro e w' ⟨r, hr, rfl, rfl⟩
  by_cases hr0 : r < 0
  · go_wp2_with fail
    go_ret
    exact ⟨rfl, Below.refl _ _⟩
  have hr1 : decide (r < 0) = false := by simpa using hr0
  have hbd : xs.length ≤ 1048576 ∧ totalS xs ≤ 1048576 := by rcases hr with h | h <;> omega
  have hn : xs.length ≤ 1048576 := hbd.1
  have HS : Hid (Short xs) := Lib.hid (fun x hx => by have := totalS_mem hx; omega)
  clear hr hbd hf hr0
  have HSP : Hid (∀ w g o, Strs w (.slice (some ⟨g, o, none⟩) xs.length xs.length) xs → Calls Try.prog 30 #[.slice (some ⟨g, o, none⟩) xs.length xs.length, .string ⟨s.toArray⟩] w (NewSB ys b w)) := Lib.hid (fun w g o h => by rw [HYS.out, HBB.out, HR0.out]; exact (sRightsAdd_any w g o _ _ xs s h rfl HS.out hsn).mono (fun e w' h => h.newSB))
  have HIM : Hid (∀ w v, Strs w v xs → Calls Try.prog 29 #[v, .string ⟨s.toArray⟩] w (NewSB ys b w)) := Lib.hid (fun w v h => by rw [HYS.out, HBB.out, HR0.out]; exact HI.out w v xs s h HS.out hsn)
  clear HI
  obtain ⟨m, hm⟩ : ∃ m, m = xs.length := ⟨_, rfl⟩
  have HM := Lib.hid hm
  have hm1 : m ≤ 1048576 := by omega
  skip
  clear hm
  go_wp2_with fail
  refine (toStringS_any W v0 xs H0.out hn).mono ?_
  rintro e w1 ⟨u1, rfl, ho1, hb1, -, hf1⟩
  have C1 := Chg.of_below hb1
  have Bw1 := Lib.hid hb1
  have Zw1 : W.heap.size ≤ w1.heap.size := C1.size
  have R1 := Lib.hid ho1.strs
  clear hb1 ho1 C1
  subst hf1
  go_wp2_with fail
  refine (HSP.out w1 _ _ R1.out).mono ?_
  rintro e w2 ⟨u2, rfl, hm2, hb2⟩
  have C2 := Chg.of_below hb2
  have M0 := Lib.hid hm2
  have Zw2 := C2.size
  have Bw2 := Lib.hid (Below.chg Bw1.out C2 (by omega) (.inr rfl))
  clear C2 Bw1 R1 hm2 hb2
  have Mw2 := M0
  clear M0
  go_wp2_with fail
  refine (toStringS_any w2 v0 xs (H0.out.below Bw2.out) hn).mono ?_
  rintro e w3 ⟨u3, rfl, ho3, hb3, hz3, -⟩
  have C3 := Chg.of_below hb3
  have O0 := Lib.hid (ho3.wide (C0 := w2.heap.size) (C1 := w3.heap.size) (Nat.le_refl _) (by omega))
  have Zw3 := C3.size
  have Bw3 := Lib.hid (Below.chg Bw2.out C3 (by omega) (.inr rfl))
  have Mw3 := Lib.hid (Mw2.out.chg C3 (by omega) (.inr (by omega)))
  clear C3 Bw2 Mw2 ho3 hb3 hz3
  have Ow3 := O0
  clear O0
  go_wp2_with fail
  refine (HIM.out w3 u3 Ow3.out.strs).mono ?_
  rintro e w4 ⟨u4, rfl, hm4, hb4⟩
  have C4 := Chg.of_below hb4
  have P0 := Lib.hid hm4
  have Zw4 := C4.size
  have Bw4 := Lib.hid (Below.chg Bw3.out C4 (by omega) (.inr rfl))
  have Mw4 := Lib.hid (Mw3.out.chg C4 (by omega) (.inr (by omega)))
  have Ow4 := Lib.hid (Ow3.out.chg C4 (by omega) (.inr (by omega)))
  clear C4 Bw3 Mw3 Ow3 hm4 hb4
  have Pw4 := P0
  clear P0
  go_wp2_with fail
  refine (eqS_same w4 u4 u2 ys Pw4.out.strs Mw4.out.strs).mono ?_
  rintro e w5 ⟨rfl, Cw5⟩
  have Zw5 := Cw5.size
  have Bw5 := Lib.hid (Below.chg Bw4.out Cw5 (by omega) (.inr rfl))
  have Mw5 := Lib.hid (Mw4.out.chg Cw5 (by omega) (.inr (by omega)))
  have Ow5 := Lib.hid (Ow4.out.chg Cw5 (by omega) (.inr (by omega)))
  have Pw5 := Lib.hid (Pw4.out.chg Cw5 (by omega) (.inr (by omega)))
  clear Cw5 Bw4 Mw4 Ow4 Pw4
  go_wp2_with fail
  refine (toStringS_any w5 v0 xs (H0.out.below Bw5.out) hn).mono ?_
  rintro e w6 ⟨u6, rfl, ho6, hb6, hz6, -⟩
  have C6 := Chg.of_below hb6
  have Q0 := Lib.hid ho6.strs
  have Zw6 := C6.size
  have Bw6 := Lib.hid (Below.chg Bw5.out C6 (by omega) (.inr rfl))
  have Mw6 := Lib.hid (Mw5.out.chg C6 (by omega) (.inr (by omega)))
  have Ow6 := Lib.hid (Ow5.out.chg C6 (by omega) (.inr (by omega)))
  have Pw6 := Lib.hid (Pw5.out.chg C6 (by omega) (.inr (by omega)))
  clear C6 Bw5 Mw5 Ow5 Pw5 ho6 hb6 hz6
  go_wp2_with fail
  refine (eqS_same w6 u3 u6 xs Ow6.out.strs Q0.out).mono ?_
  rintro e w7 ⟨rfl, Cw7⟩
  have Zw7 := Cw7.size
  have Bw7 := Lib.hid (Below.chg Bw6.out Cw7 (by omega) (.inr rfl))
  have Mw7 := Lib.hid (Mw6.out.chg Cw7 (by omega) (.inr (by omega)))
  have Ow7 := Lib.hid (Ow6.out.chg Cw7 (by omega) (.inr (by omega)))
  have Pw7 := Lib.hid (Pw6.out.chg Cw7 (by omega) (.inr (by omega)))
  clear Cw7 Bw6 Mw6 Ow6 Pw6
  clear Q0
  have HM7 := Lib.hid (markS_of Ow7.out (by omega) HM.out hm1)
  clear Ow7
  have hx1 : decide ((1 : Int) + (m : Int) < 0) = false := by simp; omega
  go_wp2_with fail
  refine HM7.out.mono ?_
  rintro e w8 ⟨rfl, _, C8⟩
  have Zw8 := C8.size
  have Bw8 := Lib.hid (Below.chg Bw7.out C8 (by omega) (.inl (by omega)))
  have Mw8 := Lib.hid (Mw7.out.chg C8 (by omega) (.inl (by omega)))
  have Pw8 := Lib.hid (Pw7.out.chg C8 (by omega) (.inr (by omega)))
  clear C8 Bw7 Mw7 Pw7 HM7
  go_wp2_with fail
  refine (eqS_same w8 u4 u2 ys Pw8.out.strs Mw8.out.strs).mono ?_
  rintro e w9 ⟨rfl, Cw9⟩
  have Zw9 := Cw9.size
  have Bw9 := Lib.hid (Below.chg Bw8.out Cw9 (by omega) (.inr rfl))
  have Mw9 := Lib.hid (Mw8.out.chg Cw9 (by omega) (.inr (by omega)))
  have Pw9 := Lib.hid (Pw8.out.chg Cw9 (by omega) (.inr (by omega)))
  clear Cw9 Bw8 Mw8 Pw8
  have HM9 := Lib.hid (markS_of Pw9.out (by omega) HNY.out (by omega))
  clear Pw9
  go_wp2_with fail
  refine HM9.out.mono ?_
  rintro e w10 ⟨rfl, hk10, C10⟩
  have P0 := Lib.hid hk10
  have Zw10 := C10.size
  have Bw10 := Lib.hid (Below.chg Bw9.out C10 (by omega) (.inl (by omega)))
  have Mw10 := Lib.hid (Mw9.out.chg C10 (by omega) (.inl (by omega)))
  clear C10 Bw9 Mw9 HM9 hk10
  have Pw10 := P0
  clear P0
  have HD := Lib.hid (heldS_of Pw10.out.strs (by omega))
  go_wp2_with fail
  refine HD.out.mono ?_
  rintro e w11 ⟨rfl, Cw11⟩
  have Zw11 := Cw11.size
  have Bw11 := Lib.hid (Below.chg Bw10.out Cw11 (by omega) (.inr rfl))
  have Mw11 := Lib.hid (Mw10.out.chg Cw11 (by omega) (.inr (by omega)))
  have Pw11 := Lib.hid (Pw10.out.chg Cw11 (by omega) (.inr (by omega)))
  clear Cw11 Bw10 Mw10 Pw10 HD
  go_wp2_with fail
  refine (toStringS_any w11 v0 xs (H0.out.below Bw11.out) hn).mono ?_
  rintro e w12 ⟨u12, rfl, ho12, hb12, hz12, -⟩
  have C12 := Chg.of_below hb12
  have Q0 := Lib.hid ho12.strs
  have Zw12 := C12.size
  have Bw12 := Lib.hid (Below.chg Bw11.out C12 (by omega) (.inr rfl))
  have Mw12 := Lib.hid (Mw11.out.chg C12 (by omega) (.inr (by omega)))
  have Pw12 := Lib.hid (Pw11.out.chg C12 (by omega) (.inr (by omega)))
  clear C12 Bw11 Mw11 Pw11 ho12 hb12 hz12
  go_wp2_with fail
  refine (HIM.out w12 u12 Q0.out).mono ?_
  rintro e w13 ⟨u13, rfl, hm13, hb13⟩
  have C13 := Chg.of_below hb13
  have Q1 := Lib.hid hm13.strs
  have Zw13 := C13.size
  have Bw13 := Lib.hid (Below.chg Bw12.out C13 (by omega) (.inr rfl))
  have Mw13 := Lib.hid (Mw12.out.chg C13 (by omega) (.inr (by omega)))
  have Pw13 := Lib.hid (Pw12.out.chg C13 (by omega) (.inr (by omega)))
  clear C13 Bw12 Mw12 Pw12 hm13 hb13 Q0
  go_wp2_with fail
  refine (eqS_same w13 u13 u2 ys Q1.out Mw13.out.strs).mono ?_
  rintro e w14 ⟨rfl, Cw14⟩
  have Zw14 := Cw14.size
  have Bw14 := Lib.hid (Below.chg Bw13.out Cw14 (by omega) (.inr rfl))
  have Mw14 := Lib.hid (Mw13.out.chg Cw14 (by omega) (.inr (by omega)))
  have Pw14 := Lib.hid (Pw13.out.chg Cw14 (by omega) (.inr (by omega)))
  clear Cw14 Bw13 Mw13 Pw13
  clear Q1
  have HD := Lib.hid (heldS_of Pw14.out.strs (by omega))
  go_wp2_with fail
  refine HD.out.mono ?_
  rintro e w15 ⟨rfl, Cw15⟩
  have Zw15 := Cw15.size
  have Bw15 := Lib.hid (Below.chg Bw14.out Cw15 (by omega) (.inr rfl))
  have Mw15 := Lib.hid (Mw14.out.chg Cw15 (by omega) (.inr (by omega)))
  have Pw15 := Lib.hid (Pw14.out.chg Cw15 (by omega) (.inr (by omega)))
  clear Cw15 Bw14 Mw14 Pw14 HD
  go_wp2_with fail
  go_ret
  exact ⟨rfl, Bw15.out⟩
end Go.Proofs.Ytjakelpdnmnofaa
