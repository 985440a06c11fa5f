/- The walks of the exact statements on what is known of frames, out of contracts of the program. -/
import Derived.Test.YtopnomklfkkjfaaISpec2
import Derived.Test.YtopnomklfkkjfaaIHeld
import Derived.Test.YtopnomklfkkjfaaISz
namespace Go.Proofs.Ytopnomklfkkjfaa
open Go.ChangeShapes Go.WideShapes Go.ChangeAt Go.RowKit
set_option linter.unusedVariables false

/-- the call answers a number; nothing that was there changes -/
def NRes (n : Int) (w : World) (e : Ending) (w' : World) : Prop := e = .returned (.int .i64 n) ∧ Below w.heap.size w w'
/-- the program's functions answer as these do -/
abbrev IIV : Prop := ∀ (w : World) (v : Value) (xs : List IV), Is w v xs → ShortI xs → Calls Try.prog 24 #[v] w (BRes (isok xs) w)
abbrev IIF : Prop := ∀ (w : World) (v : Value) (xs : List IV), Is w v xs → ShortI xs → Calls Try.prog 17 #[v] w (NRes (ifree xs) w)
abbrev IIT : Prop := ∀ (w : World) (v : Value) (xs : List IV) (s : Bs), Is w v xs → ShortI xs → s.length ≤ 2000000 → Calls Try.prog 14 #[v, .string ⟨s.toArray⟩] w (NewIIB (itake xs s) (itakeN xs s) (tok xs s) w)
abbrev IIG : Prop := ∀ (w : World) (v : Value) (xs : List IV) (f : Int), Is w v xs → ShortI xs → Calls Try.prog 20 #[v, .int .i64 f] w (NewIB (igive xs f) (gok xs f) w)
theorem eqI_same (w : World) (va vb : Value) (xs : List IV) (ha : Is w va xs) (hb : Is w vb xs) :
    Calls Try.prog 29 #[va, vb] w fun e w' => e = .returned (.bool true) ∧ Chg 0 0 w w' := by
  refine (eqInfoS_any w va vb xs xs ha hb).mono ?_
  rintro e w' ⟨rfl, hb⟩
  rw [decide_eq_true (rfl : xs = xs)]
  exact ⟨rfl, Chg.of_below hb⟩
theorem neB (b : Bool) : (b != b) = false := by simp
theorem neI (n : Int) : (n != n) = false := by simp
def MarkI (w : World) (B0 B1 : Nat) (v : Value) (n : Nat) : Prop := Calls Try.prog 30 #[v, .int .i64 1] w fun e w' => e = .returned (.int .i64 ((1 + 3 * n : Nat) : Int)) ∧ IsW w' B0 B1 v (mkIs n) ∧ Chg B0 B1 w w'
theorem markI_of {w : World} {B0 B1 : Nat} {v : Value} {xs : List IV} {n : Nat} (h : IsW w B0 B1 v xs) (hB : B1 ≤ w.heap.size) (hN : n = xs.length) (hn : n ≤ 1048576) : MarkI w B0 B1 v n := by
  have h0 := h
  obtain ⟨a, cap, rfl, _⟩ := h0
  subst hN
  exact markInfoS_any w B0 B1 a _ cap xs h hB rfl hn
def HeldI (w : World) (v : Value) (n : Nat) : Prop := Calls Try.prog 31 #[v, .int .i64 1] w fun e w' => e = .returned (.int .i64 ((1 + 3 * n : Nat) : Int)) ∧ Chg 0 0 w w'
theorem heldI_of {w : World} {v : Value} {n : Nat} (h : Is w v (mkIs n)) (hn : n ≤ 1048576) : HeldI w v n := by
  have h0 := h
  obtain ⟨a, cap, rfl, _⟩ := h0
  have h1 := heldInfoS_any w a n cap (by rw [mkIs_len] at h; exact h) hn
  rw [mkIs_len]
  exact h1.mono (fun e w' ⟨he, hb⟩ => ⟨he, Chg.of_below hb⟩)
theorem igive_len {xs : List IV} {f : Int} : (igive xs f).length ≤ 12 := by
  unfold igive
  split
  · rename_i h
    rw [List.length_set, isok_len (gok_iff.1 h).1]; exact Nat.le_refl _
  · exact Nat.zero_le _
theorem itake_len {xs : List IV} {s : Bs} : (itake xs s).length ≤ 12 := by
  unfold itake
  split
  · rename_i h
    rw [List.length_set, isok_len (tok_iff.1 h).1]; exact Nat.le_refl _
  · exact Nat.zero_le _

theorem exInfosValid_walk (hI : IIV) (W : World) (v0 : Value) (xs : List IV) (h : Is W v0 xs) (hf : FitI xs) :
    Calls Try.prog 9 #[v0] W fun e w' => e = .returned (.bool true) ∧ Below W.heap.size W w' := by
  have HI := Lib.hid hI
  have H0 := Lib.hid h
  clear hI
  go_enter Try.func9, Try.ntmps9
  go_wp2_with fail
  refine (szInfoS_any W v0 xs 1048576 h hf (by omega) (by omega)).mono ?_
  clear h
  rintro e w0 ⟨r, hr, rfl, hb0⟩
  have B0 := Lib.hid hb0
  clear hb0
  by_cases hr0 : r < 0
  · go_wp2_with fail
    go_ret
    exact ⟨rfl, B0.out⟩
  have hr1 : decide (r < 0) = false := by simpa using hr0
  have hbd : xs.length ≤ 1048576 ∧ totalI xs ≤ 1048576 := by rcases hr with h | h <;> omega
  have hn : xs.length ≤ 1048576 := hbd.1
  have HS : Hid (ShortI xs) := Lib.hid (fun x hx => by have := totalI_mem hx; omega)
  clear hr hbd hf hr0
  have HSP : Hid (∀ w v, Is w v xs → Calls Try.prog 26 #[v] w (BRes (isok xs) w)) := Lib.hid (fun w v h => infosValid_any w v xs h HS.out)
  have HIM : Hid (∀ w v, Is w v xs → Calls Try.prog 24 #[v] w (BRes (isok xs) w)) := Lib.hid (fun w v h => HI.out w v xs h HS.out)
  obtain ⟨b, hb⟩ : ∃ b, b = isok xs := ⟨_, rfl⟩
  rw [← hb] at HSP HIM
  clear hb HI
  have hbb := neB b
  go_wp2_with fail
  refine (toInfoS_any w0 v0 xs (H0.out.below B0.out) hn).mono ?_
  rintro e w1 ⟨u1, rfl, ho1, hb1, -⟩
  have B1 := Lib.hid (B0.out.trans (hb1.mono B0.out.size))
  have R1 := Lib.hid ho1.is
  clear hb1 ho1 B0
  go_wp2_with fail
  refine (HSP.out w1 u1 R1.out).mono ?_
  rintro e w2 ⟨rfl, hb2⟩
  have B2 := Lib.hid (B1.out.trans (hb2.mono B1.out.size))
  clear hb2 R1 B1
  go_wp2_with fail
  refine (toInfoS_any w2 v0 xs (H0.out.below B2.out) hn).mono ?_
  rintro e w3 ⟨u3, rfl, ho3, hb3, -⟩
  have B3 := Lib.hid (B2.out.trans (hb3.mono B2.out.size))
  have R3 := Lib.hid ho3.is
  clear hb3 ho3 B2
  go_wp2_with fail
  refine (HIM.out w3 u3 R3.out).mono ?_
  rintro e w4 ⟨rfl, hb4⟩
  have B4 := Lib.hid (B3.out.trans (hb4.mono B3.out.size))
  have R4 := Lib.hid (R3.out.below hb4)
  clear hb4 R3 B3
  go_wp2_with fail
  refine (toInfoS_any w4 v0 xs (H0.out.below B4.out) hn).mono ?_
  rintro e w5 ⟨u5, rfl, ho5, hb5, -⟩
  have B5 := Lib.hid (B4.out.trans (hb5.mono B4.out.size))
  have R5 := Lib.hid ho5.is
  have R45 := Lib.hid (R4.out.below hb5)
  clear hb5 ho5 R4 B4
  go_wp2_with fail
  refine (eqI_same w5 u3 u5 xs R45.out R5.out).mono ?_
  rintro e w6 ⟨rfl, C6⟩
  have B6 := Lib.hid (Below.chg B5.out C6 B5.out.size (.inr rfl))
  clear C6 B5 R5 R45
  go_wp2_with fail
  go_ret
  exact ⟨rfl, B6.out⟩
theorem exInfosFree_walk (hI : IIF) (W : World) (v0 : Value) (xs : List IV) (h : Is W v0 xs) (hf : FitI xs) :
    Calls Try.prog 10 #[v0] W fun e w' => e = .returned (.bool true) ∧ Below W.heap.size W w' := by
  have HI := Lib.hid hI
  have H0 := Lib.hid h
  clear hI
  go_enter Try.func10, Try.ntmps10
  go_wp2_with fail
  refine (szInfoS_any W v0 xs 1048576 h hf (by omega) (by omega)).mono ?_
  clear h
  rintro e w0 ⟨r, hr, rfl, hb0⟩
  have B0 := Lib.hid hb0
  clear hb0
  by_cases hr0 : r < 0
  · go_wp2_with fail
    go_ret
    exact ⟨rfl, B0.out⟩
  have hr1 : decide (r < 0) = false := by simpa using hr0
  have hbd : xs.length ≤ 1048576 ∧ totalI xs ≤ 1048576 := by rcases hr with h | h <;> omega
  have hn : xs.length ≤ 1048576 := hbd.1
  have HS : Hid (ShortI xs) := Lib.hid (fun x hx => by have := totalI_mem hx; omega)
  clear hr hbd hf hr0
  have HSP : Hid (∀ w v, Is w v xs → Calls Try.prog 23 #[v] w (NRes (ifree xs) w)) := Lib.hid (fun w v h => infosFree_any w v xs h HS.out)
  have HIM : Hid (∀ w v, Is w v xs → Calls Try.prog 17 #[v] w (NRes (ifree xs) w)) := Lib.hid (fun w v h => HI.out w v xs h HS.out)
  obtain ⟨b, hb⟩ : ∃ b, b = ifree xs := ⟨_, rfl⟩
  rw [← hb] at HSP HIM
  clear hb HI
  have hbb := neI b
  go_wp2_with fail
  refine (toInfoS_any w0 v0 xs (H0.out.below B0.out) hn).mono ?_
  rintro e w1 ⟨u1, rfl, ho1, hb1, -⟩
  have B1 := Lib.hid (B0.out.trans (hb1.mono B0.out.size))
  have R1 := Lib.hid ho1.is
  clear hb1 ho1 B0
  go_wp2_with fail
  refine (HSP.out w1 u1 R1.out).mono ?_
  rintro e w2 ⟨rfl, hb2⟩
  have B2 := Lib.hid (B1.out.trans (hb2.mono B1.out.size))
  clear hb2 R1 B1
  go_wp2_with fail
  refine (toInfoS_any w2 v0 xs (H0.out.below B2.out) hn).mono ?_
  rintro e w3 ⟨u3, rfl, ho3, hb3, -⟩
  have B3 := Lib.hid (B2.out.trans (hb3.mono B2.out.size))
  have R3 := Lib.hid ho3.is
  clear hb3 ho3 B2
  go_wp2_with fail
  refine (HIM.out w3 u3 R3.out).mono ?_
  rintro e w4 ⟨rfl, hb4⟩
  have B4 := Lib.hid (B3.out.trans (hb4.mono B3.out.size))
  have R4 := Lib.hid (R3.out.below hb4)
  clear hb4 R3 B3
  go_wp2_with fail
  refine (toInfoS_any w4 v0 xs (H0.out.below B4.out) hn).mono ?_
  rintro e w5 ⟨u5, rfl, ho5, hb5, -⟩
  have B5 := Lib.hid (B4.out.trans (hb5.mono B4.out.size))
  have R5 := Lib.hid ho5.is
  have R45 := Lib.hid (R4.out.below hb5)
  clear hb5 ho5 R4 B4
  go_wp2_with fail
  refine (eqI_same w5 u3 u5 xs R45.out R5.out).mono ?_
  rintro e w6 ⟨rfl, C6⟩
  have B6 := Lib.hid (Below.chg B5.out C6 B5.out.size (.inr rfl))
  clear C6 B5 R5 R45
  go_wp2_with fail
  go_ret
  exact ⟨rfl, B6.out⟩
set_option maxHeartbeats 1000000 in
theorem exInfosGive_walk (hI : IIG) (W : World) (v0 : Value) (xs : List IV) (f : Int) (h : Is W v0 xs) (hf : FitI xs) :
    Calls Try.prog 12 #[v0, .int .i64 f] W fun e w' => e = .returned (.bool true) ∧ Below W.heap.size W w' := by
  have HI := Lib.hid hI
  have H0 := Lib.hid h
  clear hI
  obtain ⟨ys, hys⟩ : ∃ ys, ys = igive xs f := ⟨_, rfl⟩
  obtain ⟨b, hb⟩ : ∃ b, b = gok xs f := ⟨_, rfl⟩
  have hy6 : ys.length ≤ 12 := by rw [hys]; exact igive_len
  have HYS := Lib.hid hys
  have HBB := Lib.hid hb
  clear hys hb
  have hbb := neB b
  obtain ⟨ny, hny⟩ : ∃ n, n = ys.length := ⟨_, rfl⟩
  have HNY := Lib.hid hny
  have hny1 : ny ≤ 12 := by omega
  clear hny hy6
  have hge : decide (((1 + 3 * ny : Nat) : Int) < 0) = false := decide_eq_false (by omega)
  have hge2 : decide ((1 : Int) + 3 * (ny : Int) < 0) = false := by simp; omega
  go_enter Try.func12, Try.ntmps12
  go_wp2_with fail
  refine (szInfoS_any W v0 xs 1048576 h hf (by omega) (by omega)).mono ?_
  clear h
  rintro e w0 ⟨r, hr, rfl, hb0⟩
  have B0 := Lib.hid hb0
  clear hb0
  by_cases hr0 : r < 0
  · go_wp2_with fail
    go_ret
    exact ⟨rfl, B0.out⟩
  have hr1 : decide (r < 0) = false := by simpa using hr0
  have hbd : xs.length ≤ 1048576 ∧ totalI xs ≤ 1048576 := by rcases hr with h | h <;> omega
  have hn : xs.length ≤ 1048576 := hbd.1
  have HS : Hid (ShortI xs) := Lib.hid (fun x hx => by have := totalI_mem hx; omega)
  clear hr hbd hf hr0
  have HSP : Hid (∀ w v, Is w v xs → Calls Try.prog 21 #[v, .int .i64 f] w (NewIB ys b w)) := Lib.hid (fun w v h => by rw [HYS.out, HBB.out]; exact infosGive_any w v xs f h HS.out)
  have HIM : Hid (∀ w v, Is w v xs → Calls Try.prog 20 #[v, .int .i64 f] w (NewIB ys b w)) := Lib.hid (fun w v h => by rw [HYS.out, HBB.out]; exact HI.out w v xs f h HS.out)
  clear HI
  obtain ⟨m, hm⟩ : ∃ m, m = xs.length := ⟨_, rfl⟩
  have HM := Lib.hid hm
  have hm1 : m ≤ 1048576 := by omega
  clear hm
  have Z0 : W.heap.size ≤ w0.heap.size := B0.out.size
  go_wp2_with fail
  refine (toInfoS_any w0 v0 xs (H0.out.below B0.out) hn).mono ?_
  rintro e w1 ⟨u1, rfl, ho1, hb1, -⟩
  have Bw1 := Lib.hid (B0.out.trans (hb1.mono B0.out.size))
  have Zw1 : W.heap.size ≤ w1.heap.size := Bw1.out.size
  have R1 := Lib.hid ho1.is
  clear hb1 ho1 B0
  go_wp2_with fail
  refine (HSP.out w1 u1 R1.out).mono ?_
  rintro e w2 ⟨u2, rfl, hm2, hb2⟩
  have C2 := Chg.of_below hb2
  have M0 := Lib.hid hm2
  have Zw2 := C2.size
  have Bw2 := Lib.hid (Below.chg Bw1.out C2 (by omega) (.inr rfl))
  clear C2 Bw1 R1 hm2 hb2
  have Mw2 := M0
  clear M0
  go_wp2_with fail
  refine (toInfoS_any w2 v0 xs (H0.out.below Bw2.out) hn).mono ?_
  rintro e w3 ⟨u3, rfl, ho3, hb3, -⟩
  have C3 := Chg.of_below hb3
  have O0 := Lib.hid ho3
  have Zw3 := C3.size
  have Bw3 := Lib.hid (Below.chg Bw2.out C3 (by omega) (.inr rfl))
  have Mw3 := Lib.hid (Mw2.out.chg C3 (by omega) (.inr (by omega)))
  clear C3 Bw2 Mw2 ho3 hb3
  have Ow3 := O0
  clear O0
  go_wp2_with fail
  refine (HIM.out w3 u3 Ow3.out.is).mono ?_
  rintro e w4 ⟨u4, rfl, hm4, hb4⟩
  have C4 := Chg.of_below hb4
  have P0 := Lib.hid hm4
  have Zw4 := C4.size
  have Bw4 := Lib.hid (Below.chg Bw3.out C4 (by omega) (.inr rfl))
  have Mw4 := Lib.hid (Mw3.out.chg C4 (by omega) (.inr (by omega)))
  have Ow4 := Lib.hid (Ow3.out.chg C4 (by omega) (.inr (by omega)))
  clear C4 Bw3 Mw3 Ow3 hm4 hb4
  have Pw4 := P0
  clear P0
  go_wp2_with fail
  refine (eqI_same w4 u4 u2 ys Pw4.out.is Mw4.out.is).mono ?_
  rintro e w5 ⟨rfl, Cw5⟩
  have Zw5 := Cw5.size
  have Bw5 := Lib.hid (Below.chg Bw4.out Cw5 (by omega) (.inr rfl))
  have Mw5 := Lib.hid (Mw4.out.chg Cw5 (by omega) (.inr (by omega)))
  have Ow5 := Lib.hid (Ow4.out.chg Cw5 (by omega) (.inr (by omega)))
  have Pw5 := Lib.hid (Pw4.out.chg Cw5 (by omega) (.inr (by omega)))
  clear Cw5 Bw4 Mw4 Ow4 Pw4
  go_wp2_with fail
  refine (toInfoS_any w5 v0 xs (H0.out.below Bw5.out) hn).mono ?_
  rintro e w6 ⟨u6, rfl, ho6, hb6, -⟩
  have C6 := Chg.of_below hb6
  have Q0 := Lib.hid ho6.is
  have Zw6 := C6.size
  have Bw6 := Lib.hid (Below.chg Bw5.out C6 (by omega) (.inr rfl))
  have Mw6 := Lib.hid (Mw5.out.chg C6 (by omega) (.inr (by omega)))
  have Ow6 := Lib.hid (Ow5.out.chg C6 (by omega) (.inr (by omega)))
  have Pw6 := Lib.hid (Pw5.out.chg C6 (by omega) (.inr (by omega)))
  clear C6 Bw5 Mw5 Ow5 Pw5 ho6 hb6
  go_wp2_with fail
  refine (eqI_same w6 u3 u6 xs Ow6.out.is Q0.out).mono ?_
  rintro e w7 ⟨rfl, Cw7⟩
  have Zw7 := Cw7.size
  have Bw7 := Lib.hid (Below.chg Bw6.out Cw7 (by omega) (.inr rfl))
  have Mw7 := Lib.hid (Mw6.out.chg Cw7 (by omega) (.inr (by omega)))
  have Ow7 := Lib.hid (Ow6.out.chg Cw7 (by omega) (.inr (by omega)))
  have Pw7 := Lib.hid (Pw6.out.chg Cw7 (by omega) (.inr (by omega)))
  clear Cw7 Bw6 Mw6 Ow6 Pw6
  clear Q0
  have HM7 := Lib.hid (markI_of Ow7.out (by omega) HM.out hm1)
  clear Ow7
  have hx1 : decide (((1 + 3 * m : Nat) : Int) < 0) = false := decide_eq_false (by omega)
  have hx2 : decide ((1 : Int) + 3 * (m : Int) < 0) = false := by simp; omega
  go_wp2_with fail
  refine HM7.out.mono ?_
  rintro e w8 ⟨rfl, _, C8⟩
  have Zw8 := C8.size
  have Bw8 := Lib.hid (Below.chg Bw7.out C8 (by omega) (.inl (by omega)))
  have Mw8 := Lib.hid (Mw7.out.chg C8 (by omega) (.inl (by omega)))
  have Pw8 := Lib.hid (Pw7.out.chg C8 (by omega) (.inr (by omega)))
  clear C8 Bw7 Mw7 Pw7 HM7
  go_wp2_with fail
  refine (eqI_same w8 u4 u2 ys Pw8.out.is Mw8.out.is).mono ?_
  rintro e w9 ⟨rfl, Cw9⟩
  have Zw9 := Cw9.size
  have Bw9 := Lib.hid (Below.chg Bw8.out Cw9 (by omega) (.inr rfl))
  have Mw9 := Lib.hid (Mw8.out.chg Cw9 (by omega) (.inr (by omega)))
  have Pw9 := Lib.hid (Pw8.out.chg Cw9 (by omega) (.inr (by omega)))
  clear Cw9 Bw8 Mw8 Pw8
  have HM9 := Lib.hid (markI_of Pw9.out (by omega) HNY.out (by omega))
  clear Pw9
  go_wp2_with fail
  refine HM9.out.mono ?_
  rintro e w10 ⟨rfl, hk10, C10⟩
  have P0 := Lib.hid hk10
  have Zw10 := C10.size
  have Bw10 := Lib.hid (Below.chg Bw9.out C10 (by omega) (.inl (by omega)))
  have Mw10 := Lib.hid (Mw9.out.chg C10 (by omega) (.inl (by omega)))
  clear C10 Bw9 Mw9 HM9 hk10
  have Pw10 := P0
  clear P0
  have HD := Lib.hid (heldI_of Pw10.out.is (by omega))
  go_wp2_with fail
  refine HD.out.mono ?_
  rintro e w11 ⟨rfl, Cw11⟩
  have Zw11 := Cw11.size
  have Bw11 := Lib.hid (Below.chg Bw10.out Cw11 (by omega) (.inr rfl))
  have Mw11 := Lib.hid (Mw10.out.chg Cw11 (by omega) (.inr (by omega)))
  have Pw11 := Lib.hid (Pw10.out.chg Cw11 (by omega) (.inr (by omega)))
  clear Cw11 Bw10 Mw10 Pw10 HD
  go_wp2_with fail
  refine (toInfoS_any w11 v0 xs (H0.out.below Bw11.out) hn).mono ?_
  rintro e w12 ⟨u12, rfl, ho12, hb12, -⟩
  have C12 := Chg.of_below hb12
  have Q0 := Lib.hid ho12.is
  have Zw12 := C12.size
  have Bw12 := Lib.hid (Below.chg Bw11.out C12 (by omega) (.inr rfl))
  have Mw12 := Lib.hid (Mw11.out.chg C12 (by omega) (.inr (by omega)))
  have Pw12 := Lib.hid (Pw11.out.chg C12 (by omega) (.inr (by omega)))
  clear C12 Bw11 Mw11 Pw11 ho12 hb12
  go_wp2_with fail
  refine (HIM.out w12 u12 Q0.out).mono ?_
  rintro e w13 ⟨u13, rfl, hm13, hb13⟩
  have C13 := Chg.of_below hb13
  have Q1 := Lib.hid hm13.is
  have Zw13 := C13.size
  have Bw13 := Lib.hid (Below.chg Bw12.out C13 (by omega) (.inr rfl))
  have Mw13 := Lib.hid (Mw12.out.chg C13 (by omega) (.inr (by omega)))
  have Pw13 := Lib.hid (Pw12.out.chg C13 (by omega) (.inr (by omega)))
  clear C13 Bw12 Mw12 Pw12 hm13 hb13 Q0
  go_wp2_with fail
  refine (eqI_same w13 u13 u2 ys Q1.out Mw13.out.is).mono ?_
  rintro e w14 ⟨rfl, Cw14⟩
  have Zw14 := Cw14.size
  have Bw14 := Lib.hid (Below.chg Bw13.out Cw14 (by omega) (.inr rfl))
  have Mw14 := Lib.hid (Mw13.out.chg Cw14 (by omega) (.inr (by omega)))
  have Pw14 := Lib.hid (Pw13.out.chg Cw14 (by omega) (.inr (by omega)))
  clear Cw14 Bw13 Mw13 Pw13
  clear Q1
  have HD := Lib.hid (heldI_of Pw14.out.is (by omega))
  go_wp2_with fail
  refine HD.out.mono ?_
  rintro e w15 ⟨rfl, Cw15⟩
  have Zw15 := Cw15.size
  have Bw15 := Lib.hid (Below.chg Bw14.out Cw15 (by omega) (.inr rfl))
  have Mw15 := Lib.hid (Mw14.out.chg Cw15 (by omega) (.inr (by omega)))
  have Pw15 := Lib.hid (Pw14.out.chg Cw15 (by omega) (.inr (by omega)))
  clear Cw15 Bw14 Mw14 Pw14 HD
  go_wp2_with fail
  go_ret
  exact ⟨rfl, Bw15.out⟩
set_option maxHeartbeats 1000000 in
theorem exInfosTake_walk (hI : IIT) (W : World) (v0 : Value) (xs : List IV) (s : Bs) (h : Is W v0 xs) (hf : FitI xs) (hs : s.length ≤ maxLen) :
    Calls Try.prog 11 #[v0, .string ⟨s.toArray⟩] W fun e w' => e = .returned (.bool true) ∧ Below W.heap.size W w' := by
  have HI := Lib.hid hI
  have H0 := Lib.hid h
  clear hI
  unfold maxLen at hs
  have hsl : (s.length : Int) ≤ 9223372036854775807 := by omega
  by_cases hlong : 1048576 < s.length
  · have hl1 : (1048576 : Int) < (s.length : Int) := by omega
    go_enter Try.func11, Try.ntmps11
    go_wp2_with fail
    go_ret
    exact ⟨rfl, Below.refl _ _⟩
  have hl1 : ¬ (1048576 : Int) < (s.length : Int) := by omega
  have hsn : s.length ≤ 2000000 := by omega
  obtain ⟨ys, hys⟩ : ∃ ys, ys = itake xs s := ⟨_, rfl⟩
  obtain ⟨b, hb⟩ : ∃ b, b = tok xs s := ⟨_, rfl⟩
  obtain ⟨n, hn0⟩ : ∃ n, n = itakeN xs s := ⟨_, rfl⟩
  have HNN := Lib.hid hn0
  have hnn := neI n
  have hy6 : ys.length ≤ 12 := by rw [hys]; exact itake_len
  have HYS := Lib.hid hys
  have HBB := Lib.hid hb
  clear hys hb hn0
  have hbb := neB b
  obtain ⟨ny, hny⟩ : ∃ n, n = ys.length := ⟨_, rfl⟩
  have HNY := Lib.hid hny
  have hny1 : ny ≤ 12 := by omega
  clear hny hy6
  have hge : decide (((1 + 3 * ny : Nat) : Int) < 0) = false := decide_eq_false (by omega)
  have hge2 : decide ((1 : Int) + 3 * (ny : Int) < 0) = false := by simp; omega
  go_enter Try.func11, Try.ntmps11
  go_wp2_with fail
  refine (szInfoS_any W v0 xs 1048576 h hf (by omega) (by omega)).mono ?_
  clear h
  rintro e w0 ⟨r, hr, rfl, hb0⟩
  have B0 := Lib.hid hb0
  clear hb0
  by_cases hr0 : r < 0
  · go_wp2_with fail
    go_ret
    exact ⟨rfl, B0.out⟩
  have hr1 : decide (r < 0) = false := by simpa using hr0
  have hbd : xs.length ≤ 1048576 ∧ totalI xs ≤ 1048576 := by rcases hr with h | h <;> omega
  have hn : xs.length ≤ 1048576 := hbd.1
  have HS : Hid (ShortI xs) := Lib.hid (fun x hx => by have := totalI_mem hx; omega)
  clear hr hbd hf hr0
  have HSP : Hid (∀ w v, Is w v xs → Calls Try.prog 15 #[v, .string ⟨s.toArray⟩] w (NewIIB ys n b w)) := Lib.hid (fun w v h => by rw [HYS.out, HBB.out, HNN.out]; exact infosTake_any w v xs s h HS.out hsn)
  have HIM : Hid (∀ w v, Is w v xs → Calls Try.prog 14 #[v, .string ⟨s.toArray⟩] w (NewIIB ys n b w)) := Lib.hid (fun w v h => by rw [HYS.out, HBB.out, HNN.out]; exact HI.out w v xs s h HS.out hsn)
  clear HI
  obtain ⟨m, hm⟩ : ∃ m, m = xs.length := ⟨_, rfl⟩
  have HM := Lib.hid hm
  have hm1 : m ≤ 1048576 := by omega
  clear hm
  have Z0 : W.heap.size ≤ w0.heap.size := B0.out.size
  go_wp2_with fail
  refine (toInfoS_any w0 v0 xs (H0.out.below B0.out) hn).mono ?_
  rintro e w1 ⟨u1, rfl, ho1, hb1, -⟩
  have Bw1 := Lib.hid (B0.out.trans (hb1.mono B0.out.size))
  have Zw1 : W.heap.size ≤ w1.heap.size := Bw1.out.size
  have R1 := Lib.hid ho1.is
  clear hb1 ho1 B0
  go_wp2_with fail
  refine (HSP.out w1 u1 R1.out).mono ?_
  rintro e w2 ⟨u2, rfl, hm2, hb2⟩
  have C2 := Chg.of_below hb2
  have M0 := Lib.hid hm2
  have Zw2 := C2.size
  have Bw2 := Lib.hid (Below.chg Bw1.out C2 (by omega) (.inr rfl))
  clear C2 Bw1 R1 hm2 hb2
  have Mw2 := M0
  clear M0
  go_wp2_with fail
  refine (toInfoS_any w2 v0 xs (H0.out.below Bw2.out) hn).mono ?_
  rintro e w3 ⟨u3, rfl, ho3, hb3, -⟩
  have C3 := Chg.of_below hb3
  have O0 := Lib.hid ho3
  have Zw3 := C3.size
  have Bw3 := Lib.hid (Below.chg Bw2.out C3 (by omega) (.inr rfl))
  have Mw3 := Lib.hid (Mw2.out.chg C3 (by omega) (.inr (by omega)))
  clear C3 Bw2 Mw2 ho3 hb3
  have Ow3 := O0
  clear O0
  go_wp2_with fail
  refine (HIM.out w3 u3 Ow3.out.is).mono ?_
  rintro e w4 ⟨u4, rfl, hm4, hb4⟩
  have C4 := Chg.of_below hb4
  have P0 := Lib.hid hm4
  have Zw4 := C4.size
  have Bw4 := Lib.hid (Below.chg Bw3.out C4 (by omega) (.inr rfl))
  have Mw4 := Lib.hid (Mw3.out.chg C4 (by omega) (.inr (by omega)))
  have Ow4 := Lib.hid (Ow3.out.chg C4 (by omega) (.inr (by omega)))
  clear C4 Bw3 Mw3 Ow3 hm4 hb4
  have Pw4 := P0
  clear P0
  go_wp2_with fail
  refine (eqI_same w4 u4 u2 ys Pw4.out.is Mw4.out.is).mono ?_
  rintro e w5 ⟨rfl, Cw5⟩
  have Zw5 := Cw5.size
  have Bw5 := Lib.hid (Below.chg Bw4.out Cw5 (by omega) (.inr rfl))
  have Mw5 := Lib.hid (Mw4.out.chg Cw5 (by omega) (.inr (by omega)))
  have Ow5 := Lib.hid (Ow4.out.chg Cw5 (by omega) (.inr (by omega)))
  have Pw5 := Lib.hid (Pw4.out.chg Cw5 (by omega) (.inr (by omega)))
  clear Cw5 Bw4 Mw4 Ow4 Pw4
  go_wp2_with fail
  refine (toInfoS_any w5 v0 xs (H0.out.below Bw5.out) hn).mono ?_
  rintro e w6 ⟨u6, rfl, ho6, hb6, -⟩
  have C6 := Chg.of_below hb6
  have Q0 := Lib.hid ho6.is
  have Zw6 := C6.size
  have Bw6 := Lib.hid (Below.chg Bw5.out C6 (by omega) (.inr rfl))
  have Mw6 := Lib.hid (Mw5.out.chg C6 (by omega) (.inr (by omega)))
  have Ow6 := Lib.hid (Ow5.out.chg C6 (by omega) (.inr (by omega)))
  have Pw6 := Lib.hid (Pw5.out.chg C6 (by omega) (.inr (by omega)))
  clear C6 Bw5 Mw5 Ow5 Pw5 ho6 hb6
  go_wp2_with fail
  refine (eqI_same w6 u3 u6 xs Ow6.out.is Q0.out).mono ?_
  rintro e w7 ⟨rfl, Cw7⟩
  have Zw7 := Cw7.size
  have Bw7 := Lib.hid (Below.chg Bw6.out Cw7 (by omega) (.inr rfl))
  have Mw7 := Lib.hid (Mw6.out.chg Cw7 (by omega) (.inr (by omega)))
  have Ow7 := Lib.hid (Ow6.out.chg Cw7 (by omega) (.inr (by omega)))
  have Pw7 := Lib.hid (Pw6.out.chg Cw7 (by omega) (.inr (by omega)))
  clear Cw7 Bw6 Mw6 Ow6 Pw6
  clear Q0
  have HM7 := Lib.hid (markI_of Ow7.out (by omega) HM.out hm1)
  clear Ow7
  have hx1 : decide (((1 + 3 * m : Nat) : Int) < 0) = false := decide_eq_false (by omega)
  have hx2 : decide ((1 : Int) + 3 * (m : Int) < 0) = false := by simp; omega
  go_wp2_with fail
  refine HM7.out.mono ?_
  rintro e w8 ⟨rfl, _, C8⟩
  have Zw8 := C8.size
  have Bw8 := Lib.hid (Below.chg Bw7.out C8 (by omega) (.inl (by omega)))
  have Mw8 := Lib.hid (Mw7.out.chg C8 (by omega) (.inl (by omega)))
  have Pw8 := Lib.hid (Pw7.out.chg C8 (by omega) (.inr (by omega)))
  clear C8 Bw7 Mw7 Pw7 HM7
  go_wp2_with fail
  refine (eqI_same w8 u4 u2 ys Pw8.out.is Mw8.out.is).mono ?_
  rintro e w9 ⟨rfl, Cw9⟩
  have Zw9 := Cw9.size
  have Bw9 := Lib.hid (Below.chg Bw8.out Cw9 (by omega) (.inr rfl))
  have Mw9 := Lib.hid (Mw8.out.chg Cw9 (by omega) (.inr (by omega)))
  have Pw9 := Lib.hid (Pw8.out.chg Cw9 (by omega) (.inr (by omega)))
  clear Cw9 Bw8 Mw8 Pw8
  have HM9 := Lib.hid (markI_of Pw9.out (by omega) HNY.out (by omega))
  clear Pw9
  go_wp2_with fail
  refine HM9.out.mono ?_
  rintro e w10 ⟨rfl, hk10, C10⟩
  have P0 := Lib.hid hk10
  have Zw10 := C10.size
  have Bw10 := Lib.hid (Below.chg Bw9.out C10 (by omega) (.inl (by omega)))
  have Mw10 := Lib.hid (Mw9.out.chg C10 (by omega) (.inl (by omega)))
  clear C10 Bw9 Mw9 HM9 hk10
  have Pw10 := P0
  clear P0
  have HD := Lib.hid (heldI_of Pw10.out.is (by omega))
  go_wp2_with fail
  refine HD.out.mono ?_
  rintro e w11 ⟨rfl, Cw11⟩
  have Zw11 := Cw11.size
  have Bw11 := Lib.hid (Below.chg Bw10.out Cw11 (by omega) (.inr rfl))
  have Mw11 := Lib.hid (Mw10.out.chg Cw11 (by omega) (.inr (by omega)))
  have Pw11 := Lib.hid (Pw10.out.chg Cw11 (by omega) (.inr (by omega)))
  clear Cw11 Bw10 Mw10 Pw10 HD
  go_wp2_with fail
  refine (toInfoS_any w11 v0 xs (H0.out.below Bw11.out) hn).mono ?_
  rintro e w12 ⟨u12, rfl, ho12, hb12, -⟩
  have C12 := Chg.of_below hb12
  have Q0 := Lib.hid ho12.is
  have Zw12 := C12.size
  have Bw12 := Lib.hid (Below.chg Bw11.out C12 (by omega) (.inr rfl))
  have Mw12 := Lib.hid (Mw11.out.chg C12 (by omega) (.inr (by omega)))
  have Pw12 := Lib.hid (Pw11.out.chg C12 (by omega) (.inr (by omega)))
  clear C12 Bw11 Mw11 Pw11 ho12 hb12
  go_wp2_with fail
  refine (HIM.out w12 u12 Q0.out).mono ?_
  rintro e w13 ⟨u13, rfl, hm13, hb13⟩
  have C13 := Chg.of_below hb13
  have Q1 := Lib.hid hm13.is
  have Zw13 := C13.size
  have Bw13 := Lib.hid (Below.chg Bw12.out C13 (by omega) (.inr rfl))
  have Mw13 := Lib.hid (Mw12.out.chg C13 (by omega) (.inr (by omega)))
  have Pw13 := Lib.hid (Pw12.out.chg C13 (by omega) (.inr (by omega)))
  clear C13 Bw12 Mw12 Pw12 hm13 hb13 Q0
  go_wp2_with fail
  refine (eqI_same w13 u13 u2 ys Q1.out Mw13.out.is).mono ?_
  rintro e w14 ⟨rfl, Cw14⟩
  have Zw14 := Cw14.size
  have Bw14 := Lib.hid (Below.chg Bw13.out Cw14 (by omega) (.inr rfl))
  have Mw14 := Lib.hid (Mw13.out.chg Cw14 (by omega) (.inr (by omega)))
  have Pw14 := Lib.hid (Pw13.out.chg Cw14 (by omega) (.inr (by omega)))
  clear Cw14 Bw13 Mw13 Pw13
  clear Q1
  have HD := Lib.hid (heldI_of Pw14.out.is (by omega))
  go_wp2_with fail
  refine HD.out.mono ?_
  rintro e w15 ⟨rfl, Cw15⟩
  have Zw15 := Cw15.size
  have Bw15 := Lib.hid (Below.chg Bw14.out Cw15 (by omega) (.inr rfl))
  have Mw15 := Lib.hid (Mw14.out.chg Cw15 (by omega) (.inr (by omega)))
  have Pw15 := Lib.hid (Pw14.out.chg Cw15 (by omega) (.inr (by omega)))
  clear Cw15 Bw14 Mw14 Pw14 HD
  go_wp2_with fail
  go_ret
  exact ⟨rfl, Bw15.out⟩
end Go.Proofs.Ytopnomklfkkjfaa
