/- What the proofs stand on, part 21. -/
import Derived.Test.YtaalnjinocicgaaRows
import Derived.Test.YtaalnjinocicgaaW1
import Derived.Test.YtaalnjinocicgaaW2
import Derived.Test.YtaalnjinocicgaaW3
import Derived.Test.YtaalnjinocicgaaW4
import Derived.Test.YtaalnjinocicgaaW5
import Derived.Test.YtaalnjinocicgaaW6
import Derived.Test.YtaalnjinocicgaaW7
import Derived.Test.YtaalnjinocicgaaW13
import Derived.Test.YtaalnjinocicgaaW16
import Derived.Test.YtaalnjinocicgaaW18
set_option linter.unusedSimpArgs false
set_option linter.unusedVariables false
namespace Go.Proofs.Ytaalnjinocicgaa
open Go.ChangeShapes Go.WideShapes Go.ChangeAt Go.RowKit
set_option linter.unusedVariables false
theorem new_nil {w : World} : NewMem [] false w (.returned (.tuple #[.slice (some ⟨w.heap.size, 0, none⟩) 0 0, .bool false])) (w.alloc (.cells #[] 24)) :=
  ⟨_, rfl, ⟨some ⟨w.heap.size, 0, none⟩, 0, fun _ => none, fun _ => 0, rfl, Nat.le_refl _, Nat.zero_le _, ⟨fun j hj => by simp at hj, fun j hj => by simp at hj, fun j hj => by simp at hj⟩⟩, (Below.refl _ _).alloc (Nat.le_refl _) _⟩
end Go.Proofs.Ytaalnjinocicgaa
namespace Go.Proofs.Ytaalnjinocicgaa
open Go.ChangeShapes Go.WideShapes Go.ChangeAt Go.RowKit
set_option linter.unusedVariables false
set_option linter.unusedSimpArgs false
set_option maxRecDepth 100000 in
set_option maxHeartbeats 1000000 in
theorem sSwapDrop_any (w : World) (v : Value) (xss : Rs) (f : Int) (h : Rows2 w v xss) :
    Calls Try.prog 34 #[v, .int .i64 f] w (NewMem (sdrop xss f) (sgetB xss f) w) := by
  have HV := Lib.hid (sSwapValid_any w v xss h)
  have H := Lib.hid h
  have HCP := Lib.hid (fun hm => copy_sw w v xss h hm)
  obtain ⟨a, ca, rfl, hla, hma, -⟩ := h
  unfold maxLen at hma
  obtain ⟨b, hb⟩ : ∃ b, b = sgetB xss f := ⟨_, rfl⟩
  obtain ⟨ys, hys⟩ : ∃ ys, ys = sdrop xss f := ⟨_, rfl⟩
  rw [← hb, ← hys]
  have HB := Lib.hid hb
  have HYS : Hid (ys = if b = true then xss.set f.toNat [] else []) := Lib.hid (by rw [hys, sdrop, ← hb])
  clear hb hys
  have no : b = false → NewMem ys b w (.returned (.tuple #[.slice (some ⟨w.heap.size, 0, none⟩) 0 0, .bool false])) (w.alloc (.cells #[] 24)) := fun hb => by
    have e : ys = [] := by rw [HYS.out, hb]; rfl
    rw [hb, e]
    exact new_nil
  have NO := Lib.hid no
  clear no
  cases h1 : swOk xss with
  | false =>
    have HF : Hid (b = false) := Lib.hid (by rw [HB.out, sgetB, h1]; rfl)
    rw [h1] at HV
    clear h1
    go_enter Try.func34, Try.ntmps34
    go_wp2_with fail
    refine HV.out.mono ?_
    rintro e w' ⟨rfl, rfl⟩
    go_wp2_with fail
    go_ret2
    exact NO.out HF.out
  | true =>
    have hl16 := sw_len h1
    have HCM := Lib.hid (HCP.out h1)
    rw [hl16] at HV H HCM hla ⊢
    clear HCP
    by_cases hf : 0 ≤ f ∧ f ≤ 15
    · obtain ⟨k, rfl⟩ : ∃ k : Nat, f = (k : Int) := ⟨f.toNat, by omega⟩
      have hk16 : k < 16 := by omega
      have hk16' : (k : Int) < 16 := by omega
      have HI := Lib.hid (in_yes w (k : Int) 0 15 hf)
      obtain ⟨bb, o, ra, rc, rfl, hc, hu⟩ := H.out.at hk16
      obtain ⟨xs, hxs⟩ : ∃ xs, xs = xss.getD k [] := ⟨_, rfl⟩
      rw [← hxs] at hc hu
      have HBB : Hid (b = decide (0 < xs.length)) := Lib.hid (by rw [HB.out, sgetB, h1, inR_iff.2 hf, Int.toNat_natCast, ← hxs]; rfl)
      have HYX : Hid (b = true → ys = xss.set k []) := Lib.hid (fun hh => by rw [HYS.out, if_pos hh, Int.toNat_natCast])
      have HL16 := Lib.hid hl16
      rw [h1] at HV
      clear h1 hxs hf hu hl16
      by_cases hz : xs.length = 0
      · have HF : Hid (b = false) := Lib.hid (by rw [HBB.out, hz]; rfl)
        rw [hz] at hc
        go_enter Try.func34, Try.ntmps34
        go_wp2_with fail
        refine HV.out.mono ?_
        rintro e w' ⟨rfl, rfl⟩
        go_wp2_with fail
        refine HI.out.mono ?_
        rintro e w' ⟨rfl, rfl⟩
        go_wp2_with fail
        go_ret2
        exact NO.out HF.out
      · have HF : Hid (b = true) := Lib.hid (by rw [HBB.out]; exact decide_eq_true (by omega))
        obtain ⟨m, hm⟩ : ∃ m, m = xs.length := ⟨_, rfl⟩
        rw [← hm] at hc hz
        have hz' : ((m : Int) == 0) = false := by simp; omega
        clear hm
        go_enter Try.func34, Try.ntmps34
        go_wp2_with fail
        refine HV.out.mono ?_
        rintro e w' ⟨rfl, rfl⟩
        go_wp2_with fail
        refine HI.out.mono ?_
        rintro e w' ⟨rfl, rfl⟩
        go_wp2_with fail
        refine HCM.out.mono ?_
        rintro e w1 ⟨v1, rfl, hm1, hb1⟩
        obtain ⟨b1, o1, cap1, A1, C1, rfl, hq1, hq2, hq3, hq4, hq5, hq6⟩ := hm1.top (i := k) (by rw [HL16.out]; exact hk16)
        rw [HL16.out] at hm1 hq1 ⊢
        have hcell : (w1.alloc (.cells #[] 3)).cell? ⟨b1, o1 + k, none⟩ = some (.slice A1 (xss.getD k []).length C1) := (World.cell?_alloc_past _ _ _ hq4).trans hq5
        have hfz : (w1.alloc (.cells #[] 3)).frozen? ⟨b1, o1 + k, none⟩ = false := (World.frozen?_of_block (Below.heap_alloc _ _ _ hq4)).trans hq6
        have HE : Hid (MatW ((w1.alloc (.cells #[] 3)).setCell ⟨b1, o1 + k, none⟩ (.slice (some ⟨w1.heap.size, 0, none⟩) 0 0)) w.heap.size (w1.alloc (.cells #[] 3)).heap.size (.slice (some ⟨b1, o1, none⟩) 16 cap1) (xss.set k []) ∧ Below w.heap.size w ((w1.alloc (.cells #[] 3)).setCell ⟨b1, o1 + k, none⟩ (.slice (some ⟨w1.heap.size, 0, none⟩) 0 0))) := Lib.hid
          ⟨mat_set (ys := []) (w2 := w1.alloc (.cells #[] 3)) (g := w1.heap.size) (c := 0) hm1 (fun j _ hj => Below.heap_alloc _ _ _ hj) hk16 (Nat.le_refl _) (by simp) (Nat.le_refl _) (Nat.zero_le _) (fun m hm => by simp at hm), (hb1.alloc hb1.size _).setCell (p := ⟨b1, o1 + k, none⟩) hq3 _⟩
        have hsz : ((w1.alloc (.cells #[] 3)).setCell ⟨b1, o1 + k, none⟩ (.slice (some ⟨w1.heap.size, 0, none⟩) 0 0)).heap.size = (w1.alloc (.cells #[] 3)).heap.size := by simp
        rw [← hsz] at HE
        rw [World.setCell_alloc_past _ _ _ _ hq4] at HE
        clear hm1 hq5 hq6 hb1 hsz
        go_wp2_with fail
        go_ret2
        exact ⟨_, by rw [HF.out]; rfl, by rw [HYX.out HF.out]; exact HE.out.1, HE.out.2⟩
    · have HI := Lib.hid (in_no w f 0 15 hf)
      have HF : Hid (b = false) := Lib.hid (by
        have e : inR f 0 15 = false := by cases hh : inR f 0 15 with | false => rfl | true => exact absurd (inR_iff.1 hh) hf
        rw [HB.out, sgetB, e, Bool.false_and, Bool.and_false])
      rw [h1] at HV
      clear h1
      go_enter Try.func34, Try.ntmps34
      go_wp2_with fail
      refine HV.out.mono ?_
      rintro e w' ⟨rfl, rfl⟩
      go_wp2_with fail
      refine HI.out.mono ?_
      rintro e w' ⟨rfl, rfl⟩
      go_wp2_with fail
      go_ret2
      exact NO.out HF.out
end Go.Proofs.Ytaalnjinocicgaa
namespace Go.Proofs.Ytaalnjinocicgaa
open Go.ChangeShapes Go.WideShapes Go.ChangeAt Go.RowKit
set_option linter.unusedVariables false
set_option linter.unusedSimpArgs false
theorem sdrop_small (xss : Rs) (f : Int) : (sdrop xss f).length + total (sdrop xss f) ≤ 1048576 := by
  unfold sdrop
  by_cases h : sgetB xss f = true
  · rw [if_pos h]
    unfold sgetB at h
    rw [Bool.and_eq_true] at h
    refine small_of (by rw [List.length_set, sw_len h.1]; omega) (fun xs hx => ?_)
    rcases List.mem_or_eq_of_mem_set hx with h' | rfl
    · exact sw_mem h.1 h'
    · simp
  · rw [if_neg h]; simp [total]
set_option maxRecDepth 100000 in
set_option maxHeartbeats 2000000 in
theorem exSwapDrop_walk (W : World) (v0 : Value) (xss : Rs) (f : Int) (yss : Rs) (b : Bool) (h : Rows2 W v0 xss) (hy : yss.length + total yss ≤ 1048576)
    (hS : ∀ w v, Rows2 w v xss → Calls Try.prog 34 #[v, .int .i64 f] w (NewMem yss b w))
    (hI : ∀ w v, Rows2 w v xss → Calls Try.prog 20 #[v, .int .i64 f] w (NewMem yss b w)) :
    Calls Try.prog 12 #[v0, .int .i64 f] W fun e w' => e = .returned (.bool true) ∧ Below W.heap.size W w' := by
  have HSPEC := Lib.hid hS
  have HIMPL := Lib.hid hI
  have H0 := Lib.hid h
  clear hS hI h
  have hbb := neB b
  obtain ⟨ny, hny⟩ : ∃ n, n = total yss := ⟨_, rfl⟩
  have hny1 : ny ≤ 1048576 := by omega
  have HNY := Lib.hid hny
  have HY := Lib.hid hy
  clear hny hy
  have hge2 : decide ((1 : Int) + (ny : Int) < 0) = false := by simp; omega
  go_enter Try.func12, Try.ntmps12
  go_wp2_with fail
  refine (szIntSS_any W v0 xss 1048576 H0.out (by omega) (by omega)).mono ?_
  rintro e w' ⟨r, hr, rfl, rfl⟩
  by_cases hr0 : r < 0
  · clear hr
    go_wp2_with fail
    go_ret
    exact ⟨rfl, Below.refl _ _⟩
  have hr1 : decide (r < 0) = false := by simp; omega
  have hn : xss.length + total xss ≤ 1048576 := by
    rcases hr with h' | ⟨h1, h2⟩
    · omega
    · omega
  clear hr hr0
  obtain ⟨nx, hnx⟩ : ∃ n, n = total xss := ⟨_, rfl⟩
  have hnx1 : nx ≤ 1048576 := by omega
  have HNX := Lib.hid hnx
  have HN := Lib.hid hn
  clear hnx hn
  have hx2 : decide ((1 : Int) + (nx : Int) < 0) = false := by simp; omega
  have BW := Lib.hid (Below.refl W.heap.size W)
  have ZW : W.heap.size ≤ W.heap.size := Nat.le_refl _
  go_wp2_with fail
  refine (toM_of W v0 xss H0.out HN.out).mono ?_
  rintro e w1 ⟨u1, rfl, ho, hb⟩
  have Cw1 := Chg.of_below hb
  have Q_ := Lib.hid ho
  clear ho hb
  have Zw1 := Cw1.size
  have Bw1 := Lib.hid (Below.chg BW.out Cw1 (by omega) (.inr rfl))
  clear Cw1 BW
  have Xw1 := Q_
  clear Q_
  go_wp2_with fail
  refine (HSPEC.out w1 u1 Xw1.out.rows).mono ?_
  rintro e w2 ⟨u2, rfl, ho, hb⟩
  have Cw2 := Chg.of_below hb
  have Q_ := Lib.hid ho
  clear ho hb
  have Zw2 := Cw2.size
  have Bw2 := Lib.hid (Below.chg Bw1.out Cw2 (by omega) (.inr rfl))
  have Xw2 := Lib.hid (Xw1.out.chg Cw2 (by omega) (.inr (by omega)))
  clear Cw2 Bw1 Xw1
  have Mw2 := Q_
  clear Q_
  clear Xw2
  go_wp2_with fail
  refine (toM_of w2 v0 xss (H0.out.below Bw2.out) HN.out).mono ?_
  rintro e w3 ⟨u3, rfl, ho, hb⟩
  have Cw3 := Chg.of_below hb
  have Q_ := Lib.hid ho
  clear ho hb
  have Zw3 := Cw3.size
  have Bw3 := Lib.hid (Below.chg Bw2.out Cw3 (by omega) (.inr rfl))
  have Mw3 := Lib.hid (Mw2.out.chg Cw3 (by omega) (.inr (by omega)))
  clear Cw3 Bw2 Mw2
  have Xw3 := Q_
  clear Q_
  go_wp2_with fail
  refine (HIMPL.out w3 u3 Xw3.out.rows).mono ?_
  rintro e w4 ⟨u4, rfl, ho, hb⟩
  have Cw4 := Chg.of_below hb
  have Q_ := Lib.hid ho
  clear ho hb
  have Zw4 := Cw4.size
  have Bw4 := Lib.hid (Below.chg Bw3.out Cw4 (by omega) (.inr rfl))
  have Mw4 := Lib.hid (Mw3.out.chg Cw4 (by omega) (.inr (by omega)))
  have Xw4 := Lib.hid (Xw3.out.chg Cw4 (by omega) (.inr (by omega)))
  clear Cw4 Bw3 Mw3 Xw3
  have Pw4 := Q_
  clear Q_
  go_wp2_with fail
  refine (eq_c w4 u4 u2 yss Pw4.out.rows Mw4.out.rows).mono ?_
  rintro e w5 ⟨rfl, Cw5⟩
  have Zw5 := Cw5.size
  have Bw5 := Lib.hid (Below.chg Bw4.out Cw5 (by omega) (.inr rfl))
  have Mw5 := Lib.hid (Mw4.out.chg Cw5 (by omega) (.inr (by omega)))
  have Xw5 := Lib.hid (Xw4.out.chg Cw5 (by omega) (.inr (by omega)))
  have Pw5 := Lib.hid (Pw4.out.chg Cw5 (by omega) (.inr (by omega)))
  clear Cw5 Bw4 Mw4 Xw4 Pw4
  go_wp2_with fail
  refine (toM_of w5 v0 xss (H0.out.below Bw5.out) HN.out).mono ?_
  rintro e w6 ⟨u6, rfl, ho, hb⟩
  have Cw6 := Chg.of_below hb
  have Q_ := Lib.hid ho
  clear ho hb
  have Zw6 := Cw6.size
  have Bw6 := Lib.hid (Below.chg Bw5.out Cw6 (by omega) (.inr rfl))
  have Mw6 := Lib.hid (Mw5.out.chg Cw6 (by omega) (.inr (by omega)))
  have Xw6 := Lib.hid (Xw5.out.chg Cw6 (by omega) (.inr (by omega)))
  have Pw6 := Lib.hid (Pw5.out.chg Cw6 (by omega) (.inr (by omega)))
  clear Cw6 Bw5 Mw5 Xw5 Pw5
  have Tw6 := Q_
  clear Q_
  go_wp2_with fail
  refine (eq_c w6 u3 u6 xss Xw6.out.rows Tw6.out.rows).mono ?_
  rintro e w7 ⟨rfl, Cw7⟩
  have Zw7 := Cw7.size
  have Bw7 := Lib.hid (Below.chg Bw6.out Cw7 (by omega) (.inr rfl))
  have Mw7 := Lib.hid (Mw6.out.chg Cw7 (by omega) (.inr (by omega)))
  have Xw7 := Lib.hid (Xw6.out.chg Cw7 (by omega) (.inr (by omega)))
  have Pw7 := Lib.hid (Pw6.out.chg Cw7 (by omega) (.inr (by omega)))
  have Tw7 := Lib.hid (Tw6.out.chg Cw7 (by omega) (.inr (by omega)))
  clear Cw7 Bw6 Mw6 Xw6 Pw6 Tw6
  clear Tw7
  have HM_ := Lib.hid (markM_of Xw7.out HN.out nx HNX.out)
  clear Xw7
  go_wp2_with fail
  refine HM_.out.mono ?_
  rintro e w8 ⟨rfl, _, Cw8⟩
  have Zw8 := Cw8.size
  have Bw8 := Lib.hid (Below.chg Bw7.out Cw8 (by omega) (.inl (by omega)))
  have Mw8 := Lib.hid (Mw7.out.chg Cw8 (by omega) (.inl (by omega)))
  have Pw8 := Lib.hid (Pw7.out.chg Cw8 (by omega) (.inr (by omega)))
  clear Cw8 Bw7 Mw7 Pw7 HM_
  go_wp2_with fail
  refine (eq_c w8 u4 u2 yss Pw8.out.rows Mw8.out.rows).mono ?_
  rintro e w9 ⟨rfl, Cw9⟩
  have Zw9 := Cw9.size
  have Bw9 := Lib.hid (Below.chg Bw8.out Cw9 (by omega) (.inr rfl))
  have Mw9 := Lib.hid (Mw8.out.chg Cw9 (by omega) (.inr (by omega)))
  have Pw9 := Lib.hid (Pw8.out.chg Cw9 (by omega) (.inr (by omega)))
  clear Cw9 Bw8 Mw8 Pw8
  have HM_ := Lib.hid (markM_of Pw9.out HY.out ny HNY.out)
  clear Pw9
  go_wp2_with fail
  refine HM_.out.mono ?_
  rintro e w10 ⟨rfl, hk, Cw10⟩
  have P0 := Lib.hid hk
  have Zw10 := Cw10.size
  have Bw10 := Lib.hid (Below.chg Bw9.out Cw10 (by omega) (.inl (by omega)))
  have Mw10 := Lib.hid (Mw9.out.chg Cw10 (by omega) (.inl (by omega)))
  clear Cw10 Bw9 Mw9 HM_ hk
  have Pw10 := P0
  clear P0
  have HD_ := Lib.hid (heldM_of Pw10.out hny1)
  go_wp2_with fail
  refine HD_.out.mono ?_
  rintro e w11 ⟨rfl, Cw11⟩
  have Zw11 := Cw11.size
  have Bw11 := Lib.hid (Below.chg Bw10.out Cw11 (by omega) (.inr rfl))
  have Mw11 := Lib.hid (Mw10.out.chg Cw11 (by omega) (.inr (by omega)))
  have Pw11 := Lib.hid (Pw10.out.chg Cw11 (by omega) (.inr (by omega)))
  clear Cw11 Bw10 Mw10 Pw10 HD_
  go_wp2_with fail
  refine (toM_of w11 v0 xss (H0.out.below Bw11.out) HN.out).mono ?_
  rintro e w12 ⟨u12, rfl, ho, hb⟩
  have Cw12 := Chg.of_below hb
  have Q_ := Lib.hid ho
  clear ho hb
  have Zw12 := Cw12.size
  have Bw12 := Lib.hid (Below.chg Bw11.out Cw12 (by omega) (.inr rfl))
  have Mw12 := Lib.hid (Mw11.out.chg Cw12 (by omega) (.inr (by omega)))
  have Pw12 := Lib.hid (Pw11.out.chg Cw12 (by omega) (.inr (by omega)))
  clear Cw12 Bw11 Mw11 Pw11
  have Xw12 := Q_
  clear Q_
  go_wp2_with fail
  refine (HIMPL.out w12 u12 Xw12.out.rows).mono ?_
  rintro e w13 ⟨u13, rfl, ho, hb⟩
  have Cw13 := Chg.of_below hb
  have Q_ := Lib.hid ho
  clear ho hb
  have Zw13 := Cw13.size
  have Bw13 := Lib.hid (Below.chg Bw12.out Cw13 (by omega) (.inr rfl))
  have Mw13 := Lib.hid (Mw12.out.chg Cw13 (by omega) (.inr (by omega)))
  have Pw13 := Lib.hid (Pw12.out.chg Cw13 (by omega) (.inr (by omega)))
  have Xw13 := Lib.hid (Xw12.out.chg Cw13 (by omega) (.inr (by omega)))
  clear Cw13 Bw12 Mw12 Pw12 Xw12
  have Gw13 := Q_
  clear Q_
  clear Xw13
  go_wp2_with fail
  refine (eq_c w13 u13 u2 yss Gw13.out.rows Mw13.out.rows).mono ?_
  rintro e w14 ⟨rfl, Cw14⟩
  have Zw14 := Cw14.size
  have Bw14 := Lib.hid (Below.chg Bw13.out Cw14 (by omega) (.inr rfl))
  have Mw14 := Lib.hid (Mw13.out.chg Cw14 (by omega) (.inr (by omega)))
  have Pw14 := Lib.hid (Pw13.out.chg Cw14 (by omega) (.inr (by omega)))
  have Gw14 := Lib.hid (Gw13.out.chg Cw14 (by omega) (.inr (by omega)))
  clear Cw14 Bw13 Mw13 Pw13 Gw13
  clear Gw14
  have HD_ := Lib.hid (heldM_of Pw14.out hny1)
  go_wp2_with fail
  refine HD_.out.mono ?_
  rintro e w15 ⟨rfl, Cw15⟩
  have Zw15 := Cw15.size
  have Bw15 := Lib.hid (Below.chg Bw14.out Cw15 (by omega) (.inr rfl))
  have Mw15 := Lib.hid (Mw14.out.chg Cw15 (by omega) (.inr (by omega)))
  have Pw15 := Lib.hid (Pw14.out.chg Cw15 (by omega) (.inr (by omega)))
  clear Cw15 Bw14 Mw14 Pw14 HD_
  go_wp2_with fail
  go_ret
  exact ⟨rfl, Bw15.out⟩
end Go.Proofs.Ytaalnjinocicgaa
