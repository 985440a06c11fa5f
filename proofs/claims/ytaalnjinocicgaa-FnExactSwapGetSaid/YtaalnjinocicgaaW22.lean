/- What the proofs stand on, part 22. -/
import Derived.Test.YtaalnjinocicgaaRows
import Derived.Test.YtaalnjinocicgaaW1
import Derived.Test.YtaalnjinocicgaaW2
import Derived.Test.YtaalnjinocicgaaW3
import Derived.Test.YtaalnjinocicgaaW4
import Derived.Test.YtaalnjinocicgaaW5
import Derived.Test.YtaalnjinocicgaaW8
import Derived.Test.YtaalnjinocicgaaW13
import Derived.Test.YtaalnjinocicgaaW14
import Derived.Test.YtaalnjinocicgaaW16
import Derived.Test.YtaalnjinocicgaaW19
import Derived.Test.YtaalnjinocicgaaW20
set_option linter.unusedSimpArgs false
set_option linter.unusedVariables false
namespace Go.Proofs.Ytaalnjinocicgaa
open Go.ChangeShapes Go.WideShapes Go.ChangeAt Go.RowKit
set_option linter.unusedVariables false
theorem held_of {w : World} {B0 B1 : Nat} {a : Option Addr} {n cap : Nat} (h : IntsW w B0 B1 (.slice a n cap) (mk1 n)) (hn : n ≤ 1048576) :
    Calls Try.prog 33 #[.slice a n cap, .int .i64 1] w fun e w' => e = .returned (.int .i64 (1 + n)) ∧ w = w' := by
  obtain ⟨a', cap', e, h1, h2, h3⟩ := h
  injection e with e1 e2 e3
  subst e1
  subst e3
  rw [mk1_len] at h3
  exact heldIntS_any w a n cap 1 hn (by omega) (by omega) (fun i hi => by
    obtain ⟨g, p, e, _, _, hc, _⟩ := h3 i hi
    exact ⟨g, p, e, by rw [hc, mk1_get hi]⟩)
theorem mark_of {w : World} {B0 B1 : Nat} {a : Option Addr} {n cap : Nat} {xs : List Int} (h : IntsW w B0 B1 (.slice a n cap) xs) (hn : n = xs.length) (hl : n ≤ 1048576) :
    Calls Try.prog 31 #[.slice a n cap, .int .i64 1] w fun e w' => e = .returned (.int .i64 (1 + n)) ∧ IntsW w' B0 B1 (.slice a n cap) (mk1 n) ∧ Kept B0 B1 w w' := by
  have h0 := h
  obtain ⟨a', cap', e, h1, h2, h3⟩ := h
  injection e with e1 e2 e3
  subst e1
  subst e3
  rw [← hn] at h3
  exact (markIntS_any w a n cap 1 hl (by omega) (by omega) (fun i hi => by
    obtain ⟨g, p, e, _, _, hc, hf⟩ := h3 i hi
    exact ⟨g, p, _, e, hc, hf⟩)).mono fun e w' ⟨he, hm⟩ => ⟨he, h0.marked hn hm⟩
end Go.Proofs.Ytaalnjinocicgaa
namespace Go.Proofs.Ytaalnjinocicgaa
open Go.ChangeShapes Go.WideShapes Go.ChangeAt Go.RowKit
set_option linter.unusedVariables false
set_option linter.unusedSimpArgs false
theorem sget_small (xss : Rs) (f : Int) : (sget xss f).length ≤ 1048576 := by
  unfold sget
  by_cases h : sgetB xss f = true
  · rw [if_pos h]
    unfold sgetB at h
    rw [Bool.and_eq_true, Bool.and_eq_true, decide_eq_true_eq] at h
    by_cases hl : f.toNat < xss.length
    · rw [getD_lt hl]
      have := sw_mem h.1 (List.getElem_mem hl)
      omega
    · rw [List.getD_eq_getElem?_getD, List.getElem?_eq_none (by omega)]; simp
  · rw [if_neg h]; simp
theorem markN_of {w : World} {B0 B1 : Nat} {v : Value} {xs : List Int} {n : Nat} (h : IntsW w B0 B1 v xs) (hN : n = xs.length) (hn : n ≤ 1048576) :
    Calls Try.prog 31 #[v, .int .i64 1] w fun e w' => e = .returned (.int .i64 (1 + (n : Int))) ∧ IntsW w' B0 B1 v (mk1 n) ∧ Chg B0 B1 w w' := by
  have h0 := h
  obtain ⟨a, cap, rfl, _⟩ := h0
  subst hN
  exact (mark_of h rfl hn).mono (fun e w' ⟨he, hi, hk⟩ => ⟨he, hi, Chg.of_kept hk⟩)
theorem heldN_of {w : World} {B0 B1 : Nat} {v : Value} {n : Nat} (h : IntsW w B0 B1 v (mk1 n)) (hn : n ≤ 1048576) :
    Calls Try.prog 33 #[v, .int .i64 1] w fun e w' => e = .returned (.int .i64 (1 + (n : Int))) ∧ Chg 0 0 w w' := by
  have h0 := h
  obtain ⟨a, cap, rfl, _⟩ := h0
  have h1 := held_of (n := n) (by rw [mk1_len] at h; exact h) hn
  rw [mk1_len]
  exact h1.mono (fun e w' ⟨he, hb⟩ => ⟨he, by rw [← hb]; exact ⟨rfl, rfl, rfl, Nat.le_refl _, fun _ _ _ => rfl⟩⟩)
set_option maxRecDepth 100000 in
set_option maxHeartbeats 2000000 in
theorem exSwapGet_walk (W : World) (v0 : Value) (xss : Rs) (f : Int) (ys : List Int) (b : Bool) (h : Rows2 W v0 xss) (hy : ys.length ≤ 1048576)
    (hS : ∀ w v, Rows2 w v xss → Calls Try.prog 23 #[v, .int .i64 f] w (NewRB ys b w))
    (hI : ∀ w v, Rows2 w v xss → Calls Try.prog 17 #[v, .int .i64 f] w (NewRB ys b w)) :
    Calls Try.prog 11 #[v0, .int .i64 f] W fun e w' => e = .returned (.bool true) ∧ Below W.heap.size W w' := by
  have HSPEC := Lib.hid hS
  have HIMPL := Lib.hid hI
  have H0 := Lib.hid h
  clear hS hI h
  have hbb := neB b
  obtain ⟨ny, hny⟩ : ∃ n, n = ys.length := ⟨_, rfl⟩
  have hny1 : ny ≤ 1048576 := by omega
  have HNY := Lib.hid hny
  clear hny hy
  have hge2 : decide ((1 : Int) + (ny : Int) < 0) = false := by simp; omega
  go_enter Try.func11, Try.ntmps11
  go_wp2_with fail
  refine (szIntSS_any W v0 xss 1048576 H0.out (by omega) (by omega)).mono ?_
  rintro e w' ⟨r, hr, rfl, rfl⟩
  by_cases hr0 : r < 0
  · clear hr
    go_wp2_with fail
    go_ret
    exact ⟨rfl, Below.refl _ _⟩
  have hr1 : decide (r < 0) = false := by simp; omega
  have hn : xss.length + total xss ≤ 1048576 := by
    rcases hr with h' | ⟨h1, h2⟩
    · omega
    · omega
  clear hr hr0
  obtain ⟨nx, hnx⟩ : ∃ n, n = total xss := ⟨_, rfl⟩
  have hnx1 : nx ≤ 1048576 := by omega
  have HNX := Lib.hid hnx
  have HN := Lib.hid hn
  clear hnx hn
  have hx2 : decide ((1 : Int) + (nx : Int) < 0) = false := by simp; omega
  have BW := Lib.hid (Below.refl W.heap.size W)
  have ZW : W.heap.size ≤ W.heap.size := Nat.le_refl _
  go_wp2_with fail
  refine (toM_of W v0 xss H0.out HN.out).mono ?_
  rintro e w1 ⟨u1, rfl, ho, hb⟩
  have Cw1 := Chg.of_below hb
  have Q_ := Lib.hid ho
  clear ho hb
  have Zw1 := Cw1.size
  have Bw1 := Lib.hid (Below.chg BW.out Cw1 (by omega) (.inr rfl))
  clear Cw1 BW
  have Xw1 := Q_
  clear Q_
  go_wp2_with fail
  refine (HSPEC.out w1 u1 Xw1.out.rows).mono ?_
  rintro e w2 ⟨u2, rfl, ho, hb⟩
  have Cw2 := Chg.of_below hb
  have Q_ := Lib.hid ho
  clear ho hb
  have Zw2 := Cw2.size
  have Bw2 := Lib.hid (Below.chg Bw1.out Cw2 (by omega) (.inr rfl))
  have Xw2 := Lib.hid (Xw1.out.chg Cw2 (by omega) (.inr (by omega)))
  clear Cw2 Bw1 Xw1
  have Mw2 := Q_
  clear Q_
  clear Xw2
  go_wp2_with fail
  refine (toM_of w2 v0 xss (H0.out.below Bw2.out) HN.out).mono ?_
  rintro e w3 ⟨u3, rfl, ho, hb⟩
  have Cw3 := Chg.of_below hb
  have Q_ := Lib.hid ho
  clear ho hb
  have Zw3 := Cw3.size
  have Bw3 := Lib.hid (Below.chg Bw2.out Cw3 (by omega) (.inr rfl))
  have Mw3 := Lib.hid (Mw2.out.chg Cw3 (by omega) (.inr (by omega)))
  clear Cw3 Bw2 Mw2
  have Xw3 := Q_
  clear Q_
  go_wp2_with fail
  refine (HIMPL.out w3 u3 Xw3.out.rows).mono ?_
  rintro e w4 ⟨u4, rfl, ho, hb⟩
  have Cw4 := Chg.of_below hb
  have Q_ := Lib.hid ho
  clear ho hb
  have Zw4 := Cw4.size
  have Bw4 := Lib.hid (Below.chg Bw3.out Cw4 (by omega) (.inr rfl))
  have Mw4 := Lib.hid (Mw3.out.chg Cw4 (by omega) (.inr (by omega)))
  have Xw4 := Lib.hid (Xw3.out.chg Cw4 (by omega) (.inr (by omega)))
  clear Cw4 Bw3 Mw3 Xw3
  have Pw4 := Q_
  clear Q_
  go_wp2_with fail
  refine (eqs_c w4 u4 u2 ys Pw4.out.ints Mw4.out.ints).mono ?_
  rintro e w5 ⟨rfl, Cw5⟩
  have Zw5 := Cw5.size
  have Bw5 := Lib.hid (Below.chg Bw4.out Cw5 (by omega) (.inr rfl))
  have Mw5 := Lib.hid (Mw4.out.chg Cw5 (by omega) (.inr (by omega)))
  have Xw5 := Lib.hid (Xw4.out.chg Cw5 (by omega) (.inr (by omega)))
  have Pw5 := Lib.hid (Pw4.out.chg Cw5 (by omega) (.inr (by omega)))
  clear Cw5 Bw4 Mw4 Xw4 Pw4
  go_wp2_with fail
  refine (toM_of w5 v0 xss (H0.out.below Bw5.out) HN.out).mono ?_
  rintro e w6 ⟨u6, rfl, ho, hb⟩
  have Cw6 := Chg.of_below hb
  have Q_ := Lib.hid ho
  clear ho hb
  have Zw6 := Cw6.size
  have Bw6 := Lib.hid (Below.chg Bw5.out Cw6 (by omega) (.inr rfl))
  have Mw6 := Lib.hid (Mw5.out.chg Cw6 (by omega) (.inr (by omega)))
  have Xw6 := Lib.hid (Xw5.out.chg Cw6 (by omega) (.inr (by omega)))
  have Pw6 := Lib.hid (Pw5.out.chg Cw6 (by omega) (.inr (by omega)))
  clear Cw6 Bw5 Mw5 Xw5 Pw5
  have Tw6 := Q_
  clear Q_
  go_wp2_with fail
  refine (eq_c w6 u3 u6 xss Xw6.out.rows Tw6.out.rows).mono ?_
  rintro e w7 ⟨rfl, Cw7⟩
  have Zw7 := Cw7.size
  have Bw7 := Lib.hid (Below.chg Bw6.out Cw7 (by omega) (.inr rfl))
  have Mw7 := Lib.hid (Mw6.out.chg Cw7 (by omega) (.inr (by omega)))
  have Xw7 := Lib.hid (Xw6.out.chg Cw7 (by omega) (.inr (by omega)))
  have Pw7 := Lib.hid (Pw6.out.chg Cw7 (by omega) (.inr (by omega)))
  have Tw7 := Lib.hid (Tw6.out.chg Cw7 (by omega) (.inr (by omega)))
  clear Cw7 Bw6 Mw6 Xw6 Pw6 Tw6
  clear Tw7
  have HM_ := Lib.hid (markM_of Xw7.out HN.out nx HNX.out)
  clear Xw7
  go_wp2_with fail
  refine HM_.out.mono ?_
  rintro e w8 ⟨rfl, _, Cw8⟩
  have Zw8 := Cw8.size
  have Bw8 := Lib.hid (Below.chg Bw7.out Cw8 (by omega) (.inl (by omega)))
  have Mw8 := Lib.hid (Mw7.out.chg Cw8 (by omega) (.inl (by omega)))
  have Pw8 := Lib.hid (Pw7.out.chg Cw8 (by omega) (.inr (by omega)))
  clear Cw8 Bw7 Mw7 Pw7 HM_
  go_wp2_with fail
  refine (eqs_c w8 u4 u2 ys Pw8.out.ints Mw8.out.ints).mono ?_
  rintro e w9 ⟨rfl, Cw9⟩
  have Zw9 := Cw9.size
  have Bw9 := Lib.hid (Below.chg Bw8.out Cw9 (by omega) (.inr rfl))
  have Mw9 := Lib.hid (Mw8.out.chg Cw9 (by omega) (.inr (by omega)))
  have Pw9 := Lib.hid (Pw8.out.chg Cw9 (by omega) (.inr (by omega)))
  clear Cw9 Bw8 Mw8 Pw8
  have HM_ := Lib.hid (markN_of Pw9.out HNY.out hny1)
  clear Pw9
  go_wp2_with fail
  refine HM_.out.mono ?_
  rintro e w10 ⟨rfl, hk, Cw10⟩
  have P0 := Lib.hid hk
  have Zw10 := Cw10.size
  have Bw10 := Lib.hid (Below.chg Bw9.out Cw10 (by omega) (.inl (by omega)))
  have Mw10 := Lib.hid (Mw9.out.chg Cw10 (by omega) (.inl (by omega)))
  clear Cw10 Bw9 Mw9 HM_ hk
  have Pw10 := P0
  clear P0
  have HD_ := Lib.hid (heldN_of Pw10.out hny1)
  go_wp2_with fail
  refine HD_.out.mono ?_
  rintro e w11 ⟨rfl, Cw11⟩
  have Zw11 := Cw11.size
  have Bw11 := Lib.hid (Below.chg Bw10.out Cw11 (by omega) (.inr rfl))
  have Mw11 := Lib.hid (Mw10.out.chg Cw11 (by omega) (.inr (by omega)))
  have Pw11 := Lib.hid (Pw10.out.chg Cw11 (by omega) (.inr (by omega)))
  clear Cw11 Bw10 Mw10 Pw10 HD_
  go_wp2_with fail
  refine (toM_of w11 v0 xss (H0.out.below Bw11.out) HN.out).mono ?_
  rintro e w12 ⟨u12, rfl, ho, hb⟩
  have Cw12 := Chg.of_below hb
  have Q_ := Lib.hid ho
  clear ho hb
  have Zw12 := Cw12.size
  have Bw12 := Lib.hid (Below.chg Bw11.out Cw12 (by omega) (.inr rfl))
  have Mw12 := Lib.hid (Mw11.out.chg Cw12 (by omega) (.inr (by omega)))
  have Pw12 := Lib.hid (Pw11.out.chg Cw12 (by omega) (.inr (by omega)))
  clear Cw12 Bw11 Mw11 Pw11
  have Xw12 := Q_
  clear Q_
  go_wp2_with fail
  refine (HIMPL.out w12 u12 Xw12.out.rows).mono ?_
  rintro e w13 ⟨u13, rfl, ho, hb⟩
  have Cw13 := Chg.of_below hb
  have Q_ := Lib.hid ho
  clear ho hb
  have Zw13 := Cw13.size
  have Bw13 := Lib.hid (Below.chg Bw12.out Cw13 (by omega) (.inr rfl))
  have Mw13 := Lib.hid (Mw12.out.chg Cw13 (by omega) (.inr (by omega)))
  have Pw13 := Lib.hid (Pw12.out.chg Cw13 (by omega) (.inr (by omega)))
  have Xw13 := Lib.hid (Xw12.out.chg Cw13 (by omega) (.inr (by omega)))
  clear Cw13 Bw12 Mw12 Pw12 Xw12
  have Gw13 := Q_
  clear Q_
  clear Xw13
  go_wp2_with fail
  refine (eqs_c w13 u13 u2 ys Gw13.out.ints Mw13.out.ints).mono ?_
  rintro e w14 ⟨rfl, Cw14⟩
  have Zw14 := Cw14.size
  have Bw14 := Lib.hid (Below.chg Bw13.out Cw14 (by omega) (.inr rfl))
  have Mw14 := Lib.hid (Mw13.out.chg Cw14 (by omega) (.inr (by omega)))
  have Pw14 := Lib.hid (Pw13.out.chg Cw14 (by omega) (.inr (by omega)))
  have Gw14 := Lib.hid (Gw13.out.chg Cw14 (by omega) (.inr (by omega)))
  clear Cw14 Bw13 Mw13 Pw13 Gw13
  clear Gw14
  have HD_ := Lib.hid (heldN_of Pw14.out hny1)
  go_wp2_with fail
  refine HD_.out.mono ?_
  rintro e w15 ⟨rfl, Cw15⟩
  have Zw15 := Cw15.size
  have Bw15 := Lib.hid (Below.chg Bw14.out Cw15 (by omega) (.inr rfl))
  have Mw15 := Lib.hid (Mw14.out.chg Cw15 (by omega) (.inr (by omega)))
  have Pw15 := Lib.hid (Pw14.out.chg Cw15 (by omega) (.inr (by omega)))
  clear Cw15 Bw14 Mw14 Pw14 HD_
  go_wp2_with fail
  go_ret
  exact ⟨rfl, Bw15.out⟩
end Go.Proofs.Ytaalnjinocicgaa
