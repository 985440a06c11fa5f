/- What the proofs stand on, part 23. -/
import Derived.Test.YtaalnjinocicgaaRows
import Derived.Test.YtaalnjinocicgaaW1
import Derived.Test.YtaalnjinocicgaaW2
import Derived.Test.YtaalnjinocicgaaW3
import Derived.Test.YtaalnjinocicgaaW4
import Derived.Test.YtaalnjinocicgaaW6
import Derived.Test.YtaalnjinocicgaaW9
import Derived.Test.YtaalnjinocicgaaW13
import Derived.Test.YtaalnjinocicgaaW14
import Derived.Test.YtaalnjinocicgaaW16
import Derived.Test.YtaalnjinocicgaaW18
import Derived.Test.YtaalnjinocicgaaW19
set_option linter.unusedSimpArgs false
set_option linter.unusedVariables false
namespace Go.Proofs.Ytaalnjinocicgaa
open Go.ChangeShapes Go.WideShapes Go.ChangeAt Go.RowKit
set_option linter.unusedVariables false
set_option linter.unusedSimpArgs false
theorem sput_small (xss : Rs) (ws : List Int) : (sput xss ws).length + total (sput xss ws) ≤ 1048576 := by
  unfold sput
  by_cases h : sputB xss ws = true
  · rw [if_pos h]
    unfold sputB at h
    rw [Bool.and_eq_true, Bool.and_eq_true] at h
    refine small_of (by rw [List.length_set, sw_len h.1]; omega) (fun xs hx => ?_)
    rcases List.mem_or_eq_of_mem_set hx with h' | rfl
    · exact sw_mem h.1 h'
    · rw [words_len h.2.1]; omega
  · rw [if_neg h]; simp [total]
theorem markK_of {w : World} {B0 B1 : Nat} {v : Value} {xs : List Int} {n : Nat} (k : Int) (h : IntsW w B0 B1 v xs) (hN : n = xs.length) (hn : n ≤ 1048576) (hk : 0 ≤ k) (hk2 : k ≤ 1000000000000) :
    Calls Try.prog 31 #[v, .int .i64 k] w fun e w' => e = .returned (.int .i64 (k + (n : Int))) ∧ Chg B0 B1 w w' := by
  obtain ⟨a, cap, rfl, h1, h2, h3⟩ := h
  subst hN
  refine (markIntS_any w a xs.length cap k hn hk hk2 (fun i hi => ?_)).mono ?_
  · obtain ⟨g, p, e, _, _, hc, hf⟩ := h3 i hi
    exact ⟨g, p, _, e, hc, hf⟩
  rintro e w' ⟨rfl, hm⟩
  refine ⟨rfl, Chg.of_kept ⟨hm.os, hm.tape, hm.output, hm.size, fun b hb => hm.block b (fun p => ?_)⟩⟩
  by_cases hl : 0 < xs.length
  · obtain ⟨g, p', e, hg0, hg1, _⟩ := h3 0 hl
    refine .inr (fun e' => ?_)
    rw [e] at e'; cases e'
    omega
  · exact .inl (by omega)
theorem toN_of (w : World) (v : Value) (xs : List Int) (h : Ints w v xs) (hn : xs.length ≤ 1048576) :
    Calls Try.prog 28 #[v] w fun e w' => ∃ u, e = .returned u ∧ IntsW w' w.heap.size w'.heap.size u xs ∧ Below w.heap.size w w' := by
  refine (toIntS_any w v xs h hn).mono ?_
  rintro e w' ⟨u, rfl, ho, hb, hs⟩
  obtain ⟨rfl, hm, hr⟩ := ho
  exact ⟨_, rfl, ⟨_, _, rfl, Nat.le_refl _, hm, fun i hi => ⟨w.heap.size, 0, rfl, Nat.le_refl _, by omega, by simpa using hr.cell hi, by simpa using hr.frozen i⟩⟩, hb⟩
set_option maxRecDepth 100000 in
set_option maxHeartbeats 2000000 in
theorem exSwapPut_walk (W : World) (v0 : Value) (xss : Rs) (v1 : Value) (ws : List Int) (yss : Rs) (nn : Int) (b : Bool) (h : Rows2 W v0 xss) (h1 : Ints W v1 ws) (hy : yss.length + total yss ≤ 1048576)
    (hS : ∀ w v u, Rows2 w v xss → Ints w u ws → Calls Try.prog 15 #[v, u] w (NewMN yss nn b w))
    (hI : ∀ w v u, Rows2 w v xss → Ints w u ws → Calls Try.prog 14 #[v, u] w (NewMN yss nn b w)) :
    Calls Try.prog 10 #[v0, v1] W fun e w' => e = .returned (.bool true) ∧ Below W.heap.size W w' := by
  have HSPEC := Lib.hid hS
  have HIMPL := Lib.hid hI
  have H0 := Lib.hid h
  clear hS hI h
  have hbb := neB b
  obtain ⟨a1, c1, e1, hla, hma, h1x⟩ := h1
  obtain ⟨V1, hV1⟩ : ∃ V, V = v1 := ⟨_, rfl⟩
  have H1 : Hid (Ints W V1 ws) := Lib.hid (by rw [hV1]; exact ⟨a1, c1, e1, hla, by unfold maxLen; exact hma, h1x⟩)
  subst e1
  clear h1x
  unfold maxLen at hma
  obtain ⟨m1, hm1⟩ : ∃ m, m = ws.length := ⟨_, rfl⟩
  rw [← hm1] at hla hV1 ⊢
  have HV1 := Lib.hid hV1
  clear hV1
  have HM1 := Lib.hid hm1
  clear hm1
  have hnn : decide (nn = nn) = true := by simp
  obtain ⟨ny, hny⟩ : ∃ n, n = total yss := ⟨_, rfl⟩
  have hny1 : ny ≤ 1048576 := by omega
  have HNY := Lib.hid hny
  have HY := Lib.hid hy
  clear hny hy
  have hge2 : decide ((1 : Int) + (ny : Int) < 0) = false := by simp; omega
  go_enter Try.func10, Try.ntmps10
  by_cases hm2 : 1048576 < m1
  · go_wp2_with fail
    go_ret
    exact ⟨rfl, Below.refl _ _⟩
  have hm3 : ¬ (1048576 : Int) < (m1 : Int) := by omega
  have hm4 : m1 ≤ 1048576 := by omega
  clear hm2
  go_wp2_with fail
  refine (szIntSS_any W v0 xss 1048576 H0.out (by omega) (by omega)).mono ?_
  rintro e w' ⟨r, hr, rfl, rfl⟩
  by_cases hr0 : r < 0
  · clear hr
    go_wp2_with fail
    go_ret
    exact ⟨rfl, Below.refl _ _⟩
  have hr1 : decide (r < 0) = false := by simp; omega
  have hn : xss.length + total xss ≤ 1048576 := by
    rcases hr with h' | ⟨h1, h2⟩
    · omega
    · omega
  clear hr hr0
  obtain ⟨nx, hnx⟩ : ∃ n, n = total xss := ⟨_, rfl⟩
  have hnx1 : nx ≤ 1048576 := by omega
  have HNX := Lib.hid hnx
  have HN := Lib.hid hn
  clear hnx hn
  have hx2 : decide ((1 : Int) + (nx : Int) + (m1 : Int) < 0) = false := by simp; omega
  have BW := Lib.hid (Below.refl W.heap.size W)
  have ZW : W.heap.size ≤ W.heap.size := Nat.le_refl _
  go_wp2_with fail
  refine (toM_of W v0 xss H0.out HN.out).mono ?_
  rintro e w1 ⟨u1, rfl, ho, hb⟩
  have Cw1 := Chg.of_below hb
  have Q_ := Lib.hid ho
  clear ho hb
  have Zw1 := Cw1.size
  have Bw1 := Lib.hid (Below.chg BW.out Cw1 (by omega) (.inr rfl))
  clear Cw1 BW
  have Xw1 := Q_
  clear Q_
  go_wp2_with fail
  refine (toN_of w1 _ ws (by rw [← HV1.out]; exact (Ints.below (B := 0) H1.out Bw1.out)) (by rw [← HM1.out]; exact hm4)).mono ?_
  rintro e w1b ⟨u1b, rfl, ho, hb⟩
  have Cw1b := Chg.of_below hb
  have Q_ := Lib.hid ho
  clear ho hb
  have Zw1b := Cw1b.size
  have Bw1b := Lib.hid (Below.chg Bw1.out Cw1b (by omega) (.inr rfl))
  have Xw1b := Lib.hid (Xw1.out.chg Cw1b (by omega) (.inr (by omega)))
  clear Cw1b Bw1 Xw1
  have Yw1b := Q_
  clear Q_
  go_wp2_with fail
  refine (HSPEC.out w1b u1 u1b Xw1b.out.rows Yw1b.out.ints).mono ?_
  rintro e w2 ⟨u2, rfl, ho, hb⟩
  have Cw2 := Chg.of_below hb
  have Q_ := Lib.hid ho
  clear ho hb
  have Zw2 := Cw2.size
  have Bw2 := Lib.hid (Below.chg Bw1b.out Cw2 (by omega) (.inr rfl))
  have Xw2 := Lib.hid (Xw1b.out.chg Cw2 (by omega) (.inr (by omega)))
  have Yw2 := Lib.hid (Yw1b.out.chg Cw2 (by omega) (.inr (by omega)))
  clear Cw2 Bw1b Xw1b Yw1b
  have Mw2 := Q_
  clear Q_
  clear Xw2
  clear Yw2
  go_wp2_with fail
  refine (toM_of w2 v0 xss (H0.out.below Bw2.out) HN.out).mono ?_
  rintro e w3 ⟨u3, rfl, ho, hb⟩
  have Cw3 := Chg.of_below hb
  have Q_ := Lib.hid ho
  clear ho hb
  have Zw3 := Cw3.size
  have Bw3 := Lib.hid (Below.chg Bw2.out Cw3 (by omega) (.inr rfl))
  have Mw3 := Lib.hid (Mw2.out.chg Cw3 (by omega) (.inr (by omega)))
  clear Cw3 Bw2 Mw2
  have Xw3 := Q_
  clear Q_
  go_wp2_with fail
  refine (toN_of w3 _ ws (by rw [← HV1.out]; exact (Ints.below (B := 0) H1.out Bw3.out)) (by rw [← HM1.out]; exact hm4)).mono ?_
  rintro e w3b ⟨u3b, rfl, ho, hb⟩
  have Cw3b := Chg.of_below hb
  have Q_ := Lib.hid ho
  clear ho hb
  have Zw3b := Cw3b.size
  have Bw3b := Lib.hid (Below.chg Bw3.out Cw3b (by omega) (.inr rfl))
  have Mw3b := Lib.hid (Mw3.out.chg Cw3b (by omega) (.inr (by omega)))
  have Xw3b := Lib.hid (Xw3.out.chg Cw3b (by omega) (.inr (by omega)))
  clear Cw3b Bw3 Mw3 Xw3
  have Yw3b := Q_
  clear Q_
  go_wp2_with fail
  refine (HIMPL.out w3b u3 u3b Xw3b.out.rows Yw3b.out.ints).mono ?_
  rintro e w4 ⟨u4, rfl, ho, hb⟩
  have Cw4 := Chg.of_below hb
  have Q_ := Lib.hid ho
  clear ho hb
  have Zw4 := Cw4.size
  have Bw4 := Lib.hid (Below.chg Bw3b.out Cw4 (by omega) (.inr rfl))
  have Mw4 := Lib.hid (Mw3b.out.chg Cw4 (by omega) (.inr (by omega)))
  have Xw4 := Lib.hid (Xw3b.out.chg Cw4 (by omega) (.inr (by omega)))
  have Yw4 := Lib.hid (Yw3b.out.chg Cw4 (by omega) (.inr (by omega)))
  clear Cw4 Bw3b Mw3b Xw3b Yw3b
  have Pw4 := Q_
  clear Q_
  go_wp2_with fail
  refine (eq_c w4 u4 u2 yss Pw4.out.rows Mw4.out.rows).mono ?_
  rintro e w5 ⟨rfl, Cw5⟩
  have Zw5 := Cw5.size
  have Bw5 := Lib.hid (Below.chg Bw4.out Cw5 (by omega) (.inr rfl))
  have Mw5 := Lib.hid (Mw4.out.chg Cw5 (by omega) (.inr (by omega)))
  have Xw5 := Lib.hid (Xw4.out.chg Cw5 (by omega) (.inr (by omega)))
  have Yw5 := Lib.hid (Yw4.out.chg Cw5 (by omega) (.inr (by omega)))
  have Pw5 := Lib.hid (Pw4.out.chg Cw5 (by omega) (.inr (by omega)))
  clear Cw5 Bw4 Mw4 Xw4 Yw4 Pw4
  go_wp2_with fail
  refine (toM_of w5 v0 xss (H0.out.below Bw5.out) HN.out).mono ?_
  rintro e w6 ⟨u6, rfl, ho, hb⟩
  have Cw6 := Chg.of_below hb
  have Q_ := Lib.hid ho
  clear ho hb
  have Zw6 := Cw6.size
  have Bw6 := Lib.hid (Below.chg Bw5.out Cw6 (by omega) (.inr rfl))
  have Mw6 := Lib.hid (Mw5.out.chg Cw6 (by omega) (.inr (by omega)))
  have Xw6 := Lib.hid (Xw5.out.chg Cw6 (by omega) (.inr (by omega)))
  have Yw6 := Lib.hid (Yw5.out.chg Cw6 (by omega) (.inr (by omega)))
  have Pw6 := Lib.hid (Pw5.out.chg Cw6 (by omega) (.inr (by omega)))
  clear Cw6 Bw5 Mw5 Xw5 Yw5 Pw5
  have Tw6 := Q_
  clear Q_
  go_wp2_with fail
  refine (eq_c w6 u3 u6 xss Xw6.out.rows Tw6.out.rows).mono ?_
  rintro e w7 ⟨rfl, Cw7⟩
  have Zw7 := Cw7.size
  have Bw7 := Lib.hid (Below.chg Bw6.out Cw7 (by omega) (.inr rfl))
  have Mw7 := Lib.hid (Mw6.out.chg Cw7 (by omega) (.inr (by omega)))
  have Xw7 := Lib.hid (Xw6.out.chg Cw7 (by omega) (.inr (by omega)))
  have Yw7 := Lib.hid (Yw6.out.chg Cw7 (by omega) (.inr (by omega)))
  have Pw7 := Lib.hid (Pw6.out.chg Cw7 (by omega) (.inr (by omega)))
  have Tw7 := Lib.hid (Tw6.out.chg Cw7 (by omega) (.inr (by omega)))
  clear Cw7 Bw6 Mw6 Xw6 Yw6 Pw6 Tw6
  clear Tw7
  go_wp2_with fail
  refine (toN_of w7 _ ws (by rw [← HV1.out]; exact (Ints.below (B := 0) H1.out Bw7.out)) (by rw [← HM1.out]; exact hm4)).mono ?_
  rintro e w6b ⟨u6b, rfl, ho, hb⟩
  have Cw6b := Chg.of_below hb
  have Q_ := Lib.hid ho
  clear ho hb
  have Zw6b := Cw6b.size
  have Bw6b := Lib.hid (Below.chg Bw7.out Cw6b (by omega) (.inr rfl))
  have Mw6b := Lib.hid (Mw7.out.chg Cw6b (by omega) (.inr (by omega)))
  have Xw6b := Lib.hid (Xw7.out.chg Cw6b (by omega) (.inr (by omega)))
  have Yw6b := Lib.hid (Yw7.out.chg Cw6b (by omega) (.inr (by omega)))
  have Pw6b := Lib.hid (Pw7.out.chg Cw6b (by omega) (.inr (by omega)))
  clear Cw6b Bw7 Mw7 Xw7 Yw7 Pw7
  have Tw6b := Q_
  clear Q_
  go_wp2_with fail
  refine (eqs_c w6b u3b u6b ws Yw6b.out.ints Tw6b.out.ints).mono ?_
  rintro e w7b ⟨rfl, Cw7b⟩
  have Zw7b := Cw7b.size
  have Bw7b := Lib.hid (Below.chg Bw6b.out Cw7b (by omega) (.inr rfl))
  have Mw7b := Lib.hid (Mw6b.out.chg Cw7b (by omega) (.inr (by omega)))
  have Xw7b := Lib.hid (Xw6b.out.chg Cw7b (by omega) (.inr (by omega)))
  have Yw7b := Lib.hid (Yw6b.out.chg Cw7b (by omega) (.inr (by omega)))
  have Pw7b := Lib.hid (Pw6b.out.chg Cw7b (by omega) (.inr (by omega)))
  have Tw7b := Lib.hid (Tw6b.out.chg Cw7b (by omega) (.inr (by omega)))
  clear Cw7b Bw6b Mw6b Xw6b Yw6b Pw6b Tw6b
  clear Tw7b
  have HM_ := Lib.hid (markM_of Xw7b.out HN.out nx HNX.out)
  clear Xw7b
  go_wp2_with fail
  refine HM_.out.mono ?_
  rintro e w8 ⟨rfl, _, Cw8⟩
  have Zw8 := Cw8.size
  have Bw8 := Lib.hid (Below.chg Bw7b.out Cw8 (by omega) (.inl (by omega)))
  have Mw8 := Lib.hid (Mw7b.out.chg Cw8 (by omega) (.inl (by omega)))
  have Yw8 := Lib.hid (Yw7b.out.chg Cw8 (by omega) (.inr (by omega)))
  have Pw8 := Lib.hid (Pw7b.out.chg Cw8 (by omega) (.inr (by omega)))
  clear Cw8 Bw7b Mw7b Yw7b Pw7b HM_
  have HM_ := Lib.hid (markK_of (1 + (nx : Int)) Yw8.out HM1.out hm4 (by omega) (by omega))
  clear Yw8
  go_wp2_with fail
  refine HM_.out.mono ?_
  rintro e w8b ⟨rfl, Cw8b⟩
  have Zw8b := Cw8b.size
  have Bw8b := Lib.hid (Below.chg Bw8.out Cw8b (by omega) (.inl (by omega)))
  have Mw8b := Lib.hid (Mw8.out.chg Cw8b (by omega) (.inl (by omega)))
  have Pw8b := Lib.hid (Pw8.out.chg Cw8b (by omega) (.inr (by omega)))
  clear Cw8b Bw8 Mw8 Pw8 HM_
  go_wp2_with fail
  refine (eq_c w8b u4 u2 yss Pw8b.out.rows Mw8b.out.rows).mono ?_
  rintro e w9 ⟨rfl, Cw9⟩
  have Zw9 := Cw9.size
  have Bw9 := Lib.hid (Below.chg Bw8b.out Cw9 (by omega) (.inr rfl))
  have Mw9 := Lib.hid (Mw8b.out.chg Cw9 (by omega) (.inr (by omega)))
  have Pw9 := Lib.hid (Pw8b.out.chg Cw9 (by omega) (.inr (by omega)))
  clear Cw9 Bw8b Mw8b Pw8b
  have HM_ := Lib.hid (markM_of Pw9.out HY.out ny HNY.out)
  clear Pw9
  go_wp2_with fail
  refine HM_.out.mono ?_
  rintro e w10 ⟨rfl, hk, Cw10⟩
  have P0 := Lib.hid hk
  have Zw10 := Cw10.size
  have Bw10 := Lib.hid (Below.chg Bw9.out Cw10 (by omega) (.inl (by omega)))
  have Mw10 := Lib.hid (Mw9.out.chg Cw10 (by omega) (.inl (by omega)))
  clear Cw10 Bw9 Mw9 HM_ hk
  have Pw10 := P0
  clear P0
  have HD_ := Lib.hid (heldM_of Pw10.out hny1)
  go_wp2_with fail
  refine HD_.out.mono ?_
  rintro e w11 ⟨rfl, Cw11⟩
  have Zw11 := Cw11.size
  have Bw11 := Lib.hid (Below.chg Bw10.out Cw11 (by omega) (.inr rfl))
  have Mw11 := Lib.hid (Mw10.out.chg Cw11 (by omega) (.inr (by omega)))
  have Pw11 := Lib.hid (Pw10.out.chg Cw11 (by omega) (.inr (by omega)))
  clear Cw11 Bw10 Mw10 Pw10 HD_
  go_wp2_with fail
  refine (toM_of w11 v0 xss (H0.out.below Bw11.out) HN.out).mono ?_
  rintro e w12 ⟨u12, rfl, ho, hb⟩
  have Cw12 := Chg.of_below hb
  have Q_ := Lib.hid ho
  clear ho hb
  have Zw12 := Cw12.size
  have Bw12 := Lib.hid (Below.chg Bw11.out Cw12 (by omega) (.inr rfl))
  have Mw12 := Lib.hid (Mw11.out.chg Cw12 (by omega) (.inr (by omega)))
  have Pw12 := Lib.hid (Pw11.out.chg Cw12 (by omega) (.inr (by omega)))
  clear Cw12 Bw11 Mw11 Pw11
  have Xw12 := Q_
  clear Q_
  go_wp2_with fail
  refine (toN_of w12 _ ws (by rw [← HV1.out]; exact (Ints.below (B := 0) H1.out Bw12.out)) (by rw [← HM1.out]; exact hm4)).mono ?_
  rintro e w12b ⟨u12b, rfl, ho, hb⟩
  have Cw12b := Chg.of_below hb
  have Q_ := Lib.hid ho
  clear ho hb
  have Zw12b := Cw12b.size
  have Bw12b := Lib.hid (Below.chg Bw12.out Cw12b (by omega) (.inr rfl))
  have Mw12b := Lib.hid (Mw12.out.chg Cw12b (by omega) (.inr (by omega)))
  have Pw12b := Lib.hid (Pw12.out.chg Cw12b (by omega) (.inr (by omega)))
  have Xw12b := Lib.hid (Xw12.out.chg Cw12b (by omega) (.inr (by omega)))
  clear Cw12b Bw12 Mw12 Pw12 Xw12
  have Yw12b := Q_
  clear Q_
  go_wp2_with fail
  refine (HIMPL.out w12b u12 u12b Xw12b.out.rows Yw12b.out.ints).mono ?_
  rintro e w13 ⟨u13, rfl, ho, hb⟩
  have Cw13 := Chg.of_below hb
  have Q_ := Lib.hid ho
  clear ho hb
  have Zw13 := Cw13.size
  have Bw13 := Lib.hid (Below.chg Bw12b.out Cw13 (by omega) (.inr rfl))
  have Mw13 := Lib.hid (Mw12b.out.chg Cw13 (by omega) (.inr (by omega)))
  have Pw13 := Lib.hid (Pw12b.out.chg Cw13 (by omega) (.inr (by omega)))
  have Xw13 := Lib.hid (Xw12b.out.chg Cw13 (by omega) (.inr (by omega)))
  have Yw13 := Lib.hid (Yw12b.out.chg Cw13 (by omega) (.inr (by omega)))
  clear Cw13 Bw12b Mw12b Pw12b Xw12b Yw12b
  have Gw13 := Q_
  clear Q_
  clear Xw13
  clear Yw13
  go_wp2_with fail
  refine (eq_c w13 u13 u2 yss Gw13.out.rows Mw13.out.rows).mono ?_
  rintro e w14 ⟨rfl, Cw14⟩
  have Zw14 := Cw14.size
  have Bw14 := Lib.hid (Below.chg Bw13.out Cw14 (by omega) (.inr rfl))
  have Mw14 := Lib.hid (Mw13.out.chg Cw14 (by omega) (.inr (by omega)))
  have Pw14 := Lib.hid (Pw13.out.chg Cw14 (by omega) (.inr (by omega)))
  have Gw14 := Lib.hid (Gw13.out.chg Cw14 (by omega) (.inr (by omega)))
  clear Cw14 Bw13 Mw13 Pw13 Gw13
  clear Gw14
  have HD_ := Lib.hid (heldM_of Pw14.out hny1)
  go_wp2_with fail
  refine HD_.out.mono ?_
  rintro e w15 ⟨rfl, Cw15⟩
  have Zw15 := Cw15.size
  have Bw15 := Lib.hid (Below.chg Bw14.out Cw15 (by omega) (.inr rfl))
  have Mw15 := Lib.hid (Mw14.out.chg Cw15 (by omega) (.inr (by omega)))
  have Pw15 := Lib.hid (Pw14.out.chg Cw15 (by omega) (.inr (by omega)))
  clear Cw15 Bw14 Mw14 Pw14 HD_
  go_wp2_with fail
  go_ret
  exact ⟨rfl, Bw15.out⟩
end Go.Proofs.Ytaalnjinocicgaa
namespace Go.Proofs.Ytaalnjinocicgaa
open Go.ChangeShapes Go.WideShapes Go.ChangeAt Go.RowKit
set_option linter.unusedVariables false
set_option linter.unusedSimpArgs false
theorem ints_of_trod {H : Type} {enc : TypeId × Value → H} {P : Program} {w : World} {base : Nat} {held : Bool} {t e : TypeId} {fuel : Nat} {a : Option Addr} {len cap : Nat} {x : DataW H × List MemPlace}
    (ht : P.underlying t = some (.slice e)) (he : P.underlying e = some (.int .i64)) (ce : P.cellsOf e = 1)
    (h : DataW.trod enc P w base (fun _ => true) held fuel t (Value.slice a len cap).cells.toList = some x) : ∃ xs, Ints w (.slice a len cap) xs := by
  rcases open_ints ht he ce h with ⟨hcs, _⟩ | ⟨x, l, c, zs, hcs, _, hl, hm, hz, _, hcell, hwz⟩
  · simp [Value.cells] at hcs
    obtain ⟨rfl, rfl, rfl⟩ := hcs
    exact ⟨[], none, 0, rfl, Nat.le_refl _, Nat.zero_le _, fun i hi => by simp at hi⟩
  · simp [Value.cells] at hcs
    obtain ⟨rfl, rfl, rfl⟩ := hcs
    have hzc : zs.length = cap := by simpa using hz
    have hzl : (zs.take len).length = len := by rw [List.length_take]; omega
    refine ⟨zs.take len, some x, cap, by rw [hzl], by rw [hzl]; exact hl, hm, fun i hi => ?_⟩
    rw [hzl] at hi
    obtain ⟨b, o, rfl, hc⟩ := addr_at (w := w) (n := cap) (f := fun j => .int .i64 (zs.getD j 0)) (fun j hj => hcell j (by omega)) (by omega)
    refine ⟨b, o, rfl, (hc i (by omega)).trans ?_⟩
    congr 2
    rw [getD_lt (show i < zs.length by omega), getD_lt (show i < (zs.take len).length by omega)]
    simp
end Go.Proofs.Ytaalnjinocicgaa
