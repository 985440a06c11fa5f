/- The walks of further statements on pinning, out of contracts of the program. -/
import Derived.Test.YticnfekjbknomaaLT2
import Derived.Test.YticnfekjbknomaaMg5
namespace Go.Proofs.Yticnfekjbknomaa
open Go.ChangeShapes Go.WideShapes Go.ChangeAt Go.RowKit
set_option linter.unusedVariables false

set_option maxRecDepth 100000 in
set_option maxHeartbeats 4000000 in
theorem unpin_walk (hU : ITU) (hN : ITN) (W : World) (a : Option Addr) (len cap : Nat) (zs : List Int) (hr : Row .u8 W a len cap zs) :
    Calls Try.prog 13 #[.slice a len cap] W fun e w' => e = .returned (.bool true) ∧ Below W.heap.size W w' := by
  have HU := Lib.hid hU
  have HN := Lib.hid hN
  clear hU hN
  have hm := row_len hr
  by_cases hL : 1048576 < len
  · have hL1 : (1048576 : Int) < (len : Int) := by omega
    clear hr
    go_enter Try.func13, Try.ntmps13
    go_wp2_with fail
    go_ret
    exact ⟨rfl, Below.refl _ _⟩
  have hL1 : decide ((1048576 : Int) < (len : Int)) = false := by simp; omega
  have hL2 : decide (1048576 < len) = false := by simp; omega
  go_enter Try.func13, Try.ntmps13
  go_wp2_with fail
  refine (drawTableUnpin_any W a len cap zs hr).mono ?_
  clear hr
  rintro e w1 ⟨vm, vl, xss, ys, f, hf, rfl, hd⟩
  have A1 := Lib.hid (Arg5.two hd)
  have HSY := Lib.hid (shI_short hd.sh)
  have HSM := Lib.hid hd.small
  have HYL := Lib.hid hd.len
  have HF := Lib.hid hf
  clear hf hd hL hm
  have HC : Hid (∀ w, Arg5 W vm vl (.slice none 0 0) xss ys [] w → Calls Try.prog 41 #[vm, vl, .int .i64 f] w (NewVN (tunp xss ys f).1 (tunp xss ys f).2 w)) := Lib.hid (fun w h => HU.out w vm vl xss ys f h.m h.i HSY.out)
  have HS : Hid (∀ w, Arg5 W vm vl (.slice none 0 0) xss ys [] w → Calls Try.prog 43 #[vm, vl, .int .i64 f] w (NewVN (tunp xss ys f).1 (tunp xss ys f).2 w)) := Lib.hid (fun w h => sTableUnpin_any w vm vl xss ys f h.m h.i HSY.out)
  obtain ⟨us, hus⟩ : ∃ us, us = (tunp xss ys f).1 := ⟨_, rfl⟩
  obtain ⟨cn, hcn⟩ : ∃ cn, cn = (tunp xss ys f).2 := ⟨_, rfl⟩
  rw [← hus, ← hcn] at HC HS
  have HUS := Lib.hid hus
  have HCN := Lib.hid hcn
  have HUH : Hid (ShortI us) := Lib.hid (fun y hy => by
    rw [hus] at hy
    obtain ⟨z, hz, e⟩ := tunp_guard hy
    rw [← e]; exact HSY.out z hz)
  have hnn := neI cn
  have hne := beqI cn
  clear hus hcn
  go_wp2_with fail
  refine (HC.out w1 A1.out).mono ?_
  rintro e w2 ⟨p2, rfl, hr2, hb2⟩
  have A2 := Lib.hid (A1.out.go hb2)
  have U2 := Lib.hid hr2.is
  clear hb2 hr2 A1
  go_wp2_with fail
  refine (HS.out w2 A2.out).mono ?_
  rintro e w3 ⟨p3, rfl, hr3, hb3⟩
  have A3 := Lib.hid (A2.out.go hb3)
  have U3 := Lib.hid (U2.out.below hb3)
  have V3 := Lib.hid hr3.is
  clear hb3 hr3 A2 U2 HC HS
  by_cases h3 : cn = 3
  · subst h3
    clear hnn hne
    go_wp2_with fail
    refine (sameI w3 p2 p3 us U3.out V3.out).mono ?_
    rintro e w4 ⟨rfl, hbw4⟩
    have A4 := Lib.hid (A3.out.go hbw4)
    have U4 := Lib.hid (U3.out.below hbw4)
    have V4 := Lib.hid (V3.out.below hbw4)
    clear hbw4 A3 U3 V3
    go_wp2_with fail
    refine (sameI w4 p2 p3 us U4.out V4.out).mono ?_
    rintro e w5 ⟨rfl, hbw5⟩
    have A5 := Lib.hid (A4.out.go hbw5)
    have U5 := Lib.hid (U4.out.below hbw5)
    have V5 := Lib.hid (V4.out.below hbw5)
    clear hbw5 A4 U4 V4
    go_wp2_with fail
    go_ret
    exact ⟨rfl, A5.out.b⟩
  · have h3' : (cn == 3) = false := by simpa using h3
    have hq := tunp_facts (xss := xss) (ys := ys) (f := f) (by rw [← HCN.out]; exact h3)
    have HARG := Lib.hid (tunp_args (xss := xss) (ys := ys) (f := f) (by rw [← HCN.out]; exact h3))
    rw [← HCN.out, ← HUS.out] at hq
    obtain ⟨hm, hf, hi⟩ := targ_iff.1 HARG.out
    have hl12 := isok_len hi
    obtain ⟨j, rfl⟩ : ∃ j : Nat, f = (j : Int) := ⟨f.toNat, by omega⟩
    have hj12 : j < 12 := by omega
    have hj0 : (0 : Int) ≤ (j : Int) := by omega
    have hjn : (j : Int) < 12 := by omega
    have HL12 := Lib.hid hl12
    rw [Int.toNat_natCast] at hq
    have hkb : 0 ≤ (ys.getD j iz).k ∧ (ys.getD j iz).k ≤ 3 := by
      have h1 := isok_at hi (show j < ys.length by omega)
      by_cases h0 : (ys.getD j iz).k = 0
      · omega
      · have := (iok_used h1 h0).1; omega
    obtain ⟨y, hy⟩ : ∃ y, y = ys.getD j iz := ⟨_, rfl⟩
    rw [← hy] at hq hkb
    have HY := Lib.hid hy
    have HNK : Hid (∀ w, Calls Try.prog 21 #[.int .i64 y.k] w (NRes (tneeds y.k) w)) := Lib.hid (fun w => HN.out w y.k (by omega) (by omega))
    have HT0 : Hid ((tneeds y.k == 0) = !isTab y.k) := Lib.hid (by
      unfold tneeds
      by_cases ht : isTab y.k = true
      · have := isTab_iff.1 ht
        rw [if_pos ht, ht]
        show (y.k - 1 == 0) = false
        simp; omega
      · rw [if_neg ht, Bool.eq_false_iff.2 ht]; rfl)
    have HQ : Hid ((cn == 1) = (!isTab y.k || decide (0 < y.r))) := Lib.hid (by rw [← hq.1, Bool.eq_iff_iff]; simp)
    have HQ2 := Lib.hid hq.2.1
    have HQ3 := Lib.hid hq.2.2
    obtain ⟨bt, hbt⟩ : ∃ bt, bt = isTab y.k := ⟨_, rfl⟩
    obtain ⟨tn, htn⟩ : ∃ tn, tn = tneeds y.k := ⟨_, rfl⟩
    rw [← hbt] at HT0 HQ
    rw [← htn] at HNK HT0
    clear hq hy hm hf hi hl12 h3 hbt htn hkb
    go_wp2_with fail
    refine (sameI w3 p2 p3 us U3.out V3.out).mono ?_
    rintro e w4 ⟨rfl, hbw4⟩
    have A4 := Lib.hid (A3.out.go hbw4)
    have U4 := Lib.hid (U3.out.below hbw4)
    have V4 := Lib.hid (V3.out.below hbw4)
    clear hbw4 A3 U3 V3
    have HNK4 := Lib.hid (HNK.out w4)
    have HTRI : Hid (∀ w, Arg5 W vm vl (.slice none 0 0) xss ys [] w → ∃ bl ol cl, vl = .slice (some ⟨bl, ol, none⟩) 12 cl ∧ 12 ≤ cl ∧ cl ≤ 9223372036854775807 ∧ Tri w bl (ol + j * 3) y) := Lib.hid (fun w h => by
      obtain ⟨al, cl, hvl, l1, l2, l3⟩ := h.i
      unfold maxLen at l2
      obtain ⟨bl, ol, hal, htri⟩ := l3 j (by have := HL12.out; omega)
      subst hal
      rw [HL12.out] at hvl l1
      rw [← HY.out] at htri
      exact ⟨bl, ol, cl, hvl, l1, by omega, htri⟩)
    obtain ⟨bl, ol, cl, hvl, l1, l2, htri⟩ := HTRI.out w4 A4.out
    subst hvl
    have HTR := Lib.hid htri
    obtain ⟨c0, c1, c2⟩ := htri
    clear c1 c2
    go_wp2_with fail
    refine HNK4.out.mono ?_
    rintro e w5 ⟨rfl, hb5⟩
    have A5 := Lib.hid (A4.out.go hb5)
    have U5 := Lib.hid (U4.out.below hb5)
    obtain ⟨c0, c1, c2⟩ := HTR.out.below hb5 HTR.out.lt
    clear hb5 A4 U4 V4 HNK4 c0 c1 HTR
    have e1 := HT0.out
    have e2 := HQ.out
    by_cases h0 : cn = 0
    · obtain ⟨hu1, hu2⟩ := HQ3.out h0
      subst h0
      have HU1 := Lib.hid hu1
      obtain ⟨au, cu, hpu, k1, k2, k3⟩ := U5.out
      have hul : us.length = 12 := by rw [hu2]; exact HL12.out
      obtain ⟨bu, ou, hau, htu⟩ := k3 j (by omega)
      subst hau
      rw [hul] at hpu k1
      subst hpu
      unfold maxLen at k2
      obtain ⟨d0, d1, d2⟩ := htu
      rw [HU1.out] at d0
      clear hu1 hu2 hul k3 d1 d2 hnn hne h3'
      cases bt with
      | false =>
        have e2' : ((0 : Int) == 1) = (!false || decide (0 < y.r)) := e2
        simp at e2'
      | true =>
        by_cases hr : 0 < y.r
        · rw [decide_eq_true hr] at e2
          simp at e2
        · have hr' : decide (0 < y.r) = false := decide_eq_false hr
          clear hr e2
          go_wp2_with fail
          go_ret
          exact ⟨rfl, A5.out.b⟩
    · have h0' : (cn == 0) = false := by simpa using h0
      have h0'' : (cn != 0) = true := by simpa using h0
      have hus := HQ2.out h0
      subst hus
      clear h0
      cases bt with
      | false =>
        have e2' : (cn == 1) = true := by rw [e2]; rfl
        have e1' : (tn == 0) = true := by rw [e1]; rfl
        clear e1 e2
        go_wp2_with fail
        refine (sameI w5 p2 _ us U5.out A5.out.i).mono ?_
        rintro e w6 ⟨rfl, hbw6⟩
        have A6 := Lib.hid (A5.out.go hbw6)
        clear hbw6 A5
        go_wp2_with fail
        go_ret
        exact ⟨rfl, A6.out.b⟩
      | true =>
        have e1' : (tn == 0) = false := by rw [e1]; rfl
        by_cases hr : 0 < y.r
        · have e2' : (cn == 1) = true := by rw [e2, decide_eq_true hr]; rfl
          clear e1 e2
          go_wp2_with fail
          refine (sameI w5 p2 _ us U5.out A5.out.i).mono ?_
          rintro e w6 ⟨rfl, hbw6⟩
          have A6 := Lib.hid (A5.out.go hbw6)
          clear hbw6 A5
          go_wp2_with fail
          go_ret
          exact ⟨rfl, A6.out.b⟩
        · have e2' : (cn == 1) = false := by rw [e2, decide_eq_false hr]; rfl
          have hr' : decide (0 < y.r) = false := decide_eq_false hr
          clear e1 e2 hr
          go_wp2_with fail
          refine (sameI w5 p2 _ us U5.out A5.out.i).mono ?_
          rintro e w6 ⟨rfl, hbw6⟩
          have A6 := Lib.hid (A5.out.go hbw6)
          clear hbw6 A5
          go_wp2_with fail
          go_ret
          exact ⟨rfl, A6.out.b⟩
end Go.Proofs.Yticnfekjbknomaa
