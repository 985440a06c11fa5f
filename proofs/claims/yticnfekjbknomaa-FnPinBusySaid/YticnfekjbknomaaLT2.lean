/- The walks of the statements on pinning, out of contracts of the program. -/
import Derived.Test.YticnfekjbknomaaLT
import Derived.Test.YticnfekjbknomaaMg5
import Derived.Test.YticnfekjbknomaaMg9
namespace Go.Proofs.Yticnfekjbknomaa
open Go.ChangeShapes Go.WideShapes Go.ChangeAt Go.RowKit
set_option linter.unusedVariables false

set_option maxRecDepth 100000 in
set_option maxHeartbeats 4000000 in
theorem pinBack_walk (hP : ITP) (hU : ITU) (W : World) (a : Option Addr) (len cap : Nat) (zs : List Int) (hr : Row .u8 W a len cap zs) :
    Calls Try.prog 12 #[.slice a len cap] W fun e w' => e = .returned (.bool true) ∧ Below W.heap.size W w' := by
  have HP := Lib.hid hP
  have HU := Lib.hid hU
  clear hP hU
  have hm := row_len hr
  by_cases hL : 1048576 < len
  · have hL1 : (1048576 : Int) < (len : Int) := by omega
    clear hr
    go_enter Try.func12, Try.ntmps12
    go_wp2_with fail
    go_ret
    exact ⟨rfl, Below.refl _ _⟩
  have hL1 : decide ((1048576 : Int) < (len : Int)) = false := by simp; omega
  have hL2 : decide (1048576 < len) = false := by simp; omega
  go_enter Try.func12, Try.ntmps12
  go_wp2_with fail
  refine (drawTablePin_any W a len cap zs hr).mono ?_
  clear hr
  rintro e w1 ⟨vm, vl, xss, ys, f, k, vr, rs, hf, hkd, rfl, hd, hst, hr8, hsp⟩
  have A1 := Lib.hid (Arg5.of hd hst)
  have HSY := Lib.hid (shI_short hd.sh)
  have HSR := Lib.hid (shortP_short hsp)
  have HSM := Lib.hid hd.small
  have HYL := Lib.hid hd.len
  have HF := Lib.hid hf
  have HKD := Lib.hid hkd
  clear hf hkd hd hst hr8 hsp hL hm
  have HC : Hid (∀ w, Arg5 W vm vl vr xss ys rs w → Calls Try.prog 37 #[vm, vl, .int .i64 f, .int .i64 k, vr] w (NewVN (tpin xss ys f k rs).1 (tpin xss ys f k rs).2 w)) := Lib.hid (fun w h => HP.out w vm vl vr xss ys rs f k h.m h.i HSY.out h.s HSR.out)
  have HS : Hid (∀ w, Arg5 W vm vl vr xss ys rs w → Calls Try.prog 38 #[vm, vl, .int .i64 f, .int .i64 k, vr] w (NewVN (tpin xss ys f k rs).1 (tpin xss ys f k rs).2 w)) := Lib.hid (fun w h => sTablePin_any w vm vl vr xss ys rs f k h.m h.i HSY.out h.s HSR.out)
  obtain ⟨us, hus⟩ : ∃ us, us = (tpin xss ys f k rs).1 := ⟨_, rfl⟩
  obtain ⟨cn, hcn⟩ : ∃ cn, cn = (tpin xss ys f k rs).2 := ⟨_, rfl⟩
  rw [← hus, ← hcn] at HC HS
  have HUS := Lib.hid hus
  have HCN := Lib.hid hcn
  have HUH : Hid (ShortI us) := Lib.hid (fun y hy => by
    rw [hus] at hy
    obtain ⟨z, hz, e⟩ := tpin_guard hy
    rw [← e]; exact HSY.out z hz)
  have hnn := neI cn
  have hne := beqI cn
  clear hus hcn
  go_wp2_with fail
  refine (HC.out w1 A1.out).mono ?_
  rintro e w2 ⟨p2, rfl, hr2, hb2⟩
  have A2 := Lib.hid (A1.out.go hb2)
  have U2 := Lib.hid hr2.is
  clear hb2 hr2 A1
  go_wp2_with fail
  refine (HS.out w2 A2.out).mono ?_
  rintro e w3 ⟨p3, rfl, hr3, hb3⟩
  have A3 := Lib.hid (A2.out.go hb3)
  have U3 := Lib.hid (U2.out.below hb3)
  have V3 := Lib.hid hr3.is
  clear hb3 hr3 A2 U2 HC HS
  by_cases h0 : cn = 0
  · have HB := Lib.hid (pin_back (xss := xss) (ys := ys) (f := f) (k := k) (rs := rs) (by rw [← HCN.out]; exact h0))
    rw [← HUS.out] at HB
    have HUU : Hid (∀ w, Arg5 W vm vl vr xss ys rs w → Is w p2 us → Calls Try.prog 41 #[vm, p2, .int .i64 f] w (NewVN ys 0 w)) := Lib.hid (fun w h hu => by have := HU.out w vm p2 xss us f h.m hu HUH.out; rwa [HB.out] at this)
    subst h0
    clear hnn hne HB
    go_wp2_with fail
    refine (sameI w3 p2 p3 us U3.out V3.out).mono ?_
    rintro e w4 ⟨rfl, hbw4⟩
    have A4 := Lib.hid (A3.out.go hbw4)
    have U4 := Lib.hid (U3.out.below hbw4)
    have V4 := Lib.hid (V3.out.below hbw4)
    clear hbw4 A3 U3 V3
    go_wp2_with fail
    refine (HUU.out w4 A4.out U4.out).mono ?_
    rintro e w5 ⟨p5, rfl, hr5, hb5⟩
    have A5 := Lib.hid (A4.out.go hb5)
    have U5 := Lib.hid hr5.is
    clear hb5 hr5 A4 U4 V4
    go_wp2_with fail
    refine (sameI w5 p5 vl ys U5.out A5.out.i).mono ?_
    rintro e w6 ⟨rfl, hbw6⟩
    have A6 := Lib.hid (A5.out.go hbw6)
    clear hbw6 A5
    go_wp2_with fail
    go_ret
    exact ⟨rfl, A6.out.b⟩
  · have h0' : (cn == 0) = false := by simpa using h0
    have h0'' : (cn != 0) = true := by simpa using h0
    clear h0
    go_wp2_with fail
    refine (sameI w3 p2 p3 us U3.out V3.out).mono ?_
    rintro e w4 ⟨rfl, hbw4⟩
    have A4 := Lib.hid (A3.out.go hbw4)
    have U4 := Lib.hid (U3.out.below hbw4)
    have V4 := Lib.hid (V3.out.below hbw4)
    clear hbw4 A3 U3 V3
    go_wp2_with fail
    refine (sameI w4 p2 p3 us U4.out V4.out).mono ?_
    rintro e w5 ⟨rfl, hbw5⟩
    have A5 := Lib.hid (A4.out.go hbw5)
    have U5 := Lib.hid (U4.out.below hbw5)
    have V5 := Lib.hid (V4.out.below hbw5)
    clear hbw5 A4 U4 V4
    go_wp2_with fail
    go_ret
    exact ⟨rfl, A5.out.b⟩
set_option maxRecDepth 100000 in
set_option maxHeartbeats 4000000 in
theorem pinBusy_walk (hP : ITP) (W : World) (a : Option Addr) (len cap : Nat) (zs : List Int) (hr : Row .u8 W a len cap zs) :
    Calls Try.prog 10 #[.slice a len cap] W fun e w' => e = .returned (.bool true) ∧ Below W.heap.size W w' := by
  have HP := Lib.hid hP
  clear hP
  have hm := row_len hr
  by_cases hL : 1048576 < len
  · have hL1 : (1048576 : Int) < (len : Int) := by omega
    clear hr
    go_enter Try.func10, Try.ntmps10
    go_wp2_with fail
    go_ret
    exact ⟨rfl, Below.refl _ _⟩
  have hL1 : decide ((1048576 : Int) < (len : Int)) = false := by simp; omega
  have hL2 : decide (1048576 < len) = false := by simp; omega
  go_enter Try.func10, Try.ntmps10
  go_wp2_with fail
  refine (drawTablePin_any W a len cap zs hr).mono ?_
  clear hr
  rintro e w1 ⟨vm, vl, xss, ys, f, k, vr, rs, hf, hkd, rfl, hd, hst, hr8, hsp⟩
  have A1 := Lib.hid (Arg5.of hd hst)
  have HSY := Lib.hid (shI_short hd.sh)
  have HSR := Lib.hid (shortP_short hsp)
  have HSM := Lib.hid hd.small
  have HYL := Lib.hid hd.len
  have HF := Lib.hid hf
  have HKD := Lib.hid hkd
  clear hf hkd hd hst hr8 hsp hL hm
  have HC : Hid (∀ w, Arg5 W vm vl vr xss ys rs w → Calls Try.prog 37 #[vm, vl, .int .i64 f, .int .i64 k, vr] w (NewVN (tpin xss ys f k rs).1 (tpin xss ys f k rs).2 w)) := Lib.hid (fun w h => HP.out w vm vl vr xss ys rs f k h.m h.i HSY.out h.s HSR.out)
  have HS : Hid (∀ w, Arg5 W vm vl vr xss ys rs w → Calls Try.prog 38 #[vm, vl, .int .i64 f, .int .i64 k, vr] w (NewVN (tpin xss ys f k rs).1 (tpin xss ys f k rs).2 w)) := Lib.hid (fun w h => sTablePin_any w vm vl vr xss ys rs f k h.m h.i HSY.out h.s HSR.out)
  obtain ⟨us, hus⟩ : ∃ us, us = (tpin xss ys f k rs).1 := ⟨_, rfl⟩
  obtain ⟨cn, hcn⟩ : ∃ cn, cn = (tpin xss ys f k rs).2 := ⟨_, rfl⟩
  rw [← hus, ← hcn] at HC HS
  have HUS := Lib.hid hus
  have HCN := Lib.hid hcn
  have HUH : Hid (ShortI us) := Lib.hid (fun y hy => by
    rw [hus] at hy
    obtain ⟨z, hz, e⟩ := tpin_guard hy
    rw [← e]; exact HSY.out z hz)
  have hnn := neI cn
  have hne := beqI cn
  clear hus hcn
  go_wp2_with fail
  refine (HC.out w1 A1.out).mono ?_
  rintro e w2 ⟨p2, rfl, hr2, hb2⟩
  have A2 := Lib.hid (A1.out.go hb2)
  have U2 := Lib.hid hr2.is
  clear hb2 hr2 A1
  go_wp2_with fail
  refine (HS.out w2 A2.out).mono ?_
  rintro e w3 ⟨p3, rfl, hr3, hb3⟩
  have A3 := Lib.hid (A2.out.go hb3)
  have U3 := Lib.hid (U2.out.below hb3)
  have V3 := Lib.hid hr3.is
  clear hb3 hr3 A2 U2 HC HS
  by_cases h3 : cn = 3
  · subst h3
    clear hnn hne
    go_wp2_with fail
    refine (sameI w3 p2 p3 us U3.out V3.out).mono ?_
    rintro e w4 ⟨rfl, hbw4⟩
    have A4 := Lib.hid (A3.out.go hbw4)
    have U4 := Lib.hid (U3.out.below hbw4)
    have V4 := Lib.hid (V3.out.below hbw4)
    clear hbw4 A3 U3 V3
    go_wp2_with fail
    refine (sameI w4 p2 p3 us U4.out V4.out).mono ?_
    rintro e w5 ⟨rfl, hbw5⟩
    have A5 := Lib.hid (A4.out.go hbw5)
    have U5 := Lib.hid (U4.out.below hbw5)
    have V5 := Lib.hid (V4.out.below hbw5)
    clear hbw5 A4 U4 V4
    go_wp2_with fail
    go_ret
    exact ⟨rfl, A5.out.b⟩
  · have h3' : (cn == 3) = false := by simpa using h3
    have hq := tpin_busy (xss := xss) (ys := ys) (f := f) (k := k) (rs := rs) (by rw [← HCN.out]; exact h3)
    have HARG := Lib.hid (tpin_args (xss := xss) (ys := ys) (f := f) (k := k) (rs := rs) (by rw [← HCN.out]; exact h3)).1
    rw [← HCN.out, ← HUS.out] at hq
    obtain ⟨hm, hf, hi⟩ := targ_iff.1 HARG.out
    have hl12 := isok_len hi
    obtain ⟨j, rfl⟩ : ∃ j : Nat, f = (j : Int) := ⟨f.toNat, by omega⟩
    have hj12 : j < 12 := by omega
    have hj0 : (0 : Int) ≤ (j : Int) := by omega
    have hjn : (j : Int) < 12 := by omega
    have HL12 := Lib.hid hl12
    rw [Int.toNat_natCast] at hq
    obtain ⟨y, hy⟩ : ∃ y, y = ys.getD j iz := ⟨_, rfl⟩
    rw [← hy] at hq
    have HY := Lib.hid hy
    have HQ := Lib.hid hq
    clear hq hy hm hf hi hl12 h3
    go_wp2_with fail
    refine (sameI w3 p2 p3 us U3.out V3.out).mono ?_
    rintro e w4 ⟨rfl, hbw4⟩
    have A4 := Lib.hid (A3.out.go hbw4)
    have U4 := Lib.hid (U3.out.below hbw4)
    have V4 := Lib.hid (V3.out.below hbw4)
    clear hbw4 A3 U3 V3
    obtain ⟨al, cl, hvl, l1, l2, l3⟩ := A4.out.i
    unfold maxLen at l2
    obtain ⟨bl, ol, hal, htri⟩ := l3 j (by have := HL12.out; omega)
    subst hal
    rw [HL12.out] at hvl l1
    subst hvl
    rw [← HY.out] at htri
    obtain ⟨c0, c1, c2⟩ := htri
    clear l3 c1
    by_cases hk : y.k = 1
    · have hk' : (y.k != 1) = false := by simpa using hk
      by_cases hr : y.r ≤ 0
      · have hr' : ¬ (0 : Int) < y.r := by omega
        by_cases h0 : cn = 0
        · have h0' : (cn == 0) = true := by simpa using h0
          clear hk hr h0
          go_wp2_with fail
          go_ret
          exact ⟨rfl, A4.out.b⟩
        · have h0' : (cn == 0) = false := by simpa using h0
          have hus := HQ.out.2 h0
          subst hus
          clear hk hr h0
          go_wp2_with fail
          refine (sameI w4 p2 _ us U4.out A4.out.i).mono ?_
          rintro e w5 ⟨rfl, hbw5⟩
          have A5 := Lib.hid (A4.out.go hbw5)
          clear hbw5 A4
          go_wp2_with fail
          go_ret
          exact ⟨rfl, A5.out.b⟩
      · have hr' : (0 : Int) < y.r := by omega
        have hc1 := HQ.out.1 (fun h => hr h.2)
        have hus := HQ.out.2 (by omega)
        subst hus
        subst hc1
        clear hk hr
        go_wp2_with fail
        refine (sameI w4 p2 _ us U4.out A4.out.i).mono ?_
        rintro e w5 ⟨rfl, hbw5⟩
        have A5 := Lib.hid (A4.out.go hbw5)
        clear hbw5 A4
        go_wp2_with fail
        go_ret
        exact ⟨rfl, A5.out.b⟩
    · have hk' : (y.k != 1) = true := by simpa using hk
      have hc1 := HQ.out.1 (fun h => hk h.1)
      have hus := HQ.out.2 (by omega)
      subst hus
      subst hc1
      clear hk
      go_wp2_with fail
      refine (sameI w4 p2 _ us U4.out A4.out.i).mono ?_
      rintro e w5 ⟨rfl, hbw5⟩
      have A5 := Lib.hid (A4.out.go hbw5)
      clear hbw5 A4
      go_wp2_with fail
      go_ret
      exact ⟨rfl, A5.out.b⟩
set_option maxRecDepth 100000 in
set_option maxHeartbeats 4000000 in
theorem pinBad_walk (hP : ITP) (hO : ITO) (W : World) (a : Option Addr) (len cap : Nat) (zs : List Int) (hr : Row .u8 W a len cap zs) :
    Calls Try.prog 11 #[.slice a len cap] W fun e w' => e = .returned (.bool true) ∧ Below W.heap.size W w' := by
  have HP := Lib.hid hP
  have HO := Lib.hid hO
  clear hP hO
  have hm := row_len hr
  by_cases hL : 1048576 < len
  · have hL1 : (1048576 : Int) < (len : Int) := by omega
    clear hr
    go_enter Try.func11, Try.ntmps11
    go_wp2_with fail
    go_ret
    exact ⟨rfl, Below.refl _ _⟩
  have hL1 : decide ((1048576 : Int) < (len : Int)) = false := by simp; omega
  have hL2 : decide (1048576 < len) = false := by simp; omega
  go_enter Try.func11, Try.ntmps11
  go_wp2_with fail
  refine (drawTablePin_any W a len cap zs hr).mono ?_
  clear hr
  rintro e w1 ⟨vm, vl, xss, ys, f, k, vr, rs, hf, hkd, rfl, hd, hst, hr8, hsp⟩
  have A1 := Lib.hid (Arg5.of hd hst)
  have HSY := Lib.hid (shI_short hd.sh)
  have HSR := Lib.hid (shortP_short hsp)
  have HSM := Lib.hid hd.small
  have HYL := Lib.hid hd.len
  have HF := Lib.hid hf
  have HKD := Lib.hid hkd
  clear hf hkd hd hst hr8 hsp hL hm
  have HC : Hid (∀ w, Arg5 W vm vl vr xss ys rs w → Calls Try.prog 37 #[vm, vl, .int .i64 f, .int .i64 k, vr] w (NewVN (tpin xss ys f k rs).1 (tpin xss ys f k rs).2 w)) := Lib.hid (fun w h => HP.out w vm vl vr xss ys rs f k h.m h.i HSY.out h.s HSR.out)
  have HS : Hid (∀ w, Arg5 W vm vl vr xss ys rs w → Calls Try.prog 38 #[vm, vl, .int .i64 f, .int .i64 k, vr] w (NewVN (tpin xss ys f k rs).1 (tpin xss ys f k rs).2 w)) := Lib.hid (fun w h => sTablePin_any w vm vl vr xss ys rs f k h.m h.i HSY.out h.s HSR.out)
  obtain ⟨us, hus⟩ : ∃ us, us = (tpin xss ys f k rs).1 := ⟨_, rfl⟩
  obtain ⟨cn, hcn⟩ : ∃ cn, cn = (tpin xss ys f k rs).2 := ⟨_, rfl⟩
  rw [← hus, ← hcn] at HC HS
  have HUS := Lib.hid hus
  have HCN := Lib.hid hcn
  have HUH : Hid (ShortI us) := Lib.hid (fun y hy => by
    rw [hus] at hy
    obtain ⟨z, hz, e⟩ := tpin_guard hy
    rw [← e]; exact HSY.out z hz)
  have hnn := neI cn
  have hne := beqI cn
  clear hus hcn
  go_wp2_with fail
  refine (HC.out w1 A1.out).mono ?_
  rintro e w2 ⟨p2, rfl, hr2, hb2⟩
  have A2 := Lib.hid (A1.out.go hb2)
  have U2 := Lib.hid hr2.is
  clear hb2 hr2 A1
  go_wp2_with fail
  refine (HS.out w2 A2.out).mono ?_
  rintro e w3 ⟨p3, rfl, hr3, hb3⟩
  have A3 := Lib.hid (A2.out.go hb3)
  have U3 := Lib.hid (U2.out.below hb3)
  have V3 := Lib.hid hr3.is
  clear hb3 hr3 A2 U2 HC HS
  by_cases h3 : cn = 3
  · subst h3
    clear hnn hne
    go_wp2_with fail
    refine (sameI w3 p2 p3 us U3.out V3.out).mono ?_
    rintro e w4 ⟨rfl, hbw4⟩
    have A4 := Lib.hid (A3.out.go hbw4)
    have U4 := Lib.hid (U3.out.below hbw4)
    have V4 := Lib.hid (V3.out.below hbw4)
    clear hbw4 A3 U3 V3
    go_wp2_with fail
    refine (sameI w4 p2 p3 us U4.out V4.out).mono ?_
    rintro e w5 ⟨rfl, hbw5⟩
    have A5 := Lib.hid (A4.out.go hbw5)
    have U5 := Lib.hid (U4.out.below hbw5)
    have V5 := Lib.hid (V4.out.below hbw5)
    clear hbw5 A4 U4 V4
    go_wp2_with fail
    go_ret
    exact ⟨rfl, A5.out.b⟩
  · have h3' : (cn == 3) = false := by simpa using h3
    have hq := tpin_bad (xss := xss) (ys := ys) (f := f) (k := k) (rs := rs) (by rw [← HCN.out]; exact h3)
    have HARG := Lib.hid (tpin_args (xss := xss) (ys := ys) (f := f) (k := k) (rs := rs) (by rw [← HCN.out]; exact h3)).1
    rw [← HCN.out] at hq
    have HOK : Hid (∀ w, Arg5 W vm vl vr xss ys rs w → Calls Try.prog 24 #[vm, vl, .int .i64 f, .int .i64 k, vr] w (BRes (tok8 xss ys f k rs) w)) := Lib.hid (fun w h => HO.out w vm vl vr xss ys rs f k h.m h.i HSY.out h.s HSR.out)
    obtain ⟨tk, htk⟩ : ∃ tk, tk = tok8 xss ys f k rs := ⟨_, rfl⟩
    rw [← htk] at hq HOK
    clear htk
    obtain ⟨hm, hf, hi⟩ := targ_iff.1 HARG.out
    have hl12 := isok_len hi
    obtain ⟨j, rfl⟩ : ∃ j : Nat, f = (j : Int) := ⟨f.toNat, by omega⟩
    have hj12 : j < 12 := by omega
    have hj0 : (0 : Int) ≤ (j : Int) := by omega
    have hjn : (j : Int) < 12 := by omega
    have HL12 := Lib.hid hl12
    rw [Int.toNat_natCast] at hq
    obtain ⟨y, hy⟩ : ∃ y, y = ys.getD j iz := ⟨_, rfl⟩
    rw [← hy] at hq
    have HY := Lib.hid hy
    have HQ : Hid ((cn == 2) = (decide (y.k = 1) && (decide (y.r = 0) && !tk))) := Lib.hid (by rw [← hq, Bool.eq_iff_iff]; simp)
    clear hq hy hm hf hi hl12 h3
    go_wp2_with fail
    refine (sameI w3 p2 p3 us U3.out V3.out).mono ?_
    rintro e w4 ⟨rfl, hbw4⟩
    have A4 := Lib.hid (A3.out.go hbw4)
    have U4 := Lib.hid (U3.out.below hbw4)
    have V4 := Lib.hid (V3.out.below hbw4)
    clear hbw4 A3 U3 V3
    have HOK4 := Lib.hid (HOK.out w4 A4.out)
    obtain ⟨al, cl, hvl, l1, l2, l3⟩ := A4.out.i
    unfold maxLen at l2
    obtain ⟨bl, ol, hal, htri⟩ := l3 j (by have := HL12.out; omega)
    subst hal
    rw [HL12.out] at hvl l1
    subst hvl
    rw [← HY.out] at htri
    obtain ⟨c0, c1, c2⟩ := htri
    clear l3 c1
    by_cases hk : y.k = 1
    · have hk' : (y.k == 1) = true := by simpa using hk
      by_cases hr : y.r = 0
      · have hr' : (y.r == 0) = true := by simpa using hr
        have hcn : (cn == 2) = !tk := by rw [HQ.out, decide_eq_true hk, decide_eq_true hr]; simp
        clear hk hr
        go_wp2_with fail
        refine HOK4.out.mono ?_
        rintro e w5 ⟨rfl, hb5⟩
        have A5 := Lib.hid (A4.out.go hb5)
        clear hb5 HOK4
        cases tk with
        | false =>
          go_wp2_with fail
          go_ret
          exact ⟨rfl, A5.out.b⟩
        | true =>
          go_wp2_with fail
          go_ret
          exact ⟨rfl, A5.out.b⟩
      · have hr' : (y.r == 0) = false := by simpa using hr
        have hcn : (cn == 2) = false := by rw [HQ.out, decide_eq_false hr]; simp
        clear hk hr
        go_wp2_with fail
        go_ret
        exact ⟨rfl, A4.out.b⟩
    · have hk' : (y.k == 1) = false := by simpa using hk
      have hcn : (cn == 2) = false := by rw [HQ.out, decide_eq_false hk]; simp
      clear hk
      go_wp2_with fail
      go_ret
      exact ⟨rfl, A4.out.b⟩
end Go.Proofs.Yticnfekjbknomaa
