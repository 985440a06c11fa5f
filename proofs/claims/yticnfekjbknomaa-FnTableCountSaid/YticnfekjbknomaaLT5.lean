/- The walk of the statement that pinning adds to the uses what it adds to the counts, out of contracts of the program. -/
import Derived.Test.YticnfekjbknomaaLT4
import Derived.Test.YticnfekjbknomaaMg5
namespace Go.Proofs.Yticnfekjbknomaa
open Go.ChangeShapes Go.WideShapes Go.ChangeAt Go.RowKit
set_option linter.unusedVariables false

theorem iok_refsL {y : IV} (h : iok y = true) : 0 ≤ y.r ∧ y.r ≤ 50 := by
  by_cases hk : y.k = 0
  · rw [iok_free h hk]; exact ⟨by decide, by decide⟩
  · exact (iok_used h hk).2.2
theorem Ints.cellAt {w : World} {b o n c : Nat} {xs : List Int} (h : Ints w (.slice (some ⟨b, o, none⟩) n c) xs) {t : Nat} (ht : t < xs.length) : w.cell? ⟨b, o + t, none⟩ = some (.int .i64 (xs.getD t 0)) := by
  obtain ⟨a, cap, e, h1, h2, h3⟩ := h
  injection e with e1
  obtain ⟨b', o', e', h⟩ := h3 t ht
  rw [← e1] at e'
  cases e'
  exact h
set_option maxRecDepth 100000 in
set_option maxHeartbeats 4000000 in
theorem pin_walk (hP : ITP) (hC : ITC) (hO : ITO) (hV : IIV) (W : World) (a : Option Addr) (len cap : Nat) (zs : List Int) (hr : Row .u8 W a len cap zs) :
    Calls Try.prog 8 #[.slice a len cap] W fun e w' => e = .returned (.bool true) ∧ Below W.heap.size W w' := by
  have HP := Lib.hid hP
  have HTC := Lib.hid hC
  have HO := Lib.hid hO
  have HIV := Lib.hid hV
  clear hP hC hO hV
  have hm := row_len hr
  by_cases hL : 1048576 < len
  · have hL1 : (1048576 : Int) < (len : Int) := by omega
    clear hr
    go_enter Try.func8, Try.ntmps8
    go_wp2_with fail
    go_ret
    exact ⟨rfl, Below.refl _ _⟩
  have hL1 : decide ((1048576 : Int) < (len : Int)) = false := by simp; omega
  have hL2 : decide (1048576 < len) = false := by simp; omega
  go_enter Try.func8, Try.ntmps8
  go_wp2_with fail
  refine (drawTablePin_any W a len cap zs hr).mono ?_
  clear hr
  rintro e w1 ⟨vm, vl, xss, ys, f, k, vr, rs, hf, hkd, rfl, hd, hst, hr8, hsp⟩
  have A1 := Lib.hid (Arg5.of hd hst)
  have HSY := Lib.hid (shI_short hd.sh)
  have HSR := Lib.hid (shortP_short hsp)
  have HSM := Lib.hid hd.small
  have HYL := Lib.hid hd.len
  have HF := Lib.hid hf
  have HKD := Lib.hid hkd
  clear hf hkd hd hst hr8 hsp hL hm
  have HC : Hid (∀ w, Arg5 W vm vl vr xss ys rs w → Calls Try.prog 37 #[vm, vl, .int .i64 f, .int .i64 k, vr] w (NewVN (tpin xss ys f k rs).1 (tpin xss ys f k rs).2 w)) := Lib.hid (fun w h => HP.out w vm vl vr xss ys rs f k h.m h.i HSY.out h.s HSR.out)
  have HS : Hid (∀ w, Arg5 W vm vl vr xss ys rs w → Calls Try.prog 38 #[vm, vl, .int .i64 f, .int .i64 k, vr] w (NewVN (tpin xss ys f k rs).1 (tpin xss ys f k rs).2 w)) := Lib.hid (fun w h => sTablePin_any w vm vl vr xss ys rs f k h.m h.i HSY.out h.s HSR.out)
  obtain ⟨us, hus⟩ : ∃ us, us = (tpin xss ys f k rs).1 := ⟨_, rfl⟩
  obtain ⟨cn, hcn⟩ : ∃ cn, cn = (tpin xss ys f k rs).2 := ⟨_, rfl⟩
  rw [← hus, ← hcn] at HC HS
  have HUS := Lib.hid hus
  have HCN := Lib.hid hcn
  have HUH : Hid (ShortI us) := Lib.hid (fun y hy => by
    rw [hus] at hy
    obtain ⟨z, hz, e⟩ := tpin_guard hy
    rw [← e]; exact HSY.out z hz)
  have hnn := neI cn
  have hne := beqI cn
  clear hus hcn
  go_wp2_with fail
  refine (HC.out w1 A1.out).mono ?_
  rintro e w2 ⟨p2, rfl, hr2, hb2⟩
  have A2 := Lib.hid (A1.out.go hb2)
  have U2 := Lib.hid hr2.is
  clear hb2 hr2 A1
  go_wp2_with fail
  refine (HS.out w2 A2.out).mono ?_
  rintro e w3 ⟨p3, rfl, hr3, hb3⟩
  have A3 := Lib.hid (A2.out.go hb3)
  have U3 := Lib.hid (U2.out.below hb3)
  have V3 := Lib.hid hr3.is
  clear hb3 hr3 A2 U2 HC HS
  by_cases h0 : cn = 0
  · have hq := pin_counts (xss := xss) (ys := ys) (f := f) (k := k) (rs := rs) (by rw [← HCN.out]; exact h0)
    rw [← HUS.out] at hq
    have HGL := Lib.hid (tpin_len xss ys f k rs)
    rw [← HUS.out] at HGL
    obtain ⟨q1, q2, q3, q4, q5, q6, q7, q8⟩ := hq
    subst h0
    obtain ⟨j, rfl⟩ : ∃ j : Nat, f = (j : Int) := ⟨f.toNat, by omega⟩
    rw [Int.toNat_natCast] at q6 q7
    have hj12 : j < 12 := by omega
    have hj0 : (0 : Int) ≤ (j : Int) := by omega
    have hjn : (j : Int) < 12 := by omega
    have HYL12 := Lib.hid (isok_len q4)
    have HUL12 := Lib.hid (isok_len q1)
    have HUOK := Lib.hid q1
    have HYOK := Lib.hid q4
    have HTOK := Lib.hid q2
    have HMOK := Lib.hid q3
    have HKJ := Lib.hid q6
    have HSAME := Lib.hid q7
    have HCNT := Lib.hid q8
    clear q1 q2 q3 q4 q5 q6 q7 q8 hnn hne
    go_wp2_with fail
    refine (sameI w3 p2 p3 us U3.out V3.out).mono ?_
    rintro e w4 ⟨rfl, hbw4⟩
    have A4 := Lib.hid (A3.out.go hbw4)
    have U4 := Lib.hid (U3.out.below hbw4)
    have V4 := Lib.hid (V3.out.below hbw4)
    clear hbw4 A3 U3 V3
    have HCA : Hid (∀ w, Arg5 W vm vl vr xss ys rs w → Calls Try.prog 32 #[vm, vl] w (NewR (tcnt xss ys) w)) := Lib.hid (fun w h => HTC.out w vm vl xss ys h.m h.i HSY.out)
    have HCB : Hid (∀ w, Arg5 W vm vl vr xss ys rs w → Is w p2 us → Calls Try.prog 32 #[vm, p2] w (NewR (tcnt xss us) w)) := Lib.hid (fun w h hu => HTC.out w vm p2 xss us h.m hu HUH.out)
    have HOK : Hid (∀ w, Arg5 W vm vl vr xss ys rs w → Calls Try.prog 24 #[vm, vl, .int .i64 (j : Int), .int .i64 k, vr] w (BRes true w)) := Lib.hid (fun w h => by have := HO.out w vm vl vr xss ys rs (j : Int) k h.m h.i HSY.out h.s HSR.out; rwa [HTOK.out] at this)
    have HVW : Hid (∀ w, Is w p2 us → Calls Try.prog 40 #[p2] w (BRes true w)) := Lib.hid (fun w hu => by have := HIV.out w p2 us hu HUH.out; rwa [HUOK.out] at this)
    obtain ⟨gla, gea⟩ := tcnt_get HMOK.out HYOK.out
    obtain ⟨glb, geb⟩ := tcnt_get HMOK.out HUOK.out
    have HDIF : Hid (∀ t, t < 12 → (us.getD t iz).r - (ys.getD t iz).r = (tcnt xss us).getD t 0 - (tcnt xss ys).getD t 0) := Lib.hid (fun t ht => by rw [gea t ht, geb t ht]; exact HCNT.out t)
    have HBD : Hid (∀ t, t < 12 → (0 ≤ (us.getD t iz).r ∧ (us.getD t iz).r ≤ 50) ∧ (0 ≤ (ys.getD t iz).r ∧ (ys.getD t iz).r ≤ 50) ∧ (0 ≤ (tcnt xss us).getD t 0 ∧ (tcnt xss us).getD t 0 ≤ 48) ∧ (0 ≤ (tcnt xss ys).getD t 0 ∧ (tcnt xss ys).getD t 0 ≤ 48)) := Lib.hid (fun t ht => by
      rw [gea t ht, geb t ht]
      have h1 := cntN_le (ys := ys) HMOK.out t 12 (by omega)
      have h2 := cntN_le (ys := us) HMOK.out t 12 (by omega)
      have h3 := iok_refsL (isok_at HUOK.out (show t < us.length by have := HUL12.out; omega))
      have h4 := iok_refsL (isok_at HYOK.out (show t < ys.length by have := HYL12.out; omega))
      exact ⟨h3, h4, by omega, by omega⟩)
    obtain ⟨la, hla⟩ : ∃ la, la = tcnt xss ys := ⟨_, rfl⟩
    obtain ⟨lb, hlb⟩ : ∃ lb, lb = tcnt xss us := ⟨_, rfl⟩
    rw [← hla] at HCA HDIF HBD gla
    rw [← hlb] at HCB HDIF HBD glb
    have HLA := Lib.hid gla
    have HLB := Lib.hid glb
    clear hla hlb gla glb gea geb
    go_wp2_with fail
    refine (HCA.out w4 A4.out).mono ?_
    rintro e w5 ⟨va, rfl, hi5, hb5⟩
    have A5 := Lib.hid (A4.out.go hb5)
    have U5 := Lib.hid (U4.out.below hb5)
    have I5 := Lib.hid hi5.ints
    clear hi5 hb5 A4 U4 V4
    go_wp2_with fail
    refine (HCB.out w5 A5.out U5.out).mono ?_
    rintro e w6 ⟨vb, rfl, hi6, hb6⟩
    have A6 := Lib.hid (A5.out.go hb6)
    have U6 := Lib.hid (U5.out.below hb6)
    have I6 := Lib.hid (Ints.below (B := 0) I5.out hb6)
    have J6 := Lib.hid hi6.ints
    clear hi6 hb6 A5 U5 I5
    obtain ⟨al, cl, hvl, l1, l2, l3⟩ := A6.out.i
    obtain ⟨bl, ol, hal, -⟩ := l3 0 (by have := HYL12.out; omega)
    subst hal
    rw [HYL12.out] at hvl l1
    subst hvl
    obtain ⟨au, cu, hpu, k1, k2, k3⟩ := U6.out
    obtain ⟨bu, ou, hau, -⟩ := k3 0 (by have := HUL12.out; omega)
    subst hau
    rw [HUL12.out] at hpu k1
    subst hpu
    obtain ⟨aa, ca, hva, m1, m2, m3⟩ := I6.out
    obtain ⟨ba, oa, haa, -⟩ := m3 0 (by have := HLA.out; omega)
    subst haa
    rw [HLA.out] at hva m1
    subst hva
    obtain ⟨ab, cb, hvb, n1, n2, n3⟩ := J6.out
    obtain ⟨bb, ob, hab, -⟩ := n3 0 (by have := HLB.out; omega)
    subst hab
    rw [HLB.out] at hvb n1
    subst hvb
    unfold maxLen at l2 k2 m2 n2
    have HOK6 := Lib.hid (HOK.out w6 A6.out)
    clear l3 k3 m3 n3
    go_wp2_with fail
    refine HOK6.out.mono ?_
    rintro e w7 ⟨rfl, hb7⟩
    have A7 := Lib.hid (A6.out.go hb7)
    have U7 := Lib.hid (U6.out.below hb7)
    have I7 := Lib.hid (Ints.below (B := 0) I6.out hb7)
    have J7 := Lib.hid (Ints.below (B := 0) J6.out hb7)
    clear hb7 A6 U6 I6 J6 HOK6
    obtain ⟨e0, e1, e2⟩ := U7.out.tri (t := j) (by have := HUL12.out; omega)
    rw [HKJ.out] at e0
    clear e1 e2
    go_wp2_with fail
    go_loopw [14] (fun i wr => ∃ t : Nat, t ≤ 12 ∧ i = .int .i64 t ∧ Hid (Arg5 W vm (.slice (some ⟨bl, ol, none⟩) 12 cl) vr xss ys rs wr) ∧ Hid (Is wr (.slice (some ⟨bu, ou, none⟩) 12 cu) us) ∧ Hid (Ints wr (.slice (some ⟨ba, oa, none⟩) 12 ca) la) ∧ Hid (Ints wr (.slice (some ⟨bb, ob, none⟩) 12 cb) lb)) (fun i _ => 12 - (intOf i).toNat)
    case atStart => exact ⟨0, Nat.zero_le _, rfl, A7, U7, I7, J7⟩
    case round =>
      obtain ⟨t, ht, rfl, AR, UR, IR, JR⟩ := hrel
      by_cases hlt : t < 12
      · have hlt' : (t : Int) < 12 := by omega
        have ht0 : (0 : Int) ≤ (t : Int) := by omega
        obtain ⟨d0, d1, d2⟩ := AR.out.i.tri (t := t) (by have := HYL12.out; omega)
        obtain ⟨e0, e1, e2⟩ := UR.out.tri (t := t) (by have := HUL12.out; omega)
        have f2 := IR.out.cellAt (t := t) (by have := HLA.out; omega)
        have g2 := JR.out.cellAt (t := t) (by have := HLB.out; omega)
        have hd := HDIF.out t hlt
        obtain ⟨⟨h1, h2⟩, ⟨h3, h4⟩, ⟨h5, h6⟩, h7, h8⟩ := HBD.out t hlt
        obtain ⟨x, hx⟩ : ∃ x, x = (ys.getD t iz).r := ⟨_, rfl⟩
        obtain ⟨z, hz⟩ : ∃ z, z = (us.getD t iz).r := ⟨_, rfl⟩
        obtain ⟨p, hp⟩ : ∃ p, p = la.getD t 0 := ⟨_, rfl⟩
        obtain ⟨q, hq⟩ : ∃ q, q = lb.getD t 0 := ⟨_, rfl⟩
        rw [← hx] at d2 hd h3 h4
        rw [← hz] at e2 hd h1 h2
        rw [← hp] at f2 hd h7 h8
        rw [← hq] at g2 hd h5 h6
        have hw1 : IntKind.i64.wrap (z - x) = z - x := by rw [IntKind.wrap_i64]; omega
        have hw2 : IntKind.i64.wrap (q - p) = z - x := by rw [IntKind.wrap_i64]; omega
        clear hx hz hp hq d0 d1 e0 e1 ht h1 h2 h3 h4 h5 h6 h7 h8
        go_wp2_with fail
        refine wp_region_held_drew (S := fun w' => w'.cell? ⟨bl, ol + t * 3 + 2, none⟩ = some (.int .i64 x) ∧ w'.cell? ⟨bu, ou + t * 3 + 2, none⟩ = some (.int .i64 z) ∧ w'.cell? ⟨ba, oa + t, none⟩ = some (.int .i64 p) ∧ w'.cell? ⟨bb, ob + t, none⟩ = some (.int .i64 q)) (by kernel_rfl) ⟨d2, e2, f2, g2⟩ (fun hHeld => ?_)
        refine wpAnyH_take (i := 0) (oi := { dst := some 105, op := .move (.tmp 8), type := _, pos := _, after := _, guard := none }) (v := .slice (some ⟨bu, ou, none⟩) 12 cu) rfl (by kernel_rfl) (by kernel_rfl) (by kernel_rfl) (fun _ _ _ h => h) (Or.inl ⟨by rfl, fun wh hSw => ?_⟩) hHeld ?_
        · (obtain ⟨s0, s1, s2, s3⟩ := hSw; go_simp)
        try simp only [Act.put, List.setIfInBounds_toArray, List.set_cons_zero, List.set_cons_succ]
        refine wpAnyH_take (i := 1) (oi := { dst := some 106, op := .move (.tmp 14), type := _, pos := _, after := _, guard := none }) (v := .int .i64 (t : Int)) rfl (by kernel_rfl) (by kernel_rfl) (by kernel_rfl) (fun _ _ _ h => h) (Or.inl ⟨by rfl, fun wh hSw => ?_⟩) hHeld ?_
        · (obtain ⟨s0, s1, s2, s3⟩ := hSw; go_simp)
        try simp only [Act.put, List.setIfInBounds_toArray, List.set_cons_zero, List.set_cons_succ]
        refine wpAnyH_take (i := 2) (oi := { dst := some 107, op := .indexAddr 27 (.tmp 105) (.tmp 106), type := _, pos := _, after := _, guard := none }) (v := .pointer (some ⟨bu, ou + t * 3, none⟩)) rfl (by kernel_rfl) (by kernel_rfl) (by kernel_rfl) (fun _ _ _ h => h) (Or.inl ⟨by rfl, fun wh hSw => ?_⟩) hHeld ?_
        · (obtain ⟨s0, s1, s2, s3⟩ := hSw; go_simp)
        try simp only [Act.put, List.setIfInBounds_toArray, List.set_cons_zero, List.set_cons_succ]
        refine wpAnyH_take (i := 3) (oi := { dst := some 108, op := .fieldAddr 36 (.tmp 107) 2, type := _, pos := _, after := _, guard := none }) (v := .pointer (some ⟨bu, ou + t * 3 + 2, none⟩)) rfl (by kernel_rfl) (by kernel_rfl) (by kernel_rfl) (fun _ _ _ h => h) (Or.inl ⟨by rfl, fun wh hSw => ?_⟩) hHeld ?_
        · (obtain ⟨s0, s1, s2, s3⟩ := hSw; go_simp)
        try simp only [Act.put, List.setIfInBounds_toArray, List.set_cons_zero, List.set_cons_succ]
        refine wpAnyH_take (i := 4) (oi := { dst := some 109, op := .load 3 (.tmp 108), type := _, pos := _, after := _, guard := none }) (v := .int .i64 z) rfl (by kernel_rfl) (by kernel_rfl) (by kernel_rfl) (fun _ _ _ h => h) (Or.inl ⟨by rfl, fun wh hSw => ?_⟩) hHeld ?_
        · (obtain ⟨s0, s1, s2, s3⟩ := hSw; go_simp)
        try simp only [Act.put, List.setIfInBounds_toArray, List.set_cons_zero, List.set_cons_succ]
        refine wpAnyH_take (i := 5) (oi := { dst := some 110, op := .move (.tmp 4), type := _, pos := _, after := _, guard := none }) (v := .slice (some ⟨bl, ol, none⟩) 12 cl) rfl (by kernel_rfl) (by kernel_rfl) (by kernel_rfl) (fun _ _ _ h => h) (Or.inl ⟨by rfl, fun wh hSw => ?_⟩) hHeld ?_
        · (obtain ⟨s0, s1, s2, s3⟩ := hSw; go_simp)
        try simp only [Act.put, List.setIfInBounds_toArray, List.set_cons_zero, List.set_cons_succ]
        refine wpAnyH_take (i := 6) (oi := { dst := some 111, op := .move (.tmp 14), type := _, pos := _, after := _, guard := none }) (v := .int .i64 (t : Int)) rfl (by kernel_rfl) (by kernel_rfl) (by kernel_rfl) (fun _ _ _ h => h) (Or.inl ⟨by rfl, fun wh hSw => ?_⟩) hHeld ?_
        · (obtain ⟨s0, s1, s2, s3⟩ := hSw; go_simp)
        try simp only [Act.put, List.setIfInBounds_toArray, List.set_cons_zero, List.set_cons_succ]
        refine wpAnyH_take (i := 7) (oi := { dst := some 112, op := .indexAddr 27 (.tmp 110) (.tmp 111), type := _, pos := _, after := _, guard := none }) (v := .pointer (some ⟨bl, ol + t * 3, none⟩)) rfl (by kernel_rfl) (by kernel_rfl) (by kernel_rfl) (fun _ _ _ h => h) (Or.inl ⟨by rfl, fun wh hSw => ?_⟩) hHeld ?_
        · (obtain ⟨s0, s1, s2, s3⟩ := hSw; go_simp)
        try simp only [Act.put, List.setIfInBounds_toArray, List.set_cons_zero, List.set_cons_succ]
        refine wpAnyH_take (i := 8) (oi := { dst := some 113, op := .fieldAddr 36 (.tmp 112) 2, type := _, pos := _, after := _, guard := none }) (v := .pointer (some ⟨bl, ol + t * 3 + 2, none⟩)) rfl (by kernel_rfl) (by kernel_rfl) (by kernel_rfl) (fun _ _ _ h => h) (Or.inl ⟨by rfl, fun wh hSw => ?_⟩) hHeld ?_
        · (obtain ⟨s0, s1, s2, s3⟩ := hSw; go_simp)
        try simp only [Act.put, List.setIfInBounds_toArray, List.set_cons_zero, List.set_cons_succ]
        refine wpAnyH_take (i := 9) (oi := { dst := some 114, op := .load 3 (.tmp 113), type := _, pos := _, after := _, guard := none }) (v := .int .i64 x) rfl (by kernel_rfl) (by kernel_rfl) (by kernel_rfl) (fun _ _ _ h => h) (Or.inl ⟨by rfl, fun wh hSw => ?_⟩) hHeld ?_
        · (obtain ⟨s0, s1, s2, s3⟩ := hSw; go_simp)
        try simp only [Act.put, List.setIfInBounds_toArray, List.set_cons_zero, List.set_cons_succ]
        refine wpAnyH_take (i := 10) (oi := { dst := some 115, op := .binOp .sub 3 (.tmp 109) (.tmp 114) 3, type := _, pos := _, after := _, guard := none }) (v := .int .i64 (z - x)) rfl (by kernel_rfl) (by kernel_rfl) (by kernel_rfl) (fun _ _ _ h => h) (Or.inl ⟨by rfl, fun wh hSw => ?_⟩) hHeld ?_
        · (obtain ⟨s0, s1, s2, s3⟩ := hSw; go_simp)
        try simp only [Act.put, List.setIfInBounds_toArray, List.set_cons_zero, List.set_cons_succ]
        refine wpAnyH_take (i := 11) (oi := { dst := some 116, op := .move (.tmp 13), type := _, pos := _, after := _, guard := none }) (v := .slice (some ⟨bb, ob, none⟩) 12 cb) rfl (by kernel_rfl) (by kernel_rfl) (by kernel_rfl) (fun _ _ _ h => h) (Or.inl ⟨by rfl, fun wh hSw => ?_⟩) hHeld ?_
        · (obtain ⟨s0, s1, s2, s3⟩ := hSw; go_simp)
        try simp only [Act.put, List.setIfInBounds_toArray, List.set_cons_zero, List.set_cons_succ]
        refine wpAnyH_take (i := 12) (oi := { dst := some 117, op := .move (.tmp 14), type := _, pos := _, after := _, guard := none }) (v := .int .i64 (t : Int)) rfl (by kernel_rfl) (by kernel_rfl) (by kernel_rfl) (fun _ _ _ h => h) (Or.inl ⟨by rfl, fun wh hSw => ?_⟩) hHeld ?_
        · (obtain ⟨s0, s1, s2, s3⟩ := hSw; go_simp)
        try simp only [Act.put, List.setIfInBounds_toArray, List.set_cons_zero, List.set_cons_succ]
        refine wpAnyH_take (i := 13) (oi := { dst := some 118, op := .indexAddr 34 (.tmp 116) (.tmp 117), type := _, pos := _, after := _, guard := none }) (v := .pointer (some ⟨bb, ob + t, none⟩)) rfl (by kernel_rfl) (by kernel_rfl) (by kernel_rfl) (fun _ _ _ h => h) (Or.inl ⟨by rfl, fun wh hSw => ?_⟩) hHeld ?_
        · (obtain ⟨s0, s1, s2, s3⟩ := hSw; go_simp)
        try simp only [Act.put, List.setIfInBounds_toArray, List.set_cons_zero, List.set_cons_succ]
        refine wpAnyH_take (i := 14) (oi := { dst := some 119, op := .load 3 (.tmp 118), type := _, pos := _, after := _, guard := none }) (v := .int .i64 q) rfl (by kernel_rfl) (by kernel_rfl) (by kernel_rfl) (fun _ _ _ h => h) (Or.inl ⟨by rfl, fun wh hSw => ?_⟩) hHeld ?_
        · (obtain ⟨s0, s1, s2, s3⟩ := hSw; go_simp)
        try simp only [Act.put, List.setIfInBounds_toArray, List.set_cons_zero, List.set_cons_succ]
        refine wpAnyH_take (i := 15) (oi := { dst := some 120, op := .move (.tmp 12), type := _, pos := _, after := _, guard := none }) (v := .slice (some ⟨ba, oa, none⟩) 12 ca) rfl (by kernel_rfl) (by kernel_rfl) (by kernel_rfl) (fun _ _ _ h => h) (Or.inl ⟨by rfl, fun wh hSw => ?_⟩) hHeld ?_
        · (obtain ⟨s0, s1, s2, s3⟩ := hSw; go_simp)
        try simp only [Act.put, List.setIfInBounds_toArray, List.set_cons_zero, List.set_cons_succ]
        refine wpAnyH_take (i := 16) (oi := { dst := some 121, op := .move (.tmp 14), type := _, pos := _, after := _, guard := none }) (v := .int .i64 (t : Int)) rfl (by kernel_rfl) (by kernel_rfl) (by kernel_rfl) (fun _ _ _ h => h) (Or.inl ⟨by rfl, fun wh hSw => ?_⟩) hHeld ?_
        · (obtain ⟨s0, s1, s2, s3⟩ := hSw; go_simp)
        try simp only [Act.put, List.setIfInBounds_toArray, List.set_cons_zero, List.set_cons_succ]
        refine wpAnyH_take (i := 17) (oi := { dst := some 122, op := .indexAddr 34 (.tmp 120) (.tmp 121), type := _, pos := _, after := _, guard := none }) (v := .pointer (some ⟨ba, oa + t, none⟩)) rfl (by kernel_rfl) (by kernel_rfl) (by kernel_rfl) (fun _ _ _ h => h) (Or.inl ⟨by rfl, fun wh hSw => ?_⟩) hHeld ?_
        · (obtain ⟨s0, s1, s2, s3⟩ := hSw; go_simp)
        try simp only [Act.put, List.setIfInBounds_toArray, List.set_cons_zero, List.set_cons_succ]
        refine wpAnyH_take (i := 18) (oi := { dst := some 123, op := .load 3 (.tmp 122), type := _, pos := _, after := _, guard := none }) (v := .int .i64 p) rfl (by kernel_rfl) (by kernel_rfl) (by kernel_rfl) (fun _ _ _ h => h) (Or.inl ⟨by rfl, fun wh hSw => ?_⟩) hHeld ?_
        · (obtain ⟨s0, s1, s2, s3⟩ := hSw; go_simp)
        try simp only [Act.put, List.setIfInBounds_toArray, List.set_cons_zero, List.set_cons_succ]
        refine wpAnyH_take (i := 19) (oi := { dst := some 124, op := .binOp .sub 3 (.tmp 119) (.tmp 123) 3, type := _, pos := _, after := _, guard := none }) (v := .int .i64 (z - x)) rfl (by kernel_rfl) (by kernel_rfl) (by kernel_rfl) (fun _ _ _ h => h) (Or.inl ⟨by rfl, fun wh hSw => ?_⟩) hHeld ?_
        · (obtain ⟨s0, s1, s2, s3⟩ := hSw; go_simp)
        try simp only [Act.put, List.setIfInBounds_toArray, List.set_cons_zero, List.set_cons_succ]
        refine wpAnyH_take (i := 20) (oi := { dst := some 125, op := .binOp .neq 3 (.tmp 115) (.tmp 124) 3, type := _, pos := _, after := _, guard := none }) (v := .bool false) rfl (by kernel_rfl) (by kernel_rfl) (by kernel_rfl) (fun _ _ _ h => h) (Or.inl ⟨by rfl, fun wh hSw => ?_⟩) hHeld ?_
        · (obtain ⟨s0, s1, s2, s3⟩ := hSw; go_simp)
        try simp only [Act.put, List.setIfInBounds_toArray, List.set_cons_zero, List.set_cons_succ]
        refine wpAnyH_done (by kernel_rfl) ?_ _
        go_wp2_with fail
        go_roundw
        case rel => exact ⟨t + 1, by omega, by go_num, Lib.hid (AR.out.go (Below.refl _ _).drew), Lib.hid (UR.out.below (Below.refl _ _).drew), Lib.hid (Ints.below (B := 0) IR.out (Below.refl _ _).drew), Lib.hid (Ints.below (B := 0) JR.out (Below.refl _ _).drew)⟩
        case measure => simp [intOf]; omega
      · have HV7 := Lib.hid (HVW.out wr UR.out)
        go_wp2_with fail
        refine HV7.out.mono ?_
        rintro e w8 ⟨rfl, hb8⟩
        have A8 := Lib.hid (AR.out.go hb8)
        clear hb8
        go_wp2_with fail
        go_ret
        exact ⟨rfl, A8.out.b⟩
  · have h0' : (cn == 0) = false := by simpa using h0
    have h0'' : (cn != 0) = true := by simpa using h0
    clear h0
    go_wp2_with fail
    refine (sameI w3 p2 p3 us U3.out V3.out).mono ?_
    rintro e w4 ⟨rfl, hbw4⟩
    have A4 := Lib.hid (A3.out.go hbw4)
    have U4 := Lib.hid (U3.out.below hbw4)
    have V4 := Lib.hid (V3.out.below hbw4)
    clear hbw4 A3 U3 V3
    go_wp2_with fail
    refine (sameI w4 p2 p3 us U4.out V4.out).mono ?_
    rintro e w5 ⟨rfl, hbw5⟩
    have A5 := Lib.hid (A4.out.go hbw5)
    have U5 := Lib.hid (U4.out.below hbw5)
    have V5 := Lib.hid (V4.out.below hbw5)
    clear hbw5 A4 U4 V4
    go_wp2_with fail
    go_ret
    exact ⟨rfl, A5.out.b⟩
end Go.Proofs.Yticnfekjbknomaa
