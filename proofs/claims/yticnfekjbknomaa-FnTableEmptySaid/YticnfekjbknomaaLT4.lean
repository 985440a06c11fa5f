/- The walks of the statements on what pinning keeps and counts, out of contracts of the program. -/
import Derived.Test.YticnfekjbknomaaLT3
import Derived.Test.YticnfekjbknomaaMg5
namespace Go.Proofs.Yticnfekjbknomaa
open Go.ChangeShapes Go.WideShapes Go.ChangeAt Go.RowKit
set_option linter.unusedVariables false

theorem Is.tri {w : World} {b o n c : Nat} {xs : List IV} (h : Is w (.slice (some ⟨b, o, none⟩) n c) xs) {t : Nat} (ht : t < xs.length) : Tri w b (o + t * 3) (xs.getD t iz) := by
  obtain ⟨a, cap, e, h1, h2, h3⟩ := h
  injection e with e1
  obtain ⟨b', o', e', h⟩ := h3 t ht
  rw [← e1] at e'
  cases e'
  exact h
set_option maxRecDepth 100000 in
set_option maxHeartbeats 4000000 in
theorem pinOthers_walk (hP : ITP) (W : World) (a : Option Addr) (len cap : Nat) (zs : List Int) (hr : Row .u8 W a len cap zs) :
    Calls Try.prog 9 #[.slice a len cap] W fun e w' => e = .returned (.bool true) ∧ Below W.heap.size W w' := by
  have HP := Lib.hid hP
  clear hP
  have hm := row_len hr
  by_cases hL : 1048576 < len
  · have hL1 : (1048576 : Int) < (len : Int) := by omega
    clear hr
    go_enter Try.func9, Try.ntmps9
    go_wp2_with fail
    go_ret
    exact ⟨rfl, Below.refl _ _⟩
  have hL1 : decide ((1048576 : Int) < (len : Int)) = false := by simp; omega
  have hL2 : decide (1048576 < len) = false := by simp; omega
  go_enter Try.func9, Try.ntmps9
  go_wp2_with fail
  refine (drawTablePin_any W a len cap zs hr).mono ?_
  clear hr
  rintro e w1 ⟨vm, vl, xss, ys, f, k, vr, rs, hf, hkd, rfl, hd, hst, hr8, hsp⟩
  have A1 := Lib.hid (Arg5.of hd hst)
  have HSY := Lib.hid (shI_short hd.sh)
  have HSR := Lib.hid (shortP_short hsp)
  have HSM := Lib.hid hd.small
  have HYL := Lib.hid hd.len
  have HF := Lib.hid hf
  have HKD := Lib.hid hkd
  clear hf hkd hd hst hr8 hsp hL hm
  have HC : Hid (∀ w, Arg5 W vm vl vr xss ys rs w → Calls Try.prog 37 #[vm, vl, .int .i64 f, .int .i64 k, vr] w (NewVN (tpin xss ys f k rs).1 (tpin xss ys f k rs).2 w)) := Lib.hid (fun w h => HP.out w vm vl vr xss ys rs f k h.m h.i HSY.out h.s HSR.out)
  have HS : Hid (∀ w, Arg5 W vm vl vr xss ys rs w → Calls Try.prog 38 #[vm, vl, .int .i64 f, .int .i64 k, vr] w (NewVN (tpin xss ys f k rs).1 (tpin xss ys f k rs).2 w)) := Lib.hid (fun w h => sTablePin_any w vm vl vr xss ys rs f k h.m h.i HSY.out h.s HSR.out)
  obtain ⟨us, hus⟩ : ∃ us, us = (tpin xss ys f k rs).1 := ⟨_, rfl⟩
  obtain ⟨cn, hcn⟩ : ∃ cn, cn = (tpin xss ys f k rs).2 := ⟨_, rfl⟩
  rw [← hus, ← hcn] at HC HS
  have HUS := Lib.hid hus
  have HCN := Lib.hid hcn
  have HUH : Hid (ShortI us) := Lib.hid (fun y hy => by
    rw [hus] at hy
    obtain ⟨z, hz, e⟩ := tpin_guard hy
    rw [← e]; exact HSY.out z hz)
  have hnn := neI cn
  have hne := beqI cn
  clear hus hcn
  go_wp2_with fail
  refine (HC.out w1 A1.out).mono ?_
  rintro e w2 ⟨p2, rfl, hr2, hb2⟩
  have A2 := Lib.hid (A1.out.go hb2)
  have U2 := Lib.hid hr2.is
  clear hb2 hr2 A1
  go_wp2_with fail
  refine (HS.out w2 A2.out).mono ?_
  rintro e w3 ⟨p3, rfl, hr3, hb3⟩
  have A3 := Lib.hid (A2.out.go hb3)
  have U3 := Lib.hid (U2.out.below hb3)
  have V3 := Lib.hid hr3.is
  clear hb3 hr3 A2 U2 HC HS
  by_cases h0 : cn = 0
  · have hq := pin_counts (xss := xss) (ys := ys) (f := f) (k := k) (rs := rs) (by rw [← HCN.out]; exact h0)
    rw [← HUS.out] at hq
    have HGL := Lib.hid (tpin_len xss ys f k rs)
    rw [← HUS.out] at HGL
    obtain ⟨q1, q2, q3, q4, q5, q6, q7, q8⟩ := hq
    subst h0
    obtain ⟨j, rfl⟩ : ∃ j : Nat, f = (j : Int) := ⟨f.toNat, by omega⟩
    rw [Int.toNat_natCast] at q6 q7
    have hj12 : j < 12 := by omega
    have hj0 : (0 : Int) ≤ (j : Int) := by omega
    have hjn : (j : Int) < 12 := by omega
    have HYL12 := Lib.hid (isok_len q4)
    have HUL12 := Lib.hid (isok_len q1)
    have HUOK := Lib.hid q1
    have HYOK := Lib.hid q4
    have HTOK := Lib.hid q2
    have HMOK := Lib.hid q3
    have HKJ := Lib.hid q6
    have HSAME := Lib.hid q7
    have HCNT := Lib.hid q8
    clear q1 q2 q3 q4 q5 q6 q7 q8 hnn hne
    go_wp2_with fail
    refine (sameI w3 p2 p3 us U3.out V3.out).mono ?_
    rintro e w4 ⟨rfl, hbw4⟩
    have A4 := Lib.hid (A3.out.go hbw4)
    have U4 := Lib.hid (U3.out.below hbw4)
    have V4 := Lib.hid (V3.out.below hbw4)
    clear hbw4 A3 U3 V3
    obtain ⟨al, cl, hvl, l1, l2, l3⟩ := A4.out.i
    obtain ⟨bl, ol, hal, -⟩ := l3 0 (by have := HYL12.out; omega)
    subst hal
    rw [HYL12.out] at hvl l1
    subst hvl
    obtain ⟨au, cu, hpu, k1, k2, k3⟩ := U4.out
    obtain ⟨bu, ou, hau, -⟩ := k3 0 (by have := HUL12.out; omega)
    subst hau
    rw [HUL12.out] at hpu k1
    subst hpu
    unfold maxLen at l2 k2
    clear l3 k3 V4
    go_wp2_with fail
    go_loopw [12] (fun i wr => ∃ t : Nat, t ≤ 12 ∧ i = .int .i64 t ∧ Hid (Arg5 W vm (.slice (some ⟨bl, ol, none⟩) 12 cl) vr xss ys rs wr) ∧ Hid (Is wr (.slice (some ⟨bu, ou, none⟩) 12 cu) us)) (fun i _ => 12 - (intOf i).toNat)
    case atStart => exact ⟨0, Nat.zero_le _, rfl, A4, U4⟩
    case round =>
      obtain ⟨t, ht, rfl, AR, UR⟩ := hrel
      by_cases hlt : t < 12
      · have hlt' : (t : Int) < 12 := by omega
        have ht0 : (0 : Int) ≤ (t : Int) := by omega
        obtain ⟨d0, d1, d2⟩ := AR.out.i.tri (t := t) (by have := HYL12.out; omega)
        obtain ⟨e0, e1, e2⟩ := UR.out.tri (t := t) (by have := HUL12.out; omega)
        obtain ⟨hg, hkk⟩ := HSAME.out t
        rw [hg] at e1
        by_cases htj : t = j
        · subst htj
          obtain ⟨x, hx⟩ : ∃ x, x = ys.getD t iz := ⟨_, rfl⟩
          obtain ⟨z, hz⟩ : ∃ z, z = us.getD t iz := ⟨_, rfl⟩
          rw [← hx] at d0 d1 e1
          rw [← hz] at e0
          clear hx hz hg hkk d2 e2 ht
          go_wp2_with fail
          refine wp_region_held_drew (S := fun w' => w'.cell? ⟨bl, ol + t * 3, none⟩ = some (.int .i64 x.k) ∧ w'.cell? ⟨bl, ol + t * 3 + 1, none⟩ = some (.string ⟨x.g.toArray⟩) ∧ w'.cell? ⟨bu, ou + t * 3, none⟩ = some (.int .i64 z.k) ∧ w'.cell? ⟨bu, ou + t * 3 + 1, none⟩ = some (.string ⟨x.g.toArray⟩)) (by kernel_rfl) ⟨d0, d1, e0, e1⟩ (fun hHeld => ?_)
          refine wpAnyH_take (i := 0) (oi := { dst := some 67, op := .move (.tmp 8), type := _, pos := _, after := _, guard := none }) (v := .slice (some ⟨bu, ou, none⟩) 12 cu) rfl (by kernel_rfl) (by kernel_rfl) (by kernel_rfl) (fun _ _ _ h => h) (Or.inl ⟨by rfl, fun wh hSw => ?_⟩) hHeld ?_
          · (obtain ⟨s0, s1, s2, s3⟩ := hSw; go_simp)
          try simp only [Act.put, List.setIfInBounds_toArray, List.set_cons_zero, List.set_cons_succ]
          refine wpAnyH_take (i := 1) (oi := { dst := some 68, op := .move (.tmp 12), type := _, pos := _, after := _, guard := none }) (v := .int .i64 (t : Int)) rfl (by kernel_rfl) (by kernel_rfl) (by kernel_rfl) (fun _ _ _ h => h) (Or.inl ⟨by rfl, fun wh hSw => ?_⟩) hHeld ?_
          · (obtain ⟨s0, s1, s2, s3⟩ := hSw; go_simp)
          try simp only [Act.put, List.setIfInBounds_toArray, List.set_cons_zero, List.set_cons_succ]
          refine wpAnyH_take (i := 2) (oi := { dst := some 69, op := .indexAddr 27 (.tmp 67) (.tmp 68), type := _, pos := _, after := _, guard := none }) (v := .pointer (some ⟨bu, ou + t * 3, none⟩)) rfl (by kernel_rfl) (by kernel_rfl) (by kernel_rfl) (fun _ _ _ h => h) (Or.inl ⟨by rfl, fun wh hSw => ?_⟩) hHeld ?_
          · (obtain ⟨s0, s1, s2, s3⟩ := hSw; go_simp)
          try simp only [Act.put, List.setIfInBounds_toArray, List.set_cons_zero, List.set_cons_succ]
          refine wpAnyH_take (i := 3) (oi := { dst := some 70, op := .fieldAddr 36 (.tmp 69) 1, type := _, pos := _, after := _, guard := none }) (v := .pointer (some ⟨bu, ou + t * 3 + 1, none⟩)) rfl (by kernel_rfl) (by kernel_rfl) (by kernel_rfl) (fun _ _ _ h => h) (Or.inl ⟨by rfl, fun wh hSw => ?_⟩) hHeld ?_
          · (obtain ⟨s0, s1, s2, s3⟩ := hSw; go_simp)
          try simp only [Act.put, List.setIfInBounds_toArray, List.set_cons_zero, List.set_cons_succ]
          refine wpAnyH_take (i := 4) (oi := { dst := some 71, op := .load 9 (.tmp 70), type := _, pos := _, after := _, guard := none }) (v := .string ⟨x.g.toArray⟩) rfl (by kernel_rfl) (by kernel_rfl) (by kernel_rfl) (fun _ _ _ h => h) (Or.inl ⟨by rfl, fun wh hSw => ?_⟩) hHeld ?_
          · (obtain ⟨s0, s1, s2, s3⟩ := hSw; go_simp)
          try simp only [Act.put, List.setIfInBounds_toArray, List.set_cons_zero, List.set_cons_succ]
          refine wpAnyH_take (i := 5) (oi := { dst := some 72, op := .move (.tmp 4), type := _, pos := _, after := _, guard := none }) (v := .slice (some ⟨bl, ol, none⟩) 12 cl) rfl (by kernel_rfl) (by kernel_rfl) (by kernel_rfl) (fun _ _ _ h => h) (Or.inl ⟨by rfl, fun wh hSw => ?_⟩) hHeld ?_
          · (obtain ⟨s0, s1, s2, s3⟩ := hSw; go_simp)
          try simp only [Act.put, List.setIfInBounds_toArray, List.set_cons_zero, List.set_cons_succ]
          refine wpAnyH_take (i := 6) (oi := { dst := some 73, op := .move (.tmp 12), type := _, pos := _, after := _, guard := none }) (v := .int .i64 (t : Int)) rfl (by kernel_rfl) (by kernel_rfl) (by kernel_rfl) (fun _ _ _ h => h) (Or.inl ⟨by rfl, fun wh hSw => ?_⟩) hHeld ?_
          · (obtain ⟨s0, s1, s2, s3⟩ := hSw; go_simp)
          try simp only [Act.put, List.setIfInBounds_toArray, List.set_cons_zero, List.set_cons_succ]
          refine wpAnyH_take (i := 7) (oi := { dst := some 74, op := .indexAddr 27 (.tmp 72) (.tmp 73), type := _, pos := _, after := _, guard := none }) (v := .pointer (some ⟨bl, ol + t * 3, none⟩)) rfl (by kernel_rfl) (by kernel_rfl) (by kernel_rfl) (fun _ _ _ h => h) (Or.inl ⟨by rfl, fun wh hSw => ?_⟩) hHeld ?_
          · (obtain ⟨s0, s1, s2, s3⟩ := hSw; go_simp)
          try simp only [Act.put, List.setIfInBounds_toArray, List.set_cons_zero, List.set_cons_succ]
          refine wpAnyH_take (i := 8) (oi := { dst := some 75, op := .fieldAddr 36 (.tmp 74) 1, type := _, pos := _, after := _, guard := none }) (v := .pointer (some ⟨bl, ol + t * 3 + 1, none⟩)) rfl (by kernel_rfl) (by kernel_rfl) (by kernel_rfl) (fun _ _ _ h => h) (Or.inl ⟨by rfl, fun wh hSw => ?_⟩) hHeld ?_
          · (obtain ⟨s0, s1, s2, s3⟩ := hSw; go_simp)
          try simp only [Act.put, List.setIfInBounds_toArray, List.set_cons_zero, List.set_cons_succ]
          refine wpAnyH_take (i := 9) (oi := { dst := some 76, op := .load 9 (.tmp 75), type := _, pos := _, after := _, guard := none }) (v := .string ⟨x.g.toArray⟩) rfl (by kernel_rfl) (by kernel_rfl) (by kernel_rfl) (fun _ _ _ h => h) (Or.inl ⟨by rfl, fun wh hSw => ?_⟩) hHeld ?_
          · (obtain ⟨s0, s1, s2, s3⟩ := hSw; go_simp)
          try simp only [Act.put, List.setIfInBounds_toArray, List.set_cons_zero, List.set_cons_succ]
          refine wpAnyH_take (i := 10) (oi := { dst := some 77, op := .binOp .neq 9 (.tmp 71) (.tmp 76) 9, type := _, pos := _, after := _, guard := none }) (v := .bool false) rfl (by kernel_rfl) (by kernel_rfl) (by kernel_rfl) (fun _ _ _ h => h) (Or.inl ⟨by rfl, fun wh hSw => ?_⟩) hHeld ?_
          · (obtain ⟨s0, s1, s2, s3⟩ := hSw; go_simp)
          try simp only [Act.put, List.setIfInBounds_toArray, List.set_cons_zero, List.set_cons_succ]
          refine wpAnyH_take (i := 11) (oi := { dst := some 78, op := .move (.tmp 77), type := _, pos := _, after := _, guard := none }) (v := .bool false) rfl (by kernel_rfl) (by kernel_rfl) (by kernel_rfl) (fun _ _ _ h => h) (Or.inl ⟨by rfl, fun wh hSw => ?_⟩) hHeld ?_
          · (obtain ⟨s0, s1, s2, s3⟩ := hSw; go_simp)
          try simp only [Act.put, List.setIfInBounds_toArray, List.set_cons_zero, List.set_cons_succ]
          refine wpAnyH_take (i := 12) (oi := { dst := some 79, op := .move (.tmp 12), type := _, pos := _, after := _, guard := some (11, false) }) (v := .int .i64 (t : Int)) rfl (by kernel_rfl) (by kernel_rfl) (by kernel_rfl) (fun _ _ _ h => h) (Or.inl ⟨by rfl, fun wh hSw => ?_⟩) hHeld ?_
          · (obtain ⟨s0, s1, s2, s3⟩ := hSw; go_simp)
          try simp only [Act.put, List.setIfInBounds_toArray, List.set_cons_zero, List.set_cons_succ]
          refine wpAnyH_take (i := 13) (oi := { dst := some 80, op := .move (.tmp 5), type := _, pos := _, after := _, guard := some (11, false) }) (v := .int .i64 (t : Int)) rfl (by kernel_rfl) (by kernel_rfl) (by kernel_rfl) (fun _ _ _ h => h) (Or.inl ⟨by rfl, fun wh hSw => ?_⟩) hHeld ?_
          · (obtain ⟨s0, s1, s2, s3⟩ := hSw; go_simp)
          try simp only [Act.put, List.setIfInBounds_toArray, List.set_cons_zero, List.set_cons_succ]
          refine wpAnyH_take (i := 14) (oi := { dst := some 81, op := .binOp .neq 3 (.tmp 79) (.tmp 80) 3, type := _, pos := _, after := _, guard := some (11, false) }) (v := .bool false) rfl (by kernel_rfl) (by kernel_rfl) (by kernel_rfl) (fun _ _ _ h => h) (Or.inl ⟨by rfl, fun wh hSw => ?_⟩) hHeld ?_
          · (obtain ⟨s0, s1, s2, s3⟩ := hSw; go_simp)
          try simp only [Act.put, List.setIfInBounds_toArray, List.set_cons_zero, List.set_cons_succ]
          refine wpAnyH_take (i := 15) (oi := { dst := some 82, op := .move (.tmp 81), type := _, pos := _, after := _, guard := some (11, false) }) (v := .bool false) rfl (by kernel_rfl) (by kernel_rfl) (by kernel_rfl) (fun _ _ _ h => h) (Or.inl ⟨by rfl, fun wh hSw => ?_⟩) hHeld ?_
          · (obtain ⟨s0, s1, s2, s3⟩ := hSw; go_simp)
          try simp only [Act.put, List.setIfInBounds_toArray, List.set_cons_zero, List.set_cons_succ]
          refine wpAnyH_take (i := 16) (oi := { dst := some 83, op := .move (.tmp 8), type := _, pos := _, after := _, guard := some (15, true) }) (v := undef) rfl (by kernel_rfl) (by kernel_rfl) (by kernel_rfl) (fun _ _ _ h => h) (Or.inr ⟨by rfl, rfl⟩) hHeld ?_
          try simp only [Act.put, List.setIfInBounds_toArray, List.set_cons_zero, List.set_cons_succ]
          refine wpAnyH_take (i := 17) (oi := { dst := some 84, op := .move (.tmp 12), type := _, pos := _, after := _, guard := some (15, true) }) (v := undef) rfl (by kernel_rfl) (by kernel_rfl) (by kernel_rfl) (fun _ _ _ h => h) (Or.inr ⟨by rfl, rfl⟩) hHeld ?_
          try simp only [Act.put, List.setIfInBounds_toArray, List.set_cons_zero, List.set_cons_succ]
          refine wpAnyH_take (i := 18) (oi := { dst := some 85, op := .indexAddr 27 (.tmp 83) (.tmp 84), type := _, pos := _, after := _, guard := some (15, true) }) (v := undef) rfl (by kernel_rfl) (by kernel_rfl) (by kernel_rfl) (fun _ _ _ h => h) (Or.inr ⟨by rfl, rfl⟩) hHeld ?_
          try simp only [Act.put, List.setIfInBounds_toArray, List.set_cons_zero, List.set_cons_succ]
          refine wpAnyH_take (i := 19) (oi := { dst := some 86, op := .fieldAddr 36 (.tmp 85) 0, type := _, pos := _, after := _, guard := some (15, true) }) (v := undef) rfl (by kernel_rfl) (by kernel_rfl) (by kernel_rfl) (fun _ _ _ h => h) (Or.inr ⟨by rfl, rfl⟩) hHeld ?_
          try simp only [Act.put, List.setIfInBounds_toArray, List.set_cons_zero, List.set_cons_succ]
          refine wpAnyH_take (i := 20) (oi := { dst := some 87, op := .load 3 (.tmp 86), type := _, pos := _, after := _, guard := some (15, true) }) (v := undef) rfl (by kernel_rfl) (by kernel_rfl) (by kernel_rfl) (fun _ _ _ h => h) (Or.inr ⟨by rfl, rfl⟩) hHeld ?_
          try simp only [Act.put, List.setIfInBounds_toArray, List.set_cons_zero, List.set_cons_succ]
          refine wpAnyH_take (i := 21) (oi := { dst := some 88, op := .move (.tmp 4), type := _, pos := _, after := _, guard := some (15, true) }) (v := undef) rfl (by kernel_rfl) (by kernel_rfl) (by kernel_rfl) (fun _ _ _ h => h) (Or.inr ⟨by rfl, rfl⟩) hHeld ?_
          try simp only [Act.put, List.setIfInBounds_toArray, List.set_cons_zero, List.set_cons_succ]
          refine wpAnyH_take (i := 22) (oi := { dst := some 89, op := .move (.tmp 12), type := _, pos := _, after := _, guard := some (15, true) }) (v := undef) rfl (by kernel_rfl) (by kernel_rfl) (by kernel_rfl) (fun _ _ _ h => h) (Or.inr ⟨by rfl, rfl⟩) hHeld ?_
          try simp only [Act.put, List.setIfInBounds_toArray, List.set_cons_zero, List.set_cons_succ]
          refine wpAnyH_take (i := 23) (oi := { dst := some 90, op := .indexAddr 27 (.tmp 88) (.tmp 89), type := _, pos := _, after := _, guard := some (15, true) }) (v := undef) rfl (by kernel_rfl) (by kernel_rfl) (by kernel_rfl) (fun _ _ _ h => h) (Or.inr ⟨by rfl, rfl⟩) hHeld ?_
          try simp only [Act.put, List.setIfInBounds_toArray, List.set_cons_zero, List.set_cons_succ]
          refine wpAnyH_take (i := 24) (oi := { dst := some 91, op := .fieldAddr 36 (.tmp 90) 0, type := _, pos := _, after := _, guard := some (15, true) }) (v := undef) rfl (by kernel_rfl) (by kernel_rfl) (by kernel_rfl) (fun _ _ _ h => h) (Or.inr ⟨by rfl, rfl⟩) hHeld ?_
          try simp only [Act.put, List.setIfInBounds_toArray, List.set_cons_zero, List.set_cons_succ]
          refine wpAnyH_take (i := 25) (oi := { dst := some 92, op := .load 3 (.tmp 91), type := _, pos := _, after := _, guard := some (15, true) }) (v := undef) rfl (by kernel_rfl) (by kernel_rfl) (by kernel_rfl) (fun _ _ _ h => h) (Or.inr ⟨by rfl, rfl⟩) hHeld ?_
          try simp only [Act.put, List.setIfInBounds_toArray, List.set_cons_zero, List.set_cons_succ]
          refine wpAnyH_take (i := 26) (oi := { dst := some 93, op := .binOp .neq 3 (.tmp 87) (.tmp 92) 3, type := _, pos := _, after := _, guard := some (15, true) }) (v := undef) rfl (by kernel_rfl) (by kernel_rfl) (by kernel_rfl) (fun _ _ _ h => h) (Or.inr ⟨by rfl, rfl⟩) hHeld ?_
          try simp only [Act.put, List.setIfInBounds_toArray, List.set_cons_zero, List.set_cons_succ]
          refine wpAnyH_take (i := 27) (oi := { dst := some 94, op := .pick (.tmp 82) (.tmp 93) (.const (.bool false)), type := _, pos := _, after := _, guard := some (11, false) }) (v := .bool false) rfl (by kernel_rfl) (by kernel_rfl) (by kernel_rfl) (fun _ _ _ h => h) (Or.inl ⟨by rfl, fun wh hSw => ?_⟩) hHeld ?_
          · (obtain ⟨s0, s1, s2, s3⟩ := hSw; go_simp)
          try simp only [Act.put, List.setIfInBounds_toArray, List.set_cons_zero, List.set_cons_succ]
          refine wpAnyH_take (i := 28) (oi := { dst := some 95, op := .pick (.tmp 78) (.const (.bool true)) (.tmp 94), type := _, pos := _, after := _, guard := none }) (v := .bool false) rfl (by kernel_rfl) (by kernel_rfl) (by kernel_rfl) (fun _ _ _ h => h) (Or.inl ⟨by rfl, fun wh hSw => ?_⟩) hHeld ?_
          · (obtain ⟨s0, s1, s2, s3⟩ := hSw; go_simp)
          try simp only [Act.put, List.setIfInBounds_toArray, List.set_cons_zero, List.set_cons_succ]
          refine wpAnyH_done (by kernel_rfl) ?_ _
          go_wp2_with fail
          go_roundw
          case rel => exact ⟨t + 1, by omega, by go_num, Lib.hid (AR.out.go (Below.refl _ _).drew), Lib.hid (UR.out.below (Below.refl _ _).drew)⟩
          case measure => simp [intOf]; omega
        · rw [hkk htj] at e0
          have htj' : ((t : Int) != (j : Int)) = true := by simp; omega
          obtain ⟨x, hx⟩ : ∃ x, x = ys.getD t iz := ⟨_, rfl⟩
          rw [← hx] at d0 d1 e0 e1
          clear hx hg hkk d2 e2 ht htj
          go_wp2_with fail
          refine wp_region_held_drew (S := fun w' => w'.cell? ⟨bl, ol + t * 3, none⟩ = some (.int .i64 x.k) ∧ w'.cell? ⟨bl, ol + t * 3 + 1, none⟩ = some (.string ⟨x.g.toArray⟩) ∧ w'.cell? ⟨bu, ou + t * 3, none⟩ = some (.int .i64 x.k) ∧ w'.cell? ⟨bu, ou + t * 3 + 1, none⟩ = some (.string ⟨x.g.toArray⟩)) (by kernel_rfl) ⟨d0, d1, e0, e1⟩ (fun hHeld => ?_)
          refine wpAnyH_take (i := 0) (oi := { dst := some 67, op := .move (.tmp 8), type := _, pos := _, after := _, guard := none }) (v := .slice (some ⟨bu, ou, none⟩) 12 cu) rfl (by kernel_rfl) (by kernel_rfl) (by kernel_rfl) (fun _ _ _ h => h) (Or.inl ⟨by rfl, fun wh hSw => ?_⟩) hHeld ?_
          · (obtain ⟨s0, s1, s2, s3⟩ := hSw; go_simp)
          try simp only [Act.put, List.setIfInBounds_toArray, List.set_cons_zero, List.set_cons_succ]
          refine wpAnyH_take (i := 1) (oi := { dst := some 68, op := .move (.tmp 12), type := _, pos := _, after := _, guard := none }) (v := .int .i64 (t : Int)) rfl (by kernel_rfl) (by kernel_rfl) (by kernel_rfl) (fun _ _ _ h => h) (Or.inl ⟨by rfl, fun wh hSw => ?_⟩) hHeld ?_
          · (obtain ⟨s0, s1, s2, s3⟩ := hSw; go_simp)
          try simp only [Act.put, List.setIfInBounds_toArray, List.set_cons_zero, List.set_cons_succ]
          refine wpAnyH_take (i := 2) (oi := { dst := some 69, op := .indexAddr 27 (.tmp 67) (.tmp 68), type := _, pos := _, after := _, guard := none }) (v := .pointer (some ⟨bu, ou + t * 3, none⟩)) rfl (by kernel_rfl) (by kernel_rfl) (by kernel_rfl) (fun _ _ _ h => h) (Or.inl ⟨by rfl, fun wh hSw => ?_⟩) hHeld ?_
          · (obtain ⟨s0, s1, s2, s3⟩ := hSw; go_simp)
          try simp only [Act.put, List.setIfInBounds_toArray, List.set_cons_zero, List.set_cons_succ]
          refine wpAnyH_take (i := 3) (oi := { dst := some 70, op := .fieldAddr 36 (.tmp 69) 1, type := _, pos := _, after := _, guard := none }) (v := .pointer (some ⟨bu, ou + t * 3 + 1, none⟩)) rfl (by kernel_rfl) (by kernel_rfl) (by kernel_rfl) (fun _ _ _ h => h) (Or.inl ⟨by rfl, fun wh hSw => ?_⟩) hHeld ?_
          · (obtain ⟨s0, s1, s2, s3⟩ := hSw; go_simp)
          try simp only [Act.put, List.setIfInBounds_toArray, List.set_cons_zero, List.set_cons_succ]
          refine wpAnyH_take (i := 4) (oi := { dst := some 71, op := .load 9 (.tmp 70), type := _, pos := _, after := _, guard := none }) (v := .string ⟨x.g.toArray⟩) rfl (by kernel_rfl) (by kernel_rfl) (by kernel_rfl) (fun _ _ _ h => h) (Or.inl ⟨by rfl, fun wh hSw => ?_⟩) hHeld ?_
          · (obtain ⟨s0, s1, s2, s3⟩ := hSw; go_simp)
          try simp only [Act.put, List.setIfInBounds_toArray, List.set_cons_zero, List.set_cons_succ]
          refine wpAnyH_take (i := 5) (oi := { dst := some 72, op := .move (.tmp 4), type := _, pos := _, after := _, guard := none }) (v := .slice (some ⟨bl, ol, none⟩) 12 cl) rfl (by kernel_rfl) (by kernel_rfl) (by kernel_rfl) (fun _ _ _ h => h) (Or.inl ⟨by rfl, fun wh hSw => ?_⟩) hHeld ?_
          · (obtain ⟨s0, s1, s2, s3⟩ := hSw; go_simp)
          try simp only [Act.put, List.setIfInBounds_toArray, List.set_cons_zero, List.set_cons_succ]
          refine wpAnyH_take (i := 6) (oi := { dst := some 73, op := .move (.tmp 12), type := _, pos := _, after := _, guard := none }) (v := .int .i64 (t : Int)) rfl (by kernel_rfl) (by kernel_rfl) (by kernel_rfl) (fun _ _ _ h => h) (Or.inl ⟨by rfl, fun wh hSw => ?_⟩) hHeld ?_
          · (obtain ⟨s0, s1, s2, s3⟩ := hSw; go_simp)
          try simp only [Act.put, List.setIfInBounds_toArray, List.set_cons_zero, List.set_cons_succ]
          refine wpAnyH_take (i := 7) (oi := { dst := some 74, op := .indexAddr 27 (.tmp 72) (.tmp 73), type := _, pos := _, after := _, guard := none }) (v := .pointer (some ⟨bl, ol + t * 3, none⟩)) rfl (by kernel_rfl) (by kernel_rfl) (by kernel_rfl) (fun _ _ _ h => h) (Or.inl ⟨by rfl, fun wh hSw => ?_⟩) hHeld ?_
          · (obtain ⟨s0, s1, s2, s3⟩ := hSw; go_simp)
          try simp only [Act.put, List.setIfInBounds_toArray, List.set_cons_zero, List.set_cons_succ]
          refine wpAnyH_take (i := 8) (oi := { dst := some 75, op := .fieldAddr 36 (.tmp 74) 1, type := _, pos := _, after := _, guard := none }) (v := .pointer (some ⟨bl, ol + t * 3 + 1, none⟩)) rfl (by kernel_rfl) (by kernel_rfl) (by kernel_rfl) (fun _ _ _ h => h) (Or.inl ⟨by rfl, fun wh hSw => ?_⟩) hHeld ?_
          · (obtain ⟨s0, s1, s2, s3⟩ := hSw; go_simp)
          try simp only [Act.put, List.setIfInBounds_toArray, List.set_cons_zero, List.set_cons_succ]
          refine wpAnyH_take (i := 9) (oi := { dst := some 76, op := .load 9 (.tmp 75), type := _, pos := _, after := _, guard := none }) (v := .string ⟨x.g.toArray⟩) rfl (by kernel_rfl) (by kernel_rfl) (by kernel_rfl) (fun _ _ _ h => h) (Or.inl ⟨by rfl, fun wh hSw => ?_⟩) hHeld ?_
          · (obtain ⟨s0, s1, s2, s3⟩ := hSw; go_simp)
          try simp only [Act.put, List.setIfInBounds_toArray, List.set_cons_zero, List.set_cons_succ]
          refine wpAnyH_take (i := 10) (oi := { dst := some 77, op := .binOp .neq 9 (.tmp 71) (.tmp 76) 9, type := _, pos := _, after := _, guard := none }) (v := .bool false) rfl (by kernel_rfl) (by kernel_rfl) (by kernel_rfl) (fun _ _ _ h => h) (Or.inl ⟨by rfl, fun wh hSw => ?_⟩) hHeld ?_
          · (obtain ⟨s0, s1, s2, s3⟩ := hSw; go_simp)
          try simp only [Act.put, List.setIfInBounds_toArray, List.set_cons_zero, List.set_cons_succ]
          refine wpAnyH_take (i := 11) (oi := { dst := some 78, op := .move (.tmp 77), type := _, pos := _, after := _, guard := none }) (v := .bool false) rfl (by kernel_rfl) (by kernel_rfl) (by kernel_rfl) (fun _ _ _ h => h) (Or.inl ⟨by rfl, fun wh hSw => ?_⟩) hHeld ?_
          · (obtain ⟨s0, s1, s2, s3⟩ := hSw; go_simp)
          try simp only [Act.put, List.setIfInBounds_toArray, List.set_cons_zero, List.set_cons_succ]
          refine wpAnyH_take (i := 12) (oi := { dst := some 79, op := .move (.tmp 12), type := _, pos := _, after := _, guard := some (11, false) }) (v := .int .i64 (t : Int)) rfl (by kernel_rfl) (by kernel_rfl) (by kernel_rfl) (fun _ _ _ h => h) (Or.inl ⟨by rfl, fun wh hSw => ?_⟩) hHeld ?_
          · (obtain ⟨s0, s1, s2, s3⟩ := hSw; go_simp)
          try simp only [Act.put, List.setIfInBounds_toArray, List.set_cons_zero, List.set_cons_succ]
          refine wpAnyH_take (i := 13) (oi := { dst := some 80, op := .move (.tmp 5), type := _, pos := _, after := _, guard := some (11, false) }) (v := .int .i64 (j : Int)) rfl (by kernel_rfl) (by kernel_rfl) (by kernel_rfl) (fun _ _ _ h => h) (Or.inl ⟨by rfl, fun wh hSw => ?_⟩) hHeld ?_
          · (obtain ⟨s0, s1, s2, s3⟩ := hSw; go_simp)
          try simp only [Act.put, List.setIfInBounds_toArray, List.set_cons_zero, List.set_cons_succ]
          refine wpAnyH_take (i := 14) (oi := { dst := some 81, op := .binOp .neq 3 (.tmp 79) (.tmp 80) 3, type := _, pos := _, after := _, guard := some (11, false) }) (v := .bool true) rfl (by kernel_rfl) (by kernel_rfl) (by kernel_rfl) (fun _ _ _ h => h) (Or.inl ⟨by rfl, fun wh hSw => ?_⟩) hHeld ?_
          · (obtain ⟨s0, s1, s2, s3⟩ := hSw; go_simp)
          try simp only [Act.put, List.setIfInBounds_toArray, List.set_cons_zero, List.set_cons_succ]
          refine wpAnyH_take (i := 15) (oi := { dst := some 82, op := .move (.tmp 81), type := _, pos := _, after := _, guard := some (11, false) }) (v := .bool true) rfl (by kernel_rfl) (by kernel_rfl) (by kernel_rfl) (fun _ _ _ h => h) (Or.inl ⟨by rfl, fun wh hSw => ?_⟩) hHeld ?_
          · (obtain ⟨s0, s1, s2, s3⟩ := hSw; go_simp)
          try simp only [Act.put, List.setIfInBounds_toArray, List.set_cons_zero, List.set_cons_succ]
          refine wpAnyH_take (i := 16) (oi := { dst := some 83, op := .move (.tmp 8), type := _, pos := _, after := _, guard := some (15, true) }) (v := .slice (some ⟨bu, ou, none⟩) 12 cu) rfl (by kernel_rfl) (by kernel_rfl) (by kernel_rfl) (fun _ _ _ h => h) (Or.inl ⟨by rfl, fun wh hSw => ?_⟩) hHeld ?_
          · (obtain ⟨s0, s1, s2, s3⟩ := hSw; go_simp)
          try simp only [Act.put, List.setIfInBounds_toArray, List.set_cons_zero, List.set_cons_succ]
          refine wpAnyH_take (i := 17) (oi := { dst := some 84, op := .move (.tmp 12), type := _, pos := _, after := _, guard := some (15, true) }) (v := .int .i64 (t : Int)) rfl (by kernel_rfl) (by kernel_rfl) (by kernel_rfl) (fun _ _ _ h => h) (Or.inl ⟨by rfl, fun wh hSw => ?_⟩) hHeld ?_
          · (obtain ⟨s0, s1, s2, s3⟩ := hSw; go_simp)
          try simp only [Act.put, List.setIfInBounds_toArray, List.set_cons_zero, List.set_cons_succ]
          refine wpAnyH_take (i := 18) (oi := { dst := some 85, op := .indexAddr 27 (.tmp 83) (.tmp 84), type := _, pos := _, after := _, guard := some (15, true) }) (v := .pointer (some ⟨bu, ou + t * 3, none⟩)) rfl (by kernel_rfl) (by kernel_rfl) (by kernel_rfl) (fun _ _ _ h => h) (Or.inl ⟨by rfl, fun wh hSw => ?_⟩) hHeld ?_
          · (obtain ⟨s0, s1, s2, s3⟩ := hSw; go_simp)
          try simp only [Act.put, List.setIfInBounds_toArray, List.set_cons_zero, List.set_cons_succ]
          refine wpAnyH_take (i := 19) (oi := { dst := some 86, op := .fieldAddr 36 (.tmp 85) 0, type := _, pos := _, after := _, guard := some (15, true) }) (v := .pointer (some ⟨bu, ou + t * 3, none⟩)) rfl (by kernel_rfl) (by kernel_rfl) (by kernel_rfl) (fun _ _ _ h => h) (Or.inl ⟨by rfl, fun wh hSw => ?_⟩) hHeld ?_
          · (obtain ⟨s0, s1, s2, s3⟩ := hSw; go_simp)
          try simp only [Act.put, List.setIfInBounds_toArray, List.set_cons_zero, List.set_cons_succ]
          refine wpAnyH_take (i := 20) (oi := { dst := some 87, op := .load 3 (.tmp 86), type := _, pos := _, after := _, guard := some (15, true) }) (v := .int .i64 x.k) rfl (by kernel_rfl) (by kernel_rfl) (by kernel_rfl) (fun _ _ _ h => h) (Or.inl ⟨by rfl, fun wh hSw => ?_⟩) hHeld ?_
          · (obtain ⟨s0, s1, s2, s3⟩ := hSw; go_simp)
          try simp only [Act.put, List.setIfInBounds_toArray, List.set_cons_zero, List.set_cons_succ]
          refine wpAnyH_take (i := 21) (oi := { dst := some 88, op := .move (.tmp 4), type := _, pos := _, after := _, guard := some (15, true) }) (v := .slice (some ⟨bl, ol, none⟩) 12 cl) rfl (by kernel_rfl) (by kernel_rfl) (by kernel_rfl) (fun _ _ _ h => h) (Or.inl ⟨by rfl, fun wh hSw => ?_⟩) hHeld ?_
          · (obtain ⟨s0, s1, s2, s3⟩ := hSw; go_simp)
          try simp only [Act.put, List.setIfInBounds_toArray, List.set_cons_zero, List.set_cons_succ]
          refine wpAnyH_take (i := 22) (oi := { dst := some 89, op := .move (.tmp 12), type := _, pos := _, after := _, guard := some (15, true) }) (v := .int .i64 (t : Int)) rfl (by kernel_rfl) (by kernel_rfl) (by kernel_rfl) (fun _ _ _ h => h) (Or.inl ⟨by rfl, fun wh hSw => ?_⟩) hHeld ?_
          · (obtain ⟨s0, s1, s2, s3⟩ := hSw; go_simp)
          try simp only [Act.put, List.setIfInBounds_toArray, List.set_cons_zero, List.set_cons_succ]
          refine wpAnyH_take (i := 23) (oi := { dst := some 90, op := .indexAddr 27 (.tmp 88) (.tmp 89), type := _, pos := _, after := _, guard := some (15, true) }) (v := .pointer (some ⟨bl, ol + t * 3, none⟩)) rfl (by kernel_rfl) (by kernel_rfl) (by kernel_rfl) (fun _ _ _ h => h) (Or.inl ⟨by rfl, fun wh hSw => ?_⟩) hHeld ?_
          · (obtain ⟨s0, s1, s2, s3⟩ := hSw; go_simp)
          try simp only [Act.put, List.setIfInBounds_toArray, List.set_cons_zero, List.set_cons_succ]
          refine wpAnyH_take (i := 24) (oi := { dst := some 91, op := .fieldAddr 36 (.tmp 90) 0, type := _, pos := _, after := _, guard := some (15, true) }) (v := .pointer (some ⟨bl, ol + t * 3, none⟩)) rfl (by kernel_rfl) (by kernel_rfl) (by kernel_rfl) (fun _ _ _ h => h) (Or.inl ⟨by rfl, fun wh hSw => ?_⟩) hHeld ?_
          · (obtain ⟨s0, s1, s2, s3⟩ := hSw; go_simp)
          try simp only [Act.put, List.setIfInBounds_toArray, List.set_cons_zero, List.set_cons_succ]
          refine wpAnyH_take (i := 25) (oi := { dst := some 92, op := .load 3 (.tmp 91), type := _, pos := _, after := _, guard := some (15, true) }) (v := .int .i64 x.k) rfl (by kernel_rfl) (by kernel_rfl) (by kernel_rfl) (fun _ _ _ h => h) (Or.inl ⟨by rfl, fun wh hSw => ?_⟩) hHeld ?_
          · (obtain ⟨s0, s1, s2, s3⟩ := hSw; go_simp)
          try simp only [Act.put, List.setIfInBounds_toArray, List.set_cons_zero, List.set_cons_succ]
          refine wpAnyH_take (i := 26) (oi := { dst := some 93, op := .binOp .neq 3 (.tmp 87) (.tmp 92) 3, type := _, pos := _, after := _, guard := some (15, true) }) (v := .bool false) rfl (by kernel_rfl) (by kernel_rfl) (by kernel_rfl) (fun _ _ _ h => h) (Or.inl ⟨by rfl, fun wh hSw => ?_⟩) hHeld ?_
          · (obtain ⟨s0, s1, s2, s3⟩ := hSw; go_simp)
          try simp only [Act.put, List.setIfInBounds_toArray, List.set_cons_zero, List.set_cons_succ]
          refine wpAnyH_take (i := 27) (oi := { dst := some 94, op := .pick (.tmp 82) (.tmp 93) (.const (.bool false)), type := _, pos := _, after := _, guard := some (11, false) }) (v := .bool false) rfl (by kernel_rfl) (by kernel_rfl) (by kernel_rfl) (fun _ _ _ h => h) (Or.inl ⟨by rfl, fun wh hSw => ?_⟩) hHeld ?_
          · (obtain ⟨s0, s1, s2, s3⟩ := hSw; go_simp)
          try simp only [Act.put, List.setIfInBounds_toArray, List.set_cons_zero, List.set_cons_succ]
          refine wpAnyH_take (i := 28) (oi := { dst := some 95, op := .pick (.tmp 78) (.const (.bool true)) (.tmp 94), type := _, pos := _, after := _, guard := none }) (v := .bool false) rfl (by kernel_rfl) (by kernel_rfl) (by kernel_rfl) (fun _ _ _ h => h) (Or.inl ⟨by rfl, fun wh hSw => ?_⟩) hHeld ?_
          · (obtain ⟨s0, s1, s2, s3⟩ := hSw; go_simp)
          try simp only [Act.put, List.setIfInBounds_toArray, List.set_cons_zero, List.set_cons_succ]
          refine wpAnyH_done (by kernel_rfl) ?_ _
          go_wp2_with fail
          go_roundw
          case rel => exact ⟨t + 1, by omega, by go_num, Lib.hid (AR.out.go (Below.refl _ _).drew), Lib.hid (UR.out.below (Below.refl _ _).drew)⟩
          case measure => simp [intOf]; omega
      · go_wp2
        go_ret
        exact ⟨rfl, AR.out.b⟩
  · have h0' : (cn == 0) = false := by simpa using h0
    have h0'' : (cn != 0) = true := by simpa using h0
    clear h0
    go_wp2_with fail
    refine (sameI w3 p2 p3 us U3.out V3.out).mono ?_
    rintro e w4 ⟨rfl, hbw4⟩
    have A4 := Lib.hid (A3.out.go hbw4)
    have U4 := Lib.hid (U3.out.below hbw4)
    have V4 := Lib.hid (V3.out.below hbw4)
    clear hbw4 A3 U3 V3
    go_wp2_with fail
    refine (sameI w4 p2 p3 us U4.out V4.out).mono ?_
    rintro e w5 ⟨rfl, hbw5⟩
    have A5 := Lib.hid (A4.out.go hbw5)
    have U5 := Lib.hid (U4.out.below hbw5)
    have V5 := Lib.hid (V4.out.below hbw5)
    clear hbw5 A4 U4 V4
    go_wp2_with fail
    go_ret
    exact ⟨rfl, A5.out.b⟩
end Go.Proofs.Yticnfekjbknomaa
