/- What the proofs stand on, part 51. -/
import Derived.Test.YtfnmnegddhggaaaRows
import Derived.Test.YtfnmnegddhggaaaT1
import Derived.Test.YtfnmnegddhggaaaT2
import Derived.Test.YtfnmnegddhggaaaT4
import Derived.Test.YtfnmnegddhggaaaT5
import Derived.Test.YtfnmnegddhggaaaT6
import Derived.Test.YtfnmnegddhggaaaT8
import Derived.Test.YtfnmnegddhggaaaT9
import Derived.Test.YtfnmnegddhggaaaT10
import Derived.Test.YtfnmnegddhggaaaT11
import Derived.Test.YtfnmnegddhggaaaT12
import Derived.Test.YtfnmnegddhggaaaT13
import Derived.Test.YtfnmnegddhggaaaT15
import Derived.Test.YtfnmnegddhggaaaT20
import Derived.Test.YtfnmnegddhggaaaT31
import Derived.Test.YtfnmnegddhggaaaT36
set_option linter.unusedSimpArgs false
set_option linter.unusedVariables false
namespace Go.Proofs.Ytfnmnegddhggaaa
open Go.ChangeShapes Go.WideShapes Go.ChangeAt Go.RowKit
set_option linter.unusedVariables false
theorem cell_of_own {w w' : World} {g n c : Nat} {ys : List Int} (h : OwnI w (.slice (some ⟨g, 0, none⟩) n c) ys w') (k : Nat) (hk : k < ys.length) : w'.cell? ⟨g, k, none⟩ = some (.int .i64 (ys.getD k 0)) := by
  have := h.own.cells (g := g) rfl k (.int .i64 (ys.getD k 0)) (by rw [getD_lt hk]; simp [hk])
  rw [add0] at this
  exact this
theorem frozen_of_own {w w' : World} {g n c : Nat} {ys : List Int} (h : OwnI w (.slice (some ⟨g, 0, none⟩) n c) ys w') (k : Nat) : w'.frozen? ⟨g, k, none⟩ = false := by
  rcases h.own.2 with ⟨e, _⟩ | ⟨g', cap, cur, e, _, hbl, _⟩
  · exact absurd e h.nn
  · injection e with e _ _
    injection e with e
    injection e with e
    subst e
    exact frozen_of_row w' g k cur _ hbl
end Go.Proofs.Ytfnmnegddhggaaa
namespace Go.Proofs.Ytfnmnegddhggaaa
open Go.ChangeShapes Go.WideShapes Go.ChangeAt Go.RowKit
set_option linter.unusedVariables false
theorem wpList_append_ints {ops : Array Oper} {rest : List Oper} {a : Act} {w : World} {Q : Exit → Act → World → Prop} {dst : Option Nat} {tt : TypeId} {pos : String} {after : Array Edge} (s x : Operand)
    (W0 : World) (v : Value) (ys : List Int) (hs : a.eval s = v) (hown : OwnI W0 v ys w) (xv : Value) (zs : List Int) (hx : a.eval x = xv) (hz : Ints w xv zs) (hl : ys.length + zs.length ≤ 1000000)
    (h : ∀ v' w', OwnI W0 v' (ys ++ zs) w' → w.grownBy w' v.ownBlock → wpList Try.prog ops Q rest (a.put dst v') w') :
    wpList Try.prog ops Q ({ dst := dst, op := .call { callee := .builtin .append, args := #[s, x], argTypes := #[23, 23] }, type := tt, pos := pos, after := after, guard := none } :: rest) a w :=
  wpList_plain rfl fun K hK => wp_append_ints s x W0 v ys hs hown xv zs hx hz hl (fun v' w' h1 h2 => hK _ _ (h v' w' h1 h2))
end Go.Proofs.Ytfnmnegddhggaaa
namespace Go.Proofs.Ytfnmnegddhggaaa
open Go.ChangeShapes Go.WideShapes Go.ChangeAt Go.RowKit
set_option linter.unusedVariables false
set_option linter.unusedSimpArgs false
theorem drawTraceValid_any (W : World) (a : Option Addr) (len cap : Nat) (zs : List Int) (hr : Row .u8 W a len cap zs) :
    Calls Try.prog 33 #[.slice a len cap] W (DT0 W) := by
  go_enter Try.func33, Try.ntmps33
  go_wp2_with fail
  refine (open_any W a len cap zs hr).mono ?_
  clear hr
  rintro e w1 ⟨rfl, hR1⟩
  go_wp2_with fail
  refine (trace_any W _ _ _ hR1 (by omega)).mono ?_
  rintro e w2 ⟨v, ys, rfl, hl, h⟩
  have HD := Lib.hid (DTr.of h hl)
  clear h hR1 hl
  go_wp2_with fail
  go_ret
  exact ⟨_, ys, rfl, HD.out⟩
end Go.Proofs.Ytfnmnegddhggaaa
namespace Go.Proofs.Ytfnmnegddhggaaa
open Go.ChangeShapes Go.WideShapes Go.ChangeAt Go.RowKit
set_option linter.unusedVariables false
set_option linter.unusedSimpArgs false
theorem fact_part {xs : List Int} (h : trOk xs = true) {k : Nat} (hk : k < xs.length) : trOk (xs.take k ++ xs.drop (k + 1)) = true ∧ trOk (xs.set k 16) = false := by
  have ho := trOk_iff.1 h
  refine ⟨trOk_iff.2 ⟨fun x hx => ?_, by rw [List.length_append, List.length_take, List.length_drop]; have := ho.2; omega⟩, ?_⟩
  · rcases List.mem_append.1 hx with h' | h'
    · exact ho.1 x (List.mem_of_mem_take h')
    · exact ho.1 x (List.mem_of_mem_drop h')
  · rw [Bool.eq_false_iff]
    intro hc
    have := (trOk_iff.1 hc).1 16 (List.mem_iff_getElem.2 ⟨k, by rw [List.length_set]; exact hk, by simp⟩)
    omega
end Go.Proofs.Ytfnmnegddhggaaa
namespace Go.Proofs.Ytfnmnegddhggaaa
open Go.ChangeShapes Go.WideShapes Go.ChangeAt Go.RowKit
set_option linter.unusedVariables false
set_option linter.unusedSimpArgs false
set_option maxRecDepth 100000 in
set_option maxHeartbeats 2000000 in
theorem tracePart_walk (ctv : CTV) (cts : CTS) (cff : CFF) (cfl : CFL) (cfb : CFB) (W : World) (a : Option Addr) (len cap : Nat) (zs : List Int) (a1 : Option Addr) (len1 cap1 : Nat) (zs1 : List Int) (hr : Row .u8 W a len cap zs) (hr1 : Row .u8 W a1 len1 cap1 zs1) :
    Calls Try.prog 12 #[.slice a len cap, .slice a1 len1 cap1] W fun e w' => e = .returned (.bool true) ∧ Below W.heap.size W w' := by
  have hm := row_len hr
  have hm1 := row_len hr1
  by_cases hL : 1048576 < len
  · have hL1 : (1048576 : Int) < (len : Int) := by omega
    clear hr
    go_enter Try.func12, Try.ntmps12
    go_wp2_with fail
    go_ret
    exact ⟨rfl, Below.refl _ _⟩
  have hL1 : decide ((1048576 : Int) < (len : Int)) = false := by simp; omega
  have hL2 : decide (1048576 < len) = false := by simp; omega
  by_cases hM : 1048576 < len1
  · have hM1 : (1048576 : Int) < (len1 : Int) := by omega
    clear hr
    go_enter Try.func12, Try.ntmps12
    go_wp2_with fail
    go_ret
    exact ⟨rfl, Below.refl _ _⟩
  have hM1 : decide ((1048576 : Int) < (len1 : Int)) = false := by simp; omega
  have hM2 : decide (1048576 < len1) = false := by simp; omega
  go_enter Try.func12, Try.ntmps12
  go_wp2_with fail
  refine (drawTraceValid_any W a len cap zs hr).mono ?_
  clear hr
  rintro e w1 ⟨v, ys, rfl, hd⟩
  have B1 := Lib.hid hd.bel
  have R1 := Lib.hid hd.ints
  have hl25 := hd.len
  obtain ⟨g, c, hv⟩ := hd.form
  clear hd
  subst hv
  have HV := Lib.hid (fun (w : World) (h : Ints w (.slice (some ⟨g, 0, none⟩) ys.length c) ys) => ctv w _ ys h)
  have SV := Lib.hid (fun (w : World) (h : Ints w (.slice (some ⟨g, 0, none⟩) ys.length c) ys) => sTraceValid_any w _ ys h)
  have FA := Lib.hid ((fun h k hk => fact_part h (k := k) hk : trOk ys = true → ∀ k : Nat, k < ys.length → _))
  have CV := Lib.hid (fun (w : World) (v : Value) (xs : List Int) (h : Ints w v xs) => ctv w v xs h)
  have HYN : Hid (ys.length ≤ 25) := Lib.hid hl25
  obtain ⟨n, hn⟩ : ∃ n, n = ys.length := ⟨_, rfl⟩
  rw [← hn] at hl25 R1 HV SV ⊢
  have HN := Lib.hid hn
  clear hn
  generalize trOk ys = t at HV SV FA
  have htt := neB t
  go_wp2_with fail
  refine (HV.out w1 R1.out).mono ?_
  rintro e w2 ⟨rfl, hb⟩
  have B2 := Lib.hid (B1.out.trans (hb.mono B1.out.size))
  have R2 := Lib.hid (Ints.below (B := 0) R1.out hb)
  clear hb
  go_wp2_with fail
  refine (SV.out w2 R2.out).mono ?_
  rintro e w' ⟨rfl, rfl⟩
  cases t with
  | false =>
    go_wp2_with fail
    go_ret
    exact ⟨rfl, B2.out⟩
  | true =>
    by_cases hn0 : n = 0
    · have hn01 : ((n : Int) == 0) = true := by rw [beq_iff_eq]; omega
      go_wp2_with fail
      go_ret
      exact ⟨rfl, B2.out⟩
    · have hn01 : ((n : Int) == 0) = false := by rw [beq_eq_false_iff_ne]; omega
      obtain ⟨j, hj⟩ : ∃ j : Nat, j = len1 % n := ⟨_, rfl⟩
      have hjn : j < n := by rw [hj]; exact Nat.mod_lt len1 (by omega)
      have hrem : (len1 : Int) % (n : Int) = (j : Int) := by subst hj; simp
      have hrem2 : (len1 : Int).tmod (n : Int) = (j : Int) := by rw [Int.tmod_eq_emod_of_nonneg (by omega)]; exact hrem
      have HG := Lib.hid (FA.out rfl j (by rw [← HN.out]; exact hjn))
      clear hj FA hn0
      go_wp2_with fail
      refine wp_region_held_drew (S := fun _ => True) (by kernel_rfl) trivial (fun hHeld => ?_)
      refine anyH_gen _ (fun AZ hgen => ?_)
      have HBZ := Lib.hid (by rw [hgen]; exact Below.drew (Below.refl _ _) : Below w2.heap.size w2 AZ)
      clear hgen
      have HB0 : Hid (Below AZ.heap.size AZ AZ) := Lib.hid (Below.refl _ _)
      have HKZ := Lib.hid (Ints.below (B := 0) R2.out HBZ.out)
      obtain ⟨v48, hto, hto2⟩ := slice_to HKZ.out j (by rw [← HN.out]; omega) (j : Int) rfl
      obtain ⟨v53, hfr, hfr2⟩ := slice_from HKZ.out (j + 1) (by rw [← HN.out]; omega) ((j : Int) + 1) (by omega)
      have HTO := Lib.hid (hto2 _ HKZ.out)
      have HFR := Lib.hid (hfr2 _ HKZ.out)
      have HTO1 := Lib.hid hto
      have HFR1 := Lib.hid hfr
      clear hto hto2 hfr hfr2
      refine wpAnyH_take (i := 1) (oi := { dst := some 46, op := .move (.tmp 5), type := _, pos := _, after := _, guard := none }) (v := .slice (some ⟨g, 0, none⟩) n c) rfl (by kernel_rfl) (by kernel_rfl) (by kernel_rfl) (fun _ _ _ h => h) (Or.inl ⟨by rfl, fun wh hSw => ?_⟩) hHeld ?_
      · (go_simp)
      try simp only [Act.put, List.setIfInBounds_toArray, List.set_cons_zero, List.set_cons_succ]
      refine wpAnyH_take (i := 2) (oi := { dst := some 47, op := .move (.tmp 8), type := _, pos := _, after := _, guard := none }) (v := .int .i64 (j : Int)) rfl (by kernel_rfl) (by kernel_rfl) (by kernel_rfl) (fun _ _ _ h => h) (Or.inl ⟨by rfl, fun wh hSw => ?_⟩) hHeld ?_
      · (go_simp)
      try simp only [Act.put, List.setIfInBounds_toArray, List.set_cons_zero, List.set_cons_succ]
      refine wpAnyH_take (i := 3) (oi := { dst := some 48, op := .slice 23 (.tmp 46) none (some (.tmp 47)) none, type := _, pos := _, after := _, guard := none }) (v := v48) rfl (by kernel_rfl) (by kernel_rfl) (by kernel_rfl) (fun _ _ _ h => h) (Or.inl ⟨by rfl, fun wh hSw => ?_⟩) hHeld ?_
      · exact exec_slice rfl (HTO1.out wh)
      try simp only [Act.put, List.setIfInBounds_toArray, List.set_cons_zero, List.set_cons_succ]
      refine wpAnyH_take (i := 5) (oi := { dst := some 50, op := .move (.tmp 5), type := _, pos := _, after := _, guard := none }) (v := .slice (some ⟨g, 0, none⟩) n c) rfl (by kernel_rfl) (by kernel_rfl) (by kernel_rfl) (fun _ _ _ h => h) (Or.inl ⟨by rfl, fun wh hSw => ?_⟩) hHeld ?_
      · (go_simp)
      try simp only [Act.put, List.setIfInBounds_toArray, List.set_cons_zero, List.set_cons_succ]
      refine wpAnyH_take (i := 6) (oi := { dst := some 51, op := .move (.tmp 8), type := _, pos := _, after := _, guard := none }) (v := .int .i64 (j : Int)) rfl (by kernel_rfl) (by kernel_rfl) (by kernel_rfl) (fun _ _ _ h => h) (Or.inl ⟨by rfl, fun wh hSw => ?_⟩) hHeld ?_
      · (go_simp)
      try simp only [Act.put, List.setIfInBounds_toArray, List.set_cons_zero, List.set_cons_succ]
      refine wpAnyH_take (i := 7) (oi := { dst := some 52, op := .binOp .add 3 (.tmp 51) (.const (.int .i64 1)) 3, type := _, pos := _, after := _, guard := none }) (v := .int .i64 ((j : Int) + 1)) rfl (by kernel_rfl) (by kernel_rfl) (by kernel_rfl) (fun _ _ _ h => h) (Or.inl ⟨by rfl, fun wh hSw => ?_⟩) hHeld ?_
      · (go_simp; rw [IntKind.wrap_i64]; omega)
      try simp only [Act.put, List.setIfInBounds_toArray, List.set_cons_zero, List.set_cons_succ]
      refine wpAnyH_take (i := 8) (oi := { dst := some 53, op := .slice 23 (.tmp 50) (some (.tmp 52)) none none, type := _, pos := _, after := _, guard := none }) (v := v53) rfl (by kernel_rfl) (by kernel_rfl) (by kernel_rfl) (fun _ _ _ h => h) (Or.inl ⟨by rfl, fun wh hSw => ?_⟩) hHeld ?_
      · exact exec_slice rfl (HFR1.out wh)
      try simp only [Act.put, List.setIfInBounds_toArray, List.set_cons_zero, List.set_cons_succ]
      refine wpAnyH_ready (rs := [0]) (by kernel_rfl) (by simp) ?_
      refine AllReadyH.cons (o := { dst := some 45, op := .buildSlice 23 0 #[], type := _, pos := _, after := _, guard := none }) rfl (fun K hK => ?_) AllReadyH.nil
      go_simp
      obtain ⟨A1, hA1⟩ : ∃ A, A = AZ.alloc (.cells #[] 3) := ⟨_, rfl⟩
      rw [← hA1]
      have hb1 : Below AZ.heap.size AZ A1 := by rw [hA1]; exact (Below.refl _ _).alloc (Nat.le_refl _) _
      have HB1 : Hid (Below AZ.heap.size AZ A1) := Lib.hid (HB0.out.trans (hb1.mono HB0.out.size))
      have HSZ1 : Hid (AZ.heap.size < A1.heap.size) := Lib.hid (by rw [hA1]; simp)
      have HO45_1 : Hid (OwnI AZ (.slice (some ⟨AZ.heap.size, 0, none⟩) 0 0) [] A1) := Lib.hid (by rw [hA1]; exact OwnI.start _)
      clear hA1 hb1
      refine hK.out _ _ ?_ (fun hHeld => ?_)
      · exact trivial
      clear hK K
      try simp only [Act.put, List.setIfInBounds_toArray, List.set_cons_zero, List.set_cons_succ]
      refine wpAnyH_ready (rs := [4]) (by kernel_rfl) (by simp) ?_
      refine AllReadyH.cons (o := { dst := some 49, op := .call { callee := .builtin .append, args := #[.tmp 45, .tmp 48], argTypes := #[23, 23] }, type := _, pos := _, after := _, guard := none }) rfl (fun K hK => ?_) AllReadyH.nil
      rw [if_pos (by rfl)]
      refine wp_append_ints (.tmp 45) (.tmp 48) AZ (.slice (some ⟨AZ.heap.size, 0, none⟩) 0 0) [] rfl HO45_1.out v48 ((ys.take j)) rfl (Ints.below (B := 0) HTO.out HB1.out) (by have := HYN.out; simp only [List.length_nil, List.length_append, List.length_cons, List.length_take, List.length_drop]; omega) ?_
      intro v2 A2 hO2 hg2
      rw [List.nil_append] at hO2
      have HO49_2 := Lib.hid hO2
      have HB2 : Hid (Below AZ.heap.size AZ A2) := Lib.hid (HB0.out.trans (hO2.bel.mono HB0.out.size))
      clear hO2 hg2
      refine hK.out _ _ ?_ (fun hHeld => ?_)
      · exact trivial
      clear hK K
      try simp only [Act.put, List.setIfInBounds_toArray, List.set_cons_zero, List.set_cons_succ]
      refine wpAnyH_ready (rs := [9]) (by kernel_rfl) (by simp) ?_
      refine AllReadyH.cons (o := { dst := some 54, op := .call { callee := .builtin .append, args := #[.tmp 49, .tmp 53], argTypes := #[23, 23] }, type := _, pos := _, after := _, guard := none }) rfl (fun K hK => ?_) AllReadyH.nil
      rw [if_pos (by rfl)]
      refine wp_append_ints (.tmp 49) (.tmp 53) AZ v2 (ys.take j) rfl HO49_2.out v53 ((ys.drop (j + 1))) rfl (Ints.below (B := 0) HFR.out HB2.out) (by have := HYN.out; simp only [List.length_nil, List.length_append, List.length_cons, List.length_take, List.length_drop]; omega) ?_
      intro v3 A3 hO3 hg3
      have HO54_3 := Lib.hid hO3
      have HB3 : Hid (Below AZ.heap.size AZ A3) := Lib.hid (HB0.out.trans (hO3.bel.mono HB0.out.size))
      clear hO3 hg3
      refine hK.out _ _ ?_ (fun hHeld => ?_)
      · exact trivial
      clear hK K
      try simp only [Act.put, List.setIfInBounds_toArray, List.set_cons_zero, List.set_cons_succ]
      refine wpAnyH_take (i := 10) (oi := { dst := some 9, op := .assign (.tmp 54), type := _, pos := _, after := _, guard := none }) (v := v3) rfl (by kernel_rfl) (by kernel_rfl) (by kernel_rfl) (fun _ _ _ h => h) (Or.inl ⟨by rfl, fun wh hSw => ?_⟩) hHeld ?_
      · (go_simp)
      try simp only [Act.put, List.setIfInBounds_toArray, List.set_cons_zero, List.set_cons_succ]
      refine wpAnyH_done (by kernel_rfl) ?_ _
      have X3 := Lib.hid HO54_3.out.ints
      have B3 : Hid (Below W.heap.size W A3) := Lib.hid (B2.out.trans ((HBZ.out.trans (HB3.out.mono HBZ.out.size)).mono B2.out.size))
      have R3 := Lib.hid (Ints.below (B := 0) R2.out (HBZ.out.trans (HB3.out.mono HBZ.out.size)))
      obtain ⟨wX, hwX⟩ : ∃ wX, wX = A3 := ⟨_, rfl⟩
      obtain ⟨vX, hvX⟩ : ∃ vX, vX = v3 := ⟨_, rfl⟩
      rw [← hvX] at X3 ⊢
      rw [← hwX] at X3 B3 R3 ⊢
      clear hwX hvX HB0 HBZ hHeld
      have HST := Lib.hid (OwnI.start wX)
      have R4 := Lib.hid (Ints.below (B := 0) R3.out HST.out.bel)
      have CVX : Hid (∀ w v, Ints w v (ys.take j ++ ys.drop (j + 1)) → Calls Try.prog 34 #[v] w (BRes true w)) := Lib.hid (fun w v h => by have := CV.out w v _ h; rwa [HG.out.1] at this)
      have CVY : Hid (∀ w v, Ints w v (ys.set j 16) → Calls Try.prog 34 #[v] w (BRes false w)) := Lib.hid (fun w v h => by have := CV.out w v _ h; rwa [HG.out.2] at this)
      clear CV HV SV HG
      go_wp2_with (at_builtin; refine wpList_append_ints _ _ wX _ [] rfl HST.out _ ys rfl R4.out (by have := HYN.out; simp; omega) ?_; intro v5 w5 hown _; rw [List.nil_append] at hown; have HO := Lib.hid hown; clear hown; obtain ⟨g5, c5, hv5, hc51, hc52⟩ := HO.out.slice; subst hv5; have c5c := cell_of_own HO.out j (by rw [← HN.out]; exact hjn); have f5c := frozen_of_own HO.out j; have hjl : (j : Int) < (ys.length : Int) := by rw [← HN.out]; omega)
      have HIW := Lib.hid ((IntsW.of_own HO.out).set (k := j) (by rw [← HN.out]; exact hjn) 16)
      have HG5 : Hid (wX.heap.size ≤ g5) := Lib.hid (by
        obtain ⟨a9, c9, e9, _, _, r3⟩ := IntsW.of_own HO.out
        injection e9 with e91 _ _
        subst e91
        obtain ⟨g9, p9, e, h0, _⟩ := r3 j (by rw [← HN.out]; exact hjn)
        cases e; exact h0)
      have HBS : Hid (Below wX.heap.size wX (w5.setCell ⟨g5, j, none⟩ (.int .i64 16))) := Lib.hid (HO.out.bel.setCell (p := ⟨g5, j, none⟩) HG5.out _)
      have X5 := Lib.hid (Ints.below (B := 0) X3.out HBS.out)
      have Y5 := Lib.hid HIW.out.ints
      have B5 := Lib.hid (B3.out.trans (HBS.out.mono B3.out.size))
      rw [Nat.zero_add] at Y5
      clear HIW HBS HG5 c5c f5c
      obtain ⟨w6, hw6⟩ : ∃ w6, w6 = w5.setCell ⟨g5, j, none⟩ (.int .i64 16) := ⟨_, rfl⟩
      rw [← hw6] at X5 Y5 B5 ⊢
      clear hw6
      refine (CVX.out _ _ X5.out).mono ?_
      rintro e w7 ⟨rfl, hb7⟩
      have Y7 := Lib.hid (Ints.below (B := 0) Y5.out hb7)
      have B7 := Lib.hid (B5.out.trans (hb7.mono B5.out.size))
      clear hb7
      go_wp2_with fail
      refine (CVY.out _ _ Y7.out).mono ?_
      rintro e w8 ⟨rfl, hb8⟩
      have B8 := Lib.hid (B7.out.trans (hb8.mono B7.out.size))
      clear hb8
      go_wp2_with fail
      go_ret
      exact ⟨rfl, B8.out⟩
end Go.Proofs.Ytfnmnegddhggaaa
