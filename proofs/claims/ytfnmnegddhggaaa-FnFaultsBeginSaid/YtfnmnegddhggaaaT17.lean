/- What the proofs stand on, part 17. -/
import Derived.Test.YtfnmnegddhggaaaRows
import Derived.Test.YtfnmnegddhggaaaT1
import Derived.Test.YtfnmnegddhggaaaT2
import Derived.Test.YtfnmnegddhggaaaT3
import Derived.Test.YtfnmnegddhggaaaT4
import Derived.Test.YtfnmnegddhggaaaT5
import Derived.Test.YtfnmnegddhggaaaT6
import Derived.Test.YtfnmnegddhggaaaT7
import Derived.Test.YtfnmnegddhggaaaT8
import Derived.Test.YtfnmnegddhggaaaT9
import Derived.Test.YtfnmnegddhggaaaT10
import Derived.Test.YtfnmnegddhggaaaT11
import Derived.Test.YtfnmnegddhggaaaT12
import Derived.Test.YtfnmnegddhggaaaT13
set_option linter.unusedSimpArgs false
set_option linter.unusedVariables false
namespace Go.Proofs.Ytfnmnegddhggaaa
open Go.ChangeShapes Go.WideShapes Go.ChangeAt Go.RowKit
set_option linter.unusedVariables false
theorem rdr_drewN {w0 w : World} {B k : Nat} (h : Rdr w0 w B k) (d : Nat) : Rdr w0 (w.drewN d) B k := by
  obtain ⟨a, len, cap, zs, p, hr, hp, hh, hb, hB⟩ := h
  exact ⟨a, len, cap, zs, p, hr, hp, hh, ⟨hb.os, hb.tape, hb.output, hb.size, hb.block⟩, hB⟩
end Go.Proofs.Ytfnmnegddhggaaa
namespace Go.Proofs.Ytfnmnegddhggaaa
open Go.ChangeShapes Go.WideShapes Go.ChangeAt Go.RowKit
set_option linter.unusedVariables false
set_option linter.unusedSimpArgs false
def Lits (w : World) (b : Nat) : Prop := ∀ i, i < 3 → ∃ x : Int, w.cell? ⟨b, i, none⟩ = some (.int .i64 x) ∧ 0 ≤ x ∧ x ≤ 13
theorem lits_new (w : World) : Lits (w.alloc (.cells #[.int .i64 0, .int .i64 12, .int .i64 13] 3)) w.heap.size := fun i hi => by
  rcases (by omega : i = 0 ∨ i = 1 ∨ i = 2) with rfl | rfl | rfl
  · exact ⟨0, new_cell rfl, by omega, by omega⟩
  · exact ⟨12, new_cell rfl, by omega, by omega⟩
  · exact ⟨13, new_cell rfl, by omega, by omega⟩
theorem Lits.only {w w' : World} {b B : Nat} (h : Lits w b) (ho : Only B w w') (hb : b ≠ B) : Lits w' b := fun i hi => by
  obtain ⟨x, hx, h1⟩ := h i hi
  exact ⟨x, (ho.cell hb).trans hx, h1⟩
def DT1 (W : World) (e : Ending) (w' : World) : Prop := ∃ v ys f, e = .returned (.tuple #[v, .int .i64 f]) ∧ (0 ≤ f ∧ f ≤ 13) ∧ DTr W v ys w'
set_option maxRecDepth 100000 in
set_option maxHeartbeats 1000000 in
theorem drawFaultsFirst_any (W : World) (a : Option Addr) (len cap : Nat) (zs : List Int) (hr : Row .u8 W a len cap zs) :
    Calls Try.prog 31 #[.slice a len cap] W (DT1 W) := by
  go_enter Try.func31, Try.ntmps31
  go_wp2_with fail
  refine (open_any W a len cap zs hr).mono ?_
  clear hr
  rintro e w1 ⟨rfl, hR1⟩
  go_wp2_with fail
  refine (trace_any W _ _ _ hR1 (by omega)).mono ?_
  rintro e w2 ⟨v, ys, rfl, hl, h⟩
  have HB := Lib.hid h
  clear h hR1
  go_wp2_with fail
  refine (pick_any W _ _ _ _ HB.out.rdr (by omega) (by omega)).mono ?_
  rintro e w3 ⟨m, h0, h1, rfl, hR3, hO3⟩
  have HC := Lib.hid (HB.out.drew hR3 hO3.grown)
  clear hR3 hO3 HB
  by_cases hm : m = 0
  · subst hm
    go_wp2_with fail
    refine wp_region_held_drew (S := fun _ => True) (by kernel_rfl) trivial (fun hHeld => ?_)
    refine anyH_gen _ (fun AZ hgen => ?_)
    have HBZ := Lib.hid (by rw [hgen]; exact HC.out.drew (rdr_drewN HC.out.rdr 1) ⟨rfl, rfl, rfl, Nat.le_refl _, fun _ _ _ => rfl⟩ : RowE W W.heap.size _ w1 v ys AZ)
    clear hgen
    refine wpAnyH_take (i := 0) (oi := { dst := some 13, op := .move (.tmp 5), type := _, pos := _, after := _, guard := none }) (v := v) rfl (by kernel_rfl) (by kernel_rfl) (by kernel_rfl) (fun _ _ _ h => h) (Or.inl ⟨by rfl, fun wh hSw => ?_⟩) hHeld ?_
    · (go_simp)
    try simp only [Act.put, List.setIfInBounds_toArray, List.set_cons_zero, List.set_cons_succ]
    refine wpAnyH_take (i := 2) (oi := { dst := some 15, op := .move (.tmp 4), type := _, pos := _, after := _, guard := none }) (v := .pointer (some ⟨W.heap.size, 0, none⟩)) rfl (by kernel_rfl) (by kernel_rfl) (by kernel_rfl) (fun _ _ _ h => h) (Or.inl ⟨by rfl, fun wh hSw => ?_⟩) hHeld ?_
    · (go_simp)
    try simp only [Act.put, List.setIfInBounds_toArray, List.set_cons_zero, List.set_cons_succ]
    refine wpAnyH_ready (rs := [1, 3]) (by kernel_rfl) (by simp) ?_
    refine AllReadyH.cons (o := { dst := some 14, op := .buildSlice 23 3 #[(0, .const (.int .i64 0)), (1, .const (.int .i64 12)), (2, .const (.int .i64 13))], type := _, pos := _, after := _, guard := none }) rfl (fun K hK => ?_) (AllReadyH.cons (o := { dst := some 16, op := .call { callee := .value (.func 54), args := #[.tmp 15, .const (.int .i64 3)], argTypes := #[36, 3] }, type := _, pos := _, after := _, guard := none }) rfl (fun K hK => ?_) AllReadyH.nil)
    · go_simp
      obtain ⟨A1, hA1⟩ : ∃ A, A = AZ.alloc (.cells #[.int .i64 0, .int .i64 12, .int .i64 13] 3) := ⟨_, rfl⟩
      rw [← hA1]
      have HB1 := Lib.hid (by rw [hA1]; exact HBZ.out.drew (rdr_alloc HBZ.out.rdr _) (galloc _ _ _) : RowE W W.heap.size _ w1 v ys A1)
      have HL1 : Hid (Lits A1 AZ.heap.size) := Lib.hid (by rw [hA1]; exact lits_new _)
      have HZ1 : Hid (W.heap.size < AZ.heap.size) := Lib.hid (rdr_lt HBZ.out.rdr)
      clear hA1
      refine hK.out _ _ ?_ (fun hHeld => ?_)
      · trivial
      clear hK K
      try simp only [Act.put, List.setIfInBounds_toArray, List.set_cons_zero, List.set_cons_succ]
      refine wpAnyH_ready (rs := [3]) (by kernel_rfl) (by simp) ?_
      refine AllReadyH.cons (o := { dst := some 16, op := .call { callee := .value (.func 54), args := #[.tmp 15, .const (.int .i64 3)], argTypes := #[36, 3] }, type := _, pos := _, after := _, guard := none }) rfl (fun K hK => ?_) AllReadyH.nil
      go_simp
      refine (pick_any W _ _ _ _ HB1.out.rdr (by omega) (by omega)).mono ?_
      rintro e A2 ⟨q, hq0, hq1, rfl, hR, hO⟩
      obtain ⟨j, rfl⟩ : ∃ j : Nat, q = (j : Int) := ⟨q.toNat, by omega⟩
      have hj3 : j < 3 := by omega
      have hj3i : (j : Int) < 3 := by omega
      have HB2 := Lib.hid (HB1.out.drew hR hO.grown)
      have HL2 := Lib.hid (HL1.out.only hO (by have := HZ1.out; omega))
      clear hR hO hq0 hq1
      refine hK.out _ _ ?_ (fun hHeld => ?_)
      · trivial
      clear hK K
      try simp only [Act.put, List.setIfInBounds_toArray, List.set_cons_zero, List.set_cons_succ]
      refine wpAnyH_take (i := 4) (oi := { dst := some 17, op := .indexAddr 23 (.tmp 14) (.tmp 16), type := _, pos := _, after := _, guard := none }) (v := .pointer (some ⟨AZ.heap.size, 0 + j, none⟩)) rfl (by kernel_rfl) (by kernel_rfl) (by kernel_rfl) (fun _ _ _ h => h) (Or.inl ⟨by rfl, fun wh hSw => ?_⟩) hHeld ?_
      · (go_simp)
      try simp only [Act.put, List.setIfInBounds_toArray, List.set_cons_zero, List.set_cons_succ]
      refine wpAnyH_take (i := 6) (oi := { dst := some 2, op := .assign (.tmp 13), type := _, pos := _, after := _, guard := none }) (v := v) rfl (by kernel_rfl) (by kernel_rfl) (by kernel_rfl) (fun _ _ _ h => h) (Or.inl ⟨by rfl, fun wh hSw => ?_⟩) hHeld ?_
      · (go_simp)
      try simp only [Act.put, List.setIfInBounds_toArray, List.set_cons_zero, List.set_cons_succ]
      refine wpAnyH_ready (rs := [5]) (by kernel_rfl) (by simp) ?_
      refine AllReadyH.cons (o := { dst := some 18, op := .load 3 (.tmp 17), type := _, pos := _, after := _, guard := none }) rfl (fun K hK => ?_) AllReadyH.nil
      obtain ⟨x, hx, hx0, hx1⟩ := HL2.out j hj3
      go_simp
      refine hK.out _ _ ?_ (fun hHeld => ?_)
      · trivial
      clear hK K
      try simp only [Act.put, List.setIfInBounds_toArray, List.set_cons_zero, List.set_cons_succ]
      refine wpAnyH_take (i := 7) (oi := { dst := some 3, op := .assign (.tmp 18), type := _, pos := _, after := _, guard := none }) (v := .int .i64 x) rfl (by kernel_rfl) (by kernel_rfl) (by kernel_rfl) (fun _ _ _ h => h) (Or.inl ⟨by rfl, fun wh hSw => ?_⟩) hHeld ?_
      · (go_simp)
      try simp only [Act.put, List.setIfInBounds_toArray, List.set_cons_zero, List.set_cons_succ]
      refine wpAnyH_done (by kernel_rfl) ?_ _
      have HD := Lib.hid (DTr.of HB2.out hl)
      clear hHeld
      go_wp2_with fail
      go_ret2
      exact ⟨_, ys, x, rfl, by omega, HD.out⟩
    · go_simp
      refine (pick_any W _ _ _ _ HBZ.out.rdr (by omega) (by omega)).mono ?_
      rintro e A4 ⟨q, hq0, hq1, rfl, hR, hO⟩
      obtain ⟨j, rfl⟩ : ∃ j : Nat, q = (j : Int) := ⟨q.toNat, by omega⟩
      have hj3 : j < 3 := by omega
      have hj3i : (j : Int) < 3 := by omega
      have HB4 := Lib.hid (HBZ.out.drew hR hO.grown)
      clear hR hO hq0 hq1
      refine hK.out _ _ ?_ (fun hHeld => ?_)
      · trivial
      clear hK K
      try simp only [Act.put, List.setIfInBounds_toArray, List.set_cons_zero, List.set_cons_succ]
      refine wpAnyH_take (i := 6) (oi := { dst := some 2, op := .assign (.tmp 13), type := _, pos := _, after := _, guard := none }) (v := v) rfl (by kernel_rfl) (by kernel_rfl) (by kernel_rfl) (fun _ _ _ h => h) (Or.inl ⟨by rfl, fun wh hSw => ?_⟩) hHeld ?_
      · (go_simp)
      try simp only [Act.put, List.setIfInBounds_toArray, List.set_cons_zero, List.set_cons_succ]
      refine wpAnyH_ready (rs := [1]) (by kernel_rfl) (by simp) ?_
      refine AllReadyH.cons (o := { dst := some 14, op := .buildSlice 23 3 #[(0, .const (.int .i64 0)), (1, .const (.int .i64 12)), (2, .const (.int .i64 13))], type := _, pos := _, after := _, guard := none }) rfl (fun K hK => ?_) AllReadyH.nil
      go_simp
      obtain ⟨A5, hA5⟩ : ∃ A, A = A4.alloc (.cells #[.int .i64 0, .int .i64 12, .int .i64 13] 3) := ⟨_, rfl⟩
      rw [← hA5]
      have HB5 := Lib.hid (by rw [hA5]; exact HB4.out.drew (rdr_alloc HB4.out.rdr _) (galloc _ _ _) : RowE W W.heap.size _ w1 v ys A5)
      have HL5 : Hid (Lits A5 A4.heap.size) := Lib.hid (by rw [hA5]; exact lits_new _)
      have HZ5 : Hid (W.heap.size < A4.heap.size) := Lib.hid (rdr_lt HB4.out.rdr)
      clear hA5
      refine hK.out _ _ ?_ (fun hHeld => ?_)
      · trivial
      clear hK K
      try simp only [Act.put, List.setIfInBounds_toArray, List.set_cons_zero, List.set_cons_succ]
      refine wpAnyH_take (i := 4) (oi := { dst := some 17, op := .indexAddr 23 (.tmp 14) (.tmp 16), type := _, pos := _, after := _, guard := none }) (v := .pointer (some ⟨A4.heap.size, 0 + j, none⟩)) rfl (by kernel_rfl) (by kernel_rfl) (by kernel_rfl) (fun _ _ _ h => h) (Or.inl ⟨by rfl, fun wh hSw => ?_⟩) hHeld ?_
      · (go_simp)
      try simp only [Act.put, List.setIfInBounds_toArray, List.set_cons_zero, List.set_cons_succ]
      refine wpAnyH_ready (rs := [5]) (by kernel_rfl) (by simp) ?_
      refine AllReadyH.cons (o := { dst := some 18, op := .load 3 (.tmp 17), type := _, pos := _, after := _, guard := none }) rfl (fun K hK => ?_) AllReadyH.nil
      obtain ⟨x, hx, hx0, hx1⟩ := HL5.out j hj3
      go_simp
      refine hK.out _ _ ?_ (fun hHeld => ?_)
      · trivial
      clear hK K
      try simp only [Act.put, List.setIfInBounds_toArray, List.set_cons_zero, List.set_cons_succ]
      refine wpAnyH_take (i := 7) (oi := { dst := some 3, op := .assign (.tmp 18), type := _, pos := _, after := _, guard := none }) (v := .int .i64 x) rfl (by kernel_rfl) (by kernel_rfl) (by kernel_rfl) (fun _ _ _ h => h) (Or.inl ⟨by rfl, fun wh hSw => ?_⟩) hHeld ?_
      · (go_simp)
      try simp only [Act.put, List.setIfInBounds_toArray, List.set_cons_zero, List.set_cons_succ]
      refine wpAnyH_done (by kernel_rfl) ?_ _
      have HD := Lib.hid (DTr.of HB5.out hl)
      clear hHeld
      go_wp2_with fail
      go_ret2
      exact ⟨_, ys, x, rfl, by omega, HD.out⟩
  · have hm' : (m == 0) = false := by simpa using hm
    go_wp2_with fail
    refine (pick_any W _ _ _ _ HC.out.rdr (by omega) (by omega)).mono ?_
    rintro e w4 ⟨q, hq0, hq1, rfl, hR4, hO4⟩
    have HD := Lib.hid (DTr.of (HC.out.drew hR4 hO4.grown) hl)
    have hw : IntKind.i64.wrap (1 + q) = 1 + q := by rw [IntKind.wrap_i64]; omega
    clear hR4 hO4 HC hl
    go_wp2_with fail
    go_ret2
    exact ⟨_, ys, 1 + q, rfl, by omega, HD.out⟩
end Go.Proofs.Ytfnmnegddhggaaa
namespace Go.Proofs.Ytfnmnegddhggaaa
open Go.ChangeShapes Go.WideShapes Go.ChangeAt Go.RowKit
set_option linter.unusedVariables false
set_option linter.unusedSimpArgs false
theorem ft_no {xs : List Int} {f : Int} (h : ¬ ftOk xs f = true) : ffirst xs f = -1 ∧ flast xs f = -1 ∧ fbest xs f = -1 :=
  ⟨by rw [ffirst, if_neg h], by rw [flast, if_neg h], by rw [fbest, if_neg h]⟩
end Go.Proofs.Ytfnmnegddhggaaa
