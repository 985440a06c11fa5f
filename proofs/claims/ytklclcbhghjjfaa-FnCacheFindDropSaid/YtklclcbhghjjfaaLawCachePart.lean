/- The walk of the statement that translations may be missing, out of a contract of the program. -/
import Derived.Test.YtklclcbhghjjfaaLawCacheOthers
import Derived.Deep.RegionHeld
namespace Go.Proofs.Ytklclcbhghjjfaa
open Go.ChangeShapes Go.WideShapes Go.ChangeAt Go.RowKit
set_option linter.unusedVariables false

theorem slice_lowC (b o m c k : Nat) (i : Int) (hi : i = (k : Int)) (hc : 0 < c) (hk : k ≤ c) (W : World) : (Instr.sliceAt 23 (.slice (some ⟨b, o, none⟩) m c) none (some (.int .i64 i)) none).run Try.prog W = .ok (.slice (some ⟨b, o, none⟩) k c) W := by
  subst hi
  unfold Instr.sliceAt
  simp only [Sem.run_bind, run_underlying Try.underlying23, Result.andThen_ok]
  unfold Instr.slice
  simp only [Sem.run_bind, run_underlying Try.underlying23, Result.andThen_ok, Instr.sliceBounds, Instr.sliceBound, asIntOf, Sem.run_pure]
  have h : (0 : Int) ≤ (k : Int) ∧ (k : Int) ≤ (c : Int) := by omega
  have h0 : ¬ c = 0 := by omega
  simp [h, h0, Try.sizeOf25, Addr.add_mid]
theorem slice_fromC (b o m c k : Nat) (i : Int) (hi : i = (k : Int)) (hm : m ≤ c) (hk : k ≤ m) : ∃ A : Addr, (A = ⟨b, o + k * 4, none⟩ ∨ m - k = 0) ∧ ∀ W : World, (Instr.sliceAt 23 (.slice (some ⟨b, o, none⟩) m c) (some (.int .i64 i)) none none).run Try.prog W = .ok (.slice (some A) (m - k) (c - k)) W := by
  subst hi
  have h : (0 : Int) ≤ (k : Int) ∧ (k : Int) ≤ (m : Int) := by omega
  refine ⟨if c = k then ⟨b, o, none⟩ else ⟨b, o + k * 4, none⟩, ?_, fun W => ?_⟩
  · by_cases hh : c = k
    · exact .inr (by omega)
    · rw [if_neg hh]; exact .inl rfl
  · unfold Instr.sliceAt
    simp only [Sem.run_bind, run_underlying Try.underlying23, Result.andThen_ok]
    unfold Instr.slice
    simp only [Sem.run_bind, run_underlying Try.underlying23, Result.andThen_ok, Instr.sliceBounds, Instr.sliceBound, asIntOf, Sem.run_pure]
    by_cases hh : c = k
    · simp [h, hh, Try.sizeOf25, Addr.add_mid]
    · simp [h, hh, Try.sizeOf25, Addr.add_mid]
/-- the cells of a slice of translations, from the i-th on -/
theorem cells_from {w : World} {b o : Nat} {xs : List CV} (h : ∀ i, i < xs.length → Four w b (o + i * 4) (xs.getD i c0)) (i : Nat) (ys : List CV) (hy : ∀ j, j < ys.length → i + j < xs.length ∧ ys.getD j c0 = xs.getD (i + j) c0) :
    ∀ j u, (csC ys)[j]? = some u → w.cell? ⟨b, o + i * 4 + j, none⟩ = some u := by
  intro j u hj
  have hlt : j < ys.length * 4 := by
    have := (List.getElem?_eq_some_iff.1 hj).1
    rwa [csC_len] at this
  have e : j = j / 4 * 4 + j % 4 := by omega
  have hq : j / 4 < ys.length := by omega
  have hr : j % 4 < 4 := by omega
  rw [e, csC_get ys hq hr] at hj
  obtain ⟨h1, h2⟩ := hy (j / 4) hq
  rw [h2] at hj
  have hf := h (i + j / 4) h1
  rw [show o + i * 4 + j = o + (i + j / 4) * 4 + j % 4 by omega]
  have hc : j % 4 = 0 ∨ j % 4 = 1 ∨ j % 4 = 2 ∨ j % 4 = 3 := by omega
  rcases hc with hc | hc | hc | hc <;> rw [hc] at hj ⊢ <;> injection hj with hj <;> subst hj
  · exact hf.c0
  · exact hf.c1
  · exact hf.c2
  · exact hf.c3
theorem low_cells {w : World} {b o : Nat} {xs : List CV} (h : ∀ i, i < xs.length → Four w b (o + i * 4) (xs.getD i c0)) (k : Nat) :
    ∀ j u, (csC (xs.take k))[j]? = some u → w.cell? ⟨b, o + j, none⟩ = some u := by
  have := cells_from h 0 (xs.take k) (fun j hj => by
    rw [List.length_take] at hj
    refine ⟨by omega, ?_⟩
    rw [Nat.zero_add, List.getD_eq_getElem?_getD, List.getElem?_take_of_lt (by omega), List.getD_eq_getElem?_getD])
  rwa [Nat.zero_mul, Nat.add_zero] at this
theorem high_cells {w : World} {b o : Nat} {xs : List CV} (h : ∀ i, i < xs.length → Four w b (o + i * 4) (xs.getD i c0)) (k : Nat) :
    ∀ j u, (csC (xs.drop k))[j]? = some u → w.cell? ⟨b, o + k * 4 + j, none⟩ = some u :=
  cells_from h k (xs.drop k) (fun j hj => by
    rw [List.length_drop] at hj
    refine ⟨by omega, ?_⟩
    rw [List.getD_eq_getElem?_getD, List.getElem?_drop, List.getD_eq_getElem?_getD])
theorem no_cells {ys : List CV} (h : ys.length = 0) (j : Nat) (u : Value) : ¬ (csC ys)[j]? = some u := by
  obtain rfl := List.eq_nil_of_length_eq_zero h
  simp [csC]
theorem cs_parts {w : World} {B n : Nat} {v : Value} {xs ys : List CV} (h : w.ownsRow B 25 4 v n (([] ++ csC xs) ++ csC ys)) (hn : n = xs.length + ys.length) : Cs w v (xs ++ ys) := by
  subst hn
  refine cs_of_own (B := B) ?_
  rw [List.length_append, show csC (xs ++ ys) = ([] ++ csC xs) ++ csC ys from by simp [csC]]
  exact h
set_option maxRecDepth 100000 in
set_option maxHeartbeats 2000000 in
theorem cachePart_walk (hV : CVal) (W : World) (a : Option Addr) (len cap : Nat) (zs : List Int) (a1 : Option Addr) (len1 cap1 : Nat) (zs1 : List Int) (hr : Row .u8 W a len cap zs) (hr1 : Row .u8 W a1 len1 cap1 zs1) :
    Calls Try.prog 9 #[.slice a len cap, .slice a1 len1 cap1] W fun e w' => e = .returned (.bool true) ∧ Below W.heap.size W w' := by
  have HhV := Lib.hid hV
  clear hV
  obtain ⟨i0, hi, hz0, hz1, hz2⟩ := info_parts cvInfo
  have HI := Lib.hid hi
  have HZ0 := Lib.hid hz0
  have HZ1 := Lib.hid hz1
  have HZ2 := Lib.hid hz2
  clear hi hz0 hz1 hz2
  have hm := row_len hr
  have hm1 := row_len hr1
  clear hr1
  by_cases hL : 1048576 < len
  · have hL1 : (1048576 : Int) < (len : Int) := by omega
    clear hr
    go_enter Try.func9, Try.ntmps9
    go_wp2_with fail
    go_ret
    exact ⟨rfl, Below.refl _ _⟩
  have hL1 : decide ((1048576 : Int) < (len : Int)) = false := by simp; omega
  have hL2 : decide (1048576 < len) = false := by simp; omega
  by_cases hM : 1048576 < len1
  · have hM1 : (1048576 : Int) < (len1 : Int) := by omega
    clear hr
    go_enter Try.func9, Try.ntmps9
    go_wp2_with fail
    go_ret
    exact ⟨rfl, Below.refl _ _⟩
  have hM1 : decide ((1048576 : Int) < (len1 : Int)) = false := by simp; omega
  have hM2 : decide (1048576 < len1) = false := by simp; omega
  go_enter Try.func9, Try.ntmps9
  go_wp2_with fail
  refine (drawCacheValid_any W a len cap zs hr).mono ?_
  clear hr
  rintro e w1 ⟨v, xs, rfl, hD⟩
  have B1 := Lib.hid hD.bel
  have R1 := Lib.hid hD.cs
  clear hD
  have HC := Lib.hid (HhV.out w1 v xs R1.out)
  have HVA := Lib.hid (fun w => fun h : Cs w v xs => cValid_any w v xs h)
  have HOK := Lib.hid (fun h : cOk xs = true => And.intro (fun k => part_ok h k) (cOk_len h))
  obtain ⟨ok, hok⟩ : ∃ ok, ok = cOk xs := ⟨_, rfl⟩
  rw [← hok] at HVA HC HOK
  clear hok
  go_wp2_with fail
  refine HC.out.mono ?_
  rintro e w2 ⟨rfl, hb2⟩
  have R2 := Lib.hid (R1.out.below hb2)
  have B2 := Lib.hid (B1.out.trans (hb2.mono B1.out.size))
  clear hb2 HC R1 B1
  go_wp2_with fail
  refine (HVA.out w2 R2.out).mono ?_
  rintro e w3 ⟨rfl, hb3⟩
  have R3 := Lib.hid (R2.out.below hb3)
  have B3 := Lib.hid (B2.out.trans (hb3.mono B2.out.size))
  clear hb3 HVA R2 B2
  cases ok with
  | false =>
    go_wp2_with fail
    go_ret
    exact ⟨rfl, B3.out⟩
  | true =>
    have HOK2 := Lib.hid (HOK.out rfl)
    clear HOK
    obtain ⟨oa, oc, rfl, hc1, hc2, hrows⟩ := R3.out
    unfold maxLen at hc2
    obtain ⟨m, hm2⟩ : ∃ m, m = xs.length := ⟨_, rfl⟩
    have HM := Lib.hid hm2
    rw [← hm2] at hc1 ⊢
    have HL4 : m ≤ 4 := by rw [HM.out]; exact HOK2.out.2
    have HROWS := Lib.hid hrows
    clear hm2 hrows R3
    by_cases hm0 : m = 0
    · subst hm0
      go_wp2_with fail
      go_ret
      exact ⟨rfl, B3.out⟩
    · obtain ⟨b, o, rfl, _⟩ := HROWS.out 0 (by have := HM.out; omega)
      have HF : Hid (∀ i, i < xs.length → Four w3 b (o + i * 4) (xs.getD i c0)) := Lib.hid (fun i hi => by
        obtain ⟨b', o', e, h⟩ := HROWS.out i hi
        injection e with e
        injection e with e1 e2
        subst e1
        subst e2
        exact h)
      clear HROWS
      obtain ⟨k, hk⟩ : ∃ k : Nat, k = len1 % m := ⟨_, rfl⟩
      have hkm : k < m := by rw [hk]; exact Nat.mod_lt _ (by omega)
      have hm00 : ((m : Int) == 0) = false := by simp; omega
      have ek : (len1 : Int) % (m : Int) = (k : Int) := by rw [hk]; exact (Int.natCast_emod _ _).symm
      have HWR : IntKind.i64.wrap ((k : Int) + 1) = (k : Int) + 1 := by rw [IntKind.wrap_i64]; omega
      have HFB := Lib.hid (fun wx (hb : Below w3.heap.size w3 wx) i (hi : i < xs.length) => (HF.out i hi).below hb (block_lt_of_cell (HF.out i hi).c0))
      have HFX_x := HFB
      have HSL := slice_lowC b o m oc k (k : Int) rfl (by omega) (by omega)
      obtain ⟨A_x, hAx, HSF⟩ := slice_fromC b o m oc (k + 1) ((k : Int) + 1) (by omega) hc1 (by omega)
      have HA_x := Lib.hid hAx
      clear hAx
      go_wp2_with fail
      rw [ek]
      clear ek hk
      refine wp_region_held_drew (S := fun _ => True) (by kernel_rfl) trivial (fun hHeld => ?_)
      refine wpAnyH_take (i := 1) (oi := { dst := some 46, op := .move (.tmp 5), type := _, pos := _, after := _, guard := none }) (v := .slice (some ⟨b, o, none⟩) m oc) rfl (by kernel_rfl) (by kernel_rfl) (by kernel_rfl) (fun _ _ _ h => h) (Or.inl ⟨by rfl, fun wh hSw => ?_⟩) hHeld ?_
      · go_simp
      try simp only [Act.put, List.setIfInBounds_toArray, List.set_cons_zero, List.set_cons_succ]
      refine wpAnyH_take (i := 2) (oi := { dst := some 47, op := .move (.tmp 8), type := _, pos := _, after := _, guard := none }) (v := .int .i64 (k : Int)) rfl (by kernel_rfl) (by kernel_rfl) (by kernel_rfl) (fun _ _ _ h => h) (Or.inl ⟨by rfl, fun wh hSw => ?_⟩) hHeld ?_
      · go_simp
      try simp only [Act.put, List.setIfInBounds_toArray, List.set_cons_zero, List.set_cons_succ]
      refine wpAnyH_take (i := 3) (oi := { dst := some 48, op := .slice 23 (.tmp 46) none (some (.tmp 47)) none, type := _, pos := _, after := _, guard := none }) (v := .slice (some ⟨b, o, none⟩) k oc) rfl (by kernel_rfl) (by kernel_rfl) (by kernel_rfl) (fun _ _ _ h => h) (Or.inl ⟨by rfl, fun wh hSw => ?_⟩) hHeld ?_
      · go_simp
      try simp only [Act.put, List.setIfInBounds_toArray, List.set_cons_zero, List.set_cons_succ]
      refine wpAnyH_take (i := 5) (oi := { dst := some 50, op := .move (.tmp 5), type := _, pos := _, after := _, guard := none }) (v := .slice (some ⟨b, o, none⟩) m oc) rfl (by kernel_rfl) (by kernel_rfl) (by kernel_rfl) (fun _ _ _ h => h) (Or.inl ⟨by rfl, fun wh hSw => ?_⟩) hHeld ?_
      · go_simp
      try simp only [Act.put, List.setIfInBounds_toArray, List.set_cons_zero, List.set_cons_succ]
      refine wpAnyH_take (i := 6) (oi := { dst := some 51, op := .move (.tmp 8), type := _, pos := _, after := _, guard := none }) (v := .int .i64 (k : Int)) rfl (by kernel_rfl) (by kernel_rfl) (by kernel_rfl) (fun _ _ _ h => h) (Or.inl ⟨by rfl, fun wh hSw => ?_⟩) hHeld ?_
      · go_simp
      try simp only [Act.put, List.setIfInBounds_toArray, List.set_cons_zero, List.set_cons_succ]
      refine wpAnyH_take (i := 7) (oi := { dst := some 52, op := .binOp .add 3 (.tmp 51) (.const (.int .i64 1)) 3, type := _, pos := _, after := _, guard := none }) (v := .int .i64 ((k : Int) + 1)) rfl (by kernel_rfl) (by kernel_rfl) (by kernel_rfl) (fun _ _ _ h => h) (Or.inl ⟨by rfl, fun wh hSw => ?_⟩) hHeld ?_
      · go_simp
      try simp only [Act.put, List.setIfInBounds_toArray, List.set_cons_zero, List.set_cons_succ]
      refine wpAnyH_take (i := 8) (oi := { dst := some 53, op := .slice 23 (.tmp 50) (some (.tmp 52)) none none, type := _, pos := _, after := _, guard := none }) (v := .slice (some A_x) (m - (k + 1)) (oc - (k + 1))) rfl (by kernel_rfl) (by kernel_rfl) (by kernel_rfl) (fun _ _ _ h => h) (Or.inl ⟨by rfl, fun wh hSw => ?_⟩) hHeld ?_
      · go_simp
      try simp only [Act.put, List.setIfInBounds_toArray, List.set_cons_zero, List.set_cons_succ]
      refine wpAnyH_ready (rs := [0]) (by kernel_rfl) (by simp) ?_
      refine AllReadyH.cons (o := { dst := some 45, op := .buildSlice 23 0 #[], type := _, pos := _, after := _, guard := none }) rfl (fun K hK => ?_) AllReadyH.nil
      go_simp
      refine hK.out _ _ trivial (fun hHeld => ?_)
      clear hK K
      try simp only [Act.put, List.setIfInBounds_toArray, List.set_cons_zero, List.set_cons_succ]
      obtain ⟨xA, hwA⟩ : ∃ wA, wA = (w3.alloc (.cells #[] 25)).drew := ⟨_, rfl⟩
      have HOA : Hid (xA.ownsRow w3.heap.size 25 4 (.slice (some ⟨w3.heap.size, 0, none⟩) 0 0) 0 []) := Lib.hid (by rw [hwA]; exact World.ownsRow_made w3 #[] 0 (Nat.le_refl _) (Nat.zero_le _) rfl)
      have HBA : Hid (Below w3.heap.size w3 xA) := Lib.hid (by rw [hwA]; exact ((Below.refl _ _).alloc (Nat.le_refl _) _).drew)
      have HSA : Hid (w3.heap.size < xA.heap.size) := Lib.hid (by rw [hwA]; simp)
      rw [← hwA]
      clear hwA
      refine wpAnyH_ready (rs := [4]) (by kernel_rfl) (by simp) ?_
      refine AllReadyH.cons (o := { dst := some 49, op := .call { callee := .builtin .append, args := #[.tmp 45, .tmp 48], argTypes := #[23, 23] }, type := _, pos := _, after := _, guard := none }) rfl (fun K hK => ?_) AllReadyH.nil
      rw [if_pos (by rfl)]
      refine wp_append_own xA (.tmp 45) (.tmp 48) 23 rfl w3.heap.size 25 i0 (.agg #[.int .i64 0, .int .i64 0, .int .i64 0, .bool false]) 4 32 Try.underlying23 HI.out HZ0.out HZ1.out HZ2.out rfl (by decide) _ 0 [] rfl HOA.out ⟨b, o, none⟩ (k) oc (csC (xs.take (k))) rfl (by rw [csC_len, List.length_take, ← HM.out]; congr 1; omega) (fun j u hj => by
        rw [Addr.add_mid]
        exact low_cells (HFX_x.out _ HBA.out) _ j u hj) (csC_one _) (by unfold maxLen; omega) (by omega) (by have := HSA.out; omega) ?_
      intro v1 xB hownB hgB hnB
      have HBB : Hid (Below w3.heap.size w3 xB) := Lib.hid (HBA.out.grown hgB (by have := HSA.out; omega) (fun q hq => (HOA.out.lt q hq).1))
      have HSB : Hid (w3.heap.size ≤ xB.heap.size) := Lib.hid (by have := hgB.size; have := HSA.out; omega)
      have HOB := Lib.hid hownB
      clear hgB hownB hnB
      refine hK.out _ _ trivial (fun hHeld => ?_)
      clear hK K
      try simp only [Act.put, List.setIfInBounds_toArray, List.set_cons_zero, List.set_cons_succ]
      refine wpAnyH_ready (rs := [9]) (by kernel_rfl) (by simp) ?_
      refine AllReadyH.cons (o := { dst := some 54, op := .call { callee := .builtin .append, args := #[.tmp 49, .tmp 53], argTypes := #[23, 23] }, type := _, pos := _, after := _, guard := none }) rfl (fun K hK => ?_) AllReadyH.nil
      rw [if_pos (by rfl)]
      refine wp_append_own xB (.tmp 49) (.tmp 53) 23 rfl w3.heap.size 25 i0 (.agg #[.int .i64 0, .int .i64 0, .int .i64 0, .bool false]) 4 32 Try.underlying23 HI.out HZ0.out HZ1.out HZ2.out rfl (by decide) v1 (0 + (k)) _ rfl HOB.out A_x (m - (k + 1)) (oc - (k + 1)) (csC (xs.drop (k + 1))) rfl (by rw [csC_len, List.length_drop, ← HM.out]) (fun j u hj => by
        rcases HA_x.out with hA | hA
        · rw [hA, Addr.add_mid]
          exact high_cells (HFX_x.out _ HBB.out) _ j u hj
        · exact absurd hj (no_cells (by rw [List.length_drop, ← HM.out]; exact hA) j u)) (csC_one _) (by unfold maxLen; omega) (by omega) HSB.out ?_
      intro v2 xC hownC hgC hnC
      have HBC : Hid (Below w3.heap.size w3 xC) := Lib.hid (HBB.out.grown hgC HSB.out (fun q hq => (HOB.out.lt q hq).1))
      have HX_x : Hid (Cs xC v2 (xs.take (k) ++ xs.drop (k + 1))) := Lib.hid (cs_parts hownC (by rw [List.length_take, List.length_drop, ← HM.out]; omega))
      clear hgC hownC hnC HOA HBA HSA HBB HSB HOB
      refine hK.out _ _ trivial (fun hHeld => ?_)
      clear hK K
      try simp only [Act.put, List.setIfInBounds_toArray, List.set_cons_zero, List.set_cons_succ]
      refine wpAnyH_take (i := 10) (oi := { dst := some 9, op := .assign (.tmp 54), type := _, pos := _, after := _, guard := none }) (v := v2) rfl (by kernel_rfl) (by kernel_rfl) (by kernel_rfl) (fun _ _ _ h => h) (Or.inl ⟨by rfl, fun wh hSw => ?_⟩) hHeld ?_
      · go_simp
      try simp only [Act.put, List.setIfInBounds_toArray, List.set_cons_zero, List.set_cons_succ]
      refine wpAnyH_done (by kernel_rfl) ?_ _
      clear hHeld
      have BC := Lib.hid (B3.out.trans (HBC.out.mono B3.out.size))
      have HFX_y := Lib.hid (fun wx (hb : Below xC.heap.size xC wx) => HFB.out wx (HBC.out.trans (hb.mono HBC.out.size)))
      clear HSL HSF HFX_x HFB HBC B3 HF
      have HSL := slice_lowC b o m oc (k + 1) ((k : Int) + 1) (by omega) (by omega) (by omega)
      obtain ⟨A_y, hAy, HSF⟩ := slice_fromC b o m oc k (k : Int) rfl hc1 (by omega)
      have HA_y := Lib.hid hAy
      clear hAy
      go_wp2_with fail
      refine wp_region_held_drew (S := fun _ => True) (by kernel_rfl) trivial (fun hHeld => ?_)
      refine wpAnyH_take (i := 1) (oi := { dst := some 56, op := .move (.tmp 5), type := _, pos := _, after := _, guard := none }) (v := .slice (some ⟨b, o, none⟩) m oc) rfl (by kernel_rfl) (by kernel_rfl) (by kernel_rfl) (fun _ _ _ h => h) (Or.inl ⟨by rfl, fun wh hSw => ?_⟩) hHeld ?_
      · go_simp
      try simp only [Act.put, List.setIfInBounds_toArray, List.set_cons_zero, List.set_cons_succ]
      refine wpAnyH_take (i := 2) (oi := { dst := some 57, op := .move (.tmp 8), type := _, pos := _, after := _, guard := none }) (v := .int .i64 (k : Int)) rfl (by kernel_rfl) (by kernel_rfl) (by kernel_rfl) (fun _ _ _ h => h) (Or.inl ⟨by rfl, fun wh hSw => ?_⟩) hHeld ?_
      · go_simp
      try simp only [Act.put, List.setIfInBounds_toArray, List.set_cons_zero, List.set_cons_succ]
      refine wpAnyH_take (i := 3) (oi := { dst := some 58, op := .binOp .add 3 (.tmp 57) (.const (.int .i64 1)) 3, type := _, pos := _, after := _, guard := none }) (v := .int .i64 ((k : Int) + 1)) rfl (by kernel_rfl) (by kernel_rfl) (by kernel_rfl) (fun _ _ _ h => h) (Or.inl ⟨by rfl, fun wh hSw => ?_⟩) hHeld ?_
      · go_simp
      try simp only [Act.put, List.setIfInBounds_toArray, List.set_cons_zero, List.set_cons_succ]
      refine wpAnyH_take (i := 4) (oi := { dst := some 59, op := .slice 23 (.tmp 56) none (some (.tmp 58)) none, type := _, pos := _, after := _, guard := none }) (v := .slice (some ⟨b, o, none⟩) (k + 1) oc) rfl (by kernel_rfl) (by kernel_rfl) (by kernel_rfl) (fun _ _ _ h => h) (Or.inl ⟨by rfl, fun wh hSw => ?_⟩) hHeld ?_
      · go_simp
      try simp only [Act.put, List.setIfInBounds_toArray, List.set_cons_zero, List.set_cons_succ]
      refine wpAnyH_take (i := 6) (oi := { dst := some 61, op := .move (.tmp 5), type := _, pos := _, after := _, guard := none }) (v := .slice (some ⟨b, o, none⟩) m oc) rfl (by kernel_rfl) (by kernel_rfl) (by kernel_rfl) (fun _ _ _ h => h) (Or.inl ⟨by rfl, fun wh hSw => ?_⟩) hHeld ?_
      · go_simp
      try simp only [Act.put, List.setIfInBounds_toArray, List.set_cons_zero, List.set_cons_succ]
      refine wpAnyH_take (i := 7) (oi := { dst := some 62, op := .move (.tmp 8), type := _, pos := _, after := _, guard := none }) (v := .int .i64 (k : Int)) rfl (by kernel_rfl) (by kernel_rfl) (by kernel_rfl) (fun _ _ _ h => h) (Or.inl ⟨by rfl, fun wh hSw => ?_⟩) hHeld ?_
      · go_simp
      try simp only [Act.put, List.setIfInBounds_toArray, List.set_cons_zero, List.set_cons_succ]
      refine wpAnyH_take (i := 8) (oi := { dst := some 63, op := .slice 23 (.tmp 61) (some (.tmp 62)) none none, type := _, pos := _, after := _, guard := none }) (v := .slice (some A_y) (m - k) (oc - k)) rfl (by kernel_rfl) (by kernel_rfl) (by kernel_rfl) (fun _ _ _ h => h) (Or.inl ⟨by rfl, fun wh hSw => ?_⟩) hHeld ?_
      · go_simp
      try simp only [Act.put, List.setIfInBounds_toArray, List.set_cons_zero, List.set_cons_succ]
      refine wpAnyH_ready (rs := [0]) (by kernel_rfl) (by simp) ?_
      refine AllReadyH.cons (o := { dst := some 55, op := .buildSlice 23 0 #[], type := _, pos := _, after := _, guard := none }) rfl (fun K hK => ?_) AllReadyH.nil
      go_simp
      refine hK.out _ _ trivial (fun hHeld => ?_)
      clear hK K
      try simp only [Act.put, List.setIfInBounds_toArray, List.set_cons_zero, List.set_cons_succ]
      obtain ⟨yA, hwA⟩ : ∃ wA, wA = (xC.alloc (.cells #[] 25)).drew := ⟨_, rfl⟩
      have HOA : Hid (yA.ownsRow xC.heap.size 25 4 (.slice (some ⟨xC.heap.size, 0, none⟩) 0 0) 0 []) := Lib.hid (by rw [hwA]; exact World.ownsRow_made xC #[] 0 (Nat.le_refl _) (Nat.zero_le _) rfl)
      have HBA : Hid (Below xC.heap.size xC yA) := Lib.hid (by rw [hwA]; exact ((Below.refl _ _).alloc (Nat.le_refl _) _).drew)
      have HSA : Hid (xC.heap.size < yA.heap.size) := Lib.hid (by rw [hwA]; simp)
      rw [← hwA]
      clear hwA
      refine wpAnyH_ready (rs := [5]) (by kernel_rfl) (by simp) ?_
      refine AllReadyH.cons (o := { dst := some 60, op := .call { callee := .builtin .append, args := #[.tmp 55, .tmp 59], argTypes := #[23, 23] }, type := _, pos := _, after := _, guard := none }) rfl (fun K hK => ?_) AllReadyH.nil
      rw [if_pos (by rfl)]
      refine wp_append_own yA (.tmp 55) (.tmp 59) 23 rfl xC.heap.size 25 i0 (.agg #[.int .i64 0, .int .i64 0, .int .i64 0, .bool false]) 4 32 Try.underlying23 HI.out HZ0.out HZ1.out HZ2.out rfl (by decide) _ 0 [] rfl HOA.out ⟨b, o, none⟩ (k + 1) oc (csC (xs.take (k + 1))) rfl (by rw [csC_len, List.length_take, ← HM.out]; congr 1; omega) (fun j u hj => by
        rw [Addr.add_mid]
        exact low_cells (HFX_y.out _ HBA.out) _ j u hj) (csC_one _) (by unfold maxLen; omega) (by omega) (by have := HSA.out; omega) ?_
      intro v1 yB hownB hgB hnB
      have HBB : Hid (Below xC.heap.size xC yB) := Lib.hid (HBA.out.grown hgB (by have := HSA.out; omega) (fun q hq => (HOA.out.lt q hq).1))
      have HSB : Hid (xC.heap.size ≤ yB.heap.size) := Lib.hid (by have := hgB.size; have := HSA.out; omega)
      have HOB := Lib.hid hownB
      clear hgB hownB hnB
      refine hK.out _ _ trivial (fun hHeld => ?_)
      clear hK K
      try simp only [Act.put, List.setIfInBounds_toArray, List.set_cons_zero, List.set_cons_succ]
      refine wpAnyH_ready (rs := [9]) (by kernel_rfl) (by simp) ?_
      refine AllReadyH.cons (o := { dst := some 64, op := .call { callee := .builtin .append, args := #[.tmp 60, .tmp 63], argTypes := #[23, 23] }, type := _, pos := _, after := _, guard := none }) rfl (fun K hK => ?_) AllReadyH.nil
      rw [if_pos (by rfl)]
      refine wp_append_own yB (.tmp 60) (.tmp 63) 23 rfl xC.heap.size 25 i0 (.agg #[.int .i64 0, .int .i64 0, .int .i64 0, .bool false]) 4 32 Try.underlying23 HI.out HZ0.out HZ1.out HZ2.out rfl (by decide) v1 (0 + (k + 1)) _ rfl HOB.out A_y (m - (k)) (oc - (k)) (csC (xs.drop (k))) rfl (by rw [csC_len, List.length_drop, ← HM.out]) (fun j u hj => by
        rcases HA_y.out with hA | hA
        · rw [hA, Addr.add_mid]
          exact high_cells (HFX_y.out _ HBB.out) _ j u hj
        · exact absurd hj (no_cells (by rw [List.length_drop, ← HM.out]; exact hA) j u)) (csC_one _) (by unfold maxLen; omega) (by omega) HSB.out ?_
      intro v3 yC hownC hgC hnC
      have HBC : Hid (Below xC.heap.size xC yC) := Lib.hid (HBB.out.grown hgC HSB.out (fun q hq => (HOB.out.lt q hq).1))
      have HX_y : Hid (Cs yC v3 (xs.take (k + 1) ++ xs.drop (k))) := Lib.hid (cs_parts hownC (by rw [List.length_take, List.length_drop, ← HM.out]; omega))
      clear hgC hownC hnC HOA HBA HSA HBB HSB HOB
      refine hK.out _ _ trivial (fun hHeld => ?_)
      clear hK K
      try simp only [Act.put, List.setIfInBounds_toArray, List.set_cons_zero, List.set_cons_succ]
      refine wpAnyH_take (i := 10) (oi := { dst := some 10, op := .assign (.tmp 64), type := _, pos := _, after := _, guard := none }) (v := v3) rfl (by kernel_rfl) (by kernel_rfl) (by kernel_rfl) (fun _ _ _ h => h) (Or.inl ⟨by rfl, fun wh hSw => ?_⟩) hHeld ?_
      · go_simp
      try simp only [Act.put, List.setIfInBounds_toArray, List.set_cons_zero, List.set_cons_succ]
      refine wpAnyH_done (by kernel_rfl) ?_ _
      clear hHeld
      have HX := Lib.hid (HX_x.out.below HBC.out)
      have BD := Lib.hid (BC.out.trans (HBC.out.mono BC.out.size))
      clear HSL HSF HFX_y HBC BC HX_x
      have HV1 := Lib.hid (HhV.out yC v2 _ HX.out)
      rw [HOK2.out.1 k] at HV1
      go_wp2_with fail
      refine HV1.out.mono ?_
      rintro e w8 ⟨rfl, hb8⟩
      have B8 := Lib.hid (BD.out.trans (hb8.mono BD.out.size))
      have HV2 := Lib.hid (HhV.out w8 v3 _ (HX_y.out.below hb8))
      rw [part_twice (by rw [← HM.out]; exact hkm)] at HV2
      clear hb8 HV1
      go_wp2_with fail
      refine HV2.out.mono ?_
      rintro e w9 ⟨rfl, hb9⟩
      have B9 := Lib.hid (B8.out.trans (hb9.mono B8.out.size))
      clear hb9
      go_wp2_with fail
      go_ret
      exact ⟨rfl, B9.out⟩
end Go.Proofs.Ytklclcbhghjjfaa
