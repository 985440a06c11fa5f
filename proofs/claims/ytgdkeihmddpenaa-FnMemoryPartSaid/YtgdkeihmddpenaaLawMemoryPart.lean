/- The walk of the statement that a memory has all frames, out of a contract of the program's MemoryValid. -/
import Derived.Test.YtgdkeihmddpenaaLawAux
import Derived.Deep.RegionHeld
namespace Go.Proofs.Ytgdkeihmddpenaa
open Go.ChangeShapes Go.WideShapes Go.ChangeAt Go.RowKit
set_option linter.unusedVariables false

theorem slice_low (b o c k : Nat) (hc : 12 ≤ c) (hk : k < 12) (W : World) : (Instr.sliceAt 23 (.slice (some ⟨b, o, none⟩) 12 c) none (some (.int .i64 k)) none).run Try.prog W = .ok (.slice (some ⟨b, o, none⟩) k c) W := by
  unfold Instr.sliceAt
  simp only [Sem.run_bind, run_underlying Try.underlying23, Result.andThen_ok]
  unfold Instr.slice
  simp only [Sem.run_bind, run_underlying Try.underlying23, Result.andThen_ok, Instr.sliceBounds, Instr.sliceBound, asIntOf, Sem.run_pure]
  have h : (0 : Int) ≤ (k : Int) ∧ (k : Int) ≤ (c : Int) := by omega
  have h0 : ¬ c = 0 := by omega
  simp [h, h0, Try.sizeOf28, Addr.add_mid]
theorem slice_from (b o c k : Nat) (hc : 12 ≤ c) (hk : k < 12) : ∃ A : Addr, (A = ⟨b, o + (k + 1), none⟩ ∨ 12 - (k + 1) = 0) ∧ ∀ W : World, (Instr.sliceAt 23 (.slice (some ⟨b, o, none⟩) 12 c) (some (.int .i64 ((k : Int) + 1))) none none).run Try.prog W = .ok (.slice (some A) (12 - (k + 1)) (c - (k + 1))) W := by
  have h : (0 : Int) ≤ (k : Int) + 1 ∧ (k : Int) + 1 ≤ (12 : Int) := by omega
  have e : ((k : Int) + 1).toNat = k + 1 := by omega
  refine ⟨if c = k + 1 then ⟨b, o, none⟩ else ⟨b, o + (k + 1), none⟩, ?_, fun W => ?_⟩
  · by_cases hh : c = k + 1
    · exact .inr (by omega)
    · rw [if_neg hh]; exact .inl rfl
  · unfold Instr.sliceAt
    simp only [Sem.run_bind, run_underlying Try.underlying23, Result.andThen_ok]
    unfold Instr.slice
    simp only [Sem.run_bind, run_underlying Try.underlying23, Result.andThen_ok, Instr.sliceBounds, Instr.sliceBound, asIntOf, Sem.run_pure]
    by_cases hh : c = k + 1
    · simp [h, e, hh, Try.sizeOf28, Addr.add_mid]
    · simp [h, e, hh, Try.sizeOf28, Addr.add_mid]
theorem rows_of_own {w : World} {base n : Nat} {v : Value} {Vs : List Value} {xss : List (List Int)} (h : w.ownsRow base 28 1 v n Vs) (hn : 0 < n) (hl : xss.length = n) (hI : ∀ i, i < n → ∃ u, Vs[i]? = some u ∧ Ints w u (xss.getD i [])) : Rows2 w v xss := by
  rcases h.2 with ⟨_, hz⟩ | ⟨g, cap, cur, rfl, hb, hbl, hnc, hcm, hcs, htk⟩
  · omega
  · refine ⟨some ⟨g, 0, none⟩, cap, by rw [hl], by omega, hcm, fun i hi => ?_⟩
    obtain ⟨u, hu, hint⟩ := hI i (by omega)
    have := h.cells (g := g) rfl i u hu
    rw [add0] at this
    exact ⟨g, 0, u, rfl, by rw [Nat.zero_add]; exact this, hint⟩
theorem ints_oneCell {w : World} {u : Value} {xs : List Int} (h : Ints w u xs) : u.oneCell' = true := by
  obtain ⟨a, c, rfl, _⟩ := h
  rfl
theorem range_get (R : Nat → Value) (n i : Nat) (h : i < n) : ((List.range n).map R)[i]? = some (R i) := by simp [h]
theorem mem_len_no {xss : List (List Int)} (h : xss.length ≠ 12) : memOk xss = false := decide_eq_false (fun hh => h hh.2)
theorem mem_word_no {xss : List (List Int)} (hl : xss.length = 12) {k : Nat} (hk : k < 12) : memOk (xss.set k [1, 2, 3, 10000]) = false := by
  refine mem_no (k := k) (by rw [List.length_set]; omega) ?_
  rw [getD_set, if_pos ⟨rfl, by omega⟩]
  exact words_no (k := 3) (by simp) (by simp)
set_option maxHeartbeats 1000000 in
theorem memoryPart_walk (hV : ∀ (w : World) (v : Value) (xss : List (List Int)), Rows2 w v xss → Calls Try.prog 25 #[v] w fun e w' => e = .returned (.bool (memOk xss)) ∧ Below w.heap.size w w') (W : World) (a : Option Addr) (len cap : Nat) (zs : List Int) (a1 : Option Addr) (len1 cap1 : Nat) (zs1 : List Int) (hr : Row .u8 W a len cap zs) (hr1 : Row .u8 W a1 len1 cap1 zs1) :
    Calls Try.prog 8 #[.slice a len cap, .slice a1 len1 cap1] W fun e w' => e = .returned (.bool true) ∧ Below W.heap.size W w' := by
  have HhV := Lib.hid hV
  clear hV
  have hm := row_len hr
  have hm1 := row_len hr1
  clear hr1
  by_cases hL : 1048576 < len
  · have hL1 : (1048576 : Int) < (len : Int) := by omega
    clear hr
    go_enter Try.func8, Try.ntmps8
    go_wp2_with fail
    go_ret
    exact ⟨rfl, Below.refl _ _⟩
  have hL1 : decide ((1048576 : Int) < (len : Int)) = false := by simp; omega
  have hL2 : decide (1048576 < len) = false := by simp; omega
  by_cases hM : 1048576 < len1
  · have hM1 : (1048576 : Int) < (len1 : Int) := by omega
    clear hr
    go_enter Try.func8, Try.ntmps8
    go_wp2_with fail
    go_ret
    exact ⟨rfl, Below.refl _ _⟩
  have hM1 : decide ((1048576 : Int) < (len1 : Int)) = false := by simp; omega
  have hM2 : decide (1048576 < len1) = false := by simp; omega
  go_enter Try.func8, Try.ntmps8
  go_wp2_with fail
  refine (drawMemoryValid_any W a len cap zs hr).mono ?_
  clear hr
  rintro e w1 ⟨v, xss, rfl, hR1, hS, hb1⟩
  have R1 := Lib.hid hR1
  have B1 := Lib.hid hb1
  have Z1 : W.heap.size ≤ w1.heap.size := hb1.size
  have HI := Lib.hid (HhV.out w1 v xss hR1)
  clear hR1 hb1
  obtain ⟨bm, hbm⟩ : ∃ b, b = memOk xss := ⟨_, rfl⟩
  rw [← hbm] at HI
  have HBM := Lib.hid hbm
  clear hbm
  go_wp2_with fail
  refine HI.out.mono ?_
  rintro e w2 ⟨rfl, hb2⟩
  have R2 := Lib.hid (R1.out.below hb2)
  have B2 := Lib.hid (Below.chg B1.out (Chg.of_below hb2) Z1 (.inr rfl))
  have Z2 : W.heap.size ≤ w2.heap.size := Nat.le_trans Z1 hb2.size
  clear hb2 B1 HI R1
  have HS2 := Lib.hid (valid_any w2 v xss R2.out)
  rw [← HBM.out] at HS2
  go_wp2_with fail
  refine HS2.out.mono ?_
  rintro e w' ⟨rfl, rfl⟩
  clear HS2
  cases bm with
  | false =>
    go_wp2_with fail
    go_ret
    exact ⟨rfl, B2.out⟩
  | true =>
    have HMEM : Hid (memOk xss = true) := Lib.hid HBM.out.symm
    have HLEN := Lib.hid (mem_len HMEM.out)
    obtain ⟨am, cm, rfl, hc1, hc2, hrows⟩ := R2.out
    rw [HLEN.out] at hc1
    rw [HLEN.out]
    obtain ⟨b, o, u0, rfl, _, _⟩ := hrows 0 (by have := HLEN.out; omega)
    obtain ⟨k, hk⟩ : ∃ k : Nat, k = len1 % 12 := ⟨_, rfl⟩
    have ek : (len1 : Int) % 12 = (k : Int) := by omega
    have hk12 : k < 12 := by omega
    clear hk
    obtain ⟨R, hR⟩ : ∃ R : Nat → Value, ∀ i, i < 12 → w2.cell? ⟨b, o + i, none⟩ = some (R i) ∧ Ints w2 (R i) (xss.getD i []) :=
      ⟨fun i => (w2.cell? ⟨b, o + i, none⟩).getD undef, fun i hi => by
        obtain ⟨b', o', u, e, h1, h2⟩ := hrows i (by have := HLEN.out; omega)
        injection e with e
        injection e with e1 e2
        subst e1
        subst e2
        have h1' : w2.cell? ⟨b, o + i, none⟩ = some u := h1
        simp only [h1', Option.getD_some]
        exact ⟨trivial, h2⟩⟩
    have HR := Lib.hid hR
    clear hR hrows
    obtain ⟨i1, hj, hy0, hy1, hy2⟩ := info_parts intsInfo
    have HJ := Lib.hid hj
    have HY0 := Lib.hid hy0
    have HY1 := Lib.hid hy1
    have HY2 := Lib.hid hy2
    clear hj hy0 hy1 hy2
    have HS1 := slice_low b o cm k hc1 hk12
    obtain ⟨A2, hA2, HS2⟩ := slice_from b o cm k hc1 hk12
    have HA2 := Lib.hid hA2
    have HWR : IntKind.i64.wrap ((k : Int) + 1) = (k : Int) + 1 := by first | (rw [IntKind.wrap_i64]; omega) | (simp [IntKind.wrap, IntKind.bits, IntKind.signed]; omega)
    clear hA2
    go_wp2_with fail
    rw [ek]
    refine wp_region_held_drew (S := fun _ => True) (by kernel_rfl) trivial (fun hHeld => ?_)
    refine wpAnyH_take (i := 1) (oi := { dst := some 39, op := .move (.tmp 5), type := _, pos := _, after := _, guard := none }) (v := .slice (some ⟨b, o, none⟩) 12 cm) rfl (by kernel_rfl) (by kernel_rfl) (by kernel_rfl) (fun _ _ _ h => h) (Or.inl ⟨by rfl, fun wh hSw => ?_⟩) hHeld ?_
    · go_simp
    simp only [Act.put, List.setIfInBounds_toArray, List.set_cons_zero, List.set_cons_succ]
    refine wpAnyH_take (i := 2) (oi := { dst := some 40, op := .move (.tmp 8), type := _, pos := _, after := _, guard := none }) (v := .int .i64 k) rfl (by kernel_rfl) (by kernel_rfl) (by kernel_rfl) (fun _ _ _ h => h) (Or.inl ⟨by rfl, fun wh hSw => ?_⟩) hHeld ?_
    · go_simp
    simp only [Act.put, List.setIfInBounds_toArray, List.set_cons_zero, List.set_cons_succ]
    refine wpAnyH_take (i := 3) (oi := { dst := some 41, op := .slice 23 (.tmp 39) none (some (.tmp 40)) none, type := _, pos := _, after := _, guard := none }) (v := .slice (some ⟨b, o, none⟩) k cm) rfl (by kernel_rfl) (by kernel_rfl) (by kernel_rfl) (fun _ _ _ h => h) (Or.inl ⟨by rfl, fun wh hSw => ?_⟩) hHeld ?_
    · go_simp
    simp only [Act.put, List.setIfInBounds_toArray, List.set_cons_zero, List.set_cons_succ]
    refine wpAnyH_take (i := 5) (oi := { dst := some 43, op := .move (.tmp 5), type := _, pos := _, after := _, guard := none }) (v := .slice (some ⟨b, o, none⟩) 12 cm) rfl (by kernel_rfl) (by kernel_rfl) (by kernel_rfl) (fun _ _ _ h => h) (Or.inl ⟨by rfl, fun wh hSw => ?_⟩) hHeld ?_
    · go_simp
    simp only [Act.put, List.setIfInBounds_toArray, List.set_cons_zero, List.set_cons_succ]
    refine wpAnyH_take (i := 6) (oi := { dst := some 44, op := .move (.tmp 8), type := _, pos := _, after := _, guard := none }) (v := .int .i64 k) rfl (by kernel_rfl) (by kernel_rfl) (by kernel_rfl) (fun _ _ _ h => h) (Or.inl ⟨by rfl, fun wh hSw => ?_⟩) hHeld ?_
    · go_simp
    simp only [Act.put, List.setIfInBounds_toArray, List.set_cons_zero, List.set_cons_succ]
    refine wpAnyH_take (i := 7) (oi := { dst := some 45, op := .binOp .add 3 (.tmp 44) (.const (.int .i64 1)) 3, type := _, pos := _, after := _, guard := none }) (v := .int .i64 ((k : Int) + 1)) rfl (by kernel_rfl) (by kernel_rfl) (by kernel_rfl) (fun _ _ _ h => h) (Or.inl ⟨by rfl, fun wh hSw => ?_⟩) hHeld ?_
    · go_simp
    simp only [Act.put, List.setIfInBounds_toArray, List.set_cons_zero, List.set_cons_succ]
    refine wpAnyH_take (i := 8) (oi := { dst := some 46, op := .slice 23 (.tmp 43) (some (.tmp 45)) none none, type := _, pos := _, after := _, guard := none }) (v := .slice (some A2) (12 - (k + 1)) (cm - (k + 1))) rfl (by kernel_rfl) (by kernel_rfl) (by kernel_rfl) (fun _ _ _ h => h) (Or.inl ⟨by rfl, fun wh hSw => ?_⟩) hHeld ?_
    · go_simp
    simp only [Act.put, List.setIfInBounds_toArray, List.set_cons_zero, List.set_cons_succ]
    refine wpAnyH_ready (rs := [0]) (by kernel_rfl) (by simp) ?_
    refine AllReadyH.cons (o := { dst := some 38, op := .buildSlice 23 0 #[], type := _, pos := _, after := _, guard := none }) rfl (fun K hK => ?_) AllReadyH.nil
    go_simp
    refine hK.out _ _ trivial (fun hHeld => ?_)
    clear hK K
    try simp only [Act.put, List.setIfInBounds_toArray, List.set_cons_zero, List.set_cons_succ]
    obtain ⟨wA, hwA⟩ : ∃ wA, wA = (w2.alloc (.cells #[] 28)).drew := ⟨_, rfl⟩
    have HOA : Hid (wA.ownsRow w2.heap.size 28 1 (.slice (some ⟨w2.heap.size, 0, none⟩) 0 0) 0 []) := Lib.hid (by rw [hwA]; exact World.ownsRow_made w2 #[] 0 (Nat.le_refl _) (Nat.zero_le _) rfl)
    have HBA : Hid (Below w2.heap.size w2 wA) := Lib.hid (by rw [hwA]; exact ((Below.refl _ _).alloc (Nat.le_refl _) _).drew)
    have HSA : Hid (w2.heap.size < wA.heap.size) := Lib.hid (by rw [hwA]; simp)
    have HCX : Hid (∀ wx, Below w2.heap.size w2 wx → ∀ i, i < 12 → wx.cell? ⟨b, o + i, none⟩ = some (R i)) := Lib.hid (fun wx hbx i hi => (hbx.cell (p := ⟨b, o + i, none⟩) (cell_lt (HR.out i hi).1)).trans (HR.out i hi).1)
    have HON : Hid (∀ i, i < 12 → (R i).oneCell' = true) := Lib.hid (fun i hi => ints_oneCell (HR.out i hi).2)
    rw [← hwA]
    clear hwA
    refine wpAnyH_ready (rs := [4]) (by kernel_rfl) (by simp) ?_
    refine AllReadyH.cons (o := { dst := some 42, op := .call { callee := .builtin .append, args := #[.tmp 38, .tmp 41], argTypes := #[23, 23] }, type := _, pos := _, after := _, guard := none }) rfl (fun K hK => ?_) AllReadyH.nil
    rw [if_pos (by rfl)]
    refine wp_append_own wA (.tmp 38) (.tmp 41) 23 rfl w2.heap.size 28 i1 (.slice none 0 0) 1 24 Try.underlying23 HJ.out HY0.out HY1.out HY2.out rfl (by decide) _ 0 [] rfl HOA.out ⟨b, o, none⟩ k cm ((List.range k).map R) rfl (by simp) (fun j u hj => by
      have hjk : j < k := by
        have := (List.getElem?_eq_some_iff.1 hj).1
        simpa using this
      rw [range_get R k j hjk] at hj
      injection hj with hj
      subst hj
      rw [Addr.add_mid]
      exact HCX.out wA HBA.out j (by omega)) (fun u hu => by
      obtain ⟨j, hj, rfl⟩ := List.mem_map.1 hu
      exact HON.out j (by have := List.mem_range.1 hj; omega)) (by unfold maxLen; omega) (by omega) (by have := HSA.out; omega) ?_
    intro v1 wB hownB hgB hnB
    have HBB : Hid (Below w2.heap.size w2 wB) := Lib.hid (HBA.out.grown hgB (by have := HSA.out; omega) (fun q hq => (HOA.out.lt q hq).1))
    have HSB : Hid (w2.heap.size ≤ wB.heap.size) := Lib.hid (by have := hgB.size; have := HSA.out; omega)
    have HOB := Lib.hid hownB
    clear hgB hownB hnB
    refine hK.out _ _ trivial (fun hHeld => ?_)
    clear hK K
    try simp only [Act.put, List.setIfInBounds_toArray, List.set_cons_zero, List.set_cons_succ]
    refine wpAnyH_ready (rs := [9]) (by kernel_rfl) (by simp) ?_
    refine AllReadyH.cons (o := { dst := some 47, op := .call { callee := .builtin .append, args := #[.tmp 42, .tmp 46], argTypes := #[23, 23] }, type := _, pos := _, after := _, guard := none }) rfl (fun K hK => ?_) AllReadyH.nil
    rw [if_pos (by rfl)]
    refine wp_append_own wB (.tmp 42) (.tmp 46) 23 rfl w2.heap.size 28 i1 (.slice none 0 0) 1 24 Try.underlying23 HJ.out HY0.out HY1.out HY2.out rfl (by decide) v1 (0 + k) _ rfl HOB.out A2 (11 - k) (cm - (k + 1)) ((List.range (11 - k)).map (fun j => R (k + 1 + j))) rfl (by simp) (fun j u hj => by
      have hjk : j < 11 - k := by
        have := (List.getElem?_eq_some_iff.1 hj).1
        simpa using this
      rw [range_get (fun j => R (k + 1 + j)) (11 - k) j hjk] at hj
      injection hj with hj
      subst hj
      rcases HA2.out with hA | hA
      · rw [hA, Addr.add_mid, Nat.add_assoc]
        exact HCX.out wB HBB.out (k + 1 + j) (by omega)
      · omega) (fun u hu => by
      obtain ⟨j, hj, rfl⟩ := List.mem_map.1 hu
      exact HON.out (k + 1 + j) (by have := List.mem_range.1 hj; omega)) (by unfold maxLen; omega) (by omega) HSB.out ?_
    intro v2 wC hownC hgC hnC
    have HBC : Hid (Below w2.heap.size w2 wC) := Lib.hid (HBB.out.grown hgC HSB.out (fun q hq => (HOB.out.lt q hq).1))
    have HSC : Hid (w2.heap.size ≤ wC.heap.size) := Lib.hid (by have := hgC.size; have := HSB.out; omega)
    have HX : Hid (Rows2 wC v2 ((List.range 11).map (fun i => xss.getD (if i < k then i else i + 1) []))) := Lib.hid (rows_of_own hownC (by omega) (by simp; omega) (fun i hi => by
      have hi11 : i < 11 := by omega
      refine ⟨R (if i < k then i else i + 1), ?_, ?_⟩
      · rw [List.nil_append, List.getElem?_append]
        by_cases hik : i < k
        · rw [if_pos (by simpa using hik), range_get R k i hik, if_pos hik]
        · rw [if_neg (by simpa using hik), List.length_map, List.length_range, range_get (fun j => R (k + 1 + j)) (11 - k) (i - k) (by omega), if_neg hik]
          congr 2
          omega
      · have e : ((List.range 11).map (fun i => xss.getD (if i < k then i else i + 1) [])).getD i [] = xss.getD (if i < k then i else i + 1) [] := by
          rw [getD_lt (by simpa using hi11)]
          simp
        rw [e]
        exact Ints.below (B := 0) (HR.out _ (by split <;> omega)).2 HBC.out))
    clear hgC hownC hnC
    refine hK.out _ _ trivial (fun hHeld => ?_)
    clear hK K
    try simp only [Act.put, List.setIfInBounds_toArray, List.set_cons_zero, List.set_cons_succ]
    refine wpAnyH_take (i := 10) (oi := { dst := some 9, op := .assign (.tmp 47), type := _, pos := _, after := _, guard := none }) (v := v2) rfl (by kernel_rfl) (by kernel_rfl) (by kernel_rfl) (fun _ _ _ h => h) (Or.inl ⟨by rfl, fun wh hSw => ?_⟩) hHeld ?_
    · go_simp
    simp only [Act.put, List.setIfInBounds_toArray, List.set_cons_zero, List.set_cons_succ]
    refine wpAnyH_done (by kernel_rfl) ?_ _
    clear HS2 hHeld
    have HNEWS : Hid (∀ j u, ((List.range 12).map R)[j]? = some u → (wC.alloc (.cells #[] 28)).cell? ((⟨b, o, none⟩ : Addr).add j) = some u) := Lib.hid (fun j u hj => by
      have hjk : j < 12 := by
        have := (List.getElem?_eq_some_iff.1 hj).1
        simpa using this
      rw [range_get R 12 j hjk] at hj
      injection hj with hj
      subst hj
      rw [Addr.add_mid]
      have := HCX.out wC HBC.out j hjk
      rw [World.cell?_alloc_past _ _ _ (cell_lt this), this])
    have HON' : Hid (∀ u ∈ (List.range 12).map R, u.oneCell' = true) := Lib.hid (fun u hu => by
      obtain ⟨j, hj, rfl⟩ := List.mem_map.1 hu
      exact HON.out j (List.mem_range.1 hj))
    go_wp2_with (at_builtin; refine wpList_append_own _ rfl (.tmp 48) (.tmp 49) 23 rfl wC.heap.size 28 i1 (.slice none 0 0) 1 24 Try.underlying23 HJ.out HY0.out HY1.out HY2.out rfl (by decide) _ _ _ rfl (World.ownsRow_made wC #[] 0 (Nat.le_refl _) (Nat.zero_le _) rfl) ⟨b, o, none⟩ 12 cm ((List.range 12).map R) rfl (by simp) HNEWS.out HON'.out (by unfold maxLen; omega) (by omega) (by simp) ?_; intro v3 wD hownD hgD hnD; simp only [Nat.zero_add, List.nil_append] at hownD; obtain ⟨g3, c3, rfl⟩ := own_slice hownD (by omega); replace hgD : (wC.alloc (.cells #[] 28)).grownBy wD (some wC.heap.size) := hgD; have HOD := Lib.hid hownD; have HGD := Lib.hid hgD; clear hownD hgD hnD; have hcK : ∀ ob, (wD.alloc ob).cell? ⟨g3, k, none⟩ = some (R k) := (fun ob => by
        have h := HOD.out.cells (g := g3) rfl k (R k) (range_get R 12 k hk12)
        rw [add0] at h
        rw [World.cell?_alloc_past _ _ _ (cell_lt h), h]); have hfK : ∀ ob, (wD.alloc ob).frozen? ⟨g3, k, none⟩ = false := (fun ob => by
        have hlt := (HOD.out.lt g3 rfl).2
        rcases HOD.out.2 with ⟨e, _⟩ | ⟨g', _, cur, e, _, hbl, _⟩
        · cases e
        · injection e with e
          injection e with e
          injection e with e
          subst e
          exact (World.frozen?_of_block (a := ⟨g3, k, none⟩) (Below.heap_alloc _ _ _ hlt)).trans (frozen_of_row wD g3 k cur _ hbl)))
    obtain ⟨wE, hwE⟩ : ∃ wE, wE = wD.alloc (.cells #[.int .i64 1, .int .i64 2, .int .i64 3, .int .i64 10000] 3) := ⟨_, rfl⟩
    have hg3 := HOD.out.lt g3 rfl
    have hDE : wD.heap.size < wE.heap.size := by rw [hwE]; simp
    have BCD : Below wC.heap.size wC wD := ((Below.refl _ _).alloc (Nat.le_refl _) _).grown HGD.out (by simp) (fun q hq => by injection hq with hq; omega)
    have BCE : Below wC.heap.size wC wE := by rw [hwE]; exact BCD.alloc BCD.size _
    have BCF : Below wC.heap.size wC (wE.setCell ⟨g3, k, none⟩ (.slice (some ⟨wD.heap.size, 0, none⟩) 4 4)) := BCE.setCell (p := ⟨g3, k, none⟩) hg3.1 _
    have B2F : Below w2.heap.size w2 (wE.setCell ⟨g3, k, none⟩ (.slice (some ⟨wD.heap.size, 0, none⟩) 4 4)) := HBC.out.trans (BCF.mono HSC.out)
    have HXF := Lib.hid (HX.out.below BCF)
    have hcE : ∀ i, i < 12 → wE.cell? ⟨g3, i, none⟩ = some (R i) := fun i hi => by
      have h := HOD.out.cells (g := g3) rfl i (R i) (range_get R 12 i hi)
      rw [add0] at h
      rw [hwE, World.cell?_alloc_past _ _ _ (cell_lt h), h]
    have HYF : Hid (Rows2 (wE.setCell ⟨g3, k, none⟩ (.slice (some ⟨wD.heap.size, 0, none⟩) 4 4)) (.slice (some ⟨g3, 0, none⟩) 12 c3) (xss.set k [1, 2, 3, 10000])) := Lib.hid (by
      refine ⟨some ⟨g3, 0, none⟩, c3, by rw [List.length_set, HLEN.out], ?_, ?_, fun i hi => ?_⟩
      · rw [List.length_set, HLEN.out]
        rcases HOD.out.2 with ⟨e, _⟩ | ⟨_, _, _, e, _, _, h1, _⟩
        · cases e
        · injection e with _ _ e; omega
      · rcases HOD.out.2 with ⟨e, _⟩ | ⟨_, _, _, e, _, _, _, h1, _⟩
        · cases e
        · injection e with _ _ e; omega
      · rw [List.length_set, HLEN.out] at hi
        rw [getD_set]
        by_cases hik : k = i
        · subst hik
          rw [if_pos ⟨rfl, by have := HLEN.out; omega⟩]
          refine ⟨g3, 0, _, rfl, by rw [Nat.zero_add]; exact cell_set_same (hcE k hk12), _, 4, rfl, Nat.le_refl _, by unfold maxLen; omega, fun j hj => ⟨wD.heap.size, 0, rfl, ?_⟩⟩
          have h4 : j = 0 ∨ j = 1 ∨ j = 2 ∨ j = 3 := by simp at hj; omega
          rw [Nat.zero_add]
          refine (cell_set_other (.inl (by show wD.heap.size ≠ g3; omega))).trans ?_
          rw [hwE]
          rcases h4 with rfl | rfl | rfl | rfl <;> exact new_cell rfl
        · rw [if_neg (fun hh => hik hh.1)]
          exact ⟨g3, 0, R i, rfl, by rw [Nat.zero_add]; exact (cell_set_other (.inr (by show i ≠ k; omega))).trans (hcE i hi), Ints.below (B := 0) (HR.out i hi).2 B2F⟩)
    have BWF := Lib.hid (Below.chg B2.out (Chg.of_below B2F) Z2 (.inr rfl))
    clear hcE BCD BCE hcK hfK hDE hg3
    rw [← hwE]
    clear hwE
    obtain ⟨wF, hwF⟩ : ∃ wF, wF = wE.setCell ⟨g3, k, none⟩ (.slice (some ⟨wD.heap.size, 0, none⟩) 4 4) := ⟨_, rfl⟩
    have ZF : W.heap.size ≤ wF.heap.size := by rw [hwF]; exact BWF.out.size
    rw [← hwF] at HXF HYF BWF ⊢
    clear hwF BCF B2F
    have HV1 := Lib.hid (HhV.out wF v2 _ HXF.out)
    rw [mem_len_no (by simp)] at HV1
    refine HV1.out.mono ?_
    rintro e w8 ⟨rfl, hb8⟩
    have HV2 := Lib.hid (HhV.out w8 _ _ (HYF.out.below hb8))
    rw [mem_word_no HLEN.out hk12] at HV2
    have B8 := Lib.hid (Below.chg BWF.out (Chg.of_below hb8) ZF (.inr rfl))
    have Z8 : W.heap.size ≤ w8.heap.size := Nat.le_trans ZF hb8.size
    clear HV1 hb8
    go_wp2_with fail
    refine HV2.out.mono ?_
    rintro e w9 ⟨rfl, hb9⟩
    have B9 := Lib.hid (Below.chg B8.out (Chg.of_below hb9) Z8 (.inr rfl))
    clear hb9
    go_wp2_with fail
    go_ret
    exact ⟨rfl, B9.out⟩
end Go.Proofs.Ytgdkeihmddpenaa
