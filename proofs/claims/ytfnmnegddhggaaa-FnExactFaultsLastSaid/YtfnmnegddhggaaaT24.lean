/- What the proofs stand on, part 24. -/
import Derived.Test.YtfnmnegddhggaaaRows
import Derived.Test.YtfnmnegddhggaaaT1
import Derived.Test.YtfnmnegddhggaaaT2
import Derived.Test.YtfnmnegddhggaaaT3
import Derived.Test.YtfnmnegddhggaaaT6
import Derived.Test.YtfnmnegddhggaaaT21
set_option linter.unusedSimpArgs false
set_option linter.unusedVariables false
namespace Go.Proofs.Ytfnmnegddhggaaa
open Go.ChangeShapes Go.WideShapes Go.ChangeAt Go.RowKit
set_option linter.unusedVariables false
theorem seen_len (xs : List Int) (k j : Nat) : (seen xs k j).length ≤ j := by
  induction j with
  | zero => simp [seen]
  | succ j ih =>
    rw [seen]
    by_cases h : xs.getD (k - 1 - j) 0 ∈ seen xs k j
    · rw [if_pos h]; omega
    · rw [if_neg h, List.length_append, List.length_singleton]; omega
theorem bfi_le (xs : List Int) (k : Nat) : bfi xs k ≤ k := by
  have := List.findIdx_le_length (xs := (List.range k).map (fun j => xs.getD (k - 1 - j) 0)) (p := fun x => decide (x = xs.getD k 0))
  simpa [bfi] using this
theorem bfi_used {xs : List Int} {k : Nat} (h : bfi xs k < k) : xs.getD (k - 1 - bfi xs k) 0 = xs.getD k 0 := by
  have hl : bfi xs k < ((List.range k).map (fun j => xs.getD (k - 1 - j) 0)).length := by simpa using h
  have := List.findIdx_getElem (xs := (List.range k).map (fun j => xs.getD (k - 1 - j) 0)) (p := fun x => decide (x = xs.getD k 0)) (w := hl)
  have h2 := of_decide_eq_true this
  simpa [bfi] using h2
theorem bfi_before {xs : List Int} {k j : Nat} (h : j < bfi xs k) : xs.getD (k - 1 - j) 0 ≠ xs.getD k 0 := by
  have hl : j < k := Nat.lt_of_lt_of_le h (bfi_le xs k)
  have := List.not_of_lt_findIdx h
  intro hh
  simp only [List.getElem_map, List.getElem_range, hh, decide_true] at this
  exact absurd this (by simp)
theorem bfi_first {xs : List Int} {k j : Nat} (hj : j < k) (hb : ∀ i, i < j → xs.getD (k - 1 - i) 0 ≠ xs.getD k 0) (he : xs.getD (k - 1 - j) 0 = xs.getD k 0) : bfi xs k = j := by
  have h1 : ¬ bfi xs k < j := fun h => hb _ h (bfi_used (Nat.lt_trans h hj))
  have h2 : ¬ j < bfi xs k := fun h => bfi_before h he
  omega
theorem bfi_none {xs : List Int} {k : Nat} (hb : ∀ i, i < k → xs.getD (k - 1 - i) 0 ≠ xs.getD k 0) : bfi xs k = k := by
  have h1 : ¬ bfi xs k < k := fun h => hb _ h (bfi_used h)
  have := bfi_le xs k
  omega
set_option maxRecDepth 100000 in
set_option maxHeartbeats 1000000 in
theorem l33Span_any (w : World) (v : Value) (xs : List Int) (h : Ints w v xs) (hs : xs.length ≤ 1000) (k : Nat) (hk : k < xs.length) :
    Calls Try.prog 43 #[v, .int .i64 k] w (IRes (spn xs k) w) := by
  have H := Lib.hid h
  obtain ⟨a, ca, rfl, hla, hma, hxa⟩ := h
  unfold maxLen at hma
  obtain ⟨n, hn⟩ : ∃ n, n = xs.length := ⟨_, rfl⟩
  rw [← hn] at hla hxa hs hk H ⊢
  have HN := Lib.hid hn
  clear hn
  have HCL : Hid (∀ w', Below w.heap.size w w' → ∀ i, i < n → ∃ g p, a = some ⟨g, p, none⟩ ∧ w'.cell? ⟨g, p + i, none⟩ = some (.int .i64 (xs.getD i 0))) := Lib.hid (fun w' hb i hi => by
    obtain ⟨a', c', e, _, _, hx⟩ := Ints.below (B := 0) H.out hb
    obtain ⟨g, p, e', hc⟩ := hx i (by rw [← HN.out]; exact hi)
    injection e with e1
    exact ⟨g, p, e1.trans e', hc⟩)
  obtain ⟨g0, p0, rfl, -⟩ := hxa k (by omega)
  clear hxa
  have HCG : Hid (∀ w', Below w.heap.size w w' → ∀ i, i < n → w'.cell? ⟨g0, p0 + i, none⟩ = some (.int .i64 (xs.getD i 0))) := Lib.hid (fun w' hb i hi => by
    obtain ⟨g, p, e, hc⟩ := HCL.out w' hb i hi
    cases e
    exact hc)
  clear HCL
  obtain ⟨r, hr⟩ : ∃ r, r = spn xs k := ⟨_, rfl⟩
  rw [← hr]
  have HR := Lib.hid hr
  clear hr
  have HST := Lib.hid (OwnI.start w)
  have hk' : (k : Int) < (n : Int) := by omega
  have HWR : IntKind.i64.wrap ((k : Int) - 1) = (k : Int) - 1 := by rw [IntKind.wrap_i64]; omega
  go_enter Try.func43, Try.ntmps43
  go_wp2
  go_loopw [6, 5] (fun i sv wr => ∃ j : Nat, j ≤ k ∧ i = .int .i64 ((k : Int) - 1 - (j : Int)) ∧ Hid (OwnI w sv (seen xs k j) wr) ∧ Hid (∀ i, i < j → xs.getD (k - 1 - i) 0 ≠ xs.getD k 0)) (fun i _ _ => (intOf i + 1).toNat)
  case atStart => exact ⟨0, Nat.zero_le _, by simp, HST, Lib.hid (fun i hi => by omega)⟩
  case round =>
    obtain ⟨j, hj, rfl, HREL, HB⟩ := hrel
    obtain ⟨g, c, rfl, hgc, hgm⟩ := HREL.out.slice
    unfold maxLen at hgm
    have hsl := seen_len xs k j
    by_cases hlt : j < k
    · have hge : decide ((k : Int) - 1 - (j : Int) < 0) = false := by rw [decide_eq_false_iff_not]; omega
      have hge2 : (0 : Int) ≤ (k : Int) - 1 - (j : Int) := by omega
      have hge3 : (k : Int) - 1 - (j : Int) < (n : Int) := by omega
      have hix : ((k : Int) - 1 - (j : Int)).toNat = k - 1 - j := by omega
      have hc1 := HCG.out _ HREL.out.bel (k - 1 - j) (by omega)
      have hc2 := HCG.out _ HREL.out.bel k hk
      have HSE : Hid (seen xs k (j + 1) = if xs.getD (k - 1 - j) 0 ∈ seen xs k j then seen xs k j else seen xs k j ++ [xs.getD (k - 1 - j) 0]) := Lib.hid rfl
      have HBN := Lib.hid (fun (hne : xs.getD (k - 1 - j) 0 ≠ xs.getD k 0) => show ∀ i, i < j + 1 → xs.getD (k - 1 - i) 0 ≠ xs.getD k 0 from fun i hi => by
        by_cases hk2 : i = j
        · rw [hk2]; exact hne
        · exact HB.out i (by omega))
      have HBF := Lib.hid (fun (he : xs.getD (k - 1 - j) 0 = xs.getD k 0) => bfi_first hlt HB.out he)
      generalize xs.getD (k - 1 - j) 0 = y at hc1 HSE HBN HBF
      obtain ⟨x, hx⟩ : ∃ x, x = xs.getD k 0 := ⟨_, rfl⟩
      rw [← hx] at hc2 HBN HBF
      have HXV := Lib.hid hx
      clear hx HB
      obtain ⟨se, hse⟩ : ∃ se, se = seen xs k j := ⟨_, rfl⟩
      rw [← hse] at HREL hsl hgc HSE ⊢
      have HSV := Lib.hid hse
      obtain ⟨m, hm⟩ : ∃ m, m = se.length := ⟨_, rfl⟩
      rw [← hm] at hsl hgc HREL ⊢
      have HMV := Lib.hid hm
      clear hse hm
      by_cases hyx : y = x
      · have h1 : (y == x) = true := by rw [beq_iff_eq]; exact hyx
        have HF : Hid (r = (m : Int)) := Lib.hid (by rw [HR.out, spn, HBF.out hyx, if_pos hlt, HMV.out, HSV.out])
        go_wp2_with fail
        refine wp_region_held_drew (S := fun w' => w'.cell? ⟨g0, p0 + (k - 1 - j), none⟩ = some (.int .i64 y) ∧ w'.cell? ⟨g0, p0 + k, none⟩ = some (.int .i64 x)) (by kernel_rfl) ⟨hc1, hc2⟩ (fun hHeld => ?_)
        refine wpAnyH_take (i := 0) (oi := { dst := some 14, op := .move (.tmp 0), type := _, pos := _, after := _, guard := none }) (v := .slice (some ⟨g0, p0, none⟩) n ca) rfl (by kernel_rfl) (by kernel_rfl) (by kernel_rfl) (fun _ _ _ h => h) (Or.inl ⟨by rfl, fun wh hSw => ?_⟩) hHeld ?_
        · (obtain ⟨s1, s2⟩ := hSw; go_simp)
        try simp only [Act.put, List.setIfInBounds_toArray, List.set_cons_zero, List.set_cons_succ]
        refine wpAnyH_take (i := 1) (oi := { dst := some 15, op := .move (.tmp 6), type := _, pos := _, after := _, guard := none }) (v := .int .i64 ((k : Int) - 1 - (j : Int))) rfl (by kernel_rfl) (by kernel_rfl) (by kernel_rfl) (fun _ _ _ h => h) (Or.inl ⟨by rfl, fun wh hSw => ?_⟩) hHeld ?_
        · (obtain ⟨s1, s2⟩ := hSw; go_simp)
        try simp only [Act.put, List.setIfInBounds_toArray, List.set_cons_zero, List.set_cons_succ]
        refine wpAnyH_take (i := 2) (oi := { dst := some 16, op := .indexAddr 23 (.tmp 14) (.tmp 15), type := _, pos := _, after := _, guard := none }) (v := .pointer (some ⟨g0, p0 + (k - 1 - j), none⟩)) rfl (by kernel_rfl) (by kernel_rfl) (by kernel_rfl) (fun _ _ _ h => h) (Or.inl ⟨by rfl, fun wh hSw => ?_⟩) hHeld ?_
        · (obtain ⟨s1, s2⟩ := hSw; go_simp)
        try simp only [Act.put, List.setIfInBounds_toArray, List.set_cons_zero, List.set_cons_succ]
        refine wpAnyH_take (i := 3) (oi := { dst := some 17, op := .load 3 (.tmp 16), type := _, pos := _, after := _, guard := none }) (v := .int .i64 y) rfl (by kernel_rfl) (by kernel_rfl) (by kernel_rfl) (fun _ _ _ h => h) (Or.inl ⟨by rfl, fun wh hSw => ?_⟩) hHeld ?_
        · (obtain ⟨s1, s2⟩ := hSw; go_simp)
        try simp only [Act.put, List.setIfInBounds_toArray, List.set_cons_zero, List.set_cons_succ]
        refine wpAnyH_take (i := 4) (oi := { dst := some 18, op := .move (.tmp 0), type := _, pos := _, after := _, guard := none }) (v := .slice (some ⟨g0, p0, none⟩) n ca) rfl (by kernel_rfl) (by kernel_rfl) (by kernel_rfl) (fun _ _ _ h => h) (Or.inl ⟨by rfl, fun wh hSw => ?_⟩) hHeld ?_
        · (obtain ⟨s1, s2⟩ := hSw; go_simp)
        try simp only [Act.put, List.setIfInBounds_toArray, List.set_cons_zero, List.set_cons_succ]
        refine wpAnyH_take (i := 5) (oi := { dst := some 19, op := .move (.tmp 1), type := _, pos := _, after := _, guard := none }) (v := .int .i64 (k : Int)) rfl (by kernel_rfl) (by kernel_rfl) (by kernel_rfl) (fun _ _ _ h => h) (Or.inl ⟨by rfl, fun wh hSw => ?_⟩) hHeld ?_
        · (obtain ⟨s1, s2⟩ := hSw; go_simp)
        try simp only [Act.put, List.setIfInBounds_toArray, List.set_cons_zero, List.set_cons_succ]
        refine wpAnyH_take (i := 6) (oi := { dst := some 20, op := .indexAddr 23 (.tmp 18) (.tmp 19), type := _, pos := _, after := _, guard := none }) (v := .pointer (some ⟨g0, p0 + k, none⟩)) rfl (by kernel_rfl) (by kernel_rfl) (by kernel_rfl) (fun _ _ _ h => h) (Or.inl ⟨by rfl, fun wh hSw => ?_⟩) hHeld ?_
        · (obtain ⟨s1, s2⟩ := hSw; go_simp)
        try simp only [Act.put, List.setIfInBounds_toArray, List.set_cons_zero, List.set_cons_succ]
        refine wpAnyH_take (i := 7) (oi := { dst := some 21, op := .load 3 (.tmp 20), type := _, pos := _, after := _, guard := none }) (v := .int .i64 x) rfl (by kernel_rfl) (by kernel_rfl) (by kernel_rfl) (fun _ _ _ h => h) (Or.inl ⟨by rfl, fun wh hSw => ?_⟩) hHeld ?_
        · (obtain ⟨s1, s2⟩ := hSw; go_simp)
        try simp only [Act.put, List.setIfInBounds_toArray, List.set_cons_zero, List.set_cons_succ]
        refine wpAnyH_take (i := 8) (oi := { dst := some 22, op := .binOp .eql 3 (.tmp 17) (.tmp 21) 3, type := _, pos := _, after := _, guard := none }) (v := .bool true) rfl (by kernel_rfl) (by kernel_rfl) (by kernel_rfl) (fun _ _ _ h => h) (Or.inl ⟨by rfl, fun wh hSw => ?_⟩) hHeld ?_
        · (obtain ⟨s1, s2⟩ := hSw; go_simp)
        try simp only [Act.put, List.setIfInBounds_toArray, List.set_cons_zero, List.set_cons_succ]
        refine wpAnyH_done (by kernel_rfl) ?_ _
        go_wp2_with fail
        go_ret
        exact ⟨by rw [HF.out]; rfl, HREL.out.bel.trans ((Below.refl _ _).drew.mono HREL.out.bel.size)⟩
      · have h1 : (y == x) = false := by simpa using hyx
        have HFD := Lib.hid (l33Find_any _ _ se y HREL.out.ints)
        obtain ⟨q, hq⟩ : ∃ q, q = lfind se y := ⟨_, rfl⟩
        rw [← hq] at HFD
        have HQ : Hid (q < 0 ↔ y ∉ se) := Lib.hid (by rw [hq]; exact lfind_neg)
        have HQE := Lib.hid hq
        clear hq
        go_wp2_with fail
        refine wp_region_held_drew (S := fun w' => w'.cell? ⟨g0, p0 + (k - 1 - j), none⟩ = some (.int .i64 y) ∧ w'.cell? ⟨g0, p0 + k, none⟩ = some (.int .i64 x)) (by kernel_rfl) ⟨hc1, hc2⟩ (fun hHeld => ?_)
        refine wpAnyH_take (i := 0) (oi := { dst := some 14, op := .move (.tmp 0), type := _, pos := _, after := _, guard := none }) (v := .slice (some ⟨g0, p0, none⟩) n ca) rfl (by kernel_rfl) (by kernel_rfl) (by kernel_rfl) (fun _ _ _ h => h) (Or.inl ⟨by rfl, fun wh hSw => ?_⟩) hHeld ?_
        · (obtain ⟨s1, s2⟩ := hSw; go_simp)
        try simp only [Act.put, List.setIfInBounds_toArray, List.set_cons_zero, List.set_cons_succ]
        refine wpAnyH_take (i := 1) (oi := { dst := some 15, op := .move (.tmp 6), type := _, pos := _, after := _, guard := none }) (v := .int .i64 ((k : Int) - 1 - (j : Int))) rfl (by kernel_rfl) (by kernel_rfl) (by kernel_rfl) (fun _ _ _ h => h) (Or.inl ⟨by rfl, fun wh hSw => ?_⟩) hHeld ?_
        · (obtain ⟨s1, s2⟩ := hSw; go_simp)
        try simp only [Act.put, List.setIfInBounds_toArray, List.set_cons_zero, List.set_cons_succ]
        refine wpAnyH_take (i := 2) (oi := { dst := some 16, op := .indexAddr 23 (.tmp 14) (.tmp 15), type := _, pos := _, after := _, guard := none }) (v := .pointer (some ⟨g0, p0 + (k - 1 - j), none⟩)) rfl (by kernel_rfl) (by kernel_rfl) (by kernel_rfl) (fun _ _ _ h => h) (Or.inl ⟨by rfl, fun wh hSw => ?_⟩) hHeld ?_
        · (obtain ⟨s1, s2⟩ := hSw; go_simp)
        try simp only [Act.put, List.setIfInBounds_toArray, List.set_cons_zero, List.set_cons_succ]
        refine wpAnyH_take (i := 3) (oi := { dst := some 17, op := .load 3 (.tmp 16), type := _, pos := _, after := _, guard := none }) (v := .int .i64 y) rfl (by kernel_rfl) (by kernel_rfl) (by kernel_rfl) (fun _ _ _ h => h) (Or.inl ⟨by rfl, fun wh hSw => ?_⟩) hHeld ?_
        · (obtain ⟨s1, s2⟩ := hSw; go_simp)
        try simp only [Act.put, List.setIfInBounds_toArray, List.set_cons_zero, List.set_cons_succ]
        refine wpAnyH_take (i := 4) (oi := { dst := some 18, op := .move (.tmp 0), type := _, pos := _, after := _, guard := none }) (v := .slice (some ⟨g0, p0, none⟩) n ca) rfl (by kernel_rfl) (by kernel_rfl) (by kernel_rfl) (fun _ _ _ h => h) (Or.inl ⟨by rfl, fun wh hSw => ?_⟩) hHeld ?_
        · (obtain ⟨s1, s2⟩ := hSw; go_simp)
        try simp only [Act.put, List.setIfInBounds_toArray, List.set_cons_zero, List.set_cons_succ]
        refine wpAnyH_take (i := 5) (oi := { dst := some 19, op := .move (.tmp 1), type := _, pos := _, after := _, guard := none }) (v := .int .i64 (k : Int)) rfl (by kernel_rfl) (by kernel_rfl) (by kernel_rfl) (fun _ _ _ h => h) (Or.inl ⟨by rfl, fun wh hSw => ?_⟩) hHeld ?_
        · (obtain ⟨s1, s2⟩ := hSw; go_simp)
        try simp only [Act.put, List.setIfInBounds_toArray, List.set_cons_zero, List.set_cons_succ]
        refine wpAnyH_take (i := 6) (oi := { dst := some 20, op := .indexAddr 23 (.tmp 18) (.tmp 19), type := _, pos := _, after := _, guard := none }) (v := .pointer (some ⟨g0, p0 + k, none⟩)) rfl (by kernel_rfl) (by kernel_rfl) (by kernel_rfl) (fun _ _ _ h => h) (Or.inl ⟨by rfl, fun wh hSw => ?_⟩) hHeld ?_
        · (obtain ⟨s1, s2⟩ := hSw; go_simp)
        try simp only [Act.put, List.setIfInBounds_toArray, List.set_cons_zero, List.set_cons_succ]
        refine wpAnyH_take (i := 7) (oi := { dst := some 21, op := .load 3 (.tmp 20), type := _, pos := _, after := _, guard := none }) (v := .int .i64 x) rfl (by kernel_rfl) (by kernel_rfl) (by kernel_rfl) (fun _ _ _ h => h) (Or.inl ⟨by rfl, fun wh hSw => ?_⟩) hHeld ?_
        · (obtain ⟨s1, s2⟩ := hSw; go_simp)
        try simp only [Act.put, List.setIfInBounds_toArray, List.set_cons_zero, List.set_cons_succ]
        refine wpAnyH_take (i := 8) (oi := { dst := some 22, op := .binOp .eql 3 (.tmp 17) (.tmp 21) 3, type := _, pos := _, after := _, guard := none }) (v := .bool false) rfl (by kernel_rfl) (by kernel_rfl) (by kernel_rfl) (fun _ _ _ h => h) (Or.inl ⟨by rfl, fun wh hSw => ?_⟩) hHeld ?_
        · (obtain ⟨s1, s2⟩ := hSw; go_simp)
        try simp only [Act.put, List.setIfInBounds_toArray, List.set_cons_zero, List.set_cons_succ]
        refine wpAnyH_done (by kernel_rfl) ?_ _
        have HREL2 : Hid (OwnI w (.slice (some ⟨g, 0, none⟩) m c) se wr.drew) := Lib.hid ⟨HREL.out.own, HREL.out.bel.trans ((Below.refl _ _).drew.mono HREL.out.bel.size), HREL.out.nn⟩
        have hd1 : wr.drew.cell? ⟨g0, p0 + (k - 1 - j), none⟩ = some (.int .i64 y) := hc1
        have HFD2 := Lib.hid (l33Find_any wr.drew _ se y HREL2.out.ints)
        rw [← HQE.out] at HFD2
        clear HFD hc1 hc2 HREL
        generalize wr.drew = wd at HREL2 hd1 HFD2 ⊢
        have HREL := HREL2
        clear HREL2
        go_wp2_with fail
        refine HFD2.out.mono ?_
        rintro e w' ⟨rfl, rfl⟩
        clear HFD2
        by_cases hqn : q < 0
        · have hny := HQ.out.1 hqn
          go_wp2_with (at_builtin; refine wpList_append_nums _ _ w _ _ _ [y] _ 1 HREL.out rfl rfl (by rw [← HMV.out]; simp; omega) rfl rfl ?_; intro v' w' hown; have HO := Lib.hid hown; clear hown)
          go_roundw
          case rel => exact ⟨j + 1, by omega, by go_num, Lib.hid (by rw [HSE.out, if_neg hny]; exact HO.out), Lib.hid (by rw [HXV.out] at hyx; rw [HXV.out] at HBN; exact HBN.out hyx)⟩
          case measure => simp [intOf]; omega
        · have hqn1 : decide (q < 0) = false := by rw [decide_eq_false_iff_not]; exact hqn
          have hny : y ∈ se := by
            by_cases hh : y ∈ se
            · exact hh
            · exact absurd (HQ.out.2 hh) hqn
          go_wp2_with fail
          go_roundw
          case rel => exact ⟨j + 1, by omega, by go_num, Lib.hid (by rw [HSE.out, if_pos hny]; exact HREL.out), Lib.hid (by rw [HXV.out] at hyx; rw [HXV.out] at HBN; exact HBN.out hyx)⟩
          case measure => simp [intOf]; omega
    · have e : j = k := by omega
      subst e
      have HF : Hid (r = -1) := Lib.hid (by rw [HR.out, spn, bfi_none HB.out, if_neg (Nat.lt_irrefl _)])
      have hge : decide ((0 : Int) ≤ (j : Int) - 1 - (j : Int)) = false := by rw [decide_eq_false_iff_not]; omega
      have hge2 : ¬ ((0 : Int) ≤ (j : Int) - 1 - (j : Int)) := by omega
      go_wp2_with fail
      go_ret
      exact ⟨by rw [HF.out]; rfl, HREL.out.bel⟩
end Go.Proofs.Ytfnmnegddhggaaa
