/- What the proofs stand on, part 26. -/
import Derived.Test.YtfnmnegddhggaaaRows
import Derived.Test.YtfnmnegddhggaaaT1
import Derived.Test.YtfnmnegddhggaaaT2
import Derived.Test.YtfnmnegddhggaaaT3
import Derived.Test.YtfnmnegddhggaaaT4
import Derived.Test.YtfnmnegddhggaaaT5
import Derived.Test.YtfnmnegddhggaaaT7
import Derived.Test.YtfnmnegddhggaaaT8
import Derived.Test.YtfnmnegddhggaaaT15
import Derived.Test.YtfnmnegddhggaaaT16
import Derived.Test.YtfnmnegddhggaaaT20
set_option linter.unusedSimpArgs false
set_option linter.unusedVariables false
namespace Go.Proofs.Ytfnmnegddhggaaa
open Go.ChangeShapes Go.WideShapes Go.ChangeAt Go.RowKit
set_option linter.unusedVariables false
def lnx (xs : List Int) (k : Nat) (p : Int) : Nat := k + 1 + (xs.drop (k + 1)).findIdx (fun x => decide (x = p))
theorem lnx_first {xs : List Int} {k j : Nat} {p : Int} (hj : k + 1 + j < xs.length) (hb : ∀ i, i < j → xs.getD (k + 1 + i) 0 ≠ p) (he : xs.getD (k + 1 + j) 0 = p) : lnx xs k p = k + 1 + j := by
  have hl : j < (xs.drop (k + 1)).length := by rw [List.length_drop]; omega
  have h1 : ¬ (xs.drop (k + 1)).findIdx (fun x => decide (x = p)) < j := fun h => by
    have hl' := Nat.lt_trans h hl
    have := List.findIdx_getElem (xs := xs.drop (k + 1)) (p := fun x => decide (x = p)) (w := hl')
    refine hb _ h ?_
    rw [← drop_get, getD_lt hl']
    exact of_decide_eq_true this
  have h2 : ¬ j < (xs.drop (k + 1)).findIdx (fun x => decide (x = p)) := fun h => by
    have := List.not_of_lt_findIdx h
    rw [← getD_lt (d := 0) hl, drop_get, decide_eq_true he] at this
    exact absurd this (by simp)
  unfold lnx
  omega
theorem lnx_none {xs : List Int} {k : Nat} {p : Int} (hk : k < xs.length) (hb : ∀ i, k + 1 + i < xs.length → xs.getD (k + 1 + i) 0 ≠ p) : lnx xs k p = xs.length := by
  have hle := List.findIdx_le_length (xs := xs.drop (k + 1)) (p := fun x => decide (x = p))
  have h1 : ¬ (xs.drop (k + 1)).findIdx (fun x => decide (x = p)) < (xs.drop (k + 1)).length := fun h => by
    have := List.findIdx_getElem (xs := xs.drop (k + 1)) (p := fun x => decide (x = p)) (w := h)
    have h' := h
    rw [List.length_drop] at h'
    refine hb ((xs.drop (k + 1)).findIdx (fun x => decide (x = p))) (by omega) ?_
    rw [← drop_get, getD_lt h]
    exact of_decide_eq_true this
  rw [List.length_drop] at hle h1
  unfold lnx
  omega
theorem lnx_le {xs : List Int} {k : Nat} {p : Int} (hk : k < xs.length) : lnx xs k p ≤ xs.length := by
  have hle := List.findIdx_le_length (xs := xs.drop (k + 1)) (p := fun x => decide (x = p))
  rw [List.length_drop] at hle
  unfold lnx
  omega
set_option maxHeartbeats 1000000 in
theorem l33Next_any (w : World) (v : Value) (xs : List Int) (k : Nat) (p : Int) (h : Ints w v xs) (hs : xs.length ≤ 1000) (hk : k < xs.length) :
    Calls Try.prog 59 #[v, .int .i64 k, .int .i64 p] w fun e w' => e = .returned (.int .i64 (lnx xs k p : Nat)) ∧ w = w' := by
  obtain ⟨a, ca, rfl, hla, hma, hxa⟩ := h
  unfold maxLen at hma
  obtain ⟨n, hn⟩ : ∃ n, n = xs.length := ⟨_, rfl⟩
  rw [← hn] at hla hxa hs hk ⊢
  have HN := Lib.hid hn
  have HX := Lib.hid hxa
  obtain ⟨r, hr⟩ : ∃ r, r = lnx xs k p := ⟨_, rfl⟩
  rw [← hr]
  have HR := Lib.hid hr
  clear hn hxa hr
  go_enter Try.func59, Try.ntmps59
  go_wp2
  go_loopw [7] (fun i wr => ∃ j : Nat, k + 1 + j ≤ n ∧ i = .int .i64 ((k + 1 + j : Nat) : Int) ∧ Hid (∀ i, i < j → xs.getD (k + 1 + i) 0 ≠ p) ∧ w = wr) (fun i _ => n - (intOf i).toNat)
  case atStart => exact ⟨0, by omega, by simp, Lib.hid (fun i hi => by omega), by first | trivial | rfl⟩
  case round =>
    obtain ⟨j, hj, rfl, HB, rfl⟩ := hrel
    obtain ⟨q, hq⟩ : ∃ q, q = k + 1 + j := ⟨_, rfl⟩
    rw [← hq] at hj ⊢
    by_cases hlt : q < n
    · obtain ⟨ba, oa, rfl, hca⟩ := HX.out q hlt
      have hlt' : (q : Int) < (n : Int) := by omega
      obtain ⟨x, hx⟩ : ∃ x, x = xs.getD q 0 := ⟨_, rfl⟩
      rw [← hx] at hca
      have HXV : Hid (x = xs.getD (k + 1 + j) 0) := Lib.hid (by rw [hx, hq])
      have HQ := Lib.hid hq
      clear hx HX hq
      by_cases hxp : x = p
      · have h1 : (x == p) = true := by rw [beq_iff_eq]; exact hxp
        have HF : Hid (r = q) := Lib.hid (by rw [HR.out, HQ.out]; exact lnx_first (by rw [← HN.out, ← HQ.out]; exact hlt) HB.out (by rw [← HXV.out]; exact hxp))
        clear HB
        go_wp2
        go_ret
        exact ⟨by rw [HF.out]; rfl, by first | trivial | rfl⟩
      · have h1 : (x == p) = false := by simpa using hxp
        go_wp2
        go_roundw
        case rel => exact ⟨j + 1, by have := HQ.out; omega, by have := HQ.out; go_num, Lib.hid (fun i hij => by
          by_cases hk2 : i = j
          · rw [hk2, ← HXV.out]; exact hxp
          · exact HB.out i (by omega)), by first | trivial | rfl⟩
        case measure => simp [intOf]; omega
    · have e : q = n := by omega
      have HF : Hid (r = n) := Lib.hid (by
        rw [HR.out, HN.out]
        exact lnx_none (by rw [← HN.out]; exact hk) (fun i hi => HB.out i (by rw [← HN.out] at hi; omega)))
      clear hq
      subst e
      go_wp2
      go_ret
      exact ⟨by rw [HF.out]; rfl, by first | trivial | rfl⟩
def latN (xs : List Int) (k : Nat) (ks : List Int) : Nat → Nat
  | 0 => 0
  | m + 1 => if lnx xs k (ks.getD (latN xs k ks m) 0) < lnx xs k (ks.getD (m + 1) 0) then m + 1 else latN xs k ks m
def lat (xs : List Int) (k : Nat) (ks : List Int) : Nat := latN xs k ks (ks.length - 1)
theorem latN_le (xs : List Int) (k : Nat) (ks : List Int) (m : Nat) : latN xs k ks m ≤ m := by
  induction m with
  | zero => exact Nat.le_refl _
  | succ m ih =>
    rw [latN]
    by_cases h : lnx xs k (ks.getD (latN xs k ks m) 0) < lnx xs k (ks.getD (m + 1) 0)
    · rw [if_pos h]; exact Nat.le_refl _
    · rw [if_neg h]; omega
set_option maxHeartbeats 1000000 in
theorem l33Latest_any (w : World) (v u : Value) (xs ks : List Int) (k : Nat) (h : Ints w v xs) (hu : Ints w u ks) (hs : xs.length ≤ 1000) (hk : k < xs.length) (hks : ks.length ≤ 1000) :
    Calls Try.prog 52 #[v, .int .i64 k, u] w (IRes (lat xs k ks : Nat) w) := by
  have HNX := Lib.hid (fun (w' : World) (hb : Below w.heap.size w w') p => l33Next_any w' v xs k p (Ints.below (B := 0) h hb) hs hk)
  have HLE := Lib.hid (fun p => lnx_le (p := p) hk)
  obtain ⟨n, hn⟩ : ∃ n, n = xs.length := ⟨_, rfl⟩
  rw [← hn] at HLE hs
  obtain ⟨a, ca, rfl, hla, hma, hxa⟩ := hu
  unfold maxLen at hma
  obtain ⟨m, hm⟩ : ∃ m, m = ks.length := ⟨_, rfl⟩
  obtain ⟨r, hr⟩ : ∃ r, r = lat xs k ks := ⟨_, rfl⟩
  rw [← hr]
  have HR : Hid (r = latN xs k ks (m - 1)) := Lib.hid (by rw [hr, hm]; rfl)
  rw [← hm] at hla hxa hks ⊢
  have HX : Hid (∀ w', Below w.heap.size w w' → ∀ i, i < m → ∃ g p, a = some ⟨g, p, none⟩ ∧ w'.cell? ⟨g, p + i, none⟩ = some (.int .i64 (ks.getD i 0))) := Lib.hid (fun w' hb i hi => by
    obtain ⟨g, p, e, hc⟩ := hxa i hi
    exact ⟨g, p, e, (World.cell?_of_block (hb.block g (cell_lt hc))).trans hc⟩)
  clear hr hm hxa h hn
  go_enter Try.func52, Try.ntmps52
  go_wp2
  go_loopw [7, 8] (fun bs i wr => ∃ j : Nat, (j + 1 ≤ m ∨ j = 0) ∧ i = .int .i64 ((j + 1 : Nat) : Int) ∧ bs = .int .i64 (latN xs k ks j : Nat) ∧ Hid (Below w.heap.size w wr)) (fun _ i _ => m - (intOf i).toNat)
  case atStart => exact ⟨0, .inr rfl, by first | rfl | simp, rfl, Lib.hid (Below.refl _ _)⟩
  case round =>
    obtain ⟨j, hj, rfl, rfl, hbl⟩ := hrel
    by_cases hlt : j + 1 < m
    · have hlt' : ((j + 1 : Nat) : Int) < (m : Int) := by omega
      have hle := latN_le xs k ks j
      have HSN : Hid (latN xs k ks (j + 1) = if lnx xs k (ks.getD (latN xs k ks j) 0) < lnx xs k (ks.getD (j + 1) 0) then j + 1 else latN xs k ks j) := Lib.hid rfl
      obtain ⟨b, hb⟩ : ∃ b, b = latN xs k ks j := ⟨_, rfl⟩
      rw [← hb] at hle HSN ⊢
      obtain ⟨q, hq⟩ : ∃ q, q = j + 1 := ⟨_, rfl⟩
      rw [← hq] at HSN hlt hlt' ⊢
      obtain ⟨g, o, rfl, hc1⟩ := HX.out _ hbl.out q hlt
      obtain ⟨g2, o2, he, hc2⟩ := HX.out _ hbl.out b (by omega)
      have hbq : b < q := by omega
      cases he
      have hbm : (b : Int) < (m : Int) := by omega
      have HBD := Lib.hid (hbl.out.trans ((Below.refl wr.heap.size wr).drew.mono hbl.out.size))
      have H1 := Lib.hid (HNX.out _ HBD.out (ks.getD q 0))
      have H2 := Lib.hid (HNX.out _ HBD.out (ks.getD b 0))
      have hl1 := HLE.out (ks.getD q 0)
      have hl2 := HLE.out (ks.getD b 0)
      generalize ks.getD q 0 = y at hc1 H1 hl1 HSN
      generalize ks.getD b 0 = z at hc2 H2 hl2 HSN
      generalize lnx xs k y = ly at H1 hl1 HSN
      generalize lnx xs k z = lz at H2 hl2 HSN
      have HQ := Lib.hid hq
      clear hb hq HX HNX HLE
      go_wp2_with fail
      by_cases hgt : lz < ly
      · rw [if_pos hgt] at HSN
        have hgt' : (lz : Int) < (ly : Int) := by omega
        refine wp_region_held_drew (S := fun w' => w'.cell? ⟨g, o + q, none⟩ = some (.int .i64 y) ∧ w'.cell? ⟨g, o + b, none⟩ = some (.int .i64 z)) (by kernel_rfl) ⟨hc1, hc2⟩ (fun hHeld => ?_)
        refine wpAnyH_take (i := 0) (oi := { dst := some 15, op := .move (.tmp 0), type := _, pos := _, after := _, guard := none }) (v := v) rfl (by kernel_rfl) (by kernel_rfl) (by kernel_rfl) (fun _ _ _ h => h) (Or.inl ⟨by rfl, fun wh hSw => ?_⟩) hHeld ?_
        · (obtain ⟨s1, s2⟩ := hSw; go_simp)
        try simp only [Act.put, List.setIfInBounds_toArray, List.set_cons_zero, List.set_cons_succ]
        refine wpAnyH_take (i := 1) (oi := { dst := some 16, op := .move (.tmp 1), type := _, pos := _, after := _, guard := none }) (v := .int .i64 (k : Int)) rfl (by kernel_rfl) (by kernel_rfl) (by kernel_rfl) (fun _ _ _ h => h) (Or.inl ⟨by rfl, fun wh hSw => ?_⟩) hHeld ?_
        · (obtain ⟨s1, s2⟩ := hSw; go_simp)
        try simp only [Act.put, List.setIfInBounds_toArray, List.set_cons_zero, List.set_cons_succ]
        refine wpAnyH_take (i := 2) (oi := { dst := some 17, op := .move (.tmp 2), type := _, pos := _, after := _, guard := none }) (v := .slice (some ⟨g, o, none⟩) m ca) rfl (by kernel_rfl) (by kernel_rfl) (by kernel_rfl) (fun _ _ _ h => h) (Or.inl ⟨by rfl, fun wh hSw => ?_⟩) hHeld ?_
        · (obtain ⟨s1, s2⟩ := hSw; go_simp)
        try simp only [Act.put, List.setIfInBounds_toArray, List.set_cons_zero, List.set_cons_succ]
        refine wpAnyH_take (i := 3) (oi := { dst := some 18, op := .move (.tmp 8), type := _, pos := _, after := _, guard := none }) (v := .int .i64 (q : Int)) rfl (by kernel_rfl) (by kernel_rfl) (by kernel_rfl) (fun _ _ _ h => h) (Or.inl ⟨by rfl, fun wh hSw => ?_⟩) hHeld ?_
        · (obtain ⟨s1, s2⟩ := hSw; go_simp)
        try simp only [Act.put, List.setIfInBounds_toArray, List.set_cons_zero, List.set_cons_succ]
        refine wpAnyH_take (i := 4) (oi := { dst := some 19, op := .indexAddr 23 (.tmp 17) (.tmp 18), type := _, pos := _, after := _, guard := none }) (v := .pointer (some ⟨g, o + q, none⟩)) rfl (by kernel_rfl) (by kernel_rfl) (by kernel_rfl) (fun _ _ _ h => h) (Or.inl ⟨by rfl, fun wh hSw => ?_⟩) hHeld ?_
        · (obtain ⟨s1, s2⟩ := hSw; go_simp)
        try simp only [Act.put, List.setIfInBounds_toArray, List.set_cons_zero, List.set_cons_succ]
        refine wpAnyH_take (i := 5) (oi := { dst := some 20, op := .load 3 (.tmp 19), type := _, pos := _, after := _, guard := none }) (v := .int .i64 y) rfl (by kernel_rfl) (by kernel_rfl) (by kernel_rfl) (fun _ _ _ h => h) (Or.inl ⟨by rfl, fun wh hSw => ?_⟩) hHeld ?_
        · (obtain ⟨s1, s2⟩ := hSw; go_simp)
        try simp only [Act.put, List.setIfInBounds_toArray, List.set_cons_zero, List.set_cons_succ]
        refine wpAnyH_take (i := 7) (oi := { dst := some 22, op := .move (.tmp 0), type := _, pos := _, after := _, guard := none }) (v := v) rfl (by kernel_rfl) (by kernel_rfl) (by kernel_rfl) (fun _ _ _ h => h) (Or.inl ⟨by rfl, fun wh hSw => ?_⟩) hHeld ?_
        · (obtain ⟨s1, s2⟩ := hSw; go_simp)
        try simp only [Act.put, List.setIfInBounds_toArray, List.set_cons_zero, List.set_cons_succ]
        refine wpAnyH_take (i := 8) (oi := { dst := some 23, op := .move (.tmp 1), type := _, pos := _, after := _, guard := none }) (v := .int .i64 (k : Int)) rfl (by kernel_rfl) (by kernel_rfl) (by kernel_rfl) (fun _ _ _ h => h) (Or.inl ⟨by rfl, fun wh hSw => ?_⟩) hHeld ?_
        · (obtain ⟨s1, s2⟩ := hSw; go_simp)
        try simp only [Act.put, List.setIfInBounds_toArray, List.set_cons_zero, List.set_cons_succ]
        refine wpAnyH_take (i := 9) (oi := { dst := some 24, op := .move (.tmp 2), type := _, pos := _, after := _, guard := none }) (v := .slice (some ⟨g, o, none⟩) m ca) rfl (by kernel_rfl) (by kernel_rfl) (by kernel_rfl) (fun _ _ _ h => h) (Or.inl ⟨by rfl, fun wh hSw => ?_⟩) hHeld ?_
        · (obtain ⟨s1, s2⟩ := hSw; go_simp)
        try simp only [Act.put, List.setIfInBounds_toArray, List.set_cons_zero, List.set_cons_succ]
        refine wpAnyH_take (i := 10) (oi := { dst := some 25, op := .move (.tmp 7), type := _, pos := _, after := _, guard := none }) (v := .int .i64 (b : Int)) rfl (by kernel_rfl) (by kernel_rfl) (by kernel_rfl) (fun _ _ _ h => h) (Or.inl ⟨by rfl, fun wh hSw => ?_⟩) hHeld ?_
        · (obtain ⟨s1, s2⟩ := hSw; go_simp)
        try simp only [Act.put, List.setIfInBounds_toArray, List.set_cons_zero, List.set_cons_succ]
        refine wpAnyH_take (i := 11) (oi := { dst := some 26, op := .indexAddr 23 (.tmp 24) (.tmp 25), type := _, pos := _, after := _, guard := none }) (v := .pointer (some ⟨g, o + b, none⟩)) rfl (by kernel_rfl) (by kernel_rfl) (by kernel_rfl) (fun _ _ _ h => h) (Or.inl ⟨by rfl, fun wh hSw => ?_⟩) hHeld ?_
        · (obtain ⟨s1, s2⟩ := hSw; go_simp)
        try simp only [Act.put, List.setIfInBounds_toArray, List.set_cons_zero, List.set_cons_succ]
        refine wpAnyH_take (i := 12) (oi := { dst := some 27, op := .load 3 (.tmp 26), type := _, pos := _, after := _, guard := none }) (v := .int .i64 z) rfl (by kernel_rfl) (by kernel_rfl) (by kernel_rfl) (fun _ _ _ h => h) (Or.inl ⟨by rfl, fun wh hSw => ?_⟩) hHeld ?_
        · (obtain ⟨s1, s2⟩ := hSw; go_simp)
        try simp only [Act.put, List.setIfInBounds_toArray, List.set_cons_zero, List.set_cons_succ]
        refine wpAnyH_ready (rs := [6]) (by kernel_rfl) (by simp) ?_
        refine AllReadyH.cons (o := { dst := some 21, op := .call { callee := .value (.func 59), args := #[.tmp 15, .tmp 16, .tmp 20], argTypes := #[23, 3, 3] }, type := _, pos := _, after := _, guard := none }) rfl (fun K hK => ?_) AllReadyH.nil
        go_simp
        refine H1.out.mono ?_
        rintro e w' ⟨rfl, rfl⟩
        refine hK.out _ _ ?_ (fun hHeld => ?_)
        · exact ⟨hc1, hc2⟩
        clear hK K
        try simp only [Act.put, List.setIfInBounds_toArray, List.set_cons_zero, List.set_cons_succ]
        refine wpAnyH_ready (rs := [13]) (by kernel_rfl) (by simp) ?_
        refine AllReadyH.cons (o := { dst := some 28, op := .call { callee := .value (.func 59), args := #[.tmp 22, .tmp 23, .tmp 27], argTypes := #[23, 3, 3] }, type := _, pos := _, after := _, guard := none }) rfl (fun K hK => ?_) AllReadyH.nil
        go_simp
        refine H2.out.mono ?_
        rintro e w' ⟨rfl, rfl⟩
        refine hK.out _ _ ?_ (fun hHeld => ?_)
        · exact ⟨hc1, hc2⟩
        clear hK K
        try simp only [Act.put, List.setIfInBounds_toArray, List.set_cons_zero, List.set_cons_succ]
        refine wpAnyH_take (i := 14) (oi := { dst := some 29, op := .binOp .gtr 3 (.tmp 21) (.tmp 28) 3, type := _, pos := _, after := _, guard := none }) (v := .bool true) rfl (by kernel_rfl) (by kernel_rfl) (by kernel_rfl) (fun _ _ _ h => h) (Or.inl ⟨by rfl, fun wh hSw => ?_⟩) hHeld ?_
        · (obtain ⟨s1, s2⟩ := hSw; go_simp)
        try simp only [Act.put, List.setIfInBounds_toArray, List.set_cons_zero, List.set_cons_succ]
        refine wpAnyH_done (by kernel_rfl) ?_ _
        go_wp2_with fail
        go_roundw
        case rel => exact ⟨q, .inl (by omega), by go_num, by rw [HSN.out], HBD⟩
        case measure => simp [intOf]; omega
      · rw [if_neg hgt] at HSN
        have hgt' : decide ((lz : Int) < (ly : Int)) = false := by rw [decide_eq_false_iff_not]; omega
        refine wp_region_held_drew (S := fun w' => w'.cell? ⟨g, o + q, none⟩ = some (.int .i64 y) ∧ w'.cell? ⟨g, o + b, none⟩ = some (.int .i64 z)) (by kernel_rfl) ⟨hc1, hc2⟩ (fun hHeld => ?_)
        refine wpAnyH_take (i := 0) (oi := { dst := some 15, op := .move (.tmp 0), type := _, pos := _, after := _, guard := none }) (v := v) rfl (by kernel_rfl) (by kernel_rfl) (by kernel_rfl) (fun _ _ _ h => h) (Or.inl ⟨by rfl, fun wh hSw => ?_⟩) hHeld ?_
        · (obtain ⟨s1, s2⟩ := hSw; go_simp)
        try simp only [Act.put, List.setIfInBounds_toArray, List.set_cons_zero, List.set_cons_succ]
        refine wpAnyH_take (i := 1) (oi := { dst := some 16, op := .move (.tmp 1), type := _, pos := _, after := _, guard := none }) (v := .int .i64 (k : Int)) rfl (by kernel_rfl) (by kernel_rfl) (by kernel_rfl) (fun _ _ _ h => h) (Or.inl ⟨by rfl, fun wh hSw => ?_⟩) hHeld ?_
        · (obtain ⟨s1, s2⟩ := hSw; go_simp)
        try simp only [Act.put, List.setIfInBounds_toArray, List.set_cons_zero, List.set_cons_succ]
        refine wpAnyH_take (i := 2) (oi := { dst := some 17, op := .move (.tmp 2), type := _, pos := _, after := _, guard := none }) (v := .slice (some ⟨g, o, none⟩) m ca) rfl (by kernel_rfl) (by kernel_rfl) (by kernel_rfl) (fun _ _ _ h => h) (Or.inl ⟨by rfl, fun wh hSw => ?_⟩) hHeld ?_
        · (obtain ⟨s1, s2⟩ := hSw; go_simp)
        try simp only [Act.put, List.setIfInBounds_toArray, List.set_cons_zero, List.set_cons_succ]
        refine wpAnyH_take (i := 3) (oi := { dst := some 18, op := .move (.tmp 8), type := _, pos := _, after := _, guard := none }) (v := .int .i64 (q : Int)) rfl (by kernel_rfl) (by kernel_rfl) (by kernel_rfl) (fun _ _ _ h => h) (Or.inl ⟨by rfl, fun wh hSw => ?_⟩) hHeld ?_
        · (obtain ⟨s1, s2⟩ := hSw; go_simp)
        try simp only [Act.put, List.setIfInBounds_toArray, List.set_cons_zero, List.set_cons_succ]
        refine wpAnyH_take (i := 4) (oi := { dst := some 19, op := .indexAddr 23 (.tmp 17) (.tmp 18), type := _, pos := _, after := _, guard := none }) (v := .pointer (some ⟨g, o + q, none⟩)) rfl (by kernel_rfl) (by kernel_rfl) (by kernel_rfl) (fun _ _ _ h => h) (Or.inl ⟨by rfl, fun wh hSw => ?_⟩) hHeld ?_
        · (obtain ⟨s1, s2⟩ := hSw; go_simp)
        try simp only [Act.put, List.setIfInBounds_toArray, List.set_cons_zero, List.set_cons_succ]
        refine wpAnyH_take (i := 5) (oi := { dst := some 20, op := .load 3 (.tmp 19), type := _, pos := _, after := _, guard := none }) (v := .int .i64 y) rfl (by kernel_rfl) (by kernel_rfl) (by kernel_rfl) (fun _ _ _ h => h) (Or.inl ⟨by rfl, fun wh hSw => ?_⟩) hHeld ?_
        · (obtain ⟨s1, s2⟩ := hSw; go_simp)
        try simp only [Act.put, List.setIfInBounds_toArray, List.set_cons_zero, List.set_cons_succ]
        refine wpAnyH_take (i := 7) (oi := { dst := some 22, op := .move (.tmp 0), type := _, pos := _, after := _, guard := none }) (v := v) rfl (by kernel_rfl) (by kernel_rfl) (by kernel_rfl) (fun _ _ _ h => h) (Or.inl ⟨by rfl, fun wh hSw => ?_⟩) hHeld ?_
        · (obtain ⟨s1, s2⟩ := hSw; go_simp)
        try simp only [Act.put, List.setIfInBounds_toArray, List.set_cons_zero, List.set_cons_succ]
        refine wpAnyH_take (i := 8) (oi := { dst := some 23, op := .move (.tmp 1), type := _, pos := _, after := _, guard := none }) (v := .int .i64 (k : Int)) rfl (by kernel_rfl) (by kernel_rfl) (by kernel_rfl) (fun _ _ _ h => h) (Or.inl ⟨by rfl, fun wh hSw => ?_⟩) hHeld ?_
        · (obtain ⟨s1, s2⟩ := hSw; go_simp)
        try simp only [Act.put, List.setIfInBounds_toArray, List.set_cons_zero, List.set_cons_succ]
        refine wpAnyH_take (i := 9) (oi := { dst := some 24, op := .move (.tmp 2), type := _, pos := _, after := _, guard := none }) (v := .slice (some ⟨g, o, none⟩) m ca) rfl (by kernel_rfl) (by kernel_rfl) (by kernel_rfl) (fun _ _ _ h => h) (Or.inl ⟨by rfl, fun wh hSw => ?_⟩) hHeld ?_
        · (obtain ⟨s1, s2⟩ := hSw; go_simp)
        try simp only [Act.put, List.setIfInBounds_toArray, List.set_cons_zero, List.set_cons_succ]
        refine wpAnyH_take (i := 10) (oi := { dst := some 25, op := .move (.tmp 7), type := _, pos := _, after := _, guard := none }) (v := .int .i64 (b : Int)) rfl (by kernel_rfl) (by kernel_rfl) (by kernel_rfl) (fun _ _ _ h => h) (Or.inl ⟨by rfl, fun wh hSw => ?_⟩) hHeld ?_
        · (obtain ⟨s1, s2⟩ := hSw; go_simp)
        try simp only [Act.put, List.setIfInBounds_toArray, List.set_cons_zero, List.set_cons_succ]
        refine wpAnyH_take (i := 11) (oi := { dst := some 26, op := .indexAddr 23 (.tmp 24) (.tmp 25), type := _, pos := _, after := _, guard := none }) (v := .pointer (some ⟨g, o + b, none⟩)) rfl (by kernel_rfl) (by kernel_rfl) (by kernel_rfl) (fun _ _ _ h => h) (Or.inl ⟨by rfl, fun wh hSw => ?_⟩) hHeld ?_
        · (obtain ⟨s1, s2⟩ := hSw; go_simp)
        try simp only [Act.put, List.setIfInBounds_toArray, List.set_cons_zero, List.set_cons_succ]
        refine wpAnyH_take (i := 12) (oi := { dst := some 27, op := .load 3 (.tmp 26), type := _, pos := _, after := _, guard := none }) (v := .int .i64 z) rfl (by kernel_rfl) (by kernel_rfl) (by kernel_rfl) (fun _ _ _ h => h) (Or.inl ⟨by rfl, fun wh hSw => ?_⟩) hHeld ?_
        · (obtain ⟨s1, s2⟩ := hSw; go_simp)
        try simp only [Act.put, List.setIfInBounds_toArray, List.set_cons_zero, List.set_cons_succ]
        refine wpAnyH_ready (rs := [6]) (by kernel_rfl) (by simp) ?_
        refine AllReadyH.cons (o := { dst := some 21, op := .call { callee := .value (.func 59), args := #[.tmp 15, .tmp 16, .tmp 20], argTypes := #[23, 3, 3] }, type := _, pos := _, after := _, guard := none }) rfl (fun K hK => ?_) AllReadyH.nil
        go_simp
        refine H1.out.mono ?_
        rintro e w' ⟨rfl, rfl⟩
        refine hK.out _ _ ?_ (fun hHeld => ?_)
        · exact ⟨hc1, hc2⟩
        clear hK K
        try simp only [Act.put, List.setIfInBounds_toArray, List.set_cons_zero, List.set_cons_succ]
        refine wpAnyH_ready (rs := [13]) (by kernel_rfl) (by simp) ?_
        refine AllReadyH.cons (o := { dst := some 28, op := .call { callee := .value (.func 59), args := #[.tmp 22, .tmp 23, .tmp 27], argTypes := #[23, 3, 3] }, type := _, pos := _, after := _, guard := none }) rfl (fun K hK => ?_) AllReadyH.nil
        go_simp
        refine H2.out.mono ?_
        rintro e w' ⟨rfl, rfl⟩
        refine hK.out _ _ ?_ (fun hHeld => ?_)
        · exact ⟨hc1, hc2⟩
        clear hK K
        try simp only [Act.put, List.setIfInBounds_toArray, List.set_cons_zero, List.set_cons_succ]
        refine wpAnyH_take (i := 14) (oi := { dst := some 29, op := .binOp .gtr 3 (.tmp 21) (.tmp 28) 3, type := _, pos := _, after := _, guard := none }) (v := .bool false) rfl (by kernel_rfl) (by kernel_rfl) (by kernel_rfl) (fun _ _ _ h => h) (Or.inl ⟨by rfl, fun wh hSw => ?_⟩) hHeld ?_
        · (obtain ⟨s1, s2⟩ := hSw; go_simp)
        try simp only [Act.put, List.setIfInBounds_toArray, List.set_cons_zero, List.set_cons_succ]
        refine wpAnyH_done (by kernel_rfl) ?_ _
        go_wp2_with fail
        go_roundw
        case rel => exact ⟨q, .inl (by omega), by go_num, by rw [HSN.out], HBD⟩
        case measure => simp [intOf]; omega
    · have HF : Hid (r = latN xs k ks j) := Lib.hid (by
        rw [HR.out]
        congr 1
        omega)
      have hge : decide (((j + 1 : Nat) : Int) < (m : Int)) = false := by rw [decide_eq_false_iff_not]; omega
      have hge2 : decide ((j : Int) + 1 < (m : Int)) = false := by rw [decide_eq_false_iff_not]; omega
      have hge3 : (m : Int) ≤ (j : Int) + 1 := by omega
      go_wp2_with fail
      go_ret
      exact ⟨by rw [HF.out]; rfl, hbl.out⟩
end Go.Proofs.Ytfnmnegddhggaaa
namespace Go.Proofs.Ytfnmnegddhggaaa
set_option linter.unusedVariables false
set_option linter.unusedSimpArgs false
theorem latN_ev (xs : List Int) (k : Nat) (ks : List Int) (m : Nat) : latN xs k ks m = evN (xs.drop (k + 1)) ks m := by
  induction m with
  | zero => rfl
  | succ m ih =>
    rw [latN, evN, ih]
    have e : ∀ a b : Int, lnx xs k a < lnx xs k b ↔ fNx (xs.drop (k + 1)) a < fNx (xs.drop (k + 1)) b := fun a b => by unfold lnx fNx; omega
    simp only [e]
theorem lat_ev (xs : List Int) (k : Nat) (ks : List Int) : lat xs k ks = evL (xs.drop (k + 1)) ks := latN_ev xs k ks _
end Go.Proofs.Ytfnmnegddhggaaa
namespace Go.Proofs.Ytfnmnegddhggaaa
open Go.ChangeShapes Go.WideShapes Go.ChangeAt Go.RowKit
set_option linter.unusedVariables false
set_option linter.unusedSimpArgs false
def fbK (xs : List Int) (f : Nat) : Nat → List Int
  | 0 => []
  | m + 1 => stepB evL f (fbK xs f m) (xs.getD m 0) (xs.drop (m + 1))
def fbN (xs : List Int) (f : Nat) : Nat → Nat
  | 0 => 0
  | m + 1 => fbN xs f m + fMiss (xs.getD m 0) (fbK xs f m)
theorem fbK_len (xs : List Int) (f : Nat) (m : Nat) : (fbK xs f m).length ≤ m := by
  induction m with
  | zero => simp [fbK]
  | succ m ih =>
    rw [fbK]
    unfold stepB
    by_cases h : xs.getD m 0 ∈ fbK xs f m
    · rw [if_pos h]; omega
    · rw [if_neg h]
      split
      · rw [List.length_append, List.length_singleton]
        have := (List.eraseIdx_sublist (fbK xs f m) (evL (xs.drop (m + 1)) (fbK xs f m))).length_le
        omega
      · rw [List.length_append, List.length_singleton]; omega
theorem fbN_cost {xs : List Int} {f : Nat} : ∀ {k : Nat}, k ≤ xs.length → costB evL f (fbK xs f k) (xs.drop k) + fbN xs f k = costB evL f [] xs
  | 0, _ => by simp [fbN, fbK]
  | k + 1, hk => by
    have ih := fbN_cost (xs := xs) (f := f) (k := k) (by omega)
    rw [drop_at (show k < xs.length by omega), costB] at ih
    rw [fbN, fbK]
    omega
theorem fbN_all (xs : List Int) (f : Nat) : fbN xs f xs.length = costB evL f [] xs := by
  have h := fbN_cost (xs := xs) (f := f) (Nat.le_refl _)
  rw [List.drop_length] at h
  simpa [costB] using h
theorem fbN_le (xs : List Int) (f : Nat) (m : Nat) : fbN xs f m ≤ m := by
  induction m with
  | zero => simp [fbN]
  | succ m ih =>
    rw [fbN]
    have := fMiss_le (xs.getD m 0) (fbK xs f m)
    omega
set_option maxRecDepth 100000 in
set_option maxHeartbeats 1000000 in
theorem sFaultsBest_any (w : World) (v : Value) (xs : List Int) (f : Int) (h : Ints w v xs) :
    Calls Try.prog 29 #[v, .int .i64 f] w (IRes (fbest xs f) w) := by
  have H := Lib.hid h
  have HV := Lib.hid (l33Ok_any w v xs f h)
  obtain ⟨a, ca, hv, hla, hma, -⟩ := h
  unfold maxLen at hma
  obtain ⟨n, hn⟩ : ∃ n, n = xs.length := ⟨_, rfl⟩
  rw [← hn] at hla hv
  subst hv
  have HN := Lib.hid hn
  clear hn
  obtain ⟨r, hr⟩ : ∃ r, r = fbest xs f := ⟨_, rfl⟩
  rw [← hr]
  have HR := Lib.hid hr
  clear hr
  cases hc : ftOk xs f with
  | false =>
    rw [hc] at HV
    have HF : Hid (r = -1) := Lib.hid (by rw [HR.out, fbest, hc]; rfl)
    clear hc
    go_enter Try.func29, Try.ntmps29
    go_wp2_with fail
    refine HV.out.mono ?_
    rintro e w' ⟨rfl, rfl⟩
    go_wp2_with fail
    go_ret
    exact ⟨by rw [HF.out]; rfl, Below.refl _ _⟩
  | true =>
    rw [hc] at HV
    obtain ⟨F, hF, hF1, hF12⟩ := ftOk_f hc
    have HF : Hid (r = (fbN xs F n : Nat)) := Lib.hid (by rw [HR.out, fbest, hc, if_pos rfl, HN.out, fbN_all, hF]; rfl)
    subst hF
    have hl24 : xs.length ≤ 24 := tr_len (by unfold ftOk at hc; rw [Bool.and_eq_true] at hc; exact hc.1)
    have HL24 := Lib.hid hl24
    have HCL : Hid (∀ w', Below w.heap.size w w' → ∀ i, i < n → ∃ g p, a = some ⟨g, p, none⟩ ∧ w'.cell? ⟨g, p + i, none⟩ = some (.int .i64 (xs.getD i 0))) := Lib.hid (fun w' hb i hi => by
      obtain ⟨a', c', e, _, _, hx⟩ := Ints.below (B := 0) H.out hb
      obtain ⟨g, p, e', hc⟩ := hx i (by rw [← HN.out]; exact hi)
      injection e with e1
      exact ⟨g, p, e1.trans e', hc⟩)
    clear hc hl24
    go_enter Try.func29, Try.ntmps29
    go_wp2_with fail
    refine HV.out.mono ?_
    rintro e w' ⟨rfl, rfl⟩
    clear HV
    have HST := Lib.hid (OwnI.start w)
    go_wp2_with fail
    go_loopw [5, 6, 7] (fun kv q i wr => ∃ m : Nat, m ≤ n ∧ i = .int .i64 m ∧ q = .int .i64 (fbN xs F m : Nat) ∧ Hid (Ints wr kv (fbK xs F m)) ∧ Hid (Below w.heap.size w wr)) (fun _ _ i _ => n - (intOf i).toNat)
    case atStart => exact ⟨0, Nat.zero_le _, rfl, rfl, Lib.hid HST.out.ints, Lib.hid HST.out.bel⟩
    case round =>
      obtain ⟨m, hm, rfl, rfl, HKV, hbl⟩ := hrel
      have hfl := fbN_le xs F m
      have hkl := fbK_len xs F m
      have hl := HL24.out
      rw [← HN.out] at hl
      by_cases hlt : m < n
      · have hlt' : (m : Int) < (n : Int) := by omega
        obtain ⟨ba, oa, rfl, hca⟩ := HCL.out _ hbl.out m hlt
        have HS1 : Hid (fbK xs F (m + 1) = stepB evL F (fbK xs F m) (xs.getD m 0) (xs.drop (m + 1))) := Lib.hid rfl
        have HS2 : Hid (fbN xs F (m + 1) = fbN xs F m + fMiss (xs.getD m 0) (fbK xs F m)) := Lib.hid rfl
        obtain ⟨q, hq⟩ : ∃ q, q = fbN xs F m := ⟨_, rfl⟩
        rw [← hq] at hfl HS2 ⊢
        clear hq
        generalize fbK xs F m = ks at HKV hkl HS1 HS2
        generalize xs.getD m 0 = x at hca HS1 HS2
        obtain ⟨a5, c5, rfl, hk51, hk52, hk53⟩ := HKV.out
        have HLA := Lib.hid (fun (hl : xs.length ≤ 1000) => l33Latest_any wr (.slice (some ⟨ba, oa, none⟩) n ca) (.slice a5 ks.length c5) xs ks m (Ints.below (B := 0) H.out hbl.out) HKV.out hl (by rw [← HN.out]; exact hlt) (by omega))
        have HFD := Lib.hid (l33Find_any _ _ ks x HKV.out)
        obtain ⟨z, hz⟩ : ∃ z, z = lfind ks x := ⟨_, rfl⟩
        rw [← hz] at HFD
        have HQ : Hid (z < 0 ↔ x ∉ ks) := Lib.hid (by rw [hz]; exact lfind_neg)
        clear hz HCL
        go_wp2_with fail
        refine HFD.out.mono ?_
        rintro e w' ⟨rfl, rfl⟩
        clear HFD
        by_cases hzn : z < 0
        · have hny := HQ.out.1 hzn
          rw [fMiss_out hny] at HS2
          by_cases hF : ks.length = F
          · have hF1' : ((ks.length : Int) == (F : Int)) = true := by rw [beq_iff_eq]; omega
            have HFK := Lib.hid hF
            clear hF
            go_wp2_with fail
            refine (HLA.out (by have := HL24.out; omega)).mono ?_
            rintro e w6 ⟨rfl, hb6⟩
            have hc6 := (hb6.cell (p := ⟨ba, oa + m, none⟩) (cell_lt hca)).trans hca
            have HK6 := Lib.hid (Ints.below (B := 0) HKV.out hb6)
            have HL6 : Hid (Below w.heap.size w w6) := Lib.hid (hbl.out.trans (hb6.mono hbl.out.size))
            clear hb6
            obtain ⟨k, hk⟩ : ∃ k, k = lat xs m ks := ⟨_, rfl⟩
            rw [← hk]
            have hkl2 : k < ks.length := by
              rw [hk, lat_ev]
              exact (evL_late (xs.drop (m + 1)) ks (by intro e; have hF := HFK.out; rw [e] at hF; simp at hF; omega)).1
            have HST2 : Hid (stepB evL F ks x (xs.drop (m + 1)) = ks.take k ++ ks.drop (k + 1) ++ [x]) := Lib.hid (by
              unfold stepB
              rw [if_neg hny, if_pos HFK.out, ← lat_ev, ← hk, List.eraseIdx_eq_take_drop_succ])
            clear hk HLA
            go_wp2_with fail
            refine wp_region_held_drew (S := fun _ => True) (by kernel_rfl) trivial (fun hHeld => ?_)
            refine anyH_gen _ (fun AZ hgen => ?_)
            have HBZ := Lib.hid (by rw [hgen]; exact Below.drew (Below.refl _ _) : Below w6.heap.size w6 AZ)
            clear hgen
            have HB0 : Hid (Below AZ.heap.size AZ AZ) := Lib.hid (Below.refl _ _)
            have hcZ := (HBZ.out.cell (p := ⟨ba, oa + m, none⟩) (cell_lt hc6)).trans hc6
            have HKZ := Lib.hid (Ints.below (B := 0) HK6.out HBZ.out)
            obtain ⟨v40, hto, hto2⟩ := slice_to HKZ.out k (by omega) (k : Int) rfl
            obtain ⟨v45, hfr, hfr2⟩ := slice_from HKZ.out (k + 1) (by omega) ((k : Int) + 1) (by omega)
            have HTO := Lib.hid (hto2 _ HKZ.out)
            have HFR := Lib.hid (hfr2 _ HKZ.out)
            have HTO1 := Lib.hid hto
            have HFR1 := Lib.hid hfr
            clear hto hto2 hfr hfr2
            refine wpAnyH_take (i := 1) (oi := { dst := some 38, op := .move (.tmp 5), type := _, pos := _, after := _, guard := none }) (v := .slice a5 ks.length c5) rfl (by kernel_rfl) (by kernel_rfl) (by kernel_rfl) (fun _ _ _ h => h) (Or.inl ⟨by rfl, fun wh hSw => ?_⟩) hHeld ?_
            · (go_simp)
            try simp only [Act.put, List.setIfInBounds_toArray, List.set_cons_zero, List.set_cons_succ]
            refine wpAnyH_take (i := 2) (oi := { dst := some 39, op := .move (.tmp 8), type := _, pos := _, after := _, guard := none }) (v := .int .i64 (k : Int)) rfl (by kernel_rfl) (by kernel_rfl) (by kernel_rfl) (fun _ _ _ h => h) (Or.inl ⟨by rfl, fun wh hSw => ?_⟩) hHeld ?_
            · (go_simp)
            try simp only [Act.put, List.setIfInBounds_toArray, List.set_cons_zero, List.set_cons_succ]
            refine wpAnyH_take (i := 3) (oi := { dst := some 40, op := .slice 23 (.tmp 38) none (some (.tmp 39)) none, type := _, pos := _, after := _, guard := none }) (v := v40) rfl (by kernel_rfl) (by kernel_rfl) (by kernel_rfl) (fun _ _ _ h => h) (Or.inl ⟨by rfl, fun wh hSw => ?_⟩) hHeld ?_
            · exact exec_slice rfl (HTO1.out wh)
            try simp only [Act.put, List.setIfInBounds_toArray, List.set_cons_zero, List.set_cons_succ]
            refine wpAnyH_take (i := 5) (oi := { dst := some 42, op := .move (.tmp 5), type := _, pos := _, after := _, guard := none }) (v := .slice a5 ks.length c5) rfl (by kernel_rfl) (by kernel_rfl) (by kernel_rfl) (fun _ _ _ h => h) (Or.inl ⟨by rfl, fun wh hSw => ?_⟩) hHeld ?_
            · (go_simp)
            try simp only [Act.put, List.setIfInBounds_toArray, List.set_cons_zero, List.set_cons_succ]
            refine wpAnyH_take (i := 6) (oi := { dst := some 43, op := .move (.tmp 8), type := _, pos := _, after := _, guard := none }) (v := .int .i64 (k : Int)) rfl (by kernel_rfl) (by kernel_rfl) (by kernel_rfl) (fun _ _ _ h => h) (Or.inl ⟨by rfl, fun wh hSw => ?_⟩) hHeld ?_
            · (go_simp)
            try simp only [Act.put, List.setIfInBounds_toArray, List.set_cons_zero, List.set_cons_succ]
            refine wpAnyH_take (i := 7) (oi := { dst := some 44, op := .binOp .add 3 (.tmp 43) (.const (.int .i64 1)) 3, type := _, pos := _, after := _, guard := none }) (v := .int .i64 ((k : Int) + 1)) rfl (by kernel_rfl) (by kernel_rfl) (by kernel_rfl) (fun _ _ _ h => h) (Or.inl ⟨by rfl, fun wh hSw => ?_⟩) hHeld ?_
            · (go_simp; rw [IntKind.wrap_i64]; omega)
            try simp only [Act.put, List.setIfInBounds_toArray, List.set_cons_zero, List.set_cons_succ]
            refine wpAnyH_take (i := 8) (oi := { dst := some 45, op := .slice 23 (.tmp 42) (some (.tmp 44)) none none, type := _, pos := _, after := _, guard := none }) (v := v45) rfl (by kernel_rfl) (by kernel_rfl) (by kernel_rfl) (fun _ _ _ h => h) (Or.inl ⟨by rfl, fun wh hSw => ?_⟩) hHeld ?_
            · exact exec_slice rfl (HFR1.out wh)
            try simp only [Act.put, List.setIfInBounds_toArray, List.set_cons_zero, List.set_cons_succ]
            refine wpAnyH_ready (rs := [0]) (by kernel_rfl) (by simp) ?_
            refine AllReadyH.cons (o := { dst := some 37, op := .buildSlice 23 0 #[], type := _, pos := _, after := _, guard := none }) rfl (fun K hK => ?_) AllReadyH.nil
            go_simp
            obtain ⟨A1, hA1⟩ : ∃ A, A = AZ.alloc (.cells #[] 3) := ⟨_, rfl⟩
            rw [← hA1]
            have hb1 : Below AZ.heap.size AZ A1 := by rw [hA1]; exact (Below.refl _ _).alloc (Nat.le_refl _) _
            have HB1 : Hid (Below AZ.heap.size AZ A1) := Lib.hid (HB0.out.trans (hb1.mono HB0.out.size))
            have HSZ1 : Hid (AZ.heap.size < A1.heap.size) := Lib.hid (by rw [hA1]; simp)
            have HO37_1 : Hid (OwnI AZ (.slice (some ⟨AZ.heap.size, 0, none⟩) 0 0) [] A1) := Lib.hid (by rw [hA1]; exact OwnI.start _)
            clear hA1 hb1
            refine hK.out _ _ ?_ (fun hHeld => ?_)
            · exact trivial
            clear hK K
            try simp only [Act.put, List.setIfInBounds_toArray, List.set_cons_zero, List.set_cons_succ]
            refine wpAnyH_ready (rs := [4]) (by kernel_rfl) (by simp) ?_
            refine AllReadyH.cons (o := { dst := some 41, op := .call { callee := .builtin .append, args := #[.tmp 37, .tmp 40], argTypes := #[23, 23] }, type := _, pos := _, after := _, guard := none }) rfl (fun K hK => ?_) AllReadyH.nil
            rw [if_pos (by rfl)]
            refine wp_append_ints (.tmp 37) (.tmp 40) AZ (.slice (some ⟨AZ.heap.size, 0, none⟩) 0 0) [] rfl HO37_1.out v40 ((ks.take k)) rfl (Ints.below (B := 0) HTO.out HB1.out) (by simp only [List.length_nil, List.length_append, List.length_cons, List.length_take, List.length_drop]; omega) ?_
            intro v2 A2 hO2 hg2
            rw [List.nil_append] at hO2
            have HO41_2 := Lib.hid hO2
            have HB2 : Hid (Below AZ.heap.size AZ A2) := Lib.hid (HB0.out.trans (hO2.bel.mono HB0.out.size))
            clear hO2 hg2
            refine hK.out _ _ ?_ (fun hHeld => ?_)
            · exact trivial
            clear hK K
            try simp only [Act.put, List.setIfInBounds_toArray, List.set_cons_zero, List.set_cons_succ]
            refine wpAnyH_ready (rs := [9]) (by kernel_rfl) (by simp) ?_
            refine AllReadyH.cons (o := { dst := some 46, op := .call { callee := .builtin .append, args := #[.tmp 41, .tmp 45], argTypes := #[23, 23] }, type := _, pos := _, after := _, guard := none }) rfl (fun K hK => ?_) AllReadyH.nil
            rw [if_pos (by rfl)]
            refine wp_append_ints (.tmp 41) (.tmp 45) AZ v2 (ks.take k) rfl HO41_2.out v45 ((ks.drop (k + 1))) rfl (Ints.below (B := 0) HFR.out HB2.out) (by simp only [List.length_nil, List.length_append, List.length_cons, List.length_take, List.length_drop]; omega) ?_
            intro v3 A3 hO3 hg3
            have HO46_3 := Lib.hid hO3
            have HB3 : Hid (Below AZ.heap.size AZ A3) := Lib.hid (HB0.out.trans (hO3.bel.mono HB0.out.size))
            clear hO3 hg3
            refine hK.out _ _ ?_ (fun hHeld => ?_)
            · exact trivial
            clear hK K
            try simp only [Act.put, List.setIfInBounds_toArray, List.set_cons_zero, List.set_cons_succ]
            refine wpAnyH_take (i := 10) (oi := { dst := some 5, op := .assign (.tmp 46), type := _, pos := _, after := _, guard := none }) (v := v3) rfl (by kernel_rfl) (by kernel_rfl) (by kernel_rfl) (fun _ _ _ h => h) (Or.inl ⟨by rfl, fun wh hSw => ?_⟩) hHeld ?_
            · (go_simp)
            try simp only [Act.put, List.setIfInBounds_toArray, List.set_cons_zero, List.set_cons_succ]
            refine wpAnyH_done (by kernel_rfl) ?_ _
            have hcX := (HB3.out.cell (p := ⟨ba, oa + m, none⟩) (cell_lt hcZ)).trans hcZ
            have HKX := Lib.hid HO46_3.out.ints
            have HLX : Hid (Below w.heap.size w A3) := Lib.hid (HL6.out.trans ((HBZ.out.trans (HB3.out.mono HBZ.out.size)).mono HL6.out.size))
            obtain ⟨kw, hkw⟩ : ∃ kw, kw = v3 := ⟨_, rfl⟩
            obtain ⟨W9, hW9⟩ : ∃ W9, W9 = A3 := ⟨_, rfl⟩
            rw [← hkw] at HKX ⊢
            rw [← hW9] at hcX HKX HLX ⊢
            clear hkw hW9 hcZ HKZ hHeld HBZ HB0
            go_wp2_with fail
            refine wp_region_held_drew (S := fun w' => w'.cell? ⟨ba, oa + m, none⟩ = some (.int .i64 x)) (by kernel_rfl) hcX (fun hHeld => ?_)
            refine anyH_gen _ (fun zAZ hgen => ?_)
            have zHBZ := Lib.hid (by rw [hgen]; exact Below.drew (Below.refl _ _) : Below W9.heap.size W9 zAZ)
            rw [← hgen] at hHeld
            clear hgen
            have zHB0 : Hid (Below zAZ.heap.size zAZ zAZ) := Lib.hid (Below.refl _ _)
            have hcZ := (zHBZ.out.cell (p := ⟨ba, oa + m, none⟩) (cell_lt hcX)).trans hcX
            have HKZ := Lib.hid (Ints.below (B := 0) HKX.out zHBZ.out)
            refine wpAnyH_take (i := 1) (oi := { dst := some 48, op := .move (.tmp 5), type := _, pos := _, after := _, guard := none }) (v := kw) rfl (by kernel_rfl) (by kernel_rfl) (by kernel_rfl) (fun _ _ _ h => h) (Or.inl ⟨by rfl, fun wh hSw => ?_⟩) hHeld ?_
            · (go_simp)
            try simp only [Act.put, List.setIfInBounds_toArray, List.set_cons_zero, List.set_cons_succ]
            refine wpAnyH_take (i := 3) (oi := { dst := some 50, op := .move (.tmp 0), type := _, pos := _, after := _, guard := none }) (v := .slice (some ⟨ba, oa, none⟩) n ca) rfl (by kernel_rfl) (by kernel_rfl) (by kernel_rfl) (fun _ _ _ h => h) (Or.inl ⟨by rfl, fun wh hSw => ?_⟩) hHeld ?_
            · (go_simp)
            try simp only [Act.put, List.setIfInBounds_toArray, List.set_cons_zero, List.set_cons_succ]
            refine wpAnyH_take (i := 4) (oi := { dst := some 51, op := .move (.tmp 7), type := _, pos := _, after := _, guard := none }) (v := .int .i64 (m : Int)) rfl (by kernel_rfl) (by kernel_rfl) (by kernel_rfl) (fun _ _ _ h => h) (Or.inl ⟨by rfl, fun wh hSw => ?_⟩) hHeld ?_
            · (go_simp)
            try simp only [Act.put, List.setIfInBounds_toArray, List.set_cons_zero, List.set_cons_succ]
            refine wpAnyH_take (i := 5) (oi := { dst := some 52, op := .indexAddr 23 (.tmp 50) (.tmp 51), type := _, pos := _, after := _, guard := none }) (v := .pointer (some ⟨ba, oa + m, none⟩)) rfl (by kernel_rfl) (by kernel_rfl) (by kernel_rfl) (fun _ _ _ h => h) (Or.inl ⟨by rfl, fun wh hSw => ?_⟩) hHeld ?_
            · (go_simp)
            try simp only [Act.put, List.setIfInBounds_toArray, List.set_cons_zero, List.set_cons_succ]
            refine wpAnyH_take (i := 6) (oi := { dst := some 53, op := .load 3 (.tmp 52), type := _, pos := _, after := _, guard := none }) (v := .int .i64 x) rfl (by kernel_rfl) (by kernel_rfl) (by kernel_rfl) (fun _ _ _ h => h) (Or.inl ⟨by rfl, fun wh hSw => ?_⟩) hHeld ?_
            · (go_simp)
            try simp only [Act.put, List.setIfInBounds_toArray, List.set_cons_zero, List.set_cons_succ]
            refine wpAnyH_ready (rs := [0, 7]) (by kernel_rfl) (by simp) ?_
            refine AllReadyH.cons (o := { dst := some 47, op := .buildSlice 23 0 #[], type := _, pos := _, after := _, guard := none }) rfl (fun K hK => ?_) (AllReadyH.cons (o := { dst := some 54, op := .buildSlice 23 1 #[(0, .tmp 53)], type := _, pos := _, after := _, guard := none }) rfl (fun K hK => ?_) AllReadyH.nil)
            · go_simp
              obtain ⟨zA1, zhA1⟩ : ∃ A, A = zAZ.alloc (.cells #[] 3) := ⟨_, rfl⟩
              rw [← zhA1]
              have zhb1 : Below zAZ.heap.size zAZ zA1 := by rw [zhA1]; exact (Below.refl _ _).alloc (Nat.le_refl _) _
              have zHB1 : Hid (Below zAZ.heap.size zAZ zA1) := Lib.hid (zHB0.out.trans (zhb1.mono zHB0.out.size))
              have zHSZ1 : Hid (zAZ.heap.size < zA1.heap.size) := Lib.hid (by rw [zhA1]; simp)
              have zHO47_1 : Hid (OwnI zAZ (.slice (some ⟨zAZ.heap.size, 0, none⟩) 0 0) [] zA1) := Lib.hid (by rw [zhA1]; exact OwnI.start _)
              clear zhA1 zhb1
              refine hK.out _ _ ?_ (fun hHeld => ?_)
              · exact ((zHB1.out.cell (p := ⟨ba, oa + m, none⟩) (cell_lt hcZ)).trans hcZ)
              clear hK K
              try simp only [Act.put, List.setIfInBounds_toArray, List.set_cons_zero, List.set_cons_succ]
              refine wpAnyH_ready (rs := [2, 7]) (by kernel_rfl) (by simp) ?_
              refine AllReadyH.cons (o := { dst := some 49, op := .call { callee := .builtin .append, args := #[.tmp 47, .tmp 48], argTypes := #[23, 23] }, type := _, pos := _, after := _, guard := none }) rfl (fun K hK => ?_) (AllReadyH.cons (o := { dst := some 54, op := .buildSlice 23 1 #[(0, .tmp 53)], type := _, pos := _, after := _, guard := none }) rfl (fun K hK => ?_) AllReadyH.nil)
              · rw [if_pos (by rfl)]
                refine wp_append_ints (.tmp 47) (.tmp 48) zAZ (.slice (some ⟨zAZ.heap.size, 0, none⟩) 0 0) [] rfl zHO47_1.out kw ((ks.take k ++ ks.drop (k + 1))) rfl (Ints.below (B := 0) HKZ.out zHB1.out) (by simp only [List.length_nil, List.length_append, List.length_cons, List.length_take, List.length_drop]; omega) ?_
                intro zv2 zA2 zhO2 zhg2
                rw [List.nil_append] at zhO2
                have zHO49_2 := Lib.hid zhO2
                have zHB2 : Hid (Below zAZ.heap.size zAZ zA2) := Lib.hid (zHB0.out.trans (zhO2.bel.mono zHB0.out.size))
                clear zhO2 zhg2
                refine hK.out _ _ ?_ (fun hHeld => ?_)
                · exact ((zHB2.out.cell (p := ⟨ba, oa + m, none⟩) (cell_lt hcZ)).trans hcZ)
                clear hK K
                try simp only [Act.put, List.setIfInBounds_toArray, List.set_cons_zero, List.set_cons_succ]
                refine wpAnyH_ready (rs := [7]) (by kernel_rfl) (by simp) ?_
                refine AllReadyH.cons (o := { dst := some 54, op := .buildSlice 23 1 #[(0, .tmp 53)], type := _, pos := _, after := _, guard := none }) rfl (fun K hK => ?_) AllReadyH.nil
                go_simp
                obtain ⟨zA3, zhA3⟩ : ∃ A, A = zA2.alloc (.cells #[.int .i64 x] 3) := ⟨_, rfl⟩
                rw [← zhA3]
                have zhb3 : Below zA2.heap.size zA2 zA3 := by rw [zhA3]; exact (Below.refl _ _).alloc (Nat.le_refl _) _
                have zHB3 : Hid (Below zAZ.heap.size zAZ zA3) := Lib.hid (zHB2.out.trans (zhb3.mono zHB2.out.size))
                have zHSZ3 : Hid (zA2.heap.size < zA3.heap.size) := Lib.hid (by rw [zhA3]; simp)
                have zHO49_3 := Lib.hid (zHO49_2.out.keep zhb3)
                have zHC54_3 : Hid (Ints zA3 (.slice (some ⟨zA2.heap.size, 0, none⟩) 1 1) [x]) := Lib.hid ⟨some ⟨zA2.heap.size, 0, none⟩, 1, rfl, Nat.le_refl _, by unfold maxLen; omega, fun j hj => ⟨zA2.heap.size, 0, rfl, by obtain rfl : j = 0 := by { have hj1 : j < 1 := hj; omega }; rw [zhA3, Nat.zero_add]; exact cell_of_row _ _ 0 _ _ _ (heap_alloc_new _ _)⟩⟩
                clear zhA3 zhb3
                refine hK.out _ _ ?_ (fun hHeld => ?_)
                · exact ((zHB3.out.cell (p := ⟨ba, oa + m, none⟩) (cell_lt hcZ)).trans hcZ)
                clear hK K
                try simp only [Act.put, List.setIfInBounds_toArray, List.set_cons_zero, List.set_cons_succ]
                refine wpAnyH_ready (rs := [8]) (by kernel_rfl) (by simp) ?_
                refine AllReadyH.cons (o := { dst := some 55, op := .call { callee := .builtin .append, args := #[.tmp 49, .tmp 54], argTypes := #[23, 23] }, type := _, pos := _, after := _, guard := none }) rfl (fun K hK => ?_) AllReadyH.nil
                rw [if_pos (by rfl)]
                refine wp_append_ints (.tmp 49) (.tmp 54) zAZ zv2 (ks.take k ++ ks.drop (k + 1)) rfl zHO49_3.out (.slice (some ⟨zA2.heap.size, 0, none⟩) 1 1) ([x]) rfl zHC54_3.out (by simp only [List.length_nil, List.length_append, List.length_cons, List.length_take, List.length_drop]; omega) ?_
                intro zv4 zA4 zhO4 zhg4
                have zHO55_4 := Lib.hid zhO4
                have zHB4 : Hid (Below zAZ.heap.size zAZ zA4) := Lib.hid (zHB0.out.trans (zhO4.bel.mono zHB0.out.size))
                clear zhO4 zhg4
                refine hK.out _ _ ?_ (fun hHeld => ?_)
                · exact ((zHB4.out.cell (p := ⟨ba, oa + m, none⟩) (cell_lt hcZ)).trans hcZ)
                clear hK K
                try simp only [Act.put, List.setIfInBounds_toArray, List.set_cons_zero, List.set_cons_succ]
                refine wpAnyH_take (i := 9) (oi := { dst := some 5, op := .assign (.tmp 55), type := _, pos := _, after := _, guard := none }) (v := zv4) rfl (by kernel_rfl) (by kernel_rfl) (by kernel_rfl) (fun _ _ _ h => h) (Or.inl ⟨by rfl, fun wh hSw => ?_⟩) hHeld ?_
                · (go_simp)
                try simp only [Act.put, List.setIfInBounds_toArray, List.set_cons_zero, List.set_cons_succ]
                refine wpAnyH_done (by kernel_rfl) ?_ _
                have HBW5 : Hid (Below w.heap.size w zA4) := Lib.hid (HLX.out.trans ((zHBZ.out.trans (zHB4.out.mono zHBZ.out.size)).mono HLX.out.size))
                have HI5 := Lib.hid zHO55_4.out.ints
                rw [HST2.out] at HS1
                go_wp2_with fail
                go_roundw
                case rel => exact ⟨m + 1, by omega, by go_num, by rw [HS2.out]; go_num, Lib.hid (by rw [HS1.out]; exact HI5.out), HBW5⟩
                case measure => simp [intOf]; omega
              · go_simp
                obtain ⟨zA5, zhA5⟩ : ∃ A, A = zA1.alloc (.cells #[.int .i64 x] 3) := ⟨_, rfl⟩
                rw [← zhA5]
                have zhb5 : Below zA1.heap.size zA1 zA5 := by rw [zhA5]; exact (Below.refl _ _).alloc (Nat.le_refl _) _
                have zHB5 : Hid (Below zAZ.heap.size zAZ zA5) := Lib.hid (zHB1.out.trans (zhb5.mono zHB1.out.size))
                have zHSZ5 : Hid (zA1.heap.size < zA5.heap.size) := Lib.hid (by rw [zhA5]; simp)
                have zHO47_5 := Lib.hid (zHO47_1.out.keep zhb5)
                have zHC54_5 : Hid (Ints zA5 (.slice (some ⟨zA1.heap.size, 0, none⟩) 1 1) [x]) := Lib.hid ⟨some ⟨zA1.heap.size, 0, none⟩, 1, rfl, Nat.le_refl _, by unfold maxLen; omega, fun j hj => ⟨zA1.heap.size, 0, rfl, by obtain rfl : j = 0 := by { have hj1 : j < 1 := hj; omega }; rw [zhA5, Nat.zero_add]; exact cell_of_row _ _ 0 _ _ _ (heap_alloc_new _ _)⟩⟩
                clear zhA5 zhb5
                refine hK.out _ _ ?_ (fun hHeld => ?_)
                · exact ((zHB5.out.cell (p := ⟨ba, oa + m, none⟩) (cell_lt hcZ)).trans hcZ)
                clear hK K
                try simp only [Act.put, List.setIfInBounds_toArray, List.set_cons_zero, List.set_cons_succ]
                refine wpAnyH_ready (rs := [2]) (by kernel_rfl) (by simp) ?_
                refine AllReadyH.cons (o := { dst := some 49, op := .call { callee := .builtin .append, args := #[.tmp 47, .tmp 48], argTypes := #[23, 23] }, type := _, pos := _, after := _, guard := none }) rfl (fun K hK => ?_) AllReadyH.nil
                rw [if_pos (by rfl)]
                refine wp_append_ints (.tmp 47) (.tmp 48) zAZ (.slice (some ⟨zAZ.heap.size, 0, none⟩) 0 0) [] rfl zHO47_5.out kw ((ks.take k ++ ks.drop (k + 1))) rfl (Ints.below (B := 0) HKZ.out zHB5.out) (by simp only [List.length_nil, List.length_append, List.length_cons, List.length_take, List.length_drop]; omega) ?_
                intro zv6 zA6 zhO6 zhg6
                rw [List.nil_append] at zhO6
                have zHO49_6 := Lib.hid zhO6
                have zHB6 : Hid (Below zAZ.heap.size zAZ zA6) := Lib.hid (zHB0.out.trans (zhO6.bel.mono zHB0.out.size))
                have zHC54_6 : Hid (Ints zA6 (.slice (some ⟨zA1.heap.size, 0, none⟩) 1 1) [x]) := Lib.hid (ints_other zHC54_5.out zhg6 (fun e => by have e2 : zA1.heap.size = zAZ.heap.size := Option.some.inj e; have := zHSZ1.out; have := zHSZ5.out; omega))
                clear zhO6 zhg6
                refine hK.out _ _ ?_ (fun hHeld => ?_)
                · exact ((zHB6.out.cell (p := ⟨ba, oa + m, none⟩) (cell_lt hcZ)).trans hcZ)
                clear hK K
                try simp only [Act.put, List.setIfInBounds_toArray, List.set_cons_zero, List.set_cons_succ]
                refine wpAnyH_ready (rs := [8]) (by kernel_rfl) (by simp) ?_
                refine AllReadyH.cons (o := { dst := some 55, op := .call { callee := .builtin .append, args := #[.tmp 49, .tmp 54], argTypes := #[23, 23] }, type := _, pos := _, after := _, guard := none }) rfl (fun K hK => ?_) AllReadyH.nil
                rw [if_pos (by rfl)]
                refine wp_append_ints (.tmp 49) (.tmp 54) zAZ zv6 (ks.take k ++ ks.drop (k + 1)) rfl zHO49_6.out (.slice (some ⟨zA1.heap.size, 0, none⟩) 1 1) ([x]) rfl zHC54_6.out (by simp only [List.length_nil, List.length_append, List.length_cons, List.length_take, List.length_drop]; omega) ?_
                intro zv7 zA7 zhO7 zhg7
                have zHO55_7 := Lib.hid zhO7
                have zHB7 : Hid (Below zAZ.heap.size zAZ zA7) := Lib.hid (zHB0.out.trans (zhO7.bel.mono zHB0.out.size))
                clear zhO7 zhg7
                refine hK.out _ _ ?_ (fun hHeld => ?_)
                · exact ((zHB7.out.cell (p := ⟨ba, oa + m, none⟩) (cell_lt hcZ)).trans hcZ)
                clear hK K
                try simp only [Act.put, List.setIfInBounds_toArray, List.set_cons_zero, List.set_cons_succ]
                refine wpAnyH_take (i := 9) (oi := { dst := some 5, op := .assign (.tmp 55), type := _, pos := _, after := _, guard := none }) (v := zv7) rfl (by kernel_rfl) (by kernel_rfl) (by kernel_rfl) (fun _ _ _ h => h) (Or.inl ⟨by rfl, fun wh hSw => ?_⟩) hHeld ?_
                · (go_simp)
                try simp only [Act.put, List.setIfInBounds_toArray, List.set_cons_zero, List.set_cons_succ]
                refine wpAnyH_done (by kernel_rfl) ?_ _
                have HBW5 : Hid (Below w.heap.size w zA7) := Lib.hid (HLX.out.trans ((zHBZ.out.trans (zHB7.out.mono zHBZ.out.size)).mono HLX.out.size))
                have HI5 := Lib.hid zHO55_7.out.ints
                rw [HST2.out] at HS1
                go_wp2_with fail
                go_roundw
                case rel => exact ⟨m + 1, by omega, by go_num, by rw [HS2.out]; go_num, Lib.hid (by rw [HS1.out]; exact HI5.out), HBW5⟩
                case measure => simp [intOf]; omega
            · go_simp
              obtain ⟨zA8, zhA8⟩ : ∃ A, A = zAZ.alloc (.cells #[.int .i64 x] 3) := ⟨_, rfl⟩
              rw [← zhA8]
              have zhb8 : Below zAZ.heap.size zAZ zA8 := by rw [zhA8]; exact (Below.refl _ _).alloc (Nat.le_refl _) _
              have zHB8 : Hid (Below zAZ.heap.size zAZ zA8) := Lib.hid (zHB0.out.trans (zhb8.mono zHB0.out.size))
              have zHSZ8 : Hid (zAZ.heap.size < zA8.heap.size) := Lib.hid (by rw [zhA8]; simp)
              have zHC54_8 : Hid (Ints zA8 (.slice (some ⟨zAZ.heap.size, 0, none⟩) 1 1) [x]) := Lib.hid ⟨some ⟨zAZ.heap.size, 0, none⟩, 1, rfl, Nat.le_refl _, by unfold maxLen; omega, fun j hj => ⟨zAZ.heap.size, 0, rfl, by obtain rfl : j = 0 := by { have hj1 : j < 1 := hj; omega }; rw [zhA8, Nat.zero_add]; exact cell_of_row _ _ 0 _ _ _ (heap_alloc_new _ _)⟩⟩
              clear zhA8 zhb8
              refine hK.out _ _ ?_ (fun hHeld => ?_)
              · exact ((zHB8.out.cell (p := ⟨ba, oa + m, none⟩) (cell_lt hcZ)).trans hcZ)
              clear hK K
              try simp only [Act.put, List.setIfInBounds_toArray, List.set_cons_zero, List.set_cons_succ]
              refine wpAnyH_ready (rs := [0]) (by kernel_rfl) (by simp) ?_
              refine AllReadyH.cons (o := { dst := some 47, op := .buildSlice 23 0 #[], type := _, pos := _, after := _, guard := none }) rfl (fun K hK => ?_) AllReadyH.nil
              go_simp
              obtain ⟨zA9, zhA9⟩ : ∃ A, A = zA8.alloc (.cells #[] 3) := ⟨_, rfl⟩
              rw [← zhA9]
              have zhb9 : Below zA8.heap.size zA8 zA9 := by rw [zhA9]; exact (Below.refl _ _).alloc (Nat.le_refl _) _
              have zHB9 : Hid (Below zAZ.heap.size zAZ zA9) := Lib.hid (zHB8.out.trans (zhb9.mono zHB8.out.size))
              have zHSZ9 : Hid (zA8.heap.size < zA9.heap.size) := Lib.hid (by rw [zhA9]; simp)
              have zHC54_9 := Lib.hid (Ints.below (B := 0) zHC54_8.out zhb9)
              have zHO47_9 : Hid (OwnI zA8 (.slice (some ⟨zA8.heap.size, 0, none⟩) 0 0) [] zA9) := Lib.hid (by rw [zhA9]; exact OwnI.start _)
              clear zhA9 zhb9
              refine hK.out _ _ ?_ (fun hHeld => ?_)
              · exact ((zHB9.out.cell (p := ⟨ba, oa + m, none⟩) (cell_lt hcZ)).trans hcZ)
              clear hK K
              try simp only [Act.put, List.setIfInBounds_toArray, List.set_cons_zero, List.set_cons_succ]
              refine wpAnyH_ready (rs := [2]) (by kernel_rfl) (by simp) ?_
              refine AllReadyH.cons (o := { dst := some 49, op := .call { callee := .builtin .append, args := #[.tmp 47, .tmp 48], argTypes := #[23, 23] }, type := _, pos := _, after := _, guard := none }) rfl (fun K hK => ?_) AllReadyH.nil
              rw [if_pos (by rfl)]
              refine wp_append_ints (.tmp 47) (.tmp 48) zA8 (.slice (some ⟨zA8.heap.size, 0, none⟩) 0 0) [] rfl zHO47_9.out kw ((ks.take k ++ ks.drop (k + 1))) rfl (Ints.below (B := 0) HKZ.out zHB9.out) (by simp only [List.length_nil, List.length_append, List.length_cons, List.length_take, List.length_drop]; omega) ?_
              intro zv10 zA10 zhO10 zhg10
              rw [List.nil_append] at zhO10
              have zHO49_10 := Lib.hid zhO10
              have zHB10 : Hid (Below zAZ.heap.size zAZ zA10) := Lib.hid (zHB8.out.trans (zhO10.bel.mono zHB8.out.size))
              have zHC54_10 : Hid (Ints zA10 (.slice (some ⟨zAZ.heap.size, 0, none⟩) 1 1) [x]) := Lib.hid (ints_other zHC54_9.out zhg10 (fun e => by have e2 : zAZ.heap.size = zA8.heap.size := Option.some.inj e; have := zHSZ8.out; have := zHSZ9.out; omega))
              clear zhO10 zhg10
              refine hK.out _ _ ?_ (fun hHeld => ?_)
              · exact ((zHB10.out.cell (p := ⟨ba, oa + m, none⟩) (cell_lt hcZ)).trans hcZ)
              clear hK K
              try simp only [Act.put, List.setIfInBounds_toArray, List.set_cons_zero, List.set_cons_succ]
              refine wpAnyH_ready (rs := [8]) (by kernel_rfl) (by simp) ?_
              refine AllReadyH.cons (o := { dst := some 55, op := .call { callee := .builtin .append, args := #[.tmp 49, .tmp 54], argTypes := #[23, 23] }, type := _, pos := _, after := _, guard := none }) rfl (fun K hK => ?_) AllReadyH.nil
              rw [if_pos (by rfl)]
              refine wp_append_ints (.tmp 49) (.tmp 54) zA8 zv10 (ks.take k ++ ks.drop (k + 1)) rfl zHO49_10.out (.slice (some ⟨zAZ.heap.size, 0, none⟩) 1 1) ([x]) rfl zHC54_10.out (by simp only [List.length_nil, List.length_append, List.length_cons, List.length_take, List.length_drop]; omega) ?_
              intro zv11 zA11 zhO11 zhg11
              have zHO55_11 := Lib.hid zhO11
              have zHB11 : Hid (Below zAZ.heap.size zAZ zA11) := Lib.hid (zHB8.out.trans (zhO11.bel.mono zHB8.out.size))
              clear zhO11 zhg11
              refine hK.out _ _ ?_ (fun hHeld => ?_)
              · exact ((zHB11.out.cell (p := ⟨ba, oa + m, none⟩) (cell_lt hcZ)).trans hcZ)
              clear hK K
              try simp only [Act.put, List.setIfInBounds_toArray, List.set_cons_zero, List.set_cons_succ]
              refine wpAnyH_take (i := 9) (oi := { dst := some 5, op := .assign (.tmp 55), type := _, pos := _, after := _, guard := none }) (v := zv11) rfl (by kernel_rfl) (by kernel_rfl) (by kernel_rfl) (fun _ _ _ h => h) (Or.inl ⟨by rfl, fun wh hSw => ?_⟩) hHeld ?_
              · (go_simp)
              try simp only [Act.put, List.setIfInBounds_toArray, List.set_cons_zero, List.set_cons_succ]
              refine wpAnyH_done (by kernel_rfl) ?_ _
              have HBW5 : Hid (Below w.heap.size w zA11) := Lib.hid (HLX.out.trans ((zHBZ.out.trans (zHB11.out.mono zHBZ.out.size)).mono HLX.out.size))
              have HI5 := Lib.hid zHO55_11.out.ints
              rw [HST2.out] at HS1
              go_wp2_with fail
              go_roundw
              case rel => exact ⟨m + 1, by omega, by go_num, by rw [HS2.out]; go_num, Lib.hid (by rw [HS1.out]; exact HI5.out), HBW5⟩
              case measure => simp [intOf]; omega
          · have hF1' : ((ks.length : Int) == (F : Int)) = false := by rw [beq_eq_false_iff_ne]; omega
            have HST2 : Hid (stepB evL F ks x (xs.drop (m + 1)) = ks ++ [x]) := Lib.hid (by unfold stepB; rw [if_neg hny, if_neg hF])
            go_wp2_with fail
            have hcX := hca
            have HKX := HKV
            have HLX := hbl
            refine wp_region_held_drew (S := fun w' => w'.cell? ⟨ba, oa + m, none⟩ = some (.int .i64 x)) (by kernel_rfl) hcX (fun hHeld => ?_)
            refine anyH_gen _ (fun AZ hgen => ?_)
            have HBZ := Lib.hid (by rw [hgen]; exact Below.drew (Below.refl _ _) : Below wr.heap.size wr AZ)
            rw [← hgen] at hHeld
            clear hgen
            have HB0 : Hid (Below AZ.heap.size AZ AZ) := Lib.hid (Below.refl _ _)
            have hcZ := (HBZ.out.cell (p := ⟨ba, oa + m, none⟩) (cell_lt hcX)).trans hcX
            have HKZ := Lib.hid (Ints.below (B := 0) HKX.out HBZ.out)
            refine wpAnyH_take (i := 1) (oi := { dst := some 48, op := .move (.tmp 5), type := _, pos := _, after := _, guard := none }) (v := (.slice a5 ks.length c5)) rfl (by kernel_rfl) (by kernel_rfl) (by kernel_rfl) (fun _ _ _ h => h) (Or.inl ⟨by rfl, fun wh hSw => ?_⟩) hHeld ?_
            · (go_simp)
            try simp only [Act.put, List.setIfInBounds_toArray, List.set_cons_zero, List.set_cons_succ]
            refine wpAnyH_take (i := 3) (oi := { dst := some 50, op := .move (.tmp 0), type := _, pos := _, after := _, guard := none }) (v := .slice (some ⟨ba, oa, none⟩) n ca) rfl (by kernel_rfl) (by kernel_rfl) (by kernel_rfl) (fun _ _ _ h => h) (Or.inl ⟨by rfl, fun wh hSw => ?_⟩) hHeld ?_
            · (go_simp)
            try simp only [Act.put, List.setIfInBounds_toArray, List.set_cons_zero, List.set_cons_succ]
            refine wpAnyH_take (i := 4) (oi := { dst := some 51, op := .move (.tmp 7), type := _, pos := _, after := _, guard := none }) (v := .int .i64 (m : Int)) rfl (by kernel_rfl) (by kernel_rfl) (by kernel_rfl) (fun _ _ _ h => h) (Or.inl ⟨by rfl, fun wh hSw => ?_⟩) hHeld ?_
            · (go_simp)
            try simp only [Act.put, List.setIfInBounds_toArray, List.set_cons_zero, List.set_cons_succ]
            refine wpAnyH_take (i := 5) (oi := { dst := some 52, op := .indexAddr 23 (.tmp 50) (.tmp 51), type := _, pos := _, after := _, guard := none }) (v := .pointer (some ⟨ba, oa + m, none⟩)) rfl (by kernel_rfl) (by kernel_rfl) (by kernel_rfl) (fun _ _ _ h => h) (Or.inl ⟨by rfl, fun wh hSw => ?_⟩) hHeld ?_
            · (go_simp)
            try simp only [Act.put, List.setIfInBounds_toArray, List.set_cons_zero, List.set_cons_succ]
            refine wpAnyH_take (i := 6) (oi := { dst := some 53, op := .load 3 (.tmp 52), type := _, pos := _, after := _, guard := none }) (v := .int .i64 x) rfl (by kernel_rfl) (by kernel_rfl) (by kernel_rfl) (fun _ _ _ h => h) (Or.inl ⟨by rfl, fun wh hSw => ?_⟩) hHeld ?_
            · (go_simp)
            try simp only [Act.put, List.setIfInBounds_toArray, List.set_cons_zero, List.set_cons_succ]
            refine wpAnyH_ready (rs := [0, 7]) (by kernel_rfl) (by simp) ?_
            refine AllReadyH.cons (o := { dst := some 47, op := .buildSlice 23 0 #[], type := _, pos := _, after := _, guard := none }) rfl (fun K hK => ?_) (AllReadyH.cons (o := { dst := some 54, op := .buildSlice 23 1 #[(0, .tmp 53)], type := _, pos := _, after := _, guard := none }) rfl (fun K hK => ?_) AllReadyH.nil)
            · go_simp
              obtain ⟨A1, hA1⟩ : ∃ A, A = AZ.alloc (.cells #[] 3) := ⟨_, rfl⟩
              rw [← hA1]
              have hb1 : Below AZ.heap.size AZ A1 := by rw [hA1]; exact (Below.refl _ _).alloc (Nat.le_refl _) _
              have HB1 : Hid (Below AZ.heap.size AZ A1) := Lib.hid (HB0.out.trans (hb1.mono HB0.out.size))
              have HSZ1 : Hid (AZ.heap.size < A1.heap.size) := Lib.hid (by rw [hA1]; simp)
              have HO47_1 : Hid (OwnI AZ (.slice (some ⟨AZ.heap.size, 0, none⟩) 0 0) [] A1) := Lib.hid (by rw [hA1]; exact OwnI.start _)
              clear hA1 hb1
              refine hK.out _ _ ?_ (fun hHeld => ?_)
              · exact ((HB1.out.cell (p := ⟨ba, oa + m, none⟩) (cell_lt hcZ)).trans hcZ)
              clear hK K
              try simp only [Act.put, List.setIfInBounds_toArray, List.set_cons_zero, List.set_cons_succ]
              refine wpAnyH_ready (rs := [2, 7]) (by kernel_rfl) (by simp) ?_
              refine AllReadyH.cons (o := { dst := some 49, op := .call { callee := .builtin .append, args := #[.tmp 47, .tmp 48], argTypes := #[23, 23] }, type := _, pos := _, after := _, guard := none }) rfl (fun K hK => ?_) (AllReadyH.cons (o := { dst := some 54, op := .buildSlice 23 1 #[(0, .tmp 53)], type := _, pos := _, after := _, guard := none }) rfl (fun K hK => ?_) AllReadyH.nil)
              · rw [if_pos (by rfl)]
                refine wp_append_ints (.tmp 47) (.tmp 48) AZ (.slice (some ⟨AZ.heap.size, 0, none⟩) 0 0) [] rfl HO47_1.out (.slice a5 ks.length c5) (ks) rfl (Ints.below (B := 0) HKZ.out HB1.out) (by simp only [List.length_nil, List.length_append, List.length_cons, List.length_take, List.length_drop]; omega) ?_
                intro v2 A2 hO2 hg2
                rw [List.nil_append] at hO2
                have HO49_2 := Lib.hid hO2
                have HB2 : Hid (Below AZ.heap.size AZ A2) := Lib.hid (HB0.out.trans (hO2.bel.mono HB0.out.size))
                clear hO2 hg2
                refine hK.out _ _ ?_ (fun hHeld => ?_)
                · exact ((HB2.out.cell (p := ⟨ba, oa + m, none⟩) (cell_lt hcZ)).trans hcZ)
                clear hK K
                try simp only [Act.put, List.setIfInBounds_toArray, List.set_cons_zero, List.set_cons_succ]
                refine wpAnyH_ready (rs := [7]) (by kernel_rfl) (by simp) ?_
                refine AllReadyH.cons (o := { dst := some 54, op := .buildSlice 23 1 #[(0, .tmp 53)], type := _, pos := _, after := _, guard := none }) rfl (fun K hK => ?_) AllReadyH.nil
                go_simp
                obtain ⟨A3, hA3⟩ : ∃ A, A = A2.alloc (.cells #[.int .i64 x] 3) := ⟨_, rfl⟩
                rw [← hA3]
                have hb3 : Below A2.heap.size A2 A3 := by rw [hA3]; exact (Below.refl _ _).alloc (Nat.le_refl _) _
                have HB3 : Hid (Below AZ.heap.size AZ A3) := Lib.hid (HB2.out.trans (hb3.mono HB2.out.size))
                have HSZ3 : Hid (A2.heap.size < A3.heap.size) := Lib.hid (by rw [hA3]; simp)
                have HO49_3 := Lib.hid (HO49_2.out.keep hb3)
                have HC54_3 : Hid (Ints A3 (.slice (some ⟨A2.heap.size, 0, none⟩) 1 1) [x]) := Lib.hid ⟨some ⟨A2.heap.size, 0, none⟩, 1, rfl, Nat.le_refl _, by unfold maxLen; omega, fun j hj => ⟨A2.heap.size, 0, rfl, by obtain rfl : j = 0 := by { have hj1 : j < 1 := hj; omega }; rw [hA3, Nat.zero_add]; exact cell_of_row _ _ 0 _ _ _ (heap_alloc_new _ _)⟩⟩
                clear hA3 hb3
                refine hK.out _ _ ?_ (fun hHeld => ?_)
                · exact ((HB3.out.cell (p := ⟨ba, oa + m, none⟩) (cell_lt hcZ)).trans hcZ)
                clear hK K
                try simp only [Act.put, List.setIfInBounds_toArray, List.set_cons_zero, List.set_cons_succ]
                refine wpAnyH_ready (rs := [8]) (by kernel_rfl) (by simp) ?_
                refine AllReadyH.cons (o := { dst := some 55, op := .call { callee := .builtin .append, args := #[.tmp 49, .tmp 54], argTypes := #[23, 23] }, type := _, pos := _, after := _, guard := none }) rfl (fun K hK => ?_) AllReadyH.nil
                rw [if_pos (by rfl)]
                refine wp_append_ints (.tmp 49) (.tmp 54) AZ v2 ks rfl HO49_3.out (.slice (some ⟨A2.heap.size, 0, none⟩) 1 1) ([x]) rfl HC54_3.out (by simp only [List.length_nil, List.length_append, List.length_cons, List.length_take, List.length_drop]; omega) ?_
                intro v4 A4 hO4 hg4
                have HO55_4 := Lib.hid hO4
                have HB4 : Hid (Below AZ.heap.size AZ A4) := Lib.hid (HB0.out.trans (hO4.bel.mono HB0.out.size))
                clear hO4 hg4
                refine hK.out _ _ ?_ (fun hHeld => ?_)
                · exact ((HB4.out.cell (p := ⟨ba, oa + m, none⟩) (cell_lt hcZ)).trans hcZ)
                clear hK K
                try simp only [Act.put, List.setIfInBounds_toArray, List.set_cons_zero, List.set_cons_succ]
                refine wpAnyH_take (i := 9) (oi := { dst := some 5, op := .assign (.tmp 55), type := _, pos := _, after := _, guard := none }) (v := v4) rfl (by kernel_rfl) (by kernel_rfl) (by kernel_rfl) (fun _ _ _ h => h) (Or.inl ⟨by rfl, fun wh hSw => ?_⟩) hHeld ?_
                · (go_simp)
                try simp only [Act.put, List.setIfInBounds_toArray, List.set_cons_zero, List.set_cons_succ]
                refine wpAnyH_done (by kernel_rfl) ?_ _
                have HBW5 : Hid (Below w.heap.size w A4) := Lib.hid (HLX.out.trans ((HBZ.out.trans (HB4.out.mono HBZ.out.size)).mono HLX.out.size))
                have HI5 := Lib.hid HO55_4.out.ints
                rw [HST2.out] at HS1
                go_wp2_with fail
                go_roundw
                case rel => exact ⟨m + 1, by omega, by go_num, by rw [HS2.out]; go_num, Lib.hid (by rw [HS1.out]; exact HI5.out), HBW5⟩
                case measure => simp [intOf]; omega
              · go_simp
                obtain ⟨A5, hA5⟩ : ∃ A, A = A1.alloc (.cells #[.int .i64 x] 3) := ⟨_, rfl⟩
                rw [← hA5]
                have hb5 : Below A1.heap.size A1 A5 := by rw [hA5]; exact (Below.refl _ _).alloc (Nat.le_refl _) _
                have HB5 : Hid (Below AZ.heap.size AZ A5) := Lib.hid (HB1.out.trans (hb5.mono HB1.out.size))
                have HSZ5 : Hid (A1.heap.size < A5.heap.size) := Lib.hid (by rw [hA5]; simp)
                have HO47_5 := Lib.hid (HO47_1.out.keep hb5)
                have HC54_5 : Hid (Ints A5 (.slice (some ⟨A1.heap.size, 0, none⟩) 1 1) [x]) := Lib.hid ⟨some ⟨A1.heap.size, 0, none⟩, 1, rfl, Nat.le_refl _, by unfold maxLen; omega, fun j hj => ⟨A1.heap.size, 0, rfl, by obtain rfl : j = 0 := by { have hj1 : j < 1 := hj; omega }; rw [hA5, Nat.zero_add]; exact cell_of_row _ _ 0 _ _ _ (heap_alloc_new _ _)⟩⟩
                clear hA5 hb5
                refine hK.out _ _ ?_ (fun hHeld => ?_)
                · exact ((HB5.out.cell (p := ⟨ba, oa + m, none⟩) (cell_lt hcZ)).trans hcZ)
                clear hK K
                try simp only [Act.put, List.setIfInBounds_toArray, List.set_cons_zero, List.set_cons_succ]
                refine wpAnyH_ready (rs := [2]) (by kernel_rfl) (by simp) ?_
                refine AllReadyH.cons (o := { dst := some 49, op := .call { callee := .builtin .append, args := #[.tmp 47, .tmp 48], argTypes := #[23, 23] }, type := _, pos := _, after := _, guard := none }) rfl (fun K hK => ?_) AllReadyH.nil
                rw [if_pos (by rfl)]
                refine wp_append_ints (.tmp 47) (.tmp 48) AZ (.slice (some ⟨AZ.heap.size, 0, none⟩) 0 0) [] rfl HO47_5.out (.slice a5 ks.length c5) (ks) rfl (Ints.below (B := 0) HKZ.out HB5.out) (by simp only [List.length_nil, List.length_append, List.length_cons, List.length_take, List.length_drop]; omega) ?_
                intro v6 A6 hO6 hg6
                rw [List.nil_append] at hO6
                have HO49_6 := Lib.hid hO6
                have HB6 : Hid (Below AZ.heap.size AZ A6) := Lib.hid (HB0.out.trans (hO6.bel.mono HB0.out.size))
                have HC54_6 : Hid (Ints A6 (.slice (some ⟨A1.heap.size, 0, none⟩) 1 1) [x]) := Lib.hid (ints_other HC54_5.out hg6 (fun e => by have e2 : A1.heap.size = AZ.heap.size := Option.some.inj e; have := HSZ1.out; have := HSZ5.out; omega))
                clear hO6 hg6
                refine hK.out _ _ ?_ (fun hHeld => ?_)
                · exact ((HB6.out.cell (p := ⟨ba, oa + m, none⟩) (cell_lt hcZ)).trans hcZ)
                clear hK K
                try simp only [Act.put, List.setIfInBounds_toArray, List.set_cons_zero, List.set_cons_succ]
                refine wpAnyH_ready (rs := [8]) (by kernel_rfl) (by simp) ?_
                refine AllReadyH.cons (o := { dst := some 55, op := .call { callee := .builtin .append, args := #[.tmp 49, .tmp 54], argTypes := #[23, 23] }, type := _, pos := _, after := _, guard := none }) rfl (fun K hK => ?_) AllReadyH.nil
                rw [if_pos (by rfl)]
                refine wp_append_ints (.tmp 49) (.tmp 54) AZ v6 ks rfl HO49_6.out (.slice (some ⟨A1.heap.size, 0, none⟩) 1 1) ([x]) rfl HC54_6.out (by simp only [List.length_nil, List.length_append, List.length_cons, List.length_take, List.length_drop]; omega) ?_
                intro v7 A7 hO7 hg7
                have HO55_7 := Lib.hid hO7
                have HB7 : Hid (Below AZ.heap.size AZ A7) := Lib.hid (HB0.out.trans (hO7.bel.mono HB0.out.size))
                clear hO7 hg7
                refine hK.out _ _ ?_ (fun hHeld => ?_)
                · exact ((HB7.out.cell (p := ⟨ba, oa + m, none⟩) (cell_lt hcZ)).trans hcZ)
                clear hK K
                try simp only [Act.put, List.setIfInBounds_toArray, List.set_cons_zero, List.set_cons_succ]
                refine wpAnyH_take (i := 9) (oi := { dst := some 5, op := .assign (.tmp 55), type := _, pos := _, after := _, guard := none }) (v := v7) rfl (by kernel_rfl) (by kernel_rfl) (by kernel_rfl) (fun _ _ _ h => h) (Or.inl ⟨by rfl, fun wh hSw => ?_⟩) hHeld ?_
                · (go_simp)
                try simp only [Act.put, List.setIfInBounds_toArray, List.set_cons_zero, List.set_cons_succ]
                refine wpAnyH_done (by kernel_rfl) ?_ _
                have HBW5 : Hid (Below w.heap.size w A7) := Lib.hid (HLX.out.trans ((HBZ.out.trans (HB7.out.mono HBZ.out.size)).mono HLX.out.size))
                have HI5 := Lib.hid HO55_7.out.ints
                rw [HST2.out] at HS1
                go_wp2_with fail
                go_roundw
                case rel => exact ⟨m + 1, by omega, by go_num, by rw [HS2.out]; go_num, Lib.hid (by rw [HS1.out]; exact HI5.out), HBW5⟩
                case measure => simp [intOf]; omega
            · go_simp
              obtain ⟨A8, hA8⟩ : ∃ A, A = AZ.alloc (.cells #[.int .i64 x] 3) := ⟨_, rfl⟩
              rw [← hA8]
              have hb8 : Below AZ.heap.size AZ A8 := by rw [hA8]; exact (Below.refl _ _).alloc (Nat.le_refl _) _
              have HB8 : Hid (Below AZ.heap.size AZ A8) := Lib.hid (HB0.out.trans (hb8.mono HB0.out.size))
              have HSZ8 : Hid (AZ.heap.size < A8.heap.size) := Lib.hid (by rw [hA8]; simp)
              have HC54_8 : Hid (Ints A8 (.slice (some ⟨AZ.heap.size, 0, none⟩) 1 1) [x]) := Lib.hid ⟨some ⟨AZ.heap.size, 0, none⟩, 1, rfl, Nat.le_refl _, by unfold maxLen; omega, fun j hj => ⟨AZ.heap.size, 0, rfl, by obtain rfl : j = 0 := by { have hj1 : j < 1 := hj; omega }; rw [hA8, Nat.zero_add]; exact cell_of_row _ _ 0 _ _ _ (heap_alloc_new _ _)⟩⟩
              clear hA8 hb8
              refine hK.out _ _ ?_ (fun hHeld => ?_)
              · exact ((HB8.out.cell (p := ⟨ba, oa + m, none⟩) (cell_lt hcZ)).trans hcZ)
              clear hK K
              try simp only [Act.put, List.setIfInBounds_toArray, List.set_cons_zero, List.set_cons_succ]
              refine wpAnyH_ready (rs := [0]) (by kernel_rfl) (by simp) ?_
              refine AllReadyH.cons (o := { dst := some 47, op := .buildSlice 23 0 #[], type := _, pos := _, after := _, guard := none }) rfl (fun K hK => ?_) AllReadyH.nil
              go_simp
              obtain ⟨A9, hA9⟩ : ∃ A, A = A8.alloc (.cells #[] 3) := ⟨_, rfl⟩
              rw [← hA9]
              have hb9 : Below A8.heap.size A8 A9 := by rw [hA9]; exact (Below.refl _ _).alloc (Nat.le_refl _) _
              have HB9 : Hid (Below AZ.heap.size AZ A9) := Lib.hid (HB8.out.trans (hb9.mono HB8.out.size))
              have HSZ9 : Hid (A8.heap.size < A9.heap.size) := Lib.hid (by rw [hA9]; simp)
              have HC54_9 := Lib.hid (Ints.below (B := 0) HC54_8.out hb9)
              have HO47_9 : Hid (OwnI A8 (.slice (some ⟨A8.heap.size, 0, none⟩) 0 0) [] A9) := Lib.hid (by rw [hA9]; exact OwnI.start _)
              clear hA9 hb9
              refine hK.out _ _ ?_ (fun hHeld => ?_)
              · exact ((HB9.out.cell (p := ⟨ba, oa + m, none⟩) (cell_lt hcZ)).trans hcZ)
              clear hK K
              try simp only [Act.put, List.setIfInBounds_toArray, List.set_cons_zero, List.set_cons_succ]
              refine wpAnyH_ready (rs := [2]) (by kernel_rfl) (by simp) ?_
              refine AllReadyH.cons (o := { dst := some 49, op := .call { callee := .builtin .append, args := #[.tmp 47, .tmp 48], argTypes := #[23, 23] }, type := _, pos := _, after := _, guard := none }) rfl (fun K hK => ?_) AllReadyH.nil
              rw [if_pos (by rfl)]
              refine wp_append_ints (.tmp 47) (.tmp 48) A8 (.slice (some ⟨A8.heap.size, 0, none⟩) 0 0) [] rfl HO47_9.out (.slice a5 ks.length c5) (ks) rfl (Ints.below (B := 0) HKZ.out HB9.out) (by simp only [List.length_nil, List.length_append, List.length_cons, List.length_take, List.length_drop]; omega) ?_
              intro v10 A10 hO10 hg10
              rw [List.nil_append] at hO10
              have HO49_10 := Lib.hid hO10
              have HB10 : Hid (Below AZ.heap.size AZ A10) := Lib.hid (HB8.out.trans (hO10.bel.mono HB8.out.size))
              have HC54_10 : Hid (Ints A10 (.slice (some ⟨AZ.heap.size, 0, none⟩) 1 1) [x]) := Lib.hid (ints_other HC54_9.out hg10 (fun e => by have e2 : AZ.heap.size = A8.heap.size := Option.some.inj e; have := HSZ8.out; have := HSZ9.out; omega))
              clear hO10 hg10
              refine hK.out _ _ ?_ (fun hHeld => ?_)
              · exact ((HB10.out.cell (p := ⟨ba, oa + m, none⟩) (cell_lt hcZ)).trans hcZ)
              clear hK K
              try simp only [Act.put, List.setIfInBounds_toArray, List.set_cons_zero, List.set_cons_succ]
              refine wpAnyH_ready (rs := [8]) (by kernel_rfl) (by simp) ?_
              refine AllReadyH.cons (o := { dst := some 55, op := .call { callee := .builtin .append, args := #[.tmp 49, .tmp 54], argTypes := #[23, 23] }, type := _, pos := _, after := _, guard := none }) rfl (fun K hK => ?_) AllReadyH.nil
              rw [if_pos (by rfl)]
              refine wp_append_ints (.tmp 49) (.tmp 54) A8 v10 ks rfl HO49_10.out (.slice (some ⟨AZ.heap.size, 0, none⟩) 1 1) ([x]) rfl HC54_10.out (by simp only [List.length_nil, List.length_append, List.length_cons, List.length_take, List.length_drop]; omega) ?_
              intro v11 A11 hO11 hg11
              have HO55_11 := Lib.hid hO11
              have HB11 : Hid (Below AZ.heap.size AZ A11) := Lib.hid (HB8.out.trans (hO11.bel.mono HB8.out.size))
              clear hO11 hg11
              refine hK.out _ _ ?_ (fun hHeld => ?_)
              · exact ((HB11.out.cell (p := ⟨ba, oa + m, none⟩) (cell_lt hcZ)).trans hcZ)
              clear hK K
              try simp only [Act.put, List.setIfInBounds_toArray, List.set_cons_zero, List.set_cons_succ]
              refine wpAnyH_take (i := 9) (oi := { dst := some 5, op := .assign (.tmp 55), type := _, pos := _, after := _, guard := none }) (v := v11) rfl (by kernel_rfl) (by kernel_rfl) (by kernel_rfl) (fun _ _ _ h => h) (Or.inl ⟨by rfl, fun wh hSw => ?_⟩) hHeld ?_
              · (go_simp)
              try simp only [Act.put, List.setIfInBounds_toArray, List.set_cons_zero, List.set_cons_succ]
              refine wpAnyH_done (by kernel_rfl) ?_ _
              have HBW5 : Hid (Below w.heap.size w A11) := Lib.hid (HLX.out.trans ((HBZ.out.trans (HB11.out.mono HBZ.out.size)).mono HLX.out.size))
              have HI5 := Lib.hid HO55_11.out.ints
              rw [HST2.out] at HS1
              go_wp2_with fail
              go_roundw
              case rel => exact ⟨m + 1, by omega, by go_num, by rw [HS2.out]; go_num, Lib.hid (by rw [HS1.out]; exact HI5.out), HBW5⟩
              case measure => simp [intOf]; omega
        · have hzn1 : decide (z < 0) = false := by rw [decide_eq_false_iff_not]; exact hzn
          have hny : x ∈ ks := by
            by_cases hh : x ∈ ks
            · exact hh
            · exact absurd (HQ.out.2 hh) hzn
          rw [fMiss_in hny] at HS2
          have hst : stepB evL F ks x (xs.drop (m + 1)) = ks := if_pos hny
          rw [hst] at HS1
          clear hst
          go_wp2_with fail
          go_roundw
          case rel => exact ⟨m + 1, by omega, by go_num, by rw [HS2.out, Nat.add_zero], Lib.hid (by rw [HS1.out]; exact HKV.out), hbl⟩
          case measure => simp [intOf]; omega
      · have e : m = n := by omega
        subst e
        go_wp2_with fail
        go_ret
        exact ⟨by rw [HF.out]; rfl, hbl.out⟩
end Go.Proofs.Ytfnmnegddhggaaa
