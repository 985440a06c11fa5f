/- What the proofs stand on, part 12. -/
import Derived.Test.YtcmmlgdfhkcmoaaGreatRows
import Derived.Test.YtcmmlgdfhkcmoaaGreatKe1
import Derived.Test.YtcmmlgdfhkcmoaaGreatKe2
import Derived.Test.YtcmmlgdfhkcmoaaGreatKe3
import Derived.Test.YtcmmlgdfhkcmoaaGreatKe4
import Derived.Test.YtcmmlgdfhkcmoaaGreatKe5
import Derived.Test.YtcmmlgdfhkcmoaaGreatKe6
import Derived.Test.YtcmmlgdfhkcmoaaGreatKe7
import Derived.Test.YtcmmlgdfhkcmoaaGreatKe8
import Derived.Test.YtcmmlgdfhkcmoaaGreatKe9
import Derived.Test.YtcmmlgdfhkcmoaaGreatKe10
set_option linter.unusedSimpArgs false
set_option linter.unusedVariables false
namespace Go.Proofs.YtcmmlgdfhkcmoaaGreat
open Go.ChangeShapes Go.WideShapes Go.ChangeAt Go.RowKit
set_option linter.unusedVariables false
def seesOk (K : KV) (e a : Int) : Bool := kvalid K && (inR e 0 2 && (inR a 0 63 && (decide (0 ≤ rootOf K.e e) && decide ((walkF K.m (rootOf K.e e) a).c = 0))))
def sees (K : KV) (e a : Int) : Int := if seesOk K e a = true then wd K.m (walkF K.m (rootOf K.e e) a).f.toNat (walkF K.m (rootOf K.e e) a).t.toNat else 0
end Go.Proofs.YtcmmlgdfhkcmoaaGreat
namespace Go.Proofs.YtcmmlgdfhkcmoaaGreat
open Go.ChangeShapes Go.WideShapes Go.ChangeAt Go.RowKit
set_option linter.unusedVariables false
set_option maxRecDepth 100000
theorem l1Address_yes (w : World) (a : Int) (h : 0 ≤ a ∧ a < 64) : Calls Tryz.prog 90 #[.int .i64 a] w fun e w' => e = .returned (.bool true) ∧ w = w' := by
  go_enter Tryz.func90, Tryz.ntmps90
  go_wp2_with (go_at_call 127; refine (in_yes _ _ _ _ (by omega)).mono ?_; rintro e w' ⟨rfl, rfl⟩)
  go_ret
  exact ⟨rfl, rfl⟩
theorem l1Address_no (w : World) (a : Int) (h : ¬ (0 ≤ a ∧ a < 64)) : Calls Tryz.prog 90 #[.int .i64 a] w fun e w' => e = .returned (.bool false) ∧ w = w' := by
  go_enter Tryz.func90, Tryz.ntmps90
  go_wp2_with (go_at_call 127; refine (in_no _ _ _ _ (by omega)).mono ?_; rintro e w' ⟨rfl, rfl⟩)
  go_ret
  exact ⟨rfl, rfl⟩
theorem walkF_no {xss : List (List Int)} {r a : Int} (h : ¬ wOk xss r a) : walkF xss r a = ⟨0, 0, false, 3⟩ := by unfold walkF; rw [if_neg h]
end Go.Proofs.YtcmmlgdfhkcmoaaGreat
namespace Go.Proofs.YtcmmlgdfhkcmoaaGreat
open Go.ChangeShapes Go.WideShapes Go.ChangeAt Go.RowKit
set_option linter.unusedVariables false
set_option maxRecDepth 100000
theorem neI (n : Int) : (n != n) = false := by simp
end Go.Proofs.YtcmmlgdfhkcmoaaGreat
namespace Go.Proofs.YtcmmlgdfhkcmoaaGreat
open Go.ChangeShapes Go.WideShapes Go.ChangeAt Go.RowKit
set_option linter.unusedVariables false
set_option maxRecDepth 100000
def SeesR (x : Int) (b : Bool) (w : World) (e : Ending) (w' : World) : Prop := e = .returned (.tuple #[.int .i64 x, .bool b]) ∧ Below w.heap.size w w'
theorem walkF_in {M : List (List Int)} {t a : Int} (h : (walkF M t a).c = 0) : (0 ≤ (walkF M t a).f ∧ (walkF M t a).f < 12) ∧ 0 ≤ (walkF M t a).t ∧ (walkF M t a).t < 4 := by
  unfold walkF at h ⊢
  by_cases h0 : wOk M t a
  · rw [if_pos h0] at h ⊢
    by_cases h1 : goodB (top M t a)
    · rw [if_pos h1] at h ⊢
      by_cases h2 : goodB (low M t a)
      · rw [if_pos h2]
        exact ⟨good_frame h2, by show 0 ≤ a % 4; omega, by show a % 4 < 4; omega⟩
      · rw [if_neg h2] at h; exact absurd h (by show ¬ (2 : Int) = 0; decide)
    · rw [if_neg h1] at h; exact absurd h (by show ¬ (1 : Int) = 0; decide)
  · rw [if_neg h0] at h; exact absurd h (by show ¬ (3 : Int) = 0; decide)
theorem l1Address_any (w : World) (a : Int) : Calls Tryz.prog 90 #[.int .i64 a] w (Says (inR a 0 63) w) := by
  by_cases h : 0 ≤ a ∧ a < 64
  · rw [show inR a 0 63 = true from inR_iff.2 (by omega)]
    exact l1Address_yes w a h
  · rw [show inR a 0 63 = false from by rw [Bool.eq_false_iff, Ne, inR_iff]; omega]
    exact l1Address_no w a h
set_option maxHeartbeats 2000000 in
theorem sKernelSees_any (w : World) (vm vi ve vc : Value) (K : KV) (e a : Int) (h : Ks w vm vi ve vc K) (hs : ShortI K.i) (hse : Short3 K.e) :
    Calls Tryz.prog 39 #[kV vm vi ve vc, .int .i64 e, .int .i64 a] w (SeesR (sees K e a) (seesOk K e a) w) := by
  have HK := Lib.hid h
  have HKP := Lib.hid (fun t => KP.start w vm vi ve vc t)
  have HV : Hid (∀ W, Below w.heap.size w W → Calls Tryz.prog 23 #[kV vm vi ve vc] W (BRes (kvalid K) W)) := Lib.hid (fun W hW => sKernelValid_any W vm vi ve vc K (h.below hW) hs hse)
  have HE := Lib.hid (fun w => l4Env_any w e)
  have HA := Lib.hid (fun w => l1Address_any w a)
  have HW : Hid (∀ W t, Below w.heap.size w W → kvalid K = true → 0 ≤ t ∧ t < 12 → 0 ≤ a ∧ a < 64 → Calls Tryz.prog 91 #[vm, .int .i64 t, .int .i64 a] W (WalkRes W (walkF K.m t a))) := Lib.hid (fun W t hW hv ht ha => l3Walk_any W vm K.m t a (h.m.below hW) ⟨(kvalid_len hv).1, ht, ha⟩)
  obtain ⟨x, hx⟩ : ∃ x, x = sees K e a := ⟨_, rfl⟩
  obtain ⟨r, hr⟩ : ∃ r, r = seesOk K e a := ⟨_, rfl⟩
  rw [← hx, ← hr]
  unfold sees at hx
  unfold seesOk at hx hr
  obtain ⟨b1, hb1⟩ : ∃ b, b = kvalid K := ⟨_, rfl⟩
  obtain ⟨b2, hb2⟩ : ∃ b, b = inR e 0 2 := ⟨_, rfl⟩
  obtain ⟨b3, hb3⟩ : ∃ b, b = inR a 0 63 := ⟨_, rfl⟩
  rw [← hb1] at HV HW hx hr
  rw [← hb2] at HE hx hr
  rw [← hb3] at HA hx hr
  have HB1 := Lib.hid hb1
  have HB2 := Lib.hid hb2
  have HB3 := Lib.hid hb3
  have HX := Lib.hid hx
  have HR := Lib.hid hr
  clear h hs hse hb1 hb2 hb3 hx hr
  go_enter Tryz.func39, Tryz.ntmps39
  obtain ⟨W0, hW0⟩ : ∃ W0, W0 = w.alloc (.cells #[vm, vi, ve, vc] 30) := ⟨_, rfl⟩
  have HP0 : Hid (KP w W0 vm vi ve vc) := Lib.hid (by rw [hW0]; exact HKP.out _)
  have HW0 := Lib.hid hW0
  clear hW0
  go_wp2_with fail
  rw [← HW0.out]
  refine (HV.out W0 HP0.out.bel).mono ?_
  rintro _ W1 ⟨rfl, hb⟩
  have HP1 := Lib.hid (HP0.out.go hb)
  clear hb
  cases b1 with
  | false =>
    go_wp2_with fail
    go_ret2
    rw [show x = 0 from HX.out, show r = false from HR.out]
    exact ⟨rfl, HP1.out.bel⟩
  | true =>
    go_wp2_with fail
    refine (HE.out W1).mono ?_
    rintro _ w' ⟨rfl, rfl⟩
    cases b2 with
    | false =>
      go_wp2_with fail
      go_ret2
      rw [show x = 0 from HX.out, show r = false from HR.out]
      exact ⟨rfl, HP1.out.bel⟩
    | true =>
      go_wp2_with fail
      refine (HA.out W1).mono ?_
      rintro _ w' ⟨rfl, rfl⟩
      cases b3 with
      | false =>
        go_wp2_with fail
        go_ret2
        rw [show x = 0 from HX.out, show r = false from HR.out]
        exact ⟨rfl, HP1.out.bel⟩
      | true =>
        obtain ⟨h0, h2⟩ := inR_iff.1 HB2.out.symm
        have ha := inR_iff.1 HB3.out.symm
        obtain ⟨j, rfl⟩ := Int.eq_ofNat_of_zero_le h0
        have hl := kvalid_len HB1.out.symm
        have hj3 : j < 3 := by omega
        have hj3' : (j : Int) < 3 := by omega
        have hbd := hl.2.2 j hj3
        obtain ⟨be, oe, ce, rfl, c1, c2, hbe, hc⟩ := HP1.out.root HK.out (j := j) (by have := hl.2.1; omega)
        rw [hl.2.1] at c2 HP1 ⊢
        unfold maxLen at c1
        have hro : rootOf K.e (j : Int) = (K.e.getD j ez).t := by unfold rootOf; rw [Int.toNat_natCast]
        obtain ⟨t, ht⟩ : ∃ t, t = (K.e.getD j ez).t := ⟨_, rfl⟩
        rw [← ht] at hbd hc hro
        rw [hro] at HX HR
        obtain ⟨q0, q1, q2, q3⟩ := HP1.out.cells
        have HHA := Lib.hid ha
        have HHB := Lib.hid hbd
        have HHM := Lib.hid (And.intro hl.1 hl.2.1)
        clear hl ht hro h2 HP0 HW0 HV HE HA HKP HB1 HB2 HB3
        by_cases ht0 : t < 0
        · rw [decide_eq_false (show ¬ 0 ≤ t by omega)] at HX HR
          go_wp2_with fail
          go_ret2
          rw [show x = 0 from HX.out, show r = false from HR.out]
          exact ⟨rfl, HP1.out.bel⟩
        · rw [decide_eq_true (show 0 ≤ t by omega)] at HX HR
          have ht1 : 0 ≤ t := by omega
          have HWW := Lib.hid (fun W hW => HW.out W t (HP1.out.go hW).bel (by trivial) (by have := HHB.out; omega) (by have := HHA.out; omega))
          obtain ⟨p, hp⟩ : ∃ p, p = walkF K.m t a := ⟨_, rfl⟩
          have HPI : Hid (p.c = 0 → (0 ≤ p.f ∧ p.f < 12) ∧ 0 ≤ p.t ∧ p.t < 4) := Lib.hid (by rw [hp]; exact walkF_in)
          rw [← hp] at HWW HX HR
          clear hp
          obtain ⟨pf, pt, pb, pc⟩ := p
          unfold WalkRes plV at HWW
          dsimp only at HWW HX HR HPI
          have FS : Hid (∀ W, Below W1.heap.size W1 W → W.cell? ⟨w.heap.size, 0, none⟩ = some vm ∧ W.cell? ⟨w.heap.size, 2, none⟩ = some (.slice (some ⟨be, oe, none⟩) 3 ce) ∧ W.cell? ⟨be, oe + j * 2 + 1, none⟩ = some (.int .i64 t)) := Lib.hid (fun W hW => ⟨(HP1.out.go hW).c0, (HP1.out.go hW).c2, (hW.cell (p := ⟨be, oe + j * 2 + 1, none⟩) (cell_lt hc)).trans hc⟩)
          go_wp2_with fail
          refine wp_region_held_drew (S := fun w' => w'.cell? ⟨w.heap.size, 0, none⟩ = some vm ∧ w'.cell? ⟨w.heap.size, 2, none⟩ = some (.slice (some ⟨be, oe, none⟩) 3 ce) ∧ w'.cell? ⟨be, oe + j * 2 + 1, none⟩ = some (.int .i64 t)) (by kernel_rfl) (FS.out _ (Below.refl _ _).drew) (fun hHeld => ?_)
          refine anyH_gen _ (fun QA hgen => ?_)
          have HBA := Lib.hid (by rw [hgen]; exact (Below.refl W1.heap.size W1).drew : Below W1.heap.size W1 QA)
          rw [← hgen] at hHeld
          clear hgen
          refine wpAnyH_take (i := 0) (oi := { dst := some 33, op := .fieldAddr 30 (.tmp 3) 0, type := _, pos := _, after := _, guard := none }) (v := .pointer (some ⟨w.heap.size, 0, none⟩)) rfl (by kernel_rfl) (by kernel_rfl) (by kernel_rfl) (fun _ _ _ h => h) (Or.inl ⟨by rfl, fun wh hSw => ?_⟩) hHeld ?_
          · (obtain ⟨s0, s1, s2⟩ := hSw; go_simp)
          try simp only [Act.put, List.setIfInBounds_toArray, List.set_cons_zero, List.set_cons_succ]
          refine wpAnyH_take (i := 1) (oi := { dst := some 34, op := .load 25 (.tmp 33), type := _, pos := _, after := _, guard := none }) (v := vm) rfl (by kernel_rfl) (by kernel_rfl) (by kernel_rfl) (fun _ _ _ h => h) (Or.inl ⟨by rfl, fun wh hSw => ?_⟩) hHeld ?_
          · (obtain ⟨s0, s1, s2⟩ := hSw; go_simp)
          try simp only [Act.put, List.setIfInBounds_toArray, List.set_cons_zero, List.set_cons_succ]
          refine wpAnyH_take (i := 2) (oi := { dst := some 35, op := .fieldAddr 30 (.tmp 3) 2, type := _, pos := _, after := _, guard := none }) (v := .pointer (some ⟨w.heap.size, 0 + 2, none⟩)) rfl (by kernel_rfl) (by kernel_rfl) (by kernel_rfl) (fun _ _ _ h => h) (Or.inl ⟨by rfl, fun wh hSw => ?_⟩) hHeld ?_
          · (obtain ⟨s0, s1, s2⟩ := hSw; go_simp)
          try simp only [Act.put, List.setIfInBounds_toArray, List.set_cons_zero, List.set_cons_succ]
          refine wpAnyH_take (i := 3) (oi := { dst := some 36, op := .load 27 (.tmp 35), type := _, pos := _, after := _, guard := none }) (v := .slice (some ⟨be, oe, none⟩) 3 ce) rfl (by kernel_rfl) (by kernel_rfl) (by kernel_rfl) (fun _ _ _ h => h) (Or.inl ⟨by rfl, fun wh hSw => ?_⟩) hHeld ?_
          · (obtain ⟨s0, s1, s2⟩ := hSw; go_simp)
          try simp only [Act.put, List.setIfInBounds_toArray, List.set_cons_zero, List.set_cons_succ]
          refine wpAnyH_take (i := 4) (oi := { dst := some 37, op := .move (.tmp 1), type := _, pos := _, after := _, guard := none }) (v := .int .i64 (j : Int)) rfl (by kernel_rfl) (by kernel_rfl) (by kernel_rfl) (fun _ _ _ h => h) (Or.inl ⟨by rfl, fun wh hSw => ?_⟩) hHeld ?_
          · (obtain ⟨s0, s1, s2⟩ := hSw; go_simp)
          try simp only [Act.put, List.setIfInBounds_toArray, List.set_cons_zero, List.set_cons_succ]
          refine wpAnyH_take (i := 5) (oi := { dst := some 38, op := .indexAddr 27 (.tmp 36) (.tmp 37), type := _, pos := _, after := _, guard := none }) (v := .pointer (some ⟨be, oe + j * 2, none⟩)) rfl (by kernel_rfl) (by kernel_rfl) (by kernel_rfl) (fun _ _ _ h => h) (Or.inl ⟨by rfl, fun wh hSw => ?_⟩) hHeld ?_
          · (obtain ⟨s0, s1, s2⟩ := hSw; go_simp)
          try simp only [Act.put, List.setIfInBounds_toArray, List.set_cons_zero, List.set_cons_succ]
          refine wpAnyH_take (i := 6) (oi := { dst := some 39, op := .fieldAddr 37 (.tmp 38) 1, type := _, pos := _, after := _, guard := none }) (v := .pointer (some ⟨be, oe + j * 2 + 1, none⟩)) rfl (by kernel_rfl) (by kernel_rfl) (by kernel_rfl) (fun _ _ _ h => h) (Or.inl ⟨by rfl, fun wh hSw => ?_⟩) hHeld ?_
          · (obtain ⟨s0, s1, s2⟩ := hSw; go_simp)
          try simp only [Act.put, List.setIfInBounds_toArray, List.set_cons_zero, List.set_cons_succ]
          refine wpAnyH_take (i := 7) (oi := { dst := some 40, op := .load 3 (.tmp 39), type := _, pos := _, after := _, guard := none }) (v := .int .i64 t) rfl (by kernel_rfl) (by kernel_rfl) (by kernel_rfl) (fun _ _ _ h => h) (Or.inl ⟨by rfl, fun wh hSw => ?_⟩) hHeld ?_
          · (obtain ⟨s0, s1, s2⟩ := hSw; go_simp)
          try simp only [Act.put, List.setIfInBounds_toArray, List.set_cons_zero, List.set_cons_succ]
          refine wpAnyH_take (i := 8) (oi := { dst := some 41, op := .move (.tmp 2), type := _, pos := _, after := _, guard := none }) (v := .int .i64 a) rfl (by kernel_rfl) (by kernel_rfl) (by kernel_rfl) (fun _ _ _ h => h) (Or.inl ⟨by rfl, fun wh hSw => ?_⟩) hHeld ?_
          · (obtain ⟨s0, s1, s2⟩ := hSw; go_simp)
          try simp only [Act.put, List.setIfInBounds_toArray, List.set_cons_zero, List.set_cons_succ]
          refine wpAnyH_ready (rs := [9, 13]) (by kernel_rfl) (by simp) ?_
          refine AllReadyH.cons (o := { dst := some 42, op := .call { callee := .value (.func 91), args := #[.tmp 34, .tmp 40, .tmp 41], argTypes := #[25, 3, 3] }, type := _, pos := _, after := _, guard := none }) rfl (fun K hK => ?_) (AllReadyH.cons (o := { dst := some 8, op := .alloc 50, type := _, pos := _, after := _, guard := none }) rfl (fun K hK => ?_) AllReadyH.nil)
          · go_simp
            refine (HWW.out QA HBA.out).mono ?_
            rintro _ Q1 ⟨rfl, hb⟩
            have HB1 : Hid (Below W1.heap.size W1 Q1) := Lib.hid (HBA.out.trans (hb.mono HBA.out.size))
            clear hb
            try go_simp
            refine hK.out _ _ ?_ (fun hHeld => ?_)
            · exact FS.out _ HB1.out
            clear hK K
            try simp only [Act.put, List.setIfInBounds_toArray, List.set_cons_zero, List.set_cons_succ]
            refine wpAnyH_take (i := 10) (oi := { dst := some 32, op := .move (.tmp 42), type := _, pos := _, after := _, guard := none }) (v := .tuple #[.agg #[.int .i64 pf, .int .i64 pt, .bool pb], .int .i64 pc]) rfl (by kernel_rfl) (by kernel_rfl) (by kernel_rfl) (fun _ _ _ h => h) (Or.inl ⟨by rfl, fun wh hSw => ?_⟩) hHeld ?_
            · (obtain ⟨s0, s1, s2⟩ := hSw; go_simp)
            try simp only [Act.put, List.setIfInBounds_toArray, List.set_cons_zero, List.set_cons_succ]
            refine wpAnyH_take (i := 11) (oi := { dst := some 43, op := .extract (.tmp 32) 0, type := _, pos := _, after := _, guard := none }) (v := .agg #[.int .i64 pf, .int .i64 pt, .bool pb]) rfl (by kernel_rfl) (by kernel_rfl) (by kernel_rfl) (fun _ _ _ h => h) (Or.inl ⟨by rfl, fun wh hSw => ?_⟩) hHeld ?_
            · (obtain ⟨s0, s1, s2⟩ := hSw; go_simp)
            try simp only [Act.put, List.setIfInBounds_toArray, List.set_cons_zero, List.set_cons_succ]
            refine wpAnyH_take (i := 12) (oi := { dst := some 44, op := .extract (.tmp 32) 1, type := _, pos := _, after := _, guard := none }) (v := .int .i64 pc) rfl (by kernel_rfl) (by kernel_rfl) (by kernel_rfl) (fun _ _ _ h => h) (Or.inl ⟨by rfl, fun wh hSw => ?_⟩) hHeld ?_
            · (obtain ⟨s0, s1, s2⟩ := hSw; go_simp)
            try simp only [Act.put, List.setIfInBounds_toArray, List.set_cons_zero, List.set_cons_succ]
            refine wpAnyH_ready (rs := [13]) (by kernel_rfl) (by simp) ?_
            refine AllReadyH.cons (o := { dst := some 8, op := .alloc 50, type := _, pos := _, after := _, guard := none }) rfl (fun K hK => ?_) AllReadyH.nil
            go_simp
            refine hK.out _ _ ?_ (fun hHeld => ?_)
            · exact FS.out _ (HB1.out.alloc HB1.out.size _)
            clear hK K
            try simp only [Act.put, List.setIfInBounds_toArray, List.set_cons_zero, List.set_cons_succ]
            refine anyH_gen _ (fun Q2 hW => ?_)
            have HB2 : Hid (Below W1.heap.size W1 Q2) := Lib.hid (by rw [hW]; exact HB1.out.alloc HB1.out.size _)
            have HT2 : Hid (Q2.there Q1.heap.size 0 3) := Lib.hid (by rw [hW]; exact there_row (heap_alloc_new Q1 _) (Nat.le_refl _))
            have HL2 : Hid (Q1.heap.size < Q2.heap.size) := Lib.hid (by rw [hW]; simp)
            have HO2 : Hid (W1.heap.size ≤ Q1.heap.size) := Lib.hid HB1.out.size
            rw [← hW] at hHeld
            clear hW
            refine wpAnyH_ready (rs := [14]) (by kernel_rfl) (by simp) ?_
            refine AllReadyH.cons (o := { dst := none, op := .store 50 (.tmp 8) (.tmp 43), type := _, pos := _, after := _, guard := none }) rfl (fun K hK => ?_) AllReadyH.nil
            rw [if_pos (by rfl)]
            refine wp_store_mid 50 (.tmp 8) (.tmp 43) rfl Q1.heap.size 0 #[.int .i64 pf, .int .i64 pt, .bool pb] rfl rfl HT2.out (by kernel_rfl) (by kernel_rfl) ?_
            refine hK.out _ _ ?_ (fun hHeld => ?_)
            · exact FS.out _ (Below.setCells (Below.refl W1.heap.size W1) _ HO2.out _ _ _ HB2.out)
            clear hK K
            try simp only [Act.put, List.setIfInBounds_toArray, List.set_cons_zero, List.set_cons_succ]
            refine anyH_gen _ (fun Q3 hW => ?_)
            have HB3 : Hid (Below W1.heap.size W1 Q3) := Lib.hid (by rw [hW]; exact (Below.setCells (Below.refl W1.heap.size W1) _ HO2.out _ _ _ HB2.out))
            have HR3 : Hid (Q3.rangeAt (Q1.heap.size) 0 [.int .i64 pf, .int .i64 pt, .bool pb]) := Lib.hid (by rw [hW]; exact World.rangeAt_setCells_same _ _ _ _ HT2.out)
            rw [← hW] at hHeld
            clear hW
            refine wpAnyH_take (i := 15) (oi := { dst := some 9, op := .assign (.tmp 44), type := _, pos := _, after := _, guard := none }) (v := .int .i64 pc) rfl (by kernel_rfl) (by kernel_rfl) (by kernel_rfl) (fun _ _ _ h => h) (Or.inl ⟨by rfl, fun wh hSw => ?_⟩) hHeld ?_
            · (obtain ⟨s0, s1, s2⟩ := hSw; go_simp)
            try simp only [Act.put, List.setIfInBounds_toArray, List.set_cons_zero, List.set_cons_succ]
            refine wpAnyH_done (by kernel_rfl) ?_ _
            have d0 := HR3.out 0 _ rfl
            have d1 := HR3.out 1 _ rfl
            simp only [Nat.zero_add, Nat.add_zero] at d0 d1
            obtain ⟨s0, s1, s2⟩ := hHeld
            have HPE := Lib.hid (HP1.out.go HB3.out)
            by_cases hpc : pc = 0
            · subst hpc
              obtain ⟨⟨pf0, pf12⟩, pt0, pt4⟩ := HPI.out rfl
              obtain ⟨fq, rfl⟩ := Int.eq_ofNat_of_zero_le pf0
              obtain ⟨tq, rfl⟩ := Int.eq_ofNat_of_zero_le pt0
              obtain ⟨b2, o2, c2, g2, p2, dd, rfl, hm1, hm2⟩ := (HK.out.m.below HPE.out.bel).word HHM.out.1 (i := fq) (j := tq) (by omega) (by omega)
              have HXE : Hid (x = (K.m.getD fq []).getD tq 0) := Lib.hid (by rw [HX.out]; simp [wd])
              have HRE : Hid (r = true) := Lib.hid (by rw [HR.out]; simp)
              rw [← HXE.out] at hm2
              go_wp2_with fail
              have fq4 : (fq : Int) < 12 := pf12
              have tq4 : (tq : Int) < 4 := pt4
              refine wp_region_held_drew (S := fun w' => w'.cell? ⟨w.heap.size, 0, none⟩ = some (.slice (some ⟨b2, o2, none⟩) 12 c2) ∧ w'.cell? ⟨Q1.heap.size, 0, none⟩ = some (.int .i64 (fq : Int)) ∧ w'.cell? ⟨Q1.heap.size, 1, none⟩ = some (.int .i64 (tq : Int)) ∧ w'.cell? ⟨b2, o2 + fq, none⟩ = some (.slice (some ⟨g2, p2, none⟩) 4 dd) ∧ w'.cell? ⟨g2, p2 + tq, none⟩ = some (.int .i64 x)) (by kernel_rfl) ⟨s0, d0, d1, hm1, hm2⟩ (fun hHeld => ?_)
              refine wpAnyH_take (i := 0) (oi := { dst := some 47, op := .fieldAddr 30 (.tmp 3) 0, type := _, pos := _, after := _, guard := none }) (v := .pointer (some ⟨w.heap.size, 0, none⟩)) rfl (by kernel_rfl) (by kernel_rfl) (by kernel_rfl) (fun _ _ _ h => h) (Or.inl ⟨by rfl, fun wh hSw => ?_⟩) hHeld ?_
              · (obtain ⟨s0, s1, s2, s3, s4⟩ := hSw; go_simp)
              try simp only [Act.put, List.setIfInBounds_toArray, List.set_cons_zero, List.set_cons_succ]
              refine wpAnyH_take (i := 1) (oi := { dst := some 48, op := .load 25 (.tmp 47), type := _, pos := _, after := _, guard := none }) (v := .slice (some ⟨b2, o2, none⟩) 12 c2) rfl (by kernel_rfl) (by kernel_rfl) (by kernel_rfl) (fun _ _ _ h => h) (Or.inl ⟨by rfl, fun wh hSw => ?_⟩) hHeld ?_
              · (obtain ⟨s0, s1, s2, s3, s4⟩ := hSw; go_simp)
              try simp only [Act.put, List.setIfInBounds_toArray, List.set_cons_zero, List.set_cons_succ]
              refine wpAnyH_take (i := 2) (oi := { dst := some 49, op := .fieldAddr 50 (.tmp 8) 0, type := _, pos := _, after := _, guard := none }) (v := .pointer (some ⟨Q1.heap.size, 0, none⟩)) rfl (by kernel_rfl) (by kernel_rfl) (by kernel_rfl) (fun _ _ _ h => h) (Or.inl ⟨by rfl, fun wh hSw => ?_⟩) hHeld ?_
              · (obtain ⟨s0, s1, s2, s3, s4⟩ := hSw; go_simp)
              try simp only [Act.put, List.setIfInBounds_toArray, List.set_cons_zero, List.set_cons_succ]
              refine wpAnyH_take (i := 3) (oi := { dst := some 50, op := .load 3 (.tmp 49), type := _, pos := _, after := _, guard := none }) (v := .int .i64 (fq : Int)) rfl (by kernel_rfl) (by kernel_rfl) (by kernel_rfl) (fun _ _ _ h => h) (Or.inl ⟨by rfl, fun wh hSw => ?_⟩) hHeld ?_
              · (obtain ⟨s0, s1, s2, s3, s4⟩ := hSw; go_simp)
              try simp only [Act.put, List.setIfInBounds_toArray, List.set_cons_zero, List.set_cons_succ]
              refine wpAnyH_take (i := 4) (oi := { dst := some 51, op := .indexAddr 25 (.tmp 48) (.tmp 50), type := _, pos := _, after := _, guard := none }) (v := .pointer (some ⟨b2, o2 + fq, none⟩)) rfl (by kernel_rfl) (by kernel_rfl) (by kernel_rfl) (fun _ _ _ h => h) (Or.inl ⟨by rfl, fun wh hSw => ?_⟩) hHeld ?_
              · (obtain ⟨s0, s1, s2, s3, s4⟩ := hSw; go_simp)
              try simp only [Act.put, List.setIfInBounds_toArray, List.set_cons_zero, List.set_cons_succ]
              refine wpAnyH_take (i := 5) (oi := { dst := some 52, op := .load 42 (.tmp 51), type := _, pos := _, after := _, guard := none }) (v := .slice (some ⟨g2, p2, none⟩) 4 dd) rfl (by kernel_rfl) (by kernel_rfl) (by kernel_rfl) (fun _ _ _ h => h) (Or.inl ⟨by rfl, fun wh hSw => ?_⟩) hHeld ?_
              · (obtain ⟨s0, s1, s2, s3, s4⟩ := hSw; go_simp)
              try simp only [Act.put, List.setIfInBounds_toArray, List.set_cons_zero, List.set_cons_succ]
              refine wpAnyH_take (i := 6) (oi := { dst := some 53, op := .fieldAddr 50 (.tmp 8) 1, type := _, pos := _, after := _, guard := none }) (v := .pointer (some ⟨Q1.heap.size, 0 + 1, none⟩)) rfl (by kernel_rfl) (by kernel_rfl) (by kernel_rfl) (fun _ _ _ h => h) (Or.inl ⟨by rfl, fun wh hSw => ?_⟩) hHeld ?_
              · (obtain ⟨s0, s1, s2, s3, s4⟩ := hSw; go_simp)
              try simp only [Act.put, List.setIfInBounds_toArray, List.set_cons_zero, List.set_cons_succ]
              refine wpAnyH_take (i := 7) (oi := { dst := some 54, op := .load 3 (.tmp 53), type := _, pos := _, after := _, guard := none }) (v := .int .i64 (tq : Int)) rfl (by kernel_rfl) (by kernel_rfl) (by kernel_rfl) (fun _ _ _ h => h) (Or.inl ⟨by rfl, fun wh hSw => ?_⟩) hHeld ?_
              · (obtain ⟨s0, s1, s2, s3, s4⟩ := hSw; go_simp)
              try simp only [Act.put, List.setIfInBounds_toArray, List.set_cons_zero, List.set_cons_succ]
              refine wpAnyH_take (i := 8) (oi := { dst := some 55, op := .indexAddr 42 (.tmp 52) (.tmp 54), type := _, pos := _, after := _, guard := none }) (v := .pointer (some ⟨g2, p2 + tq, none⟩)) rfl (by kernel_rfl) (by kernel_rfl) (by kernel_rfl) (fun _ _ _ h => h) (Or.inl ⟨by rfl, fun wh hSw => ?_⟩) hHeld ?_
              · (obtain ⟨s0, s1, s2, s3, s4⟩ := hSw; go_simp)
              try simp only [Act.put, List.setIfInBounds_toArray, List.set_cons_zero, List.set_cons_succ]
              refine wpAnyH_take (i := 9) (oi := { dst := some 56, op := .load 3 (.tmp 55), type := _, pos := _, after := _, guard := none }) (v := .int .i64 x) rfl (by kernel_rfl) (by kernel_rfl) (by kernel_rfl) (fun _ _ _ h => h) (Or.inl ⟨by rfl, fun wh hSw => ?_⟩) hHeld ?_
              · (obtain ⟨s0, s1, s2, s3, s4⟩ := hSw; go_simp)
              try simp only [Act.put, List.setIfInBounds_toArray, List.set_cons_zero, List.set_cons_succ]
              refine wpAnyH_take (i := 10) (oi := { dst := some 6, op := .assign (.tmp 56), type := _, pos := _, after := _, guard := none }) (v := .int .i64 x) rfl (by kernel_rfl) (by kernel_rfl) (by kernel_rfl) (fun _ _ _ h => h) (Or.inl ⟨by rfl, fun wh hSw => ?_⟩) hHeld ?_
              · (obtain ⟨s0, s1, s2, s3, s4⟩ := hSw; go_simp)
              try simp only [Act.put, List.setIfInBounds_toArray, List.set_cons_zero, List.set_cons_succ]
              refine wpAnyH_take (i := 11) (oi := { dst := some 7, op := .assign (.const (.bool true)), type := _, pos := _, after := _, guard := none }) (v := .bool true) rfl (by kernel_rfl) (by kernel_rfl) (by kernel_rfl) (fun _ _ _ h => h) (Or.inl ⟨by rfl, fun wh hSw => ?_⟩) hHeld ?_
              · (obtain ⟨s0, s1, s2, s3, s4⟩ := hSw; go_simp)
              try simp only [Act.put, List.setIfInBounds_toArray, List.set_cons_zero, List.set_cons_succ]
              refine wpAnyH_done (by kernel_rfl) ?_ _
              go_wp2_with fail
              go_ret2
              rw [HRE.out]
              exact ⟨rfl, HPE.out.drew.bel⟩
            · have hpn : (pc == 0) = false := by simpa using hpc
              have hpn2 : (pc != 0) = true := by simpa using hpc
              have HXE : Hid (x = 0) := Lib.hid (by rw [HX.out]; simp [hpc])
              have HRE : Hid (r = false) := Lib.hid (by rw [HR.out]; simp [hpc])
              go_wp2_with fail
              go_ret2
              rw [HXE.out, HRE.out]
              exact ⟨rfl, HPE.out.bel⟩
          · go_simp
            refine hK.out _ _ ?_ (fun hHeld => ?_)
            · exact FS.out _ (HBA.out.alloc HBA.out.size _)
            clear hK K
            try simp only [Act.put, List.setIfInBounds_toArray, List.set_cons_zero, List.set_cons_succ]
            refine anyH_gen _ (fun Q4 hW => ?_)
            have HB4 : Hid (Below W1.heap.size W1 Q4) := Lib.hid (by rw [hW]; exact HBA.out.alloc HBA.out.size _)
            have HT4 : Hid (Q4.there QA.heap.size 0 3) := Lib.hid (by rw [hW]; exact there_row (heap_alloc_new QA _) (Nat.le_refl _))
            have HL4 : Hid (QA.heap.size < Q4.heap.size) := Lib.hid (by rw [hW]; simp)
            have HO4 : Hid (W1.heap.size ≤ QA.heap.size) := Lib.hid HBA.out.size
            rw [← hW] at hHeld
            clear hW
            refine wpAnyH_ready (rs := [9]) (by kernel_rfl) (by simp) ?_
            refine AllReadyH.cons (o := { dst := some 42, op := .call { callee := .value (.func 91), args := #[.tmp 34, .tmp 40, .tmp 41], argTypes := #[25, 3, 3] }, type := _, pos := _, after := _, guard := none }) rfl (fun K hK => ?_) AllReadyH.nil
            go_simp
            refine (HWW.out Q4 HB4.out).mono ?_
            rintro _ Q5 ⟨rfl, hb⟩
            have HB5 : Hid (Below W1.heap.size W1 Q5) := Lib.hid (HB4.out.trans (hb.mono HB4.out.size))
            have HT5 : Hid (Q5.there QA.heap.size 0 3) := Lib.hid (there_blocks HT4.out (hb.block _ HL4.out))
            clear hb
            try go_simp
            refine hK.out _ _ ?_ (fun hHeld => ?_)
            · exact FS.out _ HB5.out
            clear hK K
            try simp only [Act.put, List.setIfInBounds_toArray, List.set_cons_zero, List.set_cons_succ]
            refine wpAnyH_take (i := 10) (oi := { dst := some 32, op := .move (.tmp 42), type := _, pos := _, after := _, guard := none }) (v := .tuple #[.agg #[.int .i64 pf, .int .i64 pt, .bool pb], .int .i64 pc]) rfl (by kernel_rfl) (by kernel_rfl) (by kernel_rfl) (fun _ _ _ h => h) (Or.inl ⟨by rfl, fun wh hSw => ?_⟩) hHeld ?_
            · (obtain ⟨s0, s1, s2⟩ := hSw; go_simp)
            try simp only [Act.put, List.setIfInBounds_toArray, List.set_cons_zero, List.set_cons_succ]
            refine wpAnyH_take (i := 11) (oi := { dst := some 43, op := .extract (.tmp 32) 0, type := _, pos := _, after := _, guard := none }) (v := .agg #[.int .i64 pf, .int .i64 pt, .bool pb]) rfl (by kernel_rfl) (by kernel_rfl) (by kernel_rfl) (fun _ _ _ h => h) (Or.inl ⟨by rfl, fun wh hSw => ?_⟩) hHeld ?_
            · (obtain ⟨s0, s1, s2⟩ := hSw; go_simp)
            try simp only [Act.put, List.setIfInBounds_toArray, List.set_cons_zero, List.set_cons_succ]
            refine wpAnyH_take (i := 12) (oi := { dst := some 44, op := .extract (.tmp 32) 1, type := _, pos := _, after := _, guard := none }) (v := .int .i64 pc) rfl (by kernel_rfl) (by kernel_rfl) (by kernel_rfl) (fun _ _ _ h => h) (Or.inl ⟨by rfl, fun wh hSw => ?_⟩) hHeld ?_
            · (obtain ⟨s0, s1, s2⟩ := hSw; go_simp)
            try simp only [Act.put, List.setIfInBounds_toArray, List.set_cons_zero, List.set_cons_succ]
            refine wpAnyH_ready (rs := [14]) (by kernel_rfl) (by simp) ?_
            refine AllReadyH.cons (o := { dst := none, op := .store 50 (.tmp 8) (.tmp 43), type := _, pos := _, after := _, guard := none }) rfl (fun K hK => ?_) AllReadyH.nil
            rw [if_pos (by rfl)]
            refine wp_store_mid 50 (.tmp 8) (.tmp 43) rfl QA.heap.size 0 #[.int .i64 pf, .int .i64 pt, .bool pb] rfl rfl HT5.out (by kernel_rfl) (by kernel_rfl) ?_
            refine hK.out _ _ ?_ (fun hHeld => ?_)
            · exact FS.out _ (Below.setCells (Below.refl W1.heap.size W1) _ HO4.out _ _ _ HB5.out)
            clear hK K
            try simp only [Act.put, List.setIfInBounds_toArray, List.set_cons_zero, List.set_cons_succ]
            refine anyH_gen _ (fun Q6 hW => ?_)
            have HB6 : Hid (Below W1.heap.size W1 Q6) := Lib.hid (by rw [hW]; exact (Below.setCells (Below.refl W1.heap.size W1) _ HO4.out _ _ _ HB5.out))
            have HR6 : Hid (Q6.rangeAt (QA.heap.size) 0 [.int .i64 pf, .int .i64 pt, .bool pb]) := Lib.hid (by rw [hW]; exact World.rangeAt_setCells_same _ _ _ _ HT5.out)
            rw [← hW] at hHeld
            clear hW
            refine wpAnyH_take (i := 15) (oi := { dst := some 9, op := .assign (.tmp 44), type := _, pos := _, after := _, guard := none }) (v := .int .i64 pc) rfl (by kernel_rfl) (by kernel_rfl) (by kernel_rfl) (fun _ _ _ h => h) (Or.inl ⟨by rfl, fun wh hSw => ?_⟩) hHeld ?_
            · (obtain ⟨s0, s1, s2⟩ := hSw; go_simp)
            try simp only [Act.put, List.setIfInBounds_toArray, List.set_cons_zero, List.set_cons_succ]
            refine wpAnyH_done (by kernel_rfl) ?_ _
            have d0 := HR6.out 0 _ rfl
            have d1 := HR6.out 1 _ rfl
            simp only [Nat.zero_add, Nat.add_zero] at d0 d1
            obtain ⟨s0, s1, s2⟩ := hHeld
            have HPE := Lib.hid (HP1.out.go HB6.out)
            by_cases hpc : pc = 0
            · subst hpc
              obtain ⟨⟨pf0, pf12⟩, pt0, pt4⟩ := HPI.out rfl
              obtain ⟨fq, rfl⟩ := Int.eq_ofNat_of_zero_le pf0
              obtain ⟨tq, rfl⟩ := Int.eq_ofNat_of_zero_le pt0
              obtain ⟨b2, o2, c2, g2, p2, dd, rfl, hm1, hm2⟩ := (HK.out.m.below HPE.out.bel).word HHM.out.1 (i := fq) (j := tq) (by omega) (by omega)
              have HXE : Hid (x = (K.m.getD fq []).getD tq 0) := Lib.hid (by rw [HX.out]; simp [wd])
              have HRE : Hid (r = true) := Lib.hid (by rw [HR.out]; simp)
              rw [← HXE.out] at hm2
              go_wp2_with fail
              have fq4 : (fq : Int) < 12 := pf12
              have tq4 : (tq : Int) < 4 := pt4
              refine wp_region_held_drew (S := fun w' => w'.cell? ⟨w.heap.size, 0, none⟩ = some (.slice (some ⟨b2, o2, none⟩) 12 c2) ∧ w'.cell? ⟨QA.heap.size, 0, none⟩ = some (.int .i64 (fq : Int)) ∧ w'.cell? ⟨QA.heap.size, 1, none⟩ = some (.int .i64 (tq : Int)) ∧ w'.cell? ⟨b2, o2 + fq, none⟩ = some (.slice (some ⟨g2, p2, none⟩) 4 dd) ∧ w'.cell? ⟨g2, p2 + tq, none⟩ = some (.int .i64 x)) (by kernel_rfl) ⟨s0, d0, d1, hm1, hm2⟩ (fun hHeld => ?_)
              refine wpAnyH_take (i := 0) (oi := { dst := some 47, op := .fieldAddr 30 (.tmp 3) 0, type := _, pos := _, after := _, guard := none }) (v := .pointer (some ⟨w.heap.size, 0, none⟩)) rfl (by kernel_rfl) (by kernel_rfl) (by kernel_rfl) (fun _ _ _ h => h) (Or.inl ⟨by rfl, fun wh hSw => ?_⟩) hHeld ?_
              · (obtain ⟨s0, s1, s2, s3, s4⟩ := hSw; go_simp)
              try simp only [Act.put, List.setIfInBounds_toArray, List.set_cons_zero, List.set_cons_succ]
              refine wpAnyH_take (i := 1) (oi := { dst := some 48, op := .load 25 (.tmp 47), type := _, pos := _, after := _, guard := none }) (v := .slice (some ⟨b2, o2, none⟩) 12 c2) rfl (by kernel_rfl) (by kernel_rfl) (by kernel_rfl) (fun _ _ _ h => h) (Or.inl ⟨by rfl, fun wh hSw => ?_⟩) hHeld ?_
              · (obtain ⟨s0, s1, s2, s3, s4⟩ := hSw; go_simp)
              try simp only [Act.put, List.setIfInBounds_toArray, List.set_cons_zero, List.set_cons_succ]
              refine wpAnyH_take (i := 2) (oi := { dst := some 49, op := .fieldAddr 50 (.tmp 8) 0, type := _, pos := _, after := _, guard := none }) (v := .pointer (some ⟨QA.heap.size, 0, none⟩)) rfl (by kernel_rfl) (by kernel_rfl) (by kernel_rfl) (fun _ _ _ h => h) (Or.inl ⟨by rfl, fun wh hSw => ?_⟩) hHeld ?_
              · (obtain ⟨s0, s1, s2, s3, s4⟩ := hSw; go_simp)
              try simp only [Act.put, List.setIfInBounds_toArray, List.set_cons_zero, List.set_cons_succ]
              refine wpAnyH_take (i := 3) (oi := { dst := some 50, op := .load 3 (.tmp 49), type := _, pos := _, after := _, guard := none }) (v := .int .i64 (fq : Int)) rfl (by kernel_rfl) (by kernel_rfl) (by kernel_rfl) (fun _ _ _ h => h) (Or.inl ⟨by rfl, fun wh hSw => ?_⟩) hHeld ?_
              · (obtain ⟨s0, s1, s2, s3, s4⟩ := hSw; go_simp)
              try simp only [Act.put, List.setIfInBounds_toArray, List.set_cons_zero, List.set_cons_succ]
              refine wpAnyH_take (i := 4) (oi := { dst := some 51, op := .indexAddr 25 (.tmp 48) (.tmp 50), type := _, pos := _, after := _, guard := none }) (v := .pointer (some ⟨b2, o2 + fq, none⟩)) rfl (by kernel_rfl) (by kernel_rfl) (by kernel_rfl) (fun _ _ _ h => h) (Or.inl ⟨by rfl, fun wh hSw => ?_⟩) hHeld ?_
              · (obtain ⟨s0, s1, s2, s3, s4⟩ := hSw; go_simp)
              try simp only [Act.put, List.setIfInBounds_toArray, List.set_cons_zero, List.set_cons_succ]
              refine wpAnyH_take (i := 5) (oi := { dst := some 52, op := .load 42 (.tmp 51), type := _, pos := _, after := _, guard := none }) (v := .slice (some ⟨g2, p2, none⟩) 4 dd) rfl (by kernel_rfl) (by kernel_rfl) (by kernel_rfl) (fun _ _ _ h => h) (Or.inl ⟨by rfl, fun wh hSw => ?_⟩) hHeld ?_
              · (obtain ⟨s0, s1, s2, s3, s4⟩ := hSw; go_simp)
              try simp only [Act.put, List.setIfInBounds_toArray, List.set_cons_zero, List.set_cons_succ]
              refine wpAnyH_take (i := 6) (oi := { dst := some 53, op := .fieldAddr 50 (.tmp 8) 1, type := _, pos := _, after := _, guard := none }) (v := .pointer (some ⟨QA.heap.size, 0 + 1, none⟩)) rfl (by kernel_rfl) (by kernel_rfl) (by kernel_rfl) (fun _ _ _ h => h) (Or.inl ⟨by rfl, fun wh hSw => ?_⟩) hHeld ?_
              · (obtain ⟨s0, s1, s2, s3, s4⟩ := hSw; go_simp)
              try simp only [Act.put, List.setIfInBounds_toArray, List.set_cons_zero, List.set_cons_succ]
              refine wpAnyH_take (i := 7) (oi := { dst := some 54, op := .load 3 (.tmp 53), type := _, pos := _, after := _, guard := none }) (v := .int .i64 (tq : Int)) rfl (by kernel_rfl) (by kernel_rfl) (by kernel_rfl) (fun _ _ _ h => h) (Or.inl ⟨by rfl, fun wh hSw => ?_⟩) hHeld ?_
              · (obtain ⟨s0, s1, s2, s3, s4⟩ := hSw; go_simp)
              try simp only [Act.put, List.setIfInBounds_toArray, List.set_cons_zero, List.set_cons_succ]
              refine wpAnyH_take (i := 8) (oi := { dst := some 55, op := .indexAddr 42 (.tmp 52) (.tmp 54), type := _, pos := _, after := _, guard := none }) (v := .pointer (some ⟨g2, p2 + tq, none⟩)) rfl (by kernel_rfl) (by kernel_rfl) (by kernel_rfl) (fun _ _ _ h => h) (Or.inl ⟨by rfl, fun wh hSw => ?_⟩) hHeld ?_
              · (obtain ⟨s0, s1, s2, s3, s4⟩ := hSw; go_simp)
              try simp only [Act.put, List.setIfInBounds_toArray, List.set_cons_zero, List.set_cons_succ]
              refine wpAnyH_take (i := 9) (oi := { dst := some 56, op := .load 3 (.tmp 55), type := _, pos := _, after := _, guard := none }) (v := .int .i64 x) rfl (by kernel_rfl) (by kernel_rfl) (by kernel_rfl) (fun _ _ _ h => h) (Or.inl ⟨by rfl, fun wh hSw => ?_⟩) hHeld ?_
              · (obtain ⟨s0, s1, s2, s3, s4⟩ := hSw; go_simp)
              try simp only [Act.put, List.setIfInBounds_toArray, List.set_cons_zero, List.set_cons_succ]
              refine wpAnyH_take (i := 10) (oi := { dst := some 6, op := .assign (.tmp 56), type := _, pos := _, after := _, guard := none }) (v := .int .i64 x) rfl (by kernel_rfl) (by kernel_rfl) (by kernel_rfl) (fun _ _ _ h => h) (Or.inl ⟨by rfl, fun wh hSw => ?_⟩) hHeld ?_
              · (obtain ⟨s0, s1, s2, s3, s4⟩ := hSw; go_simp)
              try simp only [Act.put, List.setIfInBounds_toArray, List.set_cons_zero, List.set_cons_succ]
              refine wpAnyH_take (i := 11) (oi := { dst := some 7, op := .assign (.const (.bool true)), type := _, pos := _, after := _, guard := none }) (v := .bool true) rfl (by kernel_rfl) (by kernel_rfl) (by kernel_rfl) (fun _ _ _ h => h) (Or.inl ⟨by rfl, fun wh hSw => ?_⟩) hHeld ?_
              · (obtain ⟨s0, s1, s2, s3, s4⟩ := hSw; go_simp)
              try simp only [Act.put, List.setIfInBounds_toArray, List.set_cons_zero, List.set_cons_succ]
              refine wpAnyH_done (by kernel_rfl) ?_ _
              go_wp2_with fail
              go_ret2
              rw [HRE.out]
              exact ⟨rfl, HPE.out.drew.bel⟩
            · have hpn : (pc == 0) = false := by simpa using hpc
              have hpn2 : (pc != 0) = true := by simpa using hpc
              have HXE : Hid (x = 0) := Lib.hid (by rw [HX.out]; simp [hpc])
              have HRE : Hid (r = false) := Lib.hid (by rw [HR.out]; simp [hpc])
              go_wp2_with fail
              go_ret2
              rw [HXE.out, HRE.out]
              exact ⟨rfl, HPE.out.bel⟩
end Go.Proofs.YtcmmlgdfhkcmoaaGreat
namespace Go.Proofs.YtcmmlgdfhkcmoaaGreat
open Go.ChangeShapes Go.WideShapes Go.ChangeAt Go.RowKit Go.Maps Go.Shelf
set_option linter.unusedVariables false
set_option linter.unusedSimpArgs false
set_option maxRecDepth 100000
abbrev IKS : Prop := ∀ (w : World) (vm vi ve vc : Value) (K : KV) (e a : Int), Ks w vm vi ve vc K → ShortI K.i → Short3 K.e → Calls Tryz.prog 38 #[kV vm vi ve vc, .int .i64 e, .int .i64 a] w (SeesR (sees K e a) (seesOk K e a) w)
set_option maxHeartbeats 4000000 in
theorem iksees_any : IKS := by
  intro w vm vi ve vc K e a h hs hse
  have HKP := Lib.hid (fun t => KP.start w vm vi ve vc t)
  have HKO : Hid (∀ W, Below w.heap.size w W → Calls Tryz.prog 59 #[kV vm vi ve vc] W (KOfR K W)) := Lib.hid (fun W hW => kernelOf_any W vm vi ve vc K (h.below hW) hs hse)
  unfold KOfR at HKO
  have HZ := Lib.hid zero_kernel
  have HZL := Lib.hid Z108_len
  obtain ⟨Z, hZ⟩ : ∃ Z, Z = Z108 := ⟨_, rfl⟩
  rw [← hZ] at HZ HZL
  obtain ⟨W0, hW0⟩ : ∃ W0, W0 = w.alloc (.cells #[vm, vi, ve, vc] 30) := ⟨_, rfl⟩
  have HP0 : Hid (KP w W0 vm vi ve vc) := Lib.hid (by rw [hW0]; exact HKP.out _)
  have HW0 := Lib.hid hW0
  have HBL := Lib.hid (fun w => ibelow_any w e 3)
  rw [show (3 : Int) - 1 = 2 from rfl] at HBL
  obtain ⟨q, hq⟩ : ∃ q, q = inR e 0 2 := ⟨_, rfl⟩
  rw [← hq] at HBL
  have HQ := Lib.hid hq
  obtain ⟨b, hb⟩ : ∃ b, b = kvalid K := ⟨_, rfl⟩
  have HBV := Lib.hid hb
  obtain ⟨x, hx⟩ : ∃ x, x = sees K e a := ⟨_, rfl⟩
  obtain ⟨r, hr⟩ : ∃ r, r = seesOk K e a := ⟨_, rfl⟩
  rw [← hx, ← hr]
  unfold sees at hx
  unfold seesOk at hx hr
  rw [← hb, ← hq] at hx hr
  rw [← hb] at HKO
  have HX := Lib.hid hx
  have HR := Lib.hid hr
  clear hZ hW0 h hs hse hq hb hx hr
  go_enter Tryz.func38, Tryz.ntmps38
  go_wp2_with fail
  rw [← HW0.out]
  refine (HKO.out W0 HP0.out.bel).mono ?_
  rintro _ w1 ⟨L, rfl, hl, ho, hb, hkl⟩
  obtain ⟨Y, hY⟩ : ∃ Y, Y = w1.heap.size := ⟨_, rfl⟩
  obtain ⟨W1, hW1⟩ : ∃ W1, W1 = (w1.alloc (.cells Z.toArray 101)).setCells Y 0 L := ⟨_, rfl⟩
  have HMK := Lib.hid (VarL.make (w := w) (w1 := w1) (L := L) (Z := Z.toArray) 101 (HP0.out.bel.trans (hb.mono HP0.out.bel.size)) (by rw [List.size_toArray, HZL.out, hl]))
  have HL1 : Hid (VarL w Y L W1) := Lib.hid (by rw [hW1, hY]; exact HMK.out.2)
  have HTH : Hid ((w1.alloc (.cells Z.toArray 101)).there Y 0 L.toArray.size) := Lib.hid (by rw [hY, List.size_toArray]; exact HMK.out.1)
  have HLL := Lib.hid hl
  have HLO := Lib.hid ho
  have HLS : Hid (L.toArray.size = 108) := Lib.hid (by rw [List.size_toArray, hl])
  have HBW : Hid (Below w1.heap.size w1 W1) := Lib.hid (by rw [hW1, hY]; exact bel_var (Below.refl _ _) _ _ _)
  have HKL := Lib.hid (fun hk => by
    obtain ⟨bs, A, f, c, h1, h2, h3, h4⟩ := hkl hk
    exact (⟨bs, A, f, c, h1.below HBW.out, h2, h3, h4⟩ : ∃ (bs : Nat → Nat) (A : Nat → CV) (f c : Nat), KL W1 K.m K.i K.e bs (ringC A f c) L ∧ f < 4 ∧ c ≤ 4 ∧ rlist A f c = K.c))
  have HY := Lib.hid hY
  have HW1 := Lib.hid hW1
  clear hl ho hb hkl hY hW1 HMK
  cases b with
  | false =>
    go_wp2_with (first | ((with_reducible refine alloc_is 101 ?_); refine alloc_arr 101 Z.toArray HZ.out ?_; rw [← HY.out]) | ((with_reducible refine store_is 101 (.tmp 8) (.tmp 15) ?_); refine store_arr 101 (.tmp 8) (.tmp 15) Y 0 L.toArray rfl rfl HTH.out (info_kernel HLS.out) HLO.out ?_; rw [show L.toArray.toList = L from rfl, ← HW1.out]) | fail)
    go_ret2
    rw [show x = 0 from HX.out, show r = false from HR.out]
    exact ⟨rfl, HL1.out.bel⟩
  | true =>
    go_wp2_with (first | ((with_reducible refine alloc_is 101 ?_); refine alloc_arr 101 Z.toArray HZ.out ?_; rw [← HY.out]) | ((with_reducible refine store_is 101 (.tmp 8) (.tmp 15) ?_); refine store_arr 101 (.tmp 8) (.tmp 15) Y 0 L.toArray rfl rfl HTH.out (info_kernel HLS.out) HLO.out ?_; rw [show L.toArray.toList = L from rfl, ← HW1.out]) | fail)
    refine (HBL.out W1).mono ?_
    rintro _ w' ⟨rfl, rfl⟩
    cases q with
    | false =>
      go_wp2_with fail
      go_ret2
      rw [show x = 0 from HX.out, show r = false from HR.out]
      exact ⟨rfl, HL1.out.bel⟩
    | true =>
      obtain ⟨e0, e2⟩ := inR_iff.1 HQ.out.symm
      obtain ⟨j, rfl⟩ := Int.eq_ofNat_of_zero_le e0
      have hj3 : j < 3 := by omega
      obtain ⟨bs, A, f, c, hk, hf, hc, hrl⟩ := HKL.out (by trivial)
      have hbd := (kvalid_len HBV.out.symm).2.2 j hj3
      have hmm := (kvalid_len HBV.out.symm).1
      have HPL := Lib.hid (place_any W1 K.m K.i K.e bs (ringC A f c) L hk j hj3 a hbd)
      have HKC : Hid (KC W1 Y K.m K.i K.e bs (ringC A f c) L) := Lib.hid ⟨hk, HL1.out.at0⟩
      have hro : rootOf K.e (j : Int) = (K.e.getD j ez).t := by unfold rootOf; rw [Int.toNat_natCast]
      rw [hro] at HX HR
      obtain ⟨p, hp⟩ : ∃ p, p = walkF K.m (K.e.getD j ez).t a := ⟨_, rfl⟩
      have HPI : Hid (p.c = 0 → (0 ≤ p.f ∧ p.f < 12) ∧ 0 ≤ p.t ∧ p.t < 4) := Lib.hid (by rw [hp]; exact walkF_in)
      have HPO : Hid (p.c = 0 → inR a 0 63 = true ∧ decide (0 ≤ (K.e.getD j ez).t) = true) := Lib.hid (fun h0 => by
        by_cases hw : wOk K.m (K.e.getD j ez).t a
        · exact ⟨inR_iff.2 (by have := hw.2.2; omega), decide_eq_true hw.2.1.1⟩
        · rw [hp, walkF_no hw] at h0
          exact absurd h0 (by show ¬ (3 : Int) = 0; decide))
      rw [← hp] at HPL HX HR
      obtain ⟨pf, pt, pb, pc⟩ := p
      unfold WalkRes plV at HPL
      dsimp only at HPL HX HR HPI HPO
      clear hk hf hc hrl hbd hro hp e0 e2 hmm
      go_wp2_with (first | ((with_reducible refine load_is 101 (.tmp 8) ?_); refine load_arr 101 (.tmp 8) Y 0 L _ rfl HL1.out.at0 Tryz.underlying101 rfl (info_kernel HLL.out) ?_) | fail)
      refine HPL.out.mono ?_
      rintro _ W2 ⟨rfl, hb2⟩
      have HB2 : Hid (Below W1.heap.size W1 W2) := Lib.hid hb2
      have HBE : Hid (∀ o, Below w.heap.size w (W2.alloc o)) := Lib.hid (fun o => (HL1.out.bel.trans (hb2.mono HL1.out.bel.size)).alloc (by have := HL1.out.bel.size; have := hb2.size; omega) o)
      clear hb2
      by_cases h0 : pc = 0
      · subst h0
        obtain ⟨⟨f0, f12⟩, t0, t4⟩ := HPI.out rfl
        obtain ⟨ha, ht⟩ := HPO.out rfl
        obtain ⟨f, rfl⟩ := Int.eq_ofNat_of_zero_le f0
        obtain ⟨i, rfl⟩ := Int.eq_ofNat_of_zero_le t0
        have hf12 : f < 12 := by omega
        have hi4 : i < 4 := by omega
        rw [ha, ht] at HX HR
        obtain ⟨W3, hW3⟩ : ∃ W3, W3 = W2.alloc (.cells #[.int .i64 (f : Int), .int .i64 (i : Int), .bool pb] 50) := ⟨_, rfl⟩
        have HKC3 := Lib.hid ((HKC.out.below HB2.out).below (by rw [hW3]; exact (Below.refl _ _).alloc (Nat.le_refl _) _ : Below W2.heap.size W2 W3))
        have hwd := HKC3.out.word hf12 hi4
        have HXE : Hid (x = wd K.m f i) := Lib.hid (by rw [HX.out]; simp)
        have HRE : Hid (r = true) := Lib.hid (by rw [HR.out]; simp)
        rw [← HXE.out] at hwd
        have HXM := run_indexAt_arr (P := Tryz.prog) 94 12 92 4 Tryz.underlying94 size_words (by omega) Y f hf12
        have HXW := fun W => run_indexAt_part (P := Tryz.prog) 92 4 _ Tryz.underlying92 (fun w => Tryz.sizeOf3 w) (by omega) Y (f * 4) i hi4 W
        have HFS : Hid (W3.drew.cell? ⟨W2.heap.size, 0, none⟩ = some (.int .i64 (f : Int)) ∧ W3.drew.cell? ⟨W2.heap.size, 1, none⟩ = some (.int .i64 (i : Int)) ∧ W3.drew.cell? ⟨Y, f * 4 + i, none⟩ = some (.int .i64 x)) := Lib.hid ⟨by rw [hW3]; exact new_cell rfl, by rw [hW3]; exact new_cell rfl, hwd⟩
        have HW3 := Lib.hid hW3
        have HB3 : Hid (Below w.heap.size w W3) := Lib.hid (by rw [hW3]; exact HBE.out _)
        have hf0 : (0 : Int) ≤ (f : Int) := f0
        have hi0 : (0 : Int) ≤ (i : Int) := t0
        clear hW3 ha ht f0 t0 hwd
        go_wp2_with fail
        rw [← HW3.out]
        refine wp_region_held_drew (S := fun w' => w'.cell? ⟨W2.heap.size, 0, none⟩ = some (.int .i64 (f : Int)) ∧ w'.cell? ⟨W2.heap.size, 1, none⟩ = some (.int .i64 (i : Int)) ∧ w'.cell? ⟨Y, f * 4 + i, none⟩ = some (.int .i64 x)) (by kernel_rfl) HFS.out (fun hHeld => ?_)
        refine wpAnyH_take (i := 0) (oi := { dst := some 33, op := .fieldAddr 50 (.tmp 10) 0, type := _, pos := _, after := _, guard := none }) (v := .pointer (some ⟨W2.heap.size, 0, none⟩)) rfl (by kernel_rfl) (by kernel_rfl) (by kernel_rfl) (fun _ _ _ h => h) (Or.inl ⟨by rfl, fun wh hSw => ?_⟩) hHeld ?_
        · (obtain ⟨s0, s1, s2⟩ := hSw; go_simp)
        try simp only [Act.put, List.setIfInBounds_toArray, List.set_cons_zero, List.set_cons_succ]
        refine wpAnyH_take (i := 1) (oi := { dst := some 34, op := .load 3 (.tmp 33), type := _, pos := _, after := _, guard := none }) (v := .int .i64 (f : Int)) rfl (by kernel_rfl) (by kernel_rfl) (by kernel_rfl) (fun _ _ _ h => h) (Or.inl ⟨by rfl, fun wh hSw => ?_⟩) hHeld ?_
        · (obtain ⟨s0, s1, s2⟩ := hSw; go_simp)
        try simp only [Act.put, List.setIfInBounds_toArray, List.set_cons_zero, List.set_cons_succ]
        refine wpAnyH_take (i := 2) (oi := { dst := some 35, op := .fieldAddr 50 (.tmp 10) 1, type := _, pos := _, after := _, guard := none }) (v := .pointer (some ⟨W2.heap.size, 0 + 1, none⟩)) rfl (by kernel_rfl) (by kernel_rfl) (by kernel_rfl) (fun _ _ _ h => h) (Or.inl ⟨by rfl, fun wh hSw => ?_⟩) hHeld ?_
        · (obtain ⟨s0, s1, s2⟩ := hSw; go_simp)
        try simp only [Act.put, List.setIfInBounds_toArray, List.set_cons_zero, List.set_cons_succ]
        refine wpAnyH_take (i := 3) (oi := { dst := some 36, op := .load 3 (.tmp 35), type := _, pos := _, after := _, guard := none }) (v := .int .i64 (i : Int)) rfl (by kernel_rfl) (by kernel_rfl) (by kernel_rfl) (fun _ _ _ h => h) (Or.inl ⟨by rfl, fun wh hSw => ?_⟩) hHeld ?_
        · (obtain ⟨s0, s1, s2⟩ := hSw; go_simp)
        try simp only [Act.put, List.setIfInBounds_toArray, List.set_cons_zero, List.set_cons_succ]
        refine wpAnyH_take (i := 4) (oi := { dst := some 37, op := .fieldAddr 101 (.tmp 8) 0, type := _, pos := _, after := _, guard := none }) (v := .pointer (some ⟨Y, 0, none⟩)) rfl (by kernel_rfl) (by kernel_rfl) (by kernel_rfl) (fun _ _ _ h => h) (Or.inl ⟨by rfl, fun wh hSw => ?_⟩) hHeld ?_
        · (obtain ⟨s0, s1, s2⟩ := hSw; go_simp)
        try simp only [Act.put, List.setIfInBounds_toArray, List.set_cons_zero, List.set_cons_succ]
        refine wpAnyH_take (i := 5) (oi := { dst := some 38, op := .indexAddr 94 (.tmp 37) (.tmp 34), type := _, pos := _, after := _, guard := none }) (v := .pointer (some ⟨Y, f * 4, none⟩)) rfl (by kernel_rfl) (by kernel_rfl) (by kernel_rfl) (fun _ _ _ h => h) (Or.inl ⟨by rfl, fun wh hSw => ?_⟩) hHeld ?_
        · (obtain ⟨s0, s1, s2⟩ := hSw; go_simp)
        try simp only [Act.put, List.setIfInBounds_toArray, List.set_cons_zero, List.set_cons_succ]
        refine wpAnyH_take (i := 6) (oi := { dst := some 39, op := .indexAddr 92 (.tmp 38) (.tmp 36), type := _, pos := _, after := _, guard := none }) (v := .pointer (some ⟨Y, f * 4 + i, none⟩)) rfl (by kernel_rfl) (by kernel_rfl) (by kernel_rfl) (fun _ _ _ h => h) (Or.inl ⟨by rfl, fun wh hSw => ?_⟩) hHeld ?_
        · (obtain ⟨s0, s1, s2⟩ := hSw; go_simp)
        try simp only [Act.put, List.setIfInBounds_toArray, List.set_cons_zero, List.set_cons_succ]
        refine wpAnyH_take (i := 7) (oi := { dst := some 40, op := .load 3 (.tmp 39), type := _, pos := _, after := _, guard := none }) (v := .int .i64 x) rfl (by kernel_rfl) (by kernel_rfl) (by kernel_rfl) (fun _ _ _ h => h) (Or.inl ⟨by rfl, fun wh hSw => ?_⟩) hHeld ?_
        · (obtain ⟨s0, s1, s2⟩ := hSw; go_simp)
        try simp only [Act.put, List.setIfInBounds_toArray, List.set_cons_zero, List.set_cons_succ]
        refine wpAnyH_take (i := 8) (oi := { dst := some 6, op := .assign (.tmp 40), type := _, pos := _, after := _, guard := none }) (v := .int .i64 x) rfl (by kernel_rfl) (by kernel_rfl) (by kernel_rfl) (fun _ _ _ h => h) (Or.inl ⟨by rfl, fun wh hSw => ?_⟩) hHeld ?_
        · (obtain ⟨s0, s1, s2⟩ := hSw; go_simp)
        try simp only [Act.put, List.setIfInBounds_toArray, List.set_cons_zero, List.set_cons_succ]
        refine wpAnyH_take (i := 9) (oi := { dst := some 7, op := .assign (.const (.bool true)), type := _, pos := _, after := _, guard := none }) (v := .bool true) rfl (by kernel_rfl) (by kernel_rfl) (by kernel_rfl) (fun _ _ _ h => h) (Or.inl ⟨by rfl, fun wh hSw => ?_⟩) hHeld ?_
        · (obtain ⟨s0, s1, s2⟩ := hSw; go_simp)
        try simp only [Act.put, List.setIfInBounds_toArray, List.set_cons_zero, List.set_cons_succ]
        refine wpAnyH_done (by kernel_rfl) ?_ _
        go_wp2_with fail
        go_ret2
        rw [HRE.out]
        exact ⟨rfl, HB3.out.drew⟩
      · have hn1 : (pc == 0) = false := by simpa using h0
        have hn2 : (pc != 0) = true := by simpa using h0
        have HXE : Hid (x = 0) := Lib.hid (by rw [HX.out]; simp [h0])
        have HRE : Hid (r = false) := Lib.hid (by rw [HR.out]; simp [h0])
        go_wp2_with fail
        go_ret2
        rw [HXE.out, HRE.out]
        exact ⟨rfl, HBE.out _⟩
end Go.Proofs.YtcmmlgdfhkcmoaaGreat
namespace Go.Proofs.YtcmmlgdfhkcmoaaGreat
open Go.ChangeShapes Go.WideShapes Go.ChangeAt Go.RowKit Go.Maps Go.Shelf
set_option linter.unusedVariables false
set_option linter.unusedSimpArgs false
set_option maxRecDepth 100000
set_option maxHeartbeats 8000000 in
theorem exKernelSees_walk (hI : IKS) (W : World) (v0 v1 v2 v3 : Value) (K : KV) (e : Int) (a : Int) (h : Ks W v0 v1 v2 v3 K) (hfi : FitI K.i) (hfe : Fit3 K.e) :
    Calls Tryz.prog 14 #[kV v0 v1 v2 v3, .int .i64 e, .int .i64 a] W fun e w' => e = .returned (.bool true) ∧ Below W.heap.size W w' := by
  have HKS := Lib.hid h
  obtain ⟨W0, hW0⟩ : ∃ W0, W0 = W.alloc (.cells #[v0, v1, v2, v3] 72) := ⟨_, rfl⟩
  have HP0 : Hid (KP W W0 v0 v1 v2 v3) := Lib.hid (by rw [hW0]; exact KP.start W v0 v1 v2 v3 _)
  have HSZ := Lib.hid (szKernel_any W0 v0 v1 v2 v3 K 1048576 (h.below HP0.out.bel) hfi hfe (by omega) (by omega))
  unfold LeftK at HSZ
  have HW0 := Lib.hid hW0
  obtain ⟨q0, q1, q2, q3⟩ := HP0.out.cells
  have HI := Lib.hid hI
  clear h hW0 hI hfi hfe
  go_enter Tryz.func14, Tryz.ntmps14
  go_wp2_with (first | ((with_reducible refine load_is 72 _ ?_); rw [← HW0.out]; fail) | fail)
  rw [← HW0.out]
  refine HSZ.out.mono ?_
  rintro _ w1 ⟨lf, hlf, rfl, hb⟩
  have HP1 := Lib.hid (HP0.out.go hb)
  clear hb q0 q1 q2 q3
  obtain ⟨q0, q1, q2, q3⟩ := HP1.out.cells
  by_cases hneg : lf < 0
  · go_wp2_with fail
    go_ret
    exact ⟨rfl, HP1.out.bel⟩
  have hpos : decide (lf < 0) = false := by simpa using hneg
  have hz : szK K ≤ 1048576 := by unfold szK; omega
  have HZ := Lib.hid hz
  have HSH := Lib.hid (szK_short hz)
  have HCP := Lib.hid (fun Q (hQ : Below W.heap.size W Q) => copyK Q v0 v1 v2 v3 K (HKS.out.below hQ) HZ.out)
  have HEQF := Lib.hid (fun Q (x0 x1 x2 x3 y0 y1 y2 y3 : Value) (h1 : Ks Q x0 x1 x2 x3 K) (h2 : Ks Q y0 y1 y2 y3 K) => eqKernel_any Q x0 x1 x2 x3 y0 y1 y2 y3 K K h1 h2 true (by simp))
  unfold CopyK at HCP
  clear hlf hz hneg
  obtain ⟨x, hx⟩ : ∃ x, x = sees K e a := ⟨_, rfl⟩
  obtain ⟨r, hr⟩ : ∃ r, r = seesOk K e a := ⟨_, rfl⟩
  have HSP : Hid (∀ Q a0 b c d, Ks Q a0 b c d K → Calls Tryz.prog 39 #[kV a0 b c d, .int .i64 e, .int .i64 a] Q (SeesR x r Q)) := Lib.hid (fun Q a0 b c d hk => by rw [hx, hr]; exact sKernelSees_any Q a0 b c d K e a hk HSH.out.1 HSH.out.2)
  have HIM : Hid (∀ Q a0 b c d, Ks Q a0 b c d K → Calls Tryz.prog 38 #[kV a0 b c d, .int .i64 e, .int .i64 a] Q (SeesR x r Q)) := Lib.hid (fun Q a0 b c d hk => by rw [hx, hr]; exact HI.out Q a0 b c d K e a hk HSH.out.1 HSH.out.2)
  unfold SeesR at HSP HIM
  have hrr := neB r
  have hxx := neI x
  clear hr hx HI
  go_wp2_with fail
  refine (HCP.out w1 HP1.out.bel).mono ?_
  rintro _ w2 ⟨asm, nsm, csm, asi, nsi, csi, ase, nse, cse, asc, nsc, csc, sB0, sB1, sB2, sB3, sB4, rfl, sh0, sh1, sh2, sh3, sh4, sh5, sk, hb⟩
  have HP2 := Lib.hid (HP1.out.go hb)
  have SK0 := Lib.hid sk
  have SL := Lib.hid (And.intro sh0 (And.intro sh1 (And.intro sh2 (And.intro sh3 (And.intro sh4 sh5)))))
  clear hb sk sh0 sh1 sh2 sh3 sh4 sh5 q0 q1 q2 q3
  obtain ⟨q0, q1, q2, q3⟩ := HP2.out.cells
  go_wp2_with fail
  refine (HSP.out w2 _ _ _ _ SK0.out.ks).mono ?_
  rintro _ w3 ⟨rfl, hb⟩
  have HP3 := Lib.hid (HP2.out.go hb)
  clear hb q0 q1 q2 q3 SK0 SL
  obtain ⟨q0, q1, q2, q3⟩ := HP3.out.cells
  go_wp2_with fail
  refine (HCP.out w3 HP3.out.bel).mono ?_
  rintro _ w4 ⟨axm, nxm, cxm, axi, nxi, cxi, axe, nxe, cxe, axc, nxc, cxc, xB0, xB1, xB2, xB3, xB4, rfl, xh0, xh1, xh2, xh3, xh4, xh5, xk, hb⟩
  have HP4 := Lib.hid (HP3.out.go hb)
  have XK0 := Lib.hid xk
  have XL := Lib.hid (And.intro xh0 (And.intro xh1 (And.intro xh2 (And.intro xh3 (And.intro xh4 xh5)))))
  clear hb xk xh0 xh1 xh2 xh3 xh4 xh5 q0 q1 q2 q3
  obtain ⟨q0, q1, q2, q3⟩ := HP4.out.cells
  obtain ⟨Y, hY⟩ : ∃ Y, Y = w4.heap.size := ⟨_, rfl⟩
  obtain ⟨w5, hw5⟩ : ∃ w5, w5 = w4.alloc (.cells #[.slice axm nxm cxm, .slice axi nxi cxi, .slice axe nxe cxe, .slice axc nxc cxc] 30) := ⟨_, rfl⟩
  have HB5 : Hid (Below w4.heap.size w4 w5) := Lib.hid (by rw [hw5]; exact (Below.refl _ _).alloc (Nat.le_refl _) _)
  have HY5 : Hid (KB4 w5 Y (.slice axm nxm cxm) (.slice axi nxi cxi) (.slice axe nxe cxe) (.slice axc nxc cxc)) := Lib.hid (by rw [hw5, hY]; exact KB4.new w4 _ _ _ _ _)
  have HX5 : Hid (Ks w5 (.slice axm nxm cxm) (.slice axi nxi cxi) (.slice axe nxe cxe) (.slice axc nxc cxc) K) := Lib.hid (XK0.out.ks.below HB5.out)
  have HP5 := Lib.hid (HP4.out.go HB5.out)
  have HY := Lib.hid hY
  have HW5 := Lib.hid hw5
  have hwl : W.heap.size < w4.heap.size := HP4.out.sz
  clear hY hw5 XK0 XL
  go_wp2_with fail
  rw [← HW5.out]
  refine (HIM.out w5 _ _ _ _ HX5.out).mono ?_
  rintro _ w6 ⟨rfl, hb⟩
  have HP6 := Lib.hid (HP5.out.go hb)
  have HY6 := Lib.hid (HY5.out.go hb)
  have HX6 := Lib.hid (HX5.out.below hb)
  rw [← HY.out]
  clear hb q0 q1 q2 q3 hwl
  go_wp2_with fail
  have HPD := Lib.hid HP6.out.drew
  have HYD := Lib.hid (HY6.out.go (Below.refl _ _).drew)
  refine wp_region_held_drew (S := fun w' => (w'.cell? ⟨Y, 0, none⟩ = some (.slice axm nxm cxm) ∧ w'.cell? ⟨Y, 1, none⟩ = some (.slice axi nxi cxi) ∧ w'.cell? ⟨Y, 2, none⟩ = some (.slice axe nxe cxe) ∧ w'.cell? ⟨Y, 3, none⟩ = some (.slice axc nxc cxc)) ∧ w'.cell? ⟨W.heap.size, 0, none⟩ = some v0 ∧ w'.cell? ⟨W.heap.size, 1, none⟩ = some v1 ∧ w'.cell? ⟨W.heap.size, 2, none⟩ = some v2 ∧ w'.cell? ⟨W.heap.size, 3, none⟩ = some v3) (by kernel_rfl) ⟨HYD.out.cells, HPD.out.cells⟩ (fun hHeld => ?_)
  refine wpAnyH_take (i := 0) (oi := { dst := some 43, op := .load 30 (.tmp 10), type := _, pos := _, after := _, guard := none }) (v := .agg #[.slice axm nxm cxm, .slice axi nxi cxi, .slice axe nxe cxe, .slice axc nxc cxc]) rfl (by kernel_rfl) (by kernel_rfl) (by kernel_rfl) (fun _ _ _ h => h) (Or.inl ⟨by rfl, fun wh hSw => ?_⟩) hHeld ?_
  · (obtain ⟨⟨y0, y1, y2, y3⟩, s0, s1, s2, s3⟩ := hSw; go_simp)
  try simp only [Act.put, List.setIfInBounds_toArray, List.set_cons_zero, List.set_cons_succ]
  refine wpAnyH_take (i := 1) (oi := { dst := some 44, op := .load 72 (.tmp 3), type := _, pos := _, after := _, guard := none }) (v := .agg #[v0, v1, v2, v3]) rfl (by kernel_rfl) (by kernel_rfl) (by kernel_rfl) (fun _ _ _ h => h) (Or.inl ⟨by rfl, fun wh hSw => ?_⟩) hHeld ?_
  · (obtain ⟨⟨y0, y1, y2, y3⟩, s0, s1, s2, s3⟩ := hSw; go_simp)
  try simp only [Act.put, List.setIfInBounds_toArray, List.set_cons_zero, List.set_cons_succ]
  refine wpAnyH_ready (rs := [2]) (by kernel_rfl) (by simp) ?_
  refine AllReadyH.cons (o := { dst := some 45, op := .call { callee := .value (.func 42), args := #[.tmp 44], argTypes := #[72] }, type := _, pos := _, after := _, guard := none }) rfl (fun K hK => ?_) AllReadyH.nil
  go_simp
  refine (HCP.out w6.drew HPD.out.bel).mono ?_
  rintro _ wy ⟨atm, ntm, ctm, ati, nti, cti, ate, nte, cte, atc, ntc, ctc, B0, B1, B2, B3, B4, rfl, h0, h1, h2, h3, h4, h5, hk, hb⟩
  have HPY := Lib.hid (HPD.out.go hb)
  have HYY := Lib.hid (HYD.out.go hb)
  have HBY : Hid (Below w6.heap.size w6 wy) := Lib.hid ((Below.refl w6.heap.size w6).drew.trans (hb.mono (Nat.le_refl _)))
  have HEQ := Lib.hid (HEQF.out wy _ _ _ _ _ _ _ _ (HX6.out.below HBY.out) hk.ks)
  clear hb hk h0 h1 h2 h3 h4 h5
  try go_simp
  refine hK.out _ _ ?_ (fun hHeld => ?_)
  · exact ⟨HYY.out.cells, HPY.out.cells⟩
  clear hK K
  try simp only [Act.put, List.setIfInBounds_toArray, List.set_cons_zero, List.set_cons_succ]
  refine wpAnyH_ready (rs := [3]) (by kernel_rfl) (by simp) ?_
  refine AllReadyH.cons (o := { dst := some 46, op := .call { callee := .value (.func 43), args := #[.tmp 43, .tmp 45], argTypes := #[30, 30] }, type := _, pos := _, after := _, guard := none }) rfl (fun K hK => ?_) AllReadyH.nil
  go_simp
  refine HEQ.out.mono ?_
  rintro _ wz ⟨rfl, hb⟩
  have HPE := Lib.hid (HPY.out.go hb)
  have HYE := Lib.hid (HYY.out.go hb)
  have HBE := Lib.hid (HBY.out.trans (hb.mono HBY.out.size))
  clear hb
  try go_simp
  refine hK.out _ _ ?_ (fun hHeld => ?_)
  · exact ⟨HYE.out.cells, HPE.out.cells⟩
  clear hK K
  try simp only [Act.put, List.setIfInBounds_toArray, List.set_cons_zero, List.set_cons_succ]
  refine wpAnyH_take (i := 4) (oi := { dst := some 47, op := .unOp .not 4 (.tmp 46), type := _, pos := _, after := _, guard := none }) (v := .bool false) rfl (by kernel_rfl) (by kernel_rfl) (by kernel_rfl) (fun _ _ _ h => h) (Or.inl ⟨by rfl, fun wh hSw => ?_⟩) hHeld ?_
  · (obtain ⟨⟨y0, y1, y2, y3⟩, s0, s1, s2, s3⟩ := hSw; go_simp)
  try simp only [Act.put, List.setIfInBounds_toArray, List.set_cons_zero, List.set_cons_succ]
  refine wpAnyH_done (by kernel_rfl) ?_ _
  go_wp2_with fail
  go_ret
  exact ⟨rfl, HPE.out.bel⟩
end Go.Proofs.YtcmmlgdfhkcmoaaGreat
