/- What the proofs stand on, part 3. -/
import Derived.Test.YtcmmlgdfhkcmoaaGreatRows
import Derived.Test.YtcmmlgdfhkcmoaaGreatKe1
import Derived.Test.YtcmmlgdfhkcmoaaGreatKe2
set_option linter.unusedSimpArgs false
set_option linter.unusedVariables false
namespace Go.Proofs.YtcmmlgdfhkcmoaaGreat
open Go.ChangeShapes Go.WideShapes Go.ChangeAt Go.RowKit
set_option linter.unusedVariables false
set_option maxRecDepth 100000
set_option maxHeartbeats 4000000 in
theorem l21Envs_any (w : World) (vm vi ve vc : Value) (K : KV) (h : Ks w vm vi ve vc K) (hm : memOk K.m = true) (hn : K.i.length = 12) (hs : ShortI K.i) (hse : Short3 K.e) :
    Calls Tryz.prog 67 #[kV vm vi ve vc] w (BRes (envsOk K.m K.i K.e) w) := by
  obtain ⟨M, I, E, C⟩ := K
  have HRV : Hid (∀ (W : World) (u : Value) (rs : List Bs), Strs W u rs → Short rs → Calls Tryz.prog 54 #[u] W (Reads (.bool (rvs rs)) W)) := Lib.hid (fun W u rs hu hrs => sRightsValid_any W u rs hu hrs)
  have HIN := Lib.hid (fun w x => l6In_any w x (-1) 11)
  have HRE : Hid (∀ (W : World) (t : Int), Below w.heap.size w W → -1 ≤ t ∧ t < 12 → Calls Tryz.prog 84 #[vm, .int .i64 t] W (NewI (reach M t) W)) := Lib.hid (fun W t hW ht => l21Reach_any W vm M t (h.m.below hW) hm ht)
  have HAL : Hid (∀ (W : World) (vf u : Value) (t : Int) (rs : List Bs), Below w.heap.size w W → Ints W vf (reach M t) → Strs W u rs → Short rs → Calls Tryz.prog 128 #[vi, vf, u] W (Says (alw I (reach M t) rs) W)) := Lib.hid (fun W vf u t rs hW hf hu hrs => l21Allowed_any W vi vf u I (reach M t) rs (h.i.below hW) hn hs hf reach_bd hu hrs)
  have HKP := Lib.hid (fun t => KP.start w vm vi ve vc t)
  obtain ⟨n, hN⟩ : ∃ n, n = E.length := ⟨_, rfl⟩
  have HNO : Hid (∀ f, f < n → envOk M I (E.getD f ez) = false → envsOk M I E = false) := Lib.hid (fun f hf hg => by
    rw [Bool.eq_false_iff]
    intro hh
    have := (envsOk_iff.1 hh).1 (E.getD f ez) (by rw [getD_lt (by omega)]; exact List.getElem_mem _)
    rw [hg] at this
    cases this)
  have HYES : Hid ((∀ f, f < n → envOk M I (E.getD f ez) = true) → envsOk M I E = decide (n = 3)) := Lib.hid (fun hb => by
    unfold envsOk
    rw [← hN, show E.all (envOk M I) = true from List.all_eq_true.2 (fun x hx => by
      obtain ⟨k, hk, rfl⟩ := List.getElem_of_mem hx
      have := hb k (by omega)
      rwa [getD_lt hk] at this), Bool.true_and])
  dsimp only at hn ⊢
  generalize envsOk M I E = r at HNO HYES
  obtain ⟨ae, ce, rfl, e1, e2, e3⟩ := h.e
  obtain ⟨a0, c0, rfl, l1, l2, l3⟩ := h.i
  unfold maxLen at l2 e2
  dsimp only at l1 l3 e1 e3 hse
  rw [hn] at l1 HAL HKP ⊢
  rw [← hN] at e1 HKP ⊢
  have HYN := Lib.hid hn
  have HNN := Lib.hid hN
  have HX := Lib.hid l3
  have HE := Lib.hid e3
  have HSE := Lib.hid hse
  clear h hm hn hs l3 e3 hN hse
  go_enter Tryz.func67, Tryz.ntmps67
  go_wp2
  go_loopw [3, 4] (fun i _ wr => ∃ f : Nat, f ≤ n ∧ i = .int .i64 f ∧ Hid (KP w wr vm (.slice a0 12 c0) (.slice ae n ce) vc) ∧ Hid (∀ t, t < f → envOk M I (E.getD t ez) = true)) (fun i _ _ => n - (intOf i).toNat)
  case atStart => exact ⟨0, Nat.zero_le _, rfl, Lib.hid (HKP.out _), Lib.hid (fun t ht => by omega)⟩
  case round =>
    obtain ⟨f, hf, rfl, HP, HG⟩ := hrel
    obtain ⟨q0, q1, q2, q3⟩ := HP.out.cells
    by_cases hlt : f < n
    · have hlt' : (f : Int) < (n : Int) := by omega
      have hf0 : (0 : Int) ≤ (f : Int) := by omega
      obtain ⟨be, oe, u, rfl, hc0, hd0, hu⟩ := HE.out f (by have := HNN.out; omega)
      have hno := HNO.out f hlt
      have hgo : envOk M I (E.getD f ez) = true → ∀ t, t < f + 1 → envOk M I (E.getD t ez) = true := fun hb t ht => by
        by_cases e : t = f
        · subst e; exact hb
        · exact HG.out t (by omega)
      have hsr := HSE.out.at f
      have hc := (HP.out.bel.cell (p := ⟨be, oe + f * 2, none⟩) (cell_lt hc0)).trans hc0
      have hd := (HP.out.bel.cell (p := ⟨be, oe + f * 2 + 1, none⟩) (cell_lt hd0)).trans hd0
      obtain ⟨x, hx⟩ : ∃ x, x = E.getD f ez := ⟨_, rfl⟩
      rw [← hx] at hd hu hno hgo hsr
      obtain ⟨rs, t⟩ := x
      have HNX := Lib.hid hno
      have HGX := Lib.hid hgo
      have HU := Lib.hid (hu.below HP.out.bel)
      obtain ⟨ua, uc, rfl, -, -, -⟩ := hu
      have HSR := Lib.hid hsr
      clear hno hgo hsr hx hc0 hd0
      unfold envOk at HNX HGX
      dsimp only at HNX HGX hd HU HSR
      have HK2 : Hid (t < 12 → -1 ≤ t → 0 ≤ t → ∃ j : Nat, t = (j : Int) ∧ j < 12 ∧ ∃ b0 o0, a0 = some ⟨b0, o0, none⟩ ∧ Tri w b0 (o0 + j * 3) (I.getD j iz)) := Lib.hid (fun h1 h2 h3 => ⟨t.toNat, by omega, by omega, HX.out t.toNat (by have := HYN.out; omega)⟩)
      obtain ⟨X, hX⟩ : ∃ X, X = wr.heap.size := ⟨_, rfl⟩
      obtain ⟨W0, hW0⟩ : ∃ W0, W0 = wr.alloc (.cells #[.slice ua rs.length uc, .int .i64 t] 37) := ⟨_, rfl⟩
      have HP0 : Hid (KP w W0 vm (.slice a0 12 c0) (.slice (some ⟨be, oe, none⟩) n ce) vc) := Lib.hid (by rw [hW0]; exact HP.out.alloc _)
      have HU0 : Hid (Strs W0 (.slice ua rs.length uc) rs) := Lib.hid (by rw [hW0]; exact HU.out.below ((Below.refl _ _).alloc (Nat.le_refl _) _))
      have HE0 : Hid (∀ W, Below W0.heap.size W0 W → W.cell? ⟨X, 0, none⟩ = some (.slice ua rs.length uc) ∧ W.cell? ⟨X, 1, none⟩ = some (.int .i64 t)) := Lib.hid (fun W hW => by
        have hs : X < W0.heap.size := by rw [hW0, hX]; simp
        refine ⟨(hW.cell (p := ⟨X, 0, none⟩) hs).trans ?_, (hW.cell (p := ⟨X, 1, none⟩) hs).trans ?_⟩
        · rw [hW0, hX]; exact new_cell rfl
        · rw [hW0, hX]; exact new_cell rfl)
      have HW0 := Lib.hid hW0
      have HXX := Lib.hid hX
      clear hX hW0
      have HVR := Lib.hid (HRV.out W0.drew _ _ (HU0.out.below (Below.refl _ _).drew) HSR.out)
      have FS : Hid (∀ W, Below W0.heap.size W0 W → W.cell? ⟨w.heap.size, 0, none⟩ = some vm ∧ W.cell? ⟨w.heap.size, 1, none⟩ = some (.slice a0 12 c0) ∧ W.cell? ⟨X, 0, none⟩ = some (.slice ua rs.length uc) ∧ W.cell? ⟨X, 1, none⟩ = some (.int .i64 t)) := Lib.hid (fun W hW => ⟨(HP0.out.go hW).c0, (HP0.out.go hW).c1, (HE0.out W hW).1, (HE0.out W hW).2⟩)
      obtain ⟨b1, hb1⟩ : ∃ b, b = rvs rs := ⟨_, rfl⟩
      rw [← hb1] at HVR HNX HGX
      clear hb1
      cases b1 with
      | false =>
        go_wp2_with fail
        rw [← HXX.out, ← HW0.out]
        refine wp_region_held_drew (S := fun w' => w'.cell? ⟨w.heap.size, 0, none⟩ = some vm ∧ w'.cell? ⟨w.heap.size, 1, none⟩ = some (.slice a0 12 c0) ∧ w'.cell? ⟨X, 0, none⟩ = some (.slice ua rs.length uc) ∧ w'.cell? ⟨X, 1, none⟩ = some (.int .i64 t)) (by kernel_rfl) (FS.out _ (Below.refl _ _).drew) (fun hHeld => ?_)
        refine wpAnyH_take (i := 0) (oi := { dst := some 17, op := .fieldAddr 37 (.tmp 4) 0, type := _, pos := _, after := _, guard := none }) (v := .pointer (some ⟨X, 0, none⟩)) rfl (by kernel_rfl) (by kernel_rfl) (by kernel_rfl) (fun _ _ _ h => h) (Or.inl ⟨by rfl, fun wh hSw => ?_⟩) hHeld ?_
        · (obtain ⟨s0, s1, s2, s3⟩ := hSw; go_simp)
        try simp only [Act.put, List.setIfInBounds_toArray, List.set_cons_zero, List.set_cons_succ]
        refine wpAnyH_take (i := 1) (oi := { dst := some 18, op := .load 35 (.tmp 17), type := _, pos := _, after := _, guard := none }) (v := .slice ua rs.length uc) rfl (by kernel_rfl) (by kernel_rfl) (by kernel_rfl) (fun _ _ _ h => h) (Or.inl ⟨by rfl, fun wh hSw => ?_⟩) hHeld ?_
        · (obtain ⟨s0, s1, s2, s3⟩ := hSw; go_simp)
        try simp only [Act.put, List.setIfInBounds_toArray, List.set_cons_zero, List.set_cons_succ]
        refine wpAnyH_ready (rs := [2]) (by kernel_rfl) (by simp) ?_
        refine AllReadyH.cons (o := { dst := some 19, op := .call { callee := .value (.func 54), args := #[.tmp 18], argTypes := #[35] }, type := _, pos := _, after := _, guard := none }) rfl (fun K hK => ?_) AllReadyH.nil
        go_simp
        refine HVR.out.mono ?_
        rintro e w1 ⟨rfl, nd, hnd⟩
        have HB1 : Hid (Below W0.heap.size W0 w1) := Lib.hid (by rw [hnd]; exact Below.chg (Below.refl _ _).drew (Chg.of_drewN _ nd) (Nat.le_refl _) (.inr rfl))
        clear hnd
        try go_simp
        refine hK.out _ _ ?_ (fun hHeld => ?_)
        · exact FS.out _ HB1.out
        clear hK K
        try simp only [Act.put, List.setIfInBounds_toArray, List.set_cons_zero, List.set_cons_succ]
        refine wpAnyH_take (i := 3) (oi := { dst := some 20, op := .unOp .not 4 (.tmp 19), type := _, pos := _, after := _, guard := none }) (v := .bool true) rfl (by kernel_rfl) (by kernel_rfl) (by kernel_rfl) (fun _ _ _ h => h) (Or.inl ⟨by rfl, fun wh hSw => ?_⟩) hHeld ?_
        · (obtain ⟨s0, s1, s2, s3⟩ := hSw; go_simp)
        try simp only [Act.put, List.setIfInBounds_toArray, List.set_cons_zero, List.set_cons_succ]
        refine wpAnyH_take (i := 4) (oi := { dst := some 21, op := .move (.tmp 20), type := _, pos := _, after := _, guard := none }) (v := .bool true) rfl (by kernel_rfl) (by kernel_rfl) (by kernel_rfl) (fun _ _ _ h => h) (Or.inl ⟨by rfl, fun wh hSw => ?_⟩) hHeld ?_
        · (obtain ⟨s0, s1, s2, s3⟩ := hSw; go_simp)
        try simp only [Act.put, List.setIfInBounds_toArray, List.set_cons_zero, List.set_cons_succ]
        refine wpAnyH_take (i := 5) (oi := { dst := some 22, op := .fieldAddr 37 (.tmp 4) 1, type := _, pos := _, after := _, guard := some (4, false) }) (v := undef) rfl (by kernel_rfl) (by kernel_rfl) (by kernel_rfl) (fun _ _ _ h => h) (Or.inr ⟨by rfl, rfl⟩) hHeld ?_
        try simp only [Act.put, List.setIfInBounds_toArray, List.set_cons_zero, List.set_cons_succ]
        refine wpAnyH_take (i := 6) (oi := { dst := some 23, op := .load 3 (.tmp 22), type := _, pos := _, after := _, guard := some (4, false) }) (v := undef) rfl (by kernel_rfl) (by kernel_rfl) (by kernel_rfl) (fun _ _ _ h => h) (Or.inr ⟨by rfl, rfl⟩) hHeld ?_
        try simp only [Act.put, List.setIfInBounds_toArray, List.set_cons_zero, List.set_cons_succ]
        refine wpAnyH_take (i := 7) (oi := { dst := some 24, op := .call { callee := .value (.func 127), args := #[.tmp 23, .const (.int .i64 (-1)), .const (.int .i64 11)], argTypes := #[3, 3, 3] }, type := _, pos := _, after := _, guard := some (4, false) }) (v := undef) rfl (by kernel_rfl) (by kernel_rfl) (by kernel_rfl) (fun _ _ _ h => h) (Or.inr ⟨by rfl, rfl⟩) hHeld ?_
        try simp only [Act.put, List.setIfInBounds_toArray, List.set_cons_zero, List.set_cons_succ]
        refine wpAnyH_take (i := 8) (oi := { dst := some 25, op := .unOp .not 4 (.tmp 24), type := _, pos := _, after := _, guard := some (4, false) }) (v := undef) rfl (by kernel_rfl) (by kernel_rfl) (by kernel_rfl) (fun _ _ _ h => h) (Or.inr ⟨by rfl, rfl⟩) hHeld ?_
        try simp only [Act.put, List.setIfInBounds_toArray, List.set_cons_zero, List.set_cons_succ]
        refine wpAnyH_take (i := 9) (oi := { dst := some 26, op := .pick (.tmp 21) (.const (.bool true)) (.tmp 25), type := _, pos := _, after := _, guard := none }) (v := .bool true) rfl (by kernel_rfl) (by kernel_rfl) (by kernel_rfl) (fun _ _ _ h => h) (Or.inl ⟨by rfl, fun wh hSw => ?_⟩) hHeld ?_
        · (obtain ⟨s0, s1, s2, s3⟩ := hSw; go_simp)
        try simp only [Act.put, List.setIfInBounds_toArray, List.set_cons_zero, List.set_cons_succ]
        refine wpAnyH_take (i := 10) (oi := { dst := some 27, op := .move (.tmp 26), type := _, pos := _, after := _, guard := none }) (v := .bool true) rfl (by kernel_rfl) (by kernel_rfl) (by kernel_rfl) (fun _ _ _ h => h) (Or.inl ⟨by rfl, fun wh hSw => ?_⟩) hHeld ?_
        · (obtain ⟨s0, s1, s2, s3⟩ := hSw; go_simp)
        try simp only [Act.put, List.setIfInBounds_toArray, List.set_cons_zero, List.set_cons_succ]
        refine wpAnyH_take (i := 11) (oi := { dst := some 28, op := .fieldAddr 37 (.tmp 4) 1, type := _, pos := _, after := _, guard := some (10, false) }) (v := undef) rfl (by kernel_rfl) (by kernel_rfl) (by kernel_rfl) (fun _ _ _ h => h) (Or.inr ⟨by rfl, rfl⟩) hHeld ?_
        try simp only [Act.put, List.setIfInBounds_toArray, List.set_cons_zero, List.set_cons_succ]
        refine wpAnyH_take (i := 12) (oi := { dst := some 29, op := .load 3 (.tmp 28), type := _, pos := _, after := _, guard := some (10, false) }) (v := undef) rfl (by kernel_rfl) (by kernel_rfl) (by kernel_rfl) (fun _ _ _ h => h) (Or.inr ⟨by rfl, rfl⟩) hHeld ?_
        try simp only [Act.put, List.setIfInBounds_toArray, List.set_cons_zero, List.set_cons_succ]
        refine wpAnyH_take (i := 13) (oi := { dst := some 30, op := .binOp .geq 3 (.tmp 29) (.const (.int .i64 0)) 3, type := _, pos := _, after := _, guard := some (10, false) }) (v := undef) rfl (by kernel_rfl) (by kernel_rfl) (by kernel_rfl) (fun _ _ _ h => h) (Or.inr ⟨by rfl, rfl⟩) hHeld ?_
        try simp only [Act.put, List.setIfInBounds_toArray, List.set_cons_zero, List.set_cons_succ]
        refine wpAnyH_take (i := 14) (oi := { dst := some 31, op := .move (.tmp 30), type := _, pos := _, after := _, guard := some (10, false) }) (v := undef) rfl (by kernel_rfl) (by kernel_rfl) (by kernel_rfl) (fun _ _ _ h => h) (Or.inr ⟨by rfl, rfl⟩) hHeld ?_
        try simp only [Act.put, List.setIfInBounds_toArray, List.set_cons_zero, List.set_cons_succ]
        refine wpAnyH_take (i := 15) (oi := { dst := some 32, op := .fieldAddr 30 (.tmp 1) 1, type := _, pos := _, after := _, guard := some (14, true) }) (v := undef) rfl (by kernel_rfl) (by kernel_rfl) (by kernel_rfl) (fun _ _ _ h => h) (Or.inr ⟨by rfl, rfl⟩) hHeld ?_
        try simp only [Act.put, List.setIfInBounds_toArray, List.set_cons_zero, List.set_cons_succ]
        refine wpAnyH_take (i := 16) (oi := { dst := some 33, op := .load 26 (.tmp 32), type := _, pos := _, after := _, guard := some (14, true) }) (v := undef) rfl (by kernel_rfl) (by kernel_rfl) (by kernel_rfl) (fun _ _ _ h => h) (Or.inr ⟨by rfl, rfl⟩) hHeld ?_
        try simp only [Act.put, List.setIfInBounds_toArray, List.set_cons_zero, List.set_cons_succ]
        refine wpAnyH_take (i := 17) (oi := { dst := some 34, op := .fieldAddr 37 (.tmp 4) 1, type := _, pos := _, after := _, guard := some (14, true) }) (v := undef) rfl (by kernel_rfl) (by kernel_rfl) (by kernel_rfl) (fun _ _ _ h => h) (Or.inr ⟨by rfl, rfl⟩) hHeld ?_
        try simp only [Act.put, List.setIfInBounds_toArray, List.set_cons_zero, List.set_cons_succ]
        refine wpAnyH_take (i := 18) (oi := { dst := some 35, op := .load 3 (.tmp 34), type := _, pos := _, after := _, guard := some (14, true) }) (v := undef) rfl (by kernel_rfl) (by kernel_rfl) (by kernel_rfl) (fun _ _ _ h => h) (Or.inr ⟨by rfl, rfl⟩) hHeld ?_
        try simp only [Act.put, List.setIfInBounds_toArray, List.set_cons_zero, List.set_cons_succ]
        refine wpAnyH_take (i := 19) (oi := { dst := some 36, op := .indexAddr 26 (.tmp 33) (.tmp 35), type := _, pos := _, after := _, guard := some (14, true) }) (v := undef) rfl (by kernel_rfl) (by kernel_rfl) (by kernel_rfl) (fun _ _ _ h => h) (Or.inr ⟨by rfl, rfl⟩) hHeld ?_
        try simp only [Act.put, List.setIfInBounds_toArray, List.set_cons_zero, List.set_cons_succ]
        refine wpAnyH_take (i := 20) (oi := { dst := some 37, op := .fieldAddr 46 (.tmp 36) 0, type := _, pos := _, after := _, guard := some (14, true) }) (v := undef) rfl (by kernel_rfl) (by kernel_rfl) (by kernel_rfl) (fun _ _ _ h => h) (Or.inr ⟨by rfl, rfl⟩) hHeld ?_
        try simp only [Act.put, List.setIfInBounds_toArray, List.set_cons_zero, List.set_cons_succ]
        refine wpAnyH_take (i := 21) (oi := { dst := some 38, op := .load 3 (.tmp 37), type := _, pos := _, after := _, guard := some (14, true) }) (v := undef) rfl (by kernel_rfl) (by kernel_rfl) (by kernel_rfl) (fun _ _ _ h => h) (Or.inr ⟨by rfl, rfl⟩) hHeld ?_
        try simp only [Act.put, List.setIfInBounds_toArray, List.set_cons_zero, List.set_cons_succ]
        refine wpAnyH_take (i := 22) (oi := { dst := some 39, op := .binOp .neq 3 (.tmp 38) (.const (.int .i64 3)) 3, type := _, pos := _, after := _, guard := some (14, true) }) (v := undef) rfl (by kernel_rfl) (by kernel_rfl) (by kernel_rfl) (fun _ _ _ h => h) (Or.inr ⟨by rfl, rfl⟩) hHeld ?_
        try simp only [Act.put, List.setIfInBounds_toArray, List.set_cons_zero, List.set_cons_succ]
        refine wpAnyH_take (i := 23) (oi := { dst := some 40, op := .pick (.tmp 31) (.tmp 39) (.const (.bool false)), type := _, pos := _, after := _, guard := some (10, false) }) (v := undef) rfl (by kernel_rfl) (by kernel_rfl) (by kernel_rfl) (fun _ _ _ h => h) (Or.inr ⟨by rfl, rfl⟩) hHeld ?_
        try simp only [Act.put, List.setIfInBounds_toArray, List.set_cons_zero, List.set_cons_succ]
        refine wpAnyH_take (i := 24) (oi := { dst := some 41, op := .pick (.tmp 27) (.const (.bool true)) (.tmp 40), type := _, pos := _, after := _, guard := none }) (v := .bool true) rfl (by kernel_rfl) (by kernel_rfl) (by kernel_rfl) (fun _ _ _ h => h) (Or.inl ⟨by rfl, fun wh hSw => ?_⟩) hHeld ?_
        · (obtain ⟨s0, s1, s2, s3⟩ := hSw; go_simp)
        try simp only [Act.put, List.setIfInBounds_toArray, List.set_cons_zero, List.set_cons_succ]
        refine wpAnyH_take (i := 25) (oi := { dst := some 42, op := .move (.tmp 41), type := _, pos := _, after := _, guard := none }) (v := .bool true) rfl (by kernel_rfl) (by kernel_rfl) (by kernel_rfl) (fun _ _ _ h => h) (Or.inl ⟨by rfl, fun wh hSw => ?_⟩) hHeld ?_
        · (obtain ⟨s0, s1, s2, s3⟩ := hSw; go_simp)
        try simp only [Act.put, List.setIfInBounds_toArray, List.set_cons_zero, List.set_cons_succ]
        refine wpAnyH_take (i := 26) (oi := { dst := some 43, op := .fieldAddr 30 (.tmp 1) 1, type := _, pos := _, after := _, guard := some (25, false) }) (v := undef) rfl (by kernel_rfl) (by kernel_rfl) (by kernel_rfl) (fun _ _ _ h => h) (Or.inr ⟨by rfl, rfl⟩) hHeld ?_
        try simp only [Act.put, List.setIfInBounds_toArray, List.set_cons_zero, List.set_cons_succ]
        refine wpAnyH_take (i := 27) (oi := { dst := some 44, op := .load 26 (.tmp 43), type := _, pos := _, after := _, guard := some (25, false) }) (v := undef) rfl (by kernel_rfl) (by kernel_rfl) (by kernel_rfl) (fun _ _ _ h => h) (Or.inr ⟨by rfl, rfl⟩) hHeld ?_
        try simp only [Act.put, List.setIfInBounds_toArray, List.set_cons_zero, List.set_cons_succ]
        refine wpAnyH_take (i := 28) (oi := { dst := some 45, op := .fieldAddr 30 (.tmp 1) 0, type := _, pos := _, after := _, guard := some (25, false) }) (v := undef) rfl (by kernel_rfl) (by kernel_rfl) (by kernel_rfl) (fun _ _ _ h => h) (Or.inr ⟨by rfl, rfl⟩) hHeld ?_
        try simp only [Act.put, List.setIfInBounds_toArray, List.set_cons_zero, List.set_cons_succ]
        refine wpAnyH_take (i := 29) (oi := { dst := some 46, op := .load 25 (.tmp 45), type := _, pos := _, after := _, guard := some (25, false) }) (v := undef) rfl (by kernel_rfl) (by kernel_rfl) (by kernel_rfl) (fun _ _ _ h => h) (Or.inr ⟨by rfl, rfl⟩) hHeld ?_
        try simp only [Act.put, List.setIfInBounds_toArray, List.set_cons_zero, List.set_cons_succ]
        refine wpAnyH_take (i := 30) (oi := { dst := some 47, op := .fieldAddr 37 (.tmp 4) 1, type := _, pos := _, after := _, guard := some (25, false) }) (v := undef) rfl (by kernel_rfl) (by kernel_rfl) (by kernel_rfl) (fun _ _ _ h => h) (Or.inr ⟨by rfl, rfl⟩) hHeld ?_
        try simp only [Act.put, List.setIfInBounds_toArray, List.set_cons_zero, List.set_cons_succ]
        refine wpAnyH_take (i := 31) (oi := { dst := some 48, op := .load 3 (.tmp 47), type := _, pos := _, after := _, guard := some (25, false) }) (v := undef) rfl (by kernel_rfl) (by kernel_rfl) (by kernel_rfl) (fun _ _ _ h => h) (Or.inr ⟨by rfl, rfl⟩) hHeld ?_
        try simp only [Act.put, List.setIfInBounds_toArray, List.set_cons_zero, List.set_cons_succ]
        refine wpAnyH_take (i := 32) (oi := { dst := some 49, op := .call { callee := .value (.func 84), args := #[.tmp 46, .tmp 48], argTypes := #[25, 3] }, type := _, pos := _, after := _, guard := some (25, false) }) (v := undef) rfl (by kernel_rfl) (by kernel_rfl) (by kernel_rfl) (fun _ _ _ h => h) (Or.inr ⟨by rfl, rfl⟩) hHeld ?_
        try simp only [Act.put, List.setIfInBounds_toArray, List.set_cons_zero, List.set_cons_succ]
        refine wpAnyH_take (i := 33) (oi := { dst := some 50, op := .fieldAddr 37 (.tmp 4) 0, type := _, pos := _, after := _, guard := some (25, false) }) (v := undef) rfl (by kernel_rfl) (by kernel_rfl) (by kernel_rfl) (fun _ _ _ h => h) (Or.inr ⟨by rfl, rfl⟩) hHeld ?_
        try simp only [Act.put, List.setIfInBounds_toArray, List.set_cons_zero, List.set_cons_succ]
        refine wpAnyH_take (i := 34) (oi := { dst := some 51, op := .load 35 (.tmp 50), type := _, pos := _, after := _, guard := some (25, false) }) (v := undef) rfl (by kernel_rfl) (by kernel_rfl) (by kernel_rfl) (fun _ _ _ h => h) (Or.inr ⟨by rfl, rfl⟩) hHeld ?_
        try simp only [Act.put, List.setIfInBounds_toArray, List.set_cons_zero, List.set_cons_succ]
        refine wpAnyH_take (i := 35) (oi := { dst := some 52, op := .call { callee := .value (.func 128), args := #[.tmp 44, .tmp 49, .tmp 51], argTypes := #[26, 42, 35] }, type := _, pos := _, after := _, guard := some (25, false) }) (v := undef) rfl (by kernel_rfl) (by kernel_rfl) (by kernel_rfl) (fun _ _ _ h => h) (Or.inr ⟨by rfl, rfl⟩) hHeld ?_
        try simp only [Act.put, List.setIfInBounds_toArray, List.set_cons_zero, List.set_cons_succ]
        refine wpAnyH_take (i := 36) (oi := { dst := some 53, op := .unOp .not 4 (.tmp 52), type := _, pos := _, after := _, guard := some (25, false) }) (v := undef) rfl (by kernel_rfl) (by kernel_rfl) (by kernel_rfl) (fun _ _ _ h => h) (Or.inr ⟨by rfl, rfl⟩) hHeld ?_
        try simp only [Act.put, List.setIfInBounds_toArray, List.set_cons_zero, List.set_cons_succ]
        refine wpAnyH_take (i := 37) (oi := { dst := some 54, op := .pick (.tmp 42) (.const (.bool true)) (.tmp 53), type := _, pos := _, after := _, guard := none }) (v := .bool true) rfl (by kernel_rfl) (by kernel_rfl) (by kernel_rfl) (fun _ _ _ h => h) (Or.inl ⟨by rfl, fun wh hSw => ?_⟩) hHeld ?_
        · (obtain ⟨s0, s1, s2, s3⟩ := hSw; go_simp)
        try simp only [Act.put, List.setIfInBounds_toArray, List.set_cons_zero, List.set_cons_succ]
        refine wpAnyH_done (by kernel_rfl) ?_ _
        go_wp2_with fail
        go_ret
        exact ⟨by rw [HNX.out (by trivial)]; rfl, (HP0.out.go HB1.out).bel⟩
      | true =>
        have HII := Lib.hid (fun w => HIN.out w t)
        obtain ⟨b2, hb2⟩ : ∃ b, b = inR t (-1) 11 := ⟨_, rfl⟩
        rw [← hb2] at HII HNX HGX
        have HB2 := Lib.hid hb2
        clear hb2
        cases b2 with
        | false =>
          go_wp2_with fail
          rw [← HXX.out, ← HW0.out]
          refine wp_region_held_drew (S := fun w' => w'.cell? ⟨w.heap.size, 0, none⟩ = some vm ∧ w'.cell? ⟨w.heap.size, 1, none⟩ = some (.slice a0 12 c0) ∧ w'.cell? ⟨X, 0, none⟩ = some (.slice ua rs.length uc) ∧ w'.cell? ⟨X, 1, none⟩ = some (.int .i64 t)) (by kernel_rfl) (FS.out _ (Below.refl _ _).drew) (fun hHeld => ?_)
          refine wpAnyH_take (i := 0) (oi := { dst := some 17, op := .fieldAddr 37 (.tmp 4) 0, type := _, pos := _, after := _, guard := none }) (v := .pointer (some ⟨X, 0, none⟩)) rfl (by kernel_rfl) (by kernel_rfl) (by kernel_rfl) (fun _ _ _ h => h) (Or.inl ⟨by rfl, fun wh hSw => ?_⟩) hHeld ?_
          · (obtain ⟨s0, s1, s2, s3⟩ := hSw; go_simp)
          try simp only [Act.put, List.setIfInBounds_toArray, List.set_cons_zero, List.set_cons_succ]
          refine wpAnyH_take (i := 1) (oi := { dst := some 18, op := .load 35 (.tmp 17), type := _, pos := _, after := _, guard := none }) (v := .slice ua rs.length uc) rfl (by kernel_rfl) (by kernel_rfl) (by kernel_rfl) (fun _ _ _ h => h) (Or.inl ⟨by rfl, fun wh hSw => ?_⟩) hHeld ?_
          · (obtain ⟨s0, s1, s2, s3⟩ := hSw; go_simp)
          try simp only [Act.put, List.setIfInBounds_toArray, List.set_cons_zero, List.set_cons_succ]
          refine wpAnyH_ready (rs := [2]) (by kernel_rfl) (by simp) ?_
          refine AllReadyH.cons (o := { dst := some 19, op := .call { callee := .value (.func 54), args := #[.tmp 18], argTypes := #[35] }, type := _, pos := _, after := _, guard := none }) rfl (fun K hK => ?_) AllReadyH.nil
          go_simp
          refine HVR.out.mono ?_
          rintro e w1 ⟨rfl, nd, hnd⟩
          have HB1 : Hid (Below W0.heap.size W0 w1) := Lib.hid (by rw [hnd]; exact Below.chg (Below.refl _ _).drew (Chg.of_drewN _ nd) (Nat.le_refl _) (.inr rfl))
          clear hnd
          try go_simp
          refine hK.out _ _ ?_ (fun hHeld => ?_)
          · exact FS.out _ HB1.out
          clear hK K
          try simp only [Act.put, List.setIfInBounds_toArray, List.set_cons_zero, List.set_cons_succ]
          refine wpAnyH_take (i := 3) (oi := { dst := some 20, op := .unOp .not 4 (.tmp 19), type := _, pos := _, after := _, guard := none }) (v := .bool false) rfl (by kernel_rfl) (by kernel_rfl) (by kernel_rfl) (fun _ _ _ h => h) (Or.inl ⟨by rfl, fun wh hSw => ?_⟩) hHeld ?_
          · (obtain ⟨s0, s1, s2, s3⟩ := hSw; go_simp)
          try simp only [Act.put, List.setIfInBounds_toArray, List.set_cons_zero, List.set_cons_succ]
          refine wpAnyH_take (i := 4) (oi := { dst := some 21, op := .move (.tmp 20), type := _, pos := _, after := _, guard := none }) (v := .bool false) rfl (by kernel_rfl) (by kernel_rfl) (by kernel_rfl) (fun _ _ _ h => h) (Or.inl ⟨by rfl, fun wh hSw => ?_⟩) hHeld ?_
          · (obtain ⟨s0, s1, s2, s3⟩ := hSw; go_simp)
          try simp only [Act.put, List.setIfInBounds_toArray, List.set_cons_zero, List.set_cons_succ]
          refine wpAnyH_take (i := 5) (oi := { dst := some 22, op := .fieldAddr 37 (.tmp 4) 1, type := _, pos := _, after := _, guard := some (4, false) }) (v := .pointer (some ⟨X, 0 + 1, none⟩)) rfl (by kernel_rfl) (by kernel_rfl) (by kernel_rfl) (fun _ _ _ h => h) (Or.inl ⟨by rfl, fun wh hSw => ?_⟩) hHeld ?_
          · (obtain ⟨s0, s1, s2, s3⟩ := hSw; go_simp)
          try simp only [Act.put, List.setIfInBounds_toArray, List.set_cons_zero, List.set_cons_succ]
          refine wpAnyH_take (i := 6) (oi := { dst := some 23, op := .load 3 (.tmp 22), type := _, pos := _, after := _, guard := some (4, false) }) (v := .int .i64 t) rfl (by kernel_rfl) (by kernel_rfl) (by kernel_rfl) (fun _ _ _ h => h) (Or.inl ⟨by rfl, fun wh hSw => ?_⟩) hHeld ?_
          · (obtain ⟨s0, s1, s2, s3⟩ := hSw; go_simp)
          try simp only [Act.put, List.setIfInBounds_toArray, List.set_cons_zero, List.set_cons_succ]
          refine wpAnyH_ready (rs := [7]) (by kernel_rfl) (by simp) ?_
          refine AllReadyH.cons (o := { dst := some 24, op := .call { callee := .value (.func 127), args := #[.tmp 23, .const (.int .i64 (-1)), .const (.int .i64 11)], argTypes := #[3, 3, 3] }, type := _, pos := _, after := _, guard := some (4, false) }) rfl (fun K hK => ?_) AllReadyH.nil
          go_simp
          refine (HII.out _).mono ?_
          rintro e w' ⟨rfl, rfl⟩
          try go_simp
          refine hK.out _ _ ?_ (fun hHeld => ?_)
          · exact hHeld
          clear hK K
          try simp only [Act.put, List.setIfInBounds_toArray, List.set_cons_zero, List.set_cons_succ]
          refine wpAnyH_take (i := 8) (oi := { dst := some 25, op := .unOp .not 4 (.tmp 24), type := _, pos := _, after := _, guard := some (4, false) }) (v := .bool true) rfl (by kernel_rfl) (by kernel_rfl) (by kernel_rfl) (fun _ _ _ h => h) (Or.inl ⟨by rfl, fun wh hSw => ?_⟩) hHeld ?_
          · (obtain ⟨s0, s1, s2, s3⟩ := hSw; go_simp)
          try simp only [Act.put, List.setIfInBounds_toArray, List.set_cons_zero, List.set_cons_succ]
          refine wpAnyH_take (i := 9) (oi := { dst := some 26, op := .pick (.tmp 21) (.const (.bool true)) (.tmp 25), type := _, pos := _, after := _, guard := none }) (v := .bool true) rfl (by kernel_rfl) (by kernel_rfl) (by kernel_rfl) (fun _ _ _ h => h) (Or.inl ⟨by rfl, fun wh hSw => ?_⟩) hHeld ?_
          · (obtain ⟨s0, s1, s2, s3⟩ := hSw; go_simp)
          try simp only [Act.put, List.setIfInBounds_toArray, List.set_cons_zero, List.set_cons_succ]
          refine wpAnyH_take (i := 10) (oi := { dst := some 27, op := .move (.tmp 26), type := _, pos := _, after := _, guard := none }) (v := .bool true) rfl (by kernel_rfl) (by kernel_rfl) (by kernel_rfl) (fun _ _ _ h => h) (Or.inl ⟨by rfl, fun wh hSw => ?_⟩) hHeld ?_
          · (obtain ⟨s0, s1, s2, s3⟩ := hSw; go_simp)
          try simp only [Act.put, List.setIfInBounds_toArray, List.set_cons_zero, List.set_cons_succ]
          refine wpAnyH_take (i := 11) (oi := { dst := some 28, op := .fieldAddr 37 (.tmp 4) 1, type := _, pos := _, after := _, guard := some (10, false) }) (v := undef) rfl (by kernel_rfl) (by kernel_rfl) (by kernel_rfl) (fun _ _ _ h => h) (Or.inr ⟨by rfl, rfl⟩) hHeld ?_
          try simp only [Act.put, List.setIfInBounds_toArray, List.set_cons_zero, List.set_cons_succ]
          refine wpAnyH_take (i := 12) (oi := { dst := some 29, op := .load 3 (.tmp 28), type := _, pos := _, after := _, guard := some (10, false) }) (v := undef) rfl (by kernel_rfl) (by kernel_rfl) (by kernel_rfl) (fun _ _ _ h => h) (Or.inr ⟨by rfl, rfl⟩) hHeld ?_
          try simp only [Act.put, List.setIfInBounds_toArray, List.set_cons_zero, List.set_cons_succ]
          refine wpAnyH_take (i := 13) (oi := { dst := some 30, op := .binOp .geq 3 (.tmp 29) (.const (.int .i64 0)) 3, type := _, pos := _, after := _, guard := some (10, false) }) (v := undef) rfl (by kernel_rfl) (by kernel_rfl) (by kernel_rfl) (fun _ _ _ h => h) (Or.inr ⟨by rfl, rfl⟩) hHeld ?_
          try simp only [Act.put, List.setIfInBounds_toArray, List.set_cons_zero, List.set_cons_succ]
          refine wpAnyH_take (i := 14) (oi := { dst := some 31, op := .move (.tmp 30), type := _, pos := _, after := _, guard := some (10, false) }) (v := undef) rfl (by kernel_rfl) (by kernel_rfl) (by kernel_rfl) (fun _ _ _ h => h) (Or.inr ⟨by rfl, rfl⟩) hHeld ?_
          try simp only [Act.put, List.setIfInBounds_toArray, List.set_cons_zero, List.set_cons_succ]
          refine wpAnyH_take (i := 15) (oi := { dst := some 32, op := .fieldAddr 30 (.tmp 1) 1, type := _, pos := _, after := _, guard := some (14, true) }) (v := undef) rfl (by kernel_rfl) (by kernel_rfl) (by kernel_rfl) (fun _ _ _ h => h) (Or.inr ⟨by rfl, rfl⟩) hHeld ?_
          try simp only [Act.put, List.setIfInBounds_toArray, List.set_cons_zero, List.set_cons_succ]
          refine wpAnyH_take (i := 16) (oi := { dst := some 33, op := .load 26 (.tmp 32), type := _, pos := _, after := _, guard := some (14, true) }) (v := undef) rfl (by kernel_rfl) (by kernel_rfl) (by kernel_rfl) (fun _ _ _ h => h) (Or.inr ⟨by rfl, rfl⟩) hHeld ?_
          try simp only [Act.put, List.setIfInBounds_toArray, List.set_cons_zero, List.set_cons_succ]
          refine wpAnyH_take (i := 17) (oi := { dst := some 34, op := .fieldAddr 37 (.tmp 4) 1, type := _, pos := _, after := _, guard := some (14, true) }) (v := undef) rfl (by kernel_rfl) (by kernel_rfl) (by kernel_rfl) (fun _ _ _ h => h) (Or.inr ⟨by rfl, rfl⟩) hHeld ?_
          try simp only [Act.put, List.setIfInBounds_toArray, List.set_cons_zero, List.set_cons_succ]
          refine wpAnyH_take (i := 18) (oi := { dst := some 35, op := .load 3 (.tmp 34), type := _, pos := _, after := _, guard := some (14, true) }) (v := undef) rfl (by kernel_rfl) (by kernel_rfl) (by kernel_rfl) (fun _ _ _ h => h) (Or.inr ⟨by rfl, rfl⟩) hHeld ?_
          try simp only [Act.put, List.setIfInBounds_toArray, List.set_cons_zero, List.set_cons_succ]
          refine wpAnyH_take (i := 19) (oi := { dst := some 36, op := .indexAddr 26 (.tmp 33) (.tmp 35), type := _, pos := _, after := _, guard := some (14, true) }) (v := undef) rfl (by kernel_rfl) (by kernel_rfl) (by kernel_rfl) (fun _ _ _ h => h) (Or.inr ⟨by rfl, rfl⟩) hHeld ?_
          try simp only [Act.put, List.setIfInBounds_toArray, List.set_cons_zero, List.set_cons_succ]
          refine wpAnyH_take (i := 20) (oi := { dst := some 37, op := .fieldAddr 46 (.tmp 36) 0, type := _, pos := _, after := _, guard := some (14, true) }) (v := undef) rfl (by kernel_rfl) (by kernel_rfl) (by kernel_rfl) (fun _ _ _ h => h) (Or.inr ⟨by rfl, rfl⟩) hHeld ?_
          try simp only [Act.put, List.setIfInBounds_toArray, List.set_cons_zero, List.set_cons_succ]
          refine wpAnyH_take (i := 21) (oi := { dst := some 38, op := .load 3 (.tmp 37), type := _, pos := _, after := _, guard := some (14, true) }) (v := undef) rfl (by kernel_rfl) (by kernel_rfl) (by kernel_rfl) (fun _ _ _ h => h) (Or.inr ⟨by rfl, rfl⟩) hHeld ?_
          try simp only [Act.put, List.setIfInBounds_toArray, List.set_cons_zero, List.set_cons_succ]
          refine wpAnyH_take (i := 22) (oi := { dst := some 39, op := .binOp .neq 3 (.tmp 38) (.const (.int .i64 3)) 3, type := _, pos := _, after := _, guard := some (14, true) }) (v := undef) rfl (by kernel_rfl) (by kernel_rfl) (by kernel_rfl) (fun _ _ _ h => h) (Or.inr ⟨by rfl, rfl⟩) hHeld ?_
          try simp only [Act.put, List.setIfInBounds_toArray, List.set_cons_zero, List.set_cons_succ]
          refine wpAnyH_take (i := 23) (oi := { dst := some 40, op := .pick (.tmp 31) (.tmp 39) (.const (.bool false)), type := _, pos := _, after := _, guard := some (10, false) }) (v := undef) rfl (by kernel_rfl) (by kernel_rfl) (by kernel_rfl) (fun _ _ _ h => h) (Or.inr ⟨by rfl, rfl⟩) hHeld ?_
          try simp only [Act.put, List.setIfInBounds_toArray, List.set_cons_zero, List.set_cons_succ]
          refine wpAnyH_take (i := 24) (oi := { dst := some 41, op := .pick (.tmp 27) (.const (.bool true)) (.tmp 40), type := _, pos := _, after := _, guard := none }) (v := .bool true) rfl (by kernel_rfl) (by kernel_rfl) (by kernel_rfl) (fun _ _ _ h => h) (Or.inl ⟨by rfl, fun wh hSw => ?_⟩) hHeld ?_
          · (obtain ⟨s0, s1, s2, s3⟩ := hSw; go_simp)
          try simp only [Act.put, List.setIfInBounds_toArray, List.set_cons_zero, List.set_cons_succ]
          refine wpAnyH_take (i := 25) (oi := { dst := some 42, op := .move (.tmp 41), type := _, pos := _, after := _, guard := none }) (v := .bool true) rfl (by kernel_rfl) (by kernel_rfl) (by kernel_rfl) (fun _ _ _ h => h) (Or.inl ⟨by rfl, fun wh hSw => ?_⟩) hHeld ?_
          · (obtain ⟨s0, s1, s2, s3⟩ := hSw; go_simp)
          try simp only [Act.put, List.setIfInBounds_toArray, List.set_cons_zero, List.set_cons_succ]
          refine wpAnyH_take (i := 26) (oi := { dst := some 43, op := .fieldAddr 30 (.tmp 1) 1, type := _, pos := _, after := _, guard := some (25, false) }) (v := undef) rfl (by kernel_rfl) (by kernel_rfl) (by kernel_rfl) (fun _ _ _ h => h) (Or.inr ⟨by rfl, rfl⟩) hHeld ?_
          try simp only [Act.put, List.setIfInBounds_toArray, List.set_cons_zero, List.set_cons_succ]
          refine wpAnyH_take (i := 27) (oi := { dst := some 44, op := .load 26 (.tmp 43), type := _, pos := _, after := _, guard := some (25, false) }) (v := undef) rfl (by kernel_rfl) (by kernel_rfl) (by kernel_rfl) (fun _ _ _ h => h) (Or.inr ⟨by rfl, rfl⟩) hHeld ?_
          try simp only [Act.put, List.setIfInBounds_toArray, List.set_cons_zero, List.set_cons_succ]
          refine wpAnyH_take (i := 28) (oi := { dst := some 45, op := .fieldAddr 30 (.tmp 1) 0, type := _, pos := _, after := _, guard := some (25, false) }) (v := undef) rfl (by kernel_rfl) (by kernel_rfl) (by kernel_rfl) (fun _ _ _ h => h) (Or.inr ⟨by rfl, rfl⟩) hHeld ?_
          try simp only [Act.put, List.setIfInBounds_toArray, List.set_cons_zero, List.set_cons_succ]
          refine wpAnyH_take (i := 29) (oi := { dst := some 46, op := .load 25 (.tmp 45), type := _, pos := _, after := _, guard := some (25, false) }) (v := undef) rfl (by kernel_rfl) (by kernel_rfl) (by kernel_rfl) (fun _ _ _ h => h) (Or.inr ⟨by rfl, rfl⟩) hHeld ?_
          try simp only [Act.put, List.setIfInBounds_toArray, List.set_cons_zero, List.set_cons_succ]
          refine wpAnyH_take (i := 30) (oi := { dst := some 47, op := .fieldAddr 37 (.tmp 4) 1, type := _, pos := _, after := _, guard := some (25, false) }) (v := undef) rfl (by kernel_rfl) (by kernel_rfl) (by kernel_rfl) (fun _ _ _ h => h) (Or.inr ⟨by rfl, rfl⟩) hHeld ?_
          try simp only [Act.put, List.setIfInBounds_toArray, List.set_cons_zero, List.set_cons_succ]
          refine wpAnyH_take (i := 31) (oi := { dst := some 48, op := .load 3 (.tmp 47), type := _, pos := _, after := _, guard := some (25, false) }) (v := undef) rfl (by kernel_rfl) (by kernel_rfl) (by kernel_rfl) (fun _ _ _ h => h) (Or.inr ⟨by rfl, rfl⟩) hHeld ?_
          try simp only [Act.put, List.setIfInBounds_toArray, List.set_cons_zero, List.set_cons_succ]
          refine wpAnyH_take (i := 32) (oi := { dst := some 49, op := .call { callee := .value (.func 84), args := #[.tmp 46, .tmp 48], argTypes := #[25, 3] }, type := _, pos := _, after := _, guard := some (25, false) }) (v := undef) rfl (by kernel_rfl) (by kernel_rfl) (by kernel_rfl) (fun _ _ _ h => h) (Or.inr ⟨by rfl, rfl⟩) hHeld ?_
          try simp only [Act.put, List.setIfInBounds_toArray, List.set_cons_zero, List.set_cons_succ]
          refine wpAnyH_take (i := 33) (oi := { dst := some 50, op := .fieldAddr 37 (.tmp 4) 0, type := _, pos := _, after := _, guard := some (25, false) }) (v := undef) rfl (by kernel_rfl) (by kernel_rfl) (by kernel_rfl) (fun _ _ _ h => h) (Or.inr ⟨by rfl, rfl⟩) hHeld ?_
          try simp only [Act.put, List.setIfInBounds_toArray, List.set_cons_zero, List.set_cons_succ]
          refine wpAnyH_take (i := 34) (oi := { dst := some 51, op := .load 35 (.tmp 50), type := _, pos := _, after := _, guard := some (25, false) }) (v := undef) rfl (by kernel_rfl) (by kernel_rfl) (by kernel_rfl) (fun _ _ _ h => h) (Or.inr ⟨by rfl, rfl⟩) hHeld ?_
          try simp only [Act.put, List.setIfInBounds_toArray, List.set_cons_zero, List.set_cons_succ]
          refine wpAnyH_take (i := 35) (oi := { dst := some 52, op := .call { callee := .value (.func 128), args := #[.tmp 44, .tmp 49, .tmp 51], argTypes := #[26, 42, 35] }, type := _, pos := _, after := _, guard := some (25, false) }) (v := undef) rfl (by kernel_rfl) (by kernel_rfl) (by kernel_rfl) (fun _ _ _ h => h) (Or.inr ⟨by rfl, rfl⟩) hHeld ?_
          try simp only [Act.put, List.setIfInBounds_toArray, List.set_cons_zero, List.set_cons_succ]
          refine wpAnyH_take (i := 36) (oi := { dst := some 53, op := .unOp .not 4 (.tmp 52), type := _, pos := _, after := _, guard := some (25, false) }) (v := undef) rfl (by kernel_rfl) (by kernel_rfl) (by kernel_rfl) (fun _ _ _ h => h) (Or.inr ⟨by rfl, rfl⟩) hHeld ?_
          try simp only [Act.put, List.setIfInBounds_toArray, List.set_cons_zero, List.set_cons_succ]
          refine wpAnyH_take (i := 37) (oi := { dst := some 54, op := .pick (.tmp 42) (.const (.bool true)) (.tmp 53), type := _, pos := _, after := _, guard := none }) (v := .bool true) rfl (by kernel_rfl) (by kernel_rfl) (by kernel_rfl) (fun _ _ _ h => h) (Or.inl ⟨by rfl, fun wh hSw => ?_⟩) hHeld ?_
          · (obtain ⟨s0, s1, s2, s3⟩ := hSw; go_simp)
          try simp only [Act.put, List.setIfInBounds_toArray, List.set_cons_zero, List.set_cons_succ]
          refine wpAnyH_done (by kernel_rfl) ?_ _
          go_wp2_with fail
          go_ret
          exact ⟨by rw [HNX.out (by trivial)]; rfl, (HP0.out.go HB1.out).bel⟩
        | true =>
          have htr := inR_iff.1 HB2.out.symm
          have HRR : Hid (∀ W, Below W0.heap.size W0 W → Calls Tryz.prog 84 #[vm, .int .i64 t] W (NewI (reach M t) W)) := Lib.hid (fun W hW => HRE.out W t (HP0.out.bel.trans (hW.mono HP0.out.bel.size)) (by omega))
          have HAA : Hid (∀ W vf, Below W0.heap.size W0 W → Ints W vf (reach M t) → Calls Tryz.prog 128 #[.slice a0 12 c0, vf, .slice ua rs.length uc] W (Says (alw I (reach M t) rs) W)) := Lib.hid (fun W vf hW hf => HAL.out W vf _ t rs (HP0.out.bel.trans (hW.mono HP0.out.bel.size)) hf (HU0.out.below hW) HSR.out)
          by_cases ht0 : 0 ≤ t
          · obtain ⟨j, rfl, hj12, b0, o0, rfl, ht⟩ := HK2.out (by omega) htr.1 ht0
            have FT : Hid (∀ W, Below W0.heap.size W0 W → W.cell? ⟨w.heap.size, 0, none⟩ = some vm ∧ W.cell? ⟨w.heap.size, 1, none⟩ = some (.slice (some ⟨b0, o0, none⟩) 12 c0) ∧ W.cell? ⟨X, 0, none⟩ = some (.slice ua rs.length uc) ∧ W.cell? ⟨X, 1, none⟩ = some (.int .i64 (j : Int)) ∧ W.cell? ⟨b0, o0 + j * 3, none⟩ = some (.int .i64 (I.getD j iz).k)) := Lib.hid (fun W hW => ⟨(FS.out W hW).1, (FS.out W hW).2.1, (FS.out W hW).2.2.1, (FS.out W hW).2.2.2, (ht.below (HP0.out.bel.trans (hW.mono HP0.out.bel.size)) ht.lt).c0⟩)
            have hng : ¬ (j : Int) < 0 := by omega
            rw [decide_eq_false hng, Bool.false_or, Int.toNat_natCast] at HNX HGX
            obtain ⟨kd, hkd⟩ : ∃ kd, kd = (I.getD j iz).k := ⟨_, rfl⟩
            rw [← hkd] at FT HNX HGX
            have hj0 : (0 : Int) ≤ (j : Int) := by omega
            have hj12' : (j : Int) < 12 := by omega
            clear ht hkd FS HK2 ht0
            by_cases hk : kd = 3
            · subst hk
              obtain ⟨b5, hb5⟩ : ∃ b, b = alw I (reach M (j : Int)) rs := ⟨_, rfl⟩
              rw [← hb5] at HAA HNX HGX
              clear hb5
              cases b5 with
              | false =>
                go_wp2_with fail
                rw [← HXX.out, ← HW0.out]
                refine wp_region_held_drew (S := fun w' => w'.cell? ⟨w.heap.size, 0, none⟩ = some vm ∧ w'.cell? ⟨w.heap.size, 1, none⟩ = some (.slice (some ⟨b0, o0, none⟩) 12 c0) ∧ w'.cell? ⟨X, 0, none⟩ = some (.slice ua rs.length uc) ∧ w'.cell? ⟨X, 1, none⟩ = some (.int .i64 (j : Int)) ∧ w'.cell? ⟨b0, o0 + j * 3, none⟩ = some (.int .i64 3)) (by kernel_rfl) (FT.out _ (Below.refl _ _).drew) (fun hHeld => ?_)
                refine wpAnyH_take (i := 0) (oi := { dst := some 17, op := .fieldAddr 37 (.tmp 4) 0, type := _, pos := _, after := _, guard := none }) (v := .pointer (some ⟨X, 0, none⟩)) rfl (by kernel_rfl) (by kernel_rfl) (by kernel_rfl) (fun _ _ _ h => h) (Or.inl ⟨by rfl, fun wh hSw => ?_⟩) hHeld ?_
                · (obtain ⟨s0, s1, s2, s3, s4⟩ := hSw; go_simp)
                try simp only [Act.put, List.setIfInBounds_toArray, List.set_cons_zero, List.set_cons_succ]
                refine wpAnyH_take (i := 1) (oi := { dst := some 18, op := .load 35 (.tmp 17), type := _, pos := _, after := _, guard := none }) (v := .slice ua rs.length uc) rfl (by kernel_rfl) (by kernel_rfl) (by kernel_rfl) (fun _ _ _ h => h) (Or.inl ⟨by rfl, fun wh hSw => ?_⟩) hHeld ?_
                · (obtain ⟨s0, s1, s2, s3, s4⟩ := hSw; go_simp)
                try simp only [Act.put, List.setIfInBounds_toArray, List.set_cons_zero, List.set_cons_succ]
                refine wpAnyH_ready (rs := [2]) (by kernel_rfl) (by simp) ?_
                refine AllReadyH.cons (o := { dst := some 19, op := .call { callee := .value (.func 54), args := #[.tmp 18], argTypes := #[35] }, type := _, pos := _, after := _, guard := none }) rfl (fun K hK => ?_) AllReadyH.nil
                go_simp
                refine HVR.out.mono ?_
                rintro e w1 ⟨rfl, nd, hnd⟩
                have HB1 : Hid (Below W0.heap.size W0 w1) := Lib.hid (by rw [hnd]; exact Below.chg (Below.refl _ _).drew (Chg.of_drewN _ nd) (Nat.le_refl _) (.inr rfl))
                clear hnd
                try go_simp
                refine hK.out _ _ ?_ (fun hHeld => ?_)
                · exact FT.out _ HB1.out
                clear hK K
                try simp only [Act.put, List.setIfInBounds_toArray, List.set_cons_zero, List.set_cons_succ]
                refine wpAnyH_take (i := 3) (oi := { dst := some 20, op := .unOp .not 4 (.tmp 19), type := _, pos := _, after := _, guard := none }) (v := .bool false) rfl (by kernel_rfl) (by kernel_rfl) (by kernel_rfl) (fun _ _ _ h => h) (Or.inl ⟨by rfl, fun wh hSw => ?_⟩) hHeld ?_
                · (obtain ⟨s0, s1, s2, s3, s4⟩ := hSw; go_simp)
                try simp only [Act.put, List.setIfInBounds_toArray, List.set_cons_zero, List.set_cons_succ]
                refine wpAnyH_take (i := 4) (oi := { dst := some 21, op := .move (.tmp 20), type := _, pos := _, after := _, guard := none }) (v := .bool false) rfl (by kernel_rfl) (by kernel_rfl) (by kernel_rfl) (fun _ _ _ h => h) (Or.inl ⟨by rfl, fun wh hSw => ?_⟩) hHeld ?_
                · (obtain ⟨s0, s1, s2, s3, s4⟩ := hSw; go_simp)
                try simp only [Act.put, List.setIfInBounds_toArray, List.set_cons_zero, List.set_cons_succ]
                refine wpAnyH_take (i := 5) (oi := { dst := some 22, op := .fieldAddr 37 (.tmp 4) 1, type := _, pos := _, after := _, guard := some (4, false) }) (v := .pointer (some ⟨X, 0 + 1, none⟩)) rfl (by kernel_rfl) (by kernel_rfl) (by kernel_rfl) (fun _ _ _ h => h) (Or.inl ⟨by rfl, fun wh hSw => ?_⟩) hHeld ?_
                · (obtain ⟨s0, s1, s2, s3, s4⟩ := hSw; go_simp)
                try simp only [Act.put, List.setIfInBounds_toArray, List.set_cons_zero, List.set_cons_succ]
                refine wpAnyH_take (i := 6) (oi := { dst := some 23, op := .load 3 (.tmp 22), type := _, pos := _, after := _, guard := some (4, false) }) (v := .int .i64 (j : Int)) rfl (by kernel_rfl) (by kernel_rfl) (by kernel_rfl) (fun _ _ _ h => h) (Or.inl ⟨by rfl, fun wh hSw => ?_⟩) hHeld ?_
                · (obtain ⟨s0, s1, s2, s3, s4⟩ := hSw; go_simp)
                try simp only [Act.put, List.setIfInBounds_toArray, List.set_cons_zero, List.set_cons_succ]
                refine wpAnyH_ready (rs := [7]) (by kernel_rfl) (by simp) ?_
                refine AllReadyH.cons (o := { dst := some 24, op := .call { callee := .value (.func 127), args := #[.tmp 23, .const (.int .i64 (-1)), .const (.int .i64 11)], argTypes := #[3, 3, 3] }, type := _, pos := _, after := _, guard := some (4, false) }) rfl (fun K hK => ?_) AllReadyH.nil
                go_simp
                refine (HII.out _).mono ?_
                rintro e w' ⟨rfl, rfl⟩
                try go_simp
                refine hK.out _ _ ?_ (fun hHeld => ?_)
                · exact hHeld
                clear hK K
                try simp only [Act.put, List.setIfInBounds_toArray, List.set_cons_zero, List.set_cons_succ]
                refine wpAnyH_take (i := 8) (oi := { dst := some 25, op := .unOp .not 4 (.tmp 24), type := _, pos := _, after := _, guard := some (4, false) }) (v := .bool false) rfl (by kernel_rfl) (by kernel_rfl) (by kernel_rfl) (fun _ _ _ h => h) (Or.inl ⟨by rfl, fun wh hSw => ?_⟩) hHeld ?_
                · (obtain ⟨s0, s1, s2, s3, s4⟩ := hSw; go_simp)
                try simp only [Act.put, List.setIfInBounds_toArray, List.set_cons_zero, List.set_cons_succ]
                refine wpAnyH_take (i := 9) (oi := { dst := some 26, op := .pick (.tmp 21) (.const (.bool true)) (.tmp 25), type := _, pos := _, after := _, guard := none }) (v := .bool false) rfl (by kernel_rfl) (by kernel_rfl) (by kernel_rfl) (fun _ _ _ h => h) (Or.inl ⟨by rfl, fun wh hSw => ?_⟩) hHeld ?_
                · (obtain ⟨s0, s1, s2, s3, s4⟩ := hSw; go_simp)
                try simp only [Act.put, List.setIfInBounds_toArray, List.set_cons_zero, List.set_cons_succ]
                refine wpAnyH_take (i := 10) (oi := { dst := some 27, op := .move (.tmp 26), type := _, pos := _, after := _, guard := none }) (v := .bool false) rfl (by kernel_rfl) (by kernel_rfl) (by kernel_rfl) (fun _ _ _ h => h) (Or.inl ⟨by rfl, fun wh hSw => ?_⟩) hHeld ?_
                · (obtain ⟨s0, s1, s2, s3, s4⟩ := hSw; go_simp)
                try simp only [Act.put, List.setIfInBounds_toArray, List.set_cons_zero, List.set_cons_succ]
                refine wpAnyH_take (i := 11) (oi := { dst := some 28, op := .fieldAddr 37 (.tmp 4) 1, type := _, pos := _, after := _, guard := some (10, false) }) (v := .pointer (some ⟨X, 0 + 1, none⟩)) rfl (by kernel_rfl) (by kernel_rfl) (by kernel_rfl) (fun _ _ _ h => h) (Or.inl ⟨by rfl, fun wh hSw => ?_⟩) hHeld ?_
                · (obtain ⟨s0, s1, s2, s3, s4⟩ := hSw; go_simp)
                try simp only [Act.put, List.setIfInBounds_toArray, List.set_cons_zero, List.set_cons_succ]
                refine wpAnyH_take (i := 12) (oi := { dst := some 29, op := .load 3 (.tmp 28), type := _, pos := _, after := _, guard := some (10, false) }) (v := .int .i64 (j : Int)) rfl (by kernel_rfl) (by kernel_rfl) (by kernel_rfl) (fun _ _ _ h => h) (Or.inl ⟨by rfl, fun wh hSw => ?_⟩) hHeld ?_
                · (obtain ⟨s0, s1, s2, s3, s4⟩ := hSw; go_simp)
                try simp only [Act.put, List.setIfInBounds_toArray, List.set_cons_zero, List.set_cons_succ]
                refine wpAnyH_take (i := 13) (oi := { dst := some 30, op := .binOp .geq 3 (.tmp 29) (.const (.int .i64 0)) 3, type := _, pos := _, after := _, guard := some (10, false) }) (v := .bool true) rfl (by kernel_rfl) (by kernel_rfl) (by kernel_rfl) (fun _ _ _ h => h) (Or.inl ⟨by rfl, fun wh hSw => ?_⟩) hHeld ?_
                · (obtain ⟨s0, s1, s2, s3, s4⟩ := hSw; go_simp)
                try simp only [Act.put, List.setIfInBounds_toArray, List.set_cons_zero, List.set_cons_succ]
                refine wpAnyH_take (i := 14) (oi := { dst := some 31, op := .move (.tmp 30), type := _, pos := _, after := _, guard := some (10, false) }) (v := .bool true) rfl (by kernel_rfl) (by kernel_rfl) (by kernel_rfl) (fun _ _ _ h => h) (Or.inl ⟨by rfl, fun wh hSw => ?_⟩) hHeld ?_
                · (obtain ⟨s0, s1, s2, s3, s4⟩ := hSw; go_simp)
                try simp only [Act.put, List.setIfInBounds_toArray, List.set_cons_zero, List.set_cons_succ]
                refine wpAnyH_take (i := 15) (oi := { dst := some 32, op := .fieldAddr 30 (.tmp 1) 1, type := _, pos := _, after := _, guard := some (14, true) }) (v := .pointer (some ⟨w.heap.size, 0 + 1, none⟩)) rfl (by kernel_rfl) (by kernel_rfl) (by kernel_rfl) (fun _ _ _ h => h) (Or.inl ⟨by rfl, fun wh hSw => ?_⟩) hHeld ?_
                · (obtain ⟨s0, s1, s2, s3, s4⟩ := hSw; go_simp)
                try simp only [Act.put, List.setIfInBounds_toArray, List.set_cons_zero, List.set_cons_succ]
                refine wpAnyH_take (i := 16) (oi := { dst := some 33, op := .load 26 (.tmp 32), type := _, pos := _, after := _, guard := some (14, true) }) (v := .slice (some ⟨b0, o0, none⟩) 12 c0) rfl (by kernel_rfl) (by kernel_rfl) (by kernel_rfl) (fun _ _ _ h => h) (Or.inl ⟨by rfl, fun wh hSw => ?_⟩) hHeld ?_
                · (obtain ⟨s0, s1, s2, s3, s4⟩ := hSw; go_simp)
                try simp only [Act.put, List.setIfInBounds_toArray, List.set_cons_zero, List.set_cons_succ]
                refine wpAnyH_take (i := 17) (oi := { dst := some 34, op := .fieldAddr 37 (.tmp 4) 1, type := _, pos := _, after := _, guard := some (14, true) }) (v := .pointer (some ⟨X, 0 + 1, none⟩)) rfl (by kernel_rfl) (by kernel_rfl) (by kernel_rfl) (fun _ _ _ h => h) (Or.inl ⟨by rfl, fun wh hSw => ?_⟩) hHeld ?_
                · (obtain ⟨s0, s1, s2, s3, s4⟩ := hSw; go_simp)
                try simp only [Act.put, List.setIfInBounds_toArray, List.set_cons_zero, List.set_cons_succ]
                refine wpAnyH_take (i := 18) (oi := { dst := some 35, op := .load 3 (.tmp 34), type := _, pos := _, after := _, guard := some (14, true) }) (v := .int .i64 (j : Int)) rfl (by kernel_rfl) (by kernel_rfl) (by kernel_rfl) (fun _ _ _ h => h) (Or.inl ⟨by rfl, fun wh hSw => ?_⟩) hHeld ?_
                · (obtain ⟨s0, s1, s2, s3, s4⟩ := hSw; go_simp)
                try simp only [Act.put, List.setIfInBounds_toArray, List.set_cons_zero, List.set_cons_succ]
                refine wpAnyH_take (i := 19) (oi := { dst := some 36, op := .indexAddr 26 (.tmp 33) (.tmp 35), type := _, pos := _, after := _, guard := some (14, true) }) (v := .pointer (some ⟨b0, o0 + j * 3, none⟩)) rfl (by kernel_rfl) (by kernel_rfl) (by kernel_rfl) (fun _ _ _ h => h) (Or.inl ⟨by rfl, fun wh hSw => ?_⟩) hHeld ?_
                · (obtain ⟨s0, s1, s2, s3, s4⟩ := hSw; go_simp)
                try simp only [Act.put, List.setIfInBounds_toArray, List.set_cons_zero, List.set_cons_succ]
                refine wpAnyH_take (i := 20) (oi := { dst := some 37, op := .fieldAddr 46 (.tmp 36) 0, type := _, pos := _, after := _, guard := some (14, true) }) (v := .pointer (some ⟨b0, o0 + j * 3, none⟩)) rfl (by kernel_rfl) (by kernel_rfl) (by kernel_rfl) (fun _ _ _ h => h) (Or.inl ⟨by rfl, fun wh hSw => ?_⟩) hHeld ?_
                · (obtain ⟨s0, s1, s2, s3, s4⟩ := hSw; go_simp)
                try simp only [Act.put, List.setIfInBounds_toArray, List.set_cons_zero, List.set_cons_succ]
                refine wpAnyH_take (i := 21) (oi := { dst := some 38, op := .load 3 (.tmp 37), type := _, pos := _, after := _, guard := some (14, true) }) (v := .int .i64 3) rfl (by kernel_rfl) (by kernel_rfl) (by kernel_rfl) (fun _ _ _ h => h) (Or.inl ⟨by rfl, fun wh hSw => ?_⟩) hHeld ?_
                · (obtain ⟨s0, s1, s2, s3, s4⟩ := hSw; go_simp)
                try simp only [Act.put, List.setIfInBounds_toArray, List.set_cons_zero, List.set_cons_succ]
                refine wpAnyH_take (i := 22) (oi := { dst := some 39, op := .binOp .neq 3 (.tmp 38) (.const (.int .i64 3)) 3, type := _, pos := _, after := _, guard := some (14, true) }) (v := .bool false) rfl (by kernel_rfl) (by kernel_rfl) (by kernel_rfl) (fun _ _ _ h => h) (Or.inl ⟨by rfl, fun wh hSw => ?_⟩) hHeld ?_
                · (obtain ⟨s0, s1, s2, s3, s4⟩ := hSw; go_simp)
                try simp only [Act.put, List.setIfInBounds_toArray, List.set_cons_zero, List.set_cons_succ]
                refine wpAnyH_take (i := 23) (oi := { dst := some 40, op := .pick (.tmp 31) (.tmp 39) (.const (.bool false)), type := _, pos := _, after := _, guard := some (10, false) }) (v := .bool false) rfl (by kernel_rfl) (by kernel_rfl) (by kernel_rfl) (fun _ _ _ h => h) (Or.inl ⟨by rfl, fun wh hSw => ?_⟩) hHeld ?_
                · (obtain ⟨s0, s1, s2, s3, s4⟩ := hSw; go_simp)
                try simp only [Act.put, List.setIfInBounds_toArray, List.set_cons_zero, List.set_cons_succ]
                refine wpAnyH_take (i := 24) (oi := { dst := some 41, op := .pick (.tmp 27) (.const (.bool true)) (.tmp 40), type := _, pos := _, after := _, guard := none }) (v := .bool false) rfl (by kernel_rfl) (by kernel_rfl) (by kernel_rfl) (fun _ _ _ h => h) (Or.inl ⟨by rfl, fun wh hSw => ?_⟩) hHeld ?_
                · (obtain ⟨s0, s1, s2, s3, s4⟩ := hSw; go_simp)
                try simp only [Act.put, List.setIfInBounds_toArray, List.set_cons_zero, List.set_cons_succ]
                refine wpAnyH_take (i := 25) (oi := { dst := some 42, op := .move (.tmp 41), type := _, pos := _, after := _, guard := none }) (v := .bool false) rfl (by kernel_rfl) (by kernel_rfl) (by kernel_rfl) (fun _ _ _ h => h) (Or.inl ⟨by rfl, fun wh hSw => ?_⟩) hHeld ?_
                · (obtain ⟨s0, s1, s2, s3, s4⟩ := hSw; go_simp)
                try simp only [Act.put, List.setIfInBounds_toArray, List.set_cons_zero, List.set_cons_succ]
                refine wpAnyH_take (i := 26) (oi := { dst := some 43, op := .fieldAddr 30 (.tmp 1) 1, type := _, pos := _, after := _, guard := some (25, false) }) (v := .pointer (some ⟨w.heap.size, 0 + 1, none⟩)) rfl (by kernel_rfl) (by kernel_rfl) (by kernel_rfl) (fun _ _ _ h => h) (Or.inl ⟨by rfl, fun wh hSw => ?_⟩) hHeld ?_
                · (obtain ⟨s0, s1, s2, s3, s4⟩ := hSw; go_simp)
                try simp only [Act.put, List.setIfInBounds_toArray, List.set_cons_zero, List.set_cons_succ]
                refine wpAnyH_take (i := 27) (oi := { dst := some 44, op := .load 26 (.tmp 43), type := _, pos := _, after := _, guard := some (25, false) }) (v := .slice (some ⟨b0, o0, none⟩) 12 c0) rfl (by kernel_rfl) (by kernel_rfl) (by kernel_rfl) (fun _ _ _ h => h) (Or.inl ⟨by rfl, fun wh hSw => ?_⟩) hHeld ?_
                · (obtain ⟨s0, s1, s2, s3, s4⟩ := hSw; go_simp)
                try simp only [Act.put, List.setIfInBounds_toArray, List.set_cons_zero, List.set_cons_succ]
                refine wpAnyH_take (i := 28) (oi := { dst := some 45, op := .fieldAddr 30 (.tmp 1) 0, type := _, pos := _, after := _, guard := some (25, false) }) (v := .pointer (some ⟨w.heap.size, 0, none⟩)) rfl (by kernel_rfl) (by kernel_rfl) (by kernel_rfl) (fun _ _ _ h => h) (Or.inl ⟨by rfl, fun wh hSw => ?_⟩) hHeld ?_
                · (obtain ⟨s0, s1, s2, s3, s4⟩ := hSw; go_simp)
                try simp only [Act.put, List.setIfInBounds_toArray, List.set_cons_zero, List.set_cons_succ]
                refine wpAnyH_take (i := 29) (oi := { dst := some 46, op := .load 25 (.tmp 45), type := _, pos := _, after := _, guard := some (25, false) }) (v := vm) rfl (by kernel_rfl) (by kernel_rfl) (by kernel_rfl) (fun _ _ _ h => h) (Or.inl ⟨by rfl, fun wh hSw => ?_⟩) hHeld ?_
                · (obtain ⟨s0, s1, s2, s3, s4⟩ := hSw; go_simp)
                try simp only [Act.put, List.setIfInBounds_toArray, List.set_cons_zero, List.set_cons_succ]
                refine wpAnyH_take (i := 30) (oi := { dst := some 47, op := .fieldAddr 37 (.tmp 4) 1, type := _, pos := _, after := _, guard := some (25, false) }) (v := .pointer (some ⟨X, 0 + 1, none⟩)) rfl (by kernel_rfl) (by kernel_rfl) (by kernel_rfl) (fun _ _ _ h => h) (Or.inl ⟨by rfl, fun wh hSw => ?_⟩) hHeld ?_
                · (obtain ⟨s0, s1, s2, s3, s4⟩ := hSw; go_simp)
                try simp only [Act.put, List.setIfInBounds_toArray, List.set_cons_zero, List.set_cons_succ]
                refine wpAnyH_take (i := 31) (oi := { dst := some 48, op := .load 3 (.tmp 47), type := _, pos := _, after := _, guard := some (25, false) }) (v := .int .i64 (j : Int)) rfl (by kernel_rfl) (by kernel_rfl) (by kernel_rfl) (fun _ _ _ h => h) (Or.inl ⟨by rfl, fun wh hSw => ?_⟩) hHeld ?_
                · (obtain ⟨s0, s1, s2, s3, s4⟩ := hSw; go_simp)
                try simp only [Act.put, List.setIfInBounds_toArray, List.set_cons_zero, List.set_cons_succ]
                refine wpAnyH_take (i := 33) (oi := { dst := some 50, op := .fieldAddr 37 (.tmp 4) 0, type := _, pos := _, after := _, guard := some (25, false) }) (v := .pointer (some ⟨X, 0, none⟩)) rfl (by kernel_rfl) (by kernel_rfl) (by kernel_rfl) (fun _ _ _ h => h) (Or.inl ⟨by rfl, fun wh hSw => ?_⟩) hHeld ?_
                · (obtain ⟨s0, s1, s2, s3, s4⟩ := hSw; go_simp)
                try simp only [Act.put, List.setIfInBounds_toArray, List.set_cons_zero, List.set_cons_succ]
                refine wpAnyH_take (i := 34) (oi := { dst := some 51, op := .load 35 (.tmp 50), type := _, pos := _, after := _, guard := some (25, false) }) (v := .slice ua rs.length uc) rfl (by kernel_rfl) (by kernel_rfl) (by kernel_rfl) (fun _ _ _ h => h) (Or.inl ⟨by rfl, fun wh hSw => ?_⟩) hHeld ?_
                · (obtain ⟨s0, s1, s2, s3, s4⟩ := hSw; go_simp)
                try simp only [Act.put, List.setIfInBounds_toArray, List.set_cons_zero, List.set_cons_succ]
                refine wpAnyH_ready (rs := [32]) (by kernel_rfl) (by simp) ?_
                refine AllReadyH.cons (o := { dst := some 49, op := .call { callee := .value (.func 84), args := #[.tmp 46, .tmp 48], argTypes := #[25, 3] }, type := _, pos := _, after := _, guard := some (25, false) }) rfl (fun K hK => ?_) AllReadyH.nil
                go_simp
                refine (HRR.out w1 HB1.out).mono ?_
                rintro e w2 ⟨vf, rfl, hf2⟩
                have HB2 := Lib.hid (HB1.out.trans (hf2.bel.mono HB1.out.size))
                have HC2 := Lib.hid (HAA.out w2 vf HB2.out hf2.ints)
                clear hf2
                try go_simp
                refine hK.out _ _ ?_ (fun hHeld => ?_)
                · exact FT.out _ HB2.out
                clear hK K
                try simp only [Act.put, List.setIfInBounds_toArray, List.set_cons_zero, List.set_cons_succ]
                refine wpAnyH_ready (rs := [35]) (by kernel_rfl) (by simp) ?_
                refine AllReadyH.cons (o := { dst := some 52, op := .call { callee := .value (.func 128), args := #[.tmp 44, .tmp 49, .tmp 51], argTypes := #[26, 42, 35] }, type := _, pos := _, after := _, guard := some (25, false) }) rfl (fun K hK => ?_) AllReadyH.nil
                go_simp
                refine HC2.out.mono ?_
                rintro e w' ⟨rfl, rfl⟩
                try go_simp
                refine hK.out _ _ ?_ (fun hHeld => ?_)
                · exact hHeld
                clear hK K
                try simp only [Act.put, List.setIfInBounds_toArray, List.set_cons_zero, List.set_cons_succ]
                refine wpAnyH_take (i := 36) (oi := { dst := some 53, op := .unOp .not 4 (.tmp 52), type := _, pos := _, after := _, guard := some (25, false) }) (v := .bool true) rfl (by kernel_rfl) (by kernel_rfl) (by kernel_rfl) (fun _ _ _ h => h) (Or.inl ⟨by rfl, fun wh hSw => ?_⟩) hHeld ?_
                · (obtain ⟨s0, s1, s2, s3, s4⟩ := hSw; go_simp)
                try simp only [Act.put, List.setIfInBounds_toArray, List.set_cons_zero, List.set_cons_succ]
                refine wpAnyH_take (i := 37) (oi := { dst := some 54, op := .pick (.tmp 42) (.const (.bool true)) (.tmp 53), type := _, pos := _, after := _, guard := none }) (v := .bool true) rfl (by kernel_rfl) (by kernel_rfl) (by kernel_rfl) (fun _ _ _ h => h) (Or.inl ⟨by rfl, fun wh hSw => ?_⟩) hHeld ?_
                · (obtain ⟨s0, s1, s2, s3, s4⟩ := hSw; go_simp)
                try simp only [Act.put, List.setIfInBounds_toArray, List.set_cons_zero, List.set_cons_succ]
                refine wpAnyH_done (by kernel_rfl) ?_ _
                go_wp2_with fail
                go_ret
                exact ⟨by rw [HNX.out (by trivial)]; rfl, (HP0.out.go HB2.out).bel⟩
              | true =>
                go_wp2_with fail
                rw [← HXX.out, ← HW0.out]
                refine wp_region_held_drew (S := fun w' => w'.cell? ⟨w.heap.size, 0, none⟩ = some vm ∧ w'.cell? ⟨w.heap.size, 1, none⟩ = some (.slice (some ⟨b0, o0, none⟩) 12 c0) ∧ w'.cell? ⟨X, 0, none⟩ = some (.slice ua rs.length uc) ∧ w'.cell? ⟨X, 1, none⟩ = some (.int .i64 (j : Int)) ∧ w'.cell? ⟨b0, o0 + j * 3, none⟩ = some (.int .i64 3)) (by kernel_rfl) (FT.out _ (Below.refl _ _).drew) (fun hHeld => ?_)
                refine wpAnyH_take (i := 0) (oi := { dst := some 17, op := .fieldAddr 37 (.tmp 4) 0, type := _, pos := _, after := _, guard := none }) (v := .pointer (some ⟨X, 0, none⟩)) rfl (by kernel_rfl) (by kernel_rfl) (by kernel_rfl) (fun _ _ _ h => h) (Or.inl ⟨by rfl, fun wh hSw => ?_⟩) hHeld ?_
                · (obtain ⟨s0, s1, s2, s3, s4⟩ := hSw; go_simp)
                try simp only [Act.put, List.setIfInBounds_toArray, List.set_cons_zero, List.set_cons_succ]
                refine wpAnyH_take (i := 1) (oi := { dst := some 18, op := .load 35 (.tmp 17), type := _, pos := _, after := _, guard := none }) (v := .slice ua rs.length uc) rfl (by kernel_rfl) (by kernel_rfl) (by kernel_rfl) (fun _ _ _ h => h) (Or.inl ⟨by rfl, fun wh hSw => ?_⟩) hHeld ?_
                · (obtain ⟨s0, s1, s2, s3, s4⟩ := hSw; go_simp)
                try simp only [Act.put, List.setIfInBounds_toArray, List.set_cons_zero, List.set_cons_succ]
                refine wpAnyH_ready (rs := [2]) (by kernel_rfl) (by simp) ?_
                refine AllReadyH.cons (o := { dst := some 19, op := .call { callee := .value (.func 54), args := #[.tmp 18], argTypes := #[35] }, type := _, pos := _, after := _, guard := none }) rfl (fun K hK => ?_) AllReadyH.nil
                go_simp
                refine HVR.out.mono ?_
                rintro e w1 ⟨rfl, nd, hnd⟩
                have HB1 : Hid (Below W0.heap.size W0 w1) := Lib.hid (by rw [hnd]; exact Below.chg (Below.refl _ _).drew (Chg.of_drewN _ nd) (Nat.le_refl _) (.inr rfl))
                clear hnd
                try go_simp
                refine hK.out _ _ ?_ (fun hHeld => ?_)
                · exact FT.out _ HB1.out
                clear hK K
                try simp only [Act.put, List.setIfInBounds_toArray, List.set_cons_zero, List.set_cons_succ]
                refine wpAnyH_take (i := 3) (oi := { dst := some 20, op := .unOp .not 4 (.tmp 19), type := _, pos := _, after := _, guard := none }) (v := .bool false) rfl (by kernel_rfl) (by kernel_rfl) (by kernel_rfl) (fun _ _ _ h => h) (Or.inl ⟨by rfl, fun wh hSw => ?_⟩) hHeld ?_
                · (obtain ⟨s0, s1, s2, s3, s4⟩ := hSw; go_simp)
                try simp only [Act.put, List.setIfInBounds_toArray, List.set_cons_zero, List.set_cons_succ]
                refine wpAnyH_take (i := 4) (oi := { dst := some 21, op := .move (.tmp 20), type := _, pos := _, after := _, guard := none }) (v := .bool false) rfl (by kernel_rfl) (by kernel_rfl) (by kernel_rfl) (fun _ _ _ h => h) (Or.inl ⟨by rfl, fun wh hSw => ?_⟩) hHeld ?_
                · (obtain ⟨s0, s1, s2, s3, s4⟩ := hSw; go_simp)
                try simp only [Act.put, List.setIfInBounds_toArray, List.set_cons_zero, List.set_cons_succ]
                refine wpAnyH_take (i := 5) (oi := { dst := some 22, op := .fieldAddr 37 (.tmp 4) 1, type := _, pos := _, after := _, guard := some (4, false) }) (v := .pointer (some ⟨X, 0 + 1, none⟩)) rfl (by kernel_rfl) (by kernel_rfl) (by kernel_rfl) (fun _ _ _ h => h) (Or.inl ⟨by rfl, fun wh hSw => ?_⟩) hHeld ?_
                · (obtain ⟨s0, s1, s2, s3, s4⟩ := hSw; go_simp)
                try simp only [Act.put, List.setIfInBounds_toArray, List.set_cons_zero, List.set_cons_succ]
                refine wpAnyH_take (i := 6) (oi := { dst := some 23, op := .load 3 (.tmp 22), type := _, pos := _, after := _, guard := some (4, false) }) (v := .int .i64 (j : Int)) rfl (by kernel_rfl) (by kernel_rfl) (by kernel_rfl) (fun _ _ _ h => h) (Or.inl ⟨by rfl, fun wh hSw => ?_⟩) hHeld ?_
                · (obtain ⟨s0, s1, s2, s3, s4⟩ := hSw; go_simp)
                try simp only [Act.put, List.setIfInBounds_toArray, List.set_cons_zero, List.set_cons_succ]
                refine wpAnyH_ready (rs := [7]) (by kernel_rfl) (by simp) ?_
                refine AllReadyH.cons (o := { dst := some 24, op := .call { callee := .value (.func 127), args := #[.tmp 23, .const (.int .i64 (-1)), .const (.int .i64 11)], argTypes := #[3, 3, 3] }, type := _, pos := _, after := _, guard := some (4, false) }) rfl (fun K hK => ?_) AllReadyH.nil
                go_simp
                refine (HII.out _).mono ?_
                rintro e w' ⟨rfl, rfl⟩
                try go_simp
                refine hK.out _ _ ?_ (fun hHeld => ?_)
                · exact hHeld
                clear hK K
                try simp only [Act.put, List.setIfInBounds_toArray, List.set_cons_zero, List.set_cons_succ]
                refine wpAnyH_take (i := 8) (oi := { dst := some 25, op := .unOp .not 4 (.tmp 24), type := _, pos := _, after := _, guard := some (4, false) }) (v := .bool false) rfl (by kernel_rfl) (by kernel_rfl) (by kernel_rfl) (fun _ _ _ h => h) (Or.inl ⟨by rfl, fun wh hSw => ?_⟩) hHeld ?_
                · (obtain ⟨s0, s1, s2, s3, s4⟩ := hSw; go_simp)
                try simp only [Act.put, List.setIfInBounds_toArray, List.set_cons_zero, List.set_cons_succ]
                refine wpAnyH_take (i := 9) (oi := { dst := some 26, op := .pick (.tmp 21) (.const (.bool true)) (.tmp 25), type := _, pos := _, after := _, guard := none }) (v := .bool false) rfl (by kernel_rfl) (by kernel_rfl) (by kernel_rfl) (fun _ _ _ h => h) (Or.inl ⟨by rfl, fun wh hSw => ?_⟩) hHeld ?_
                · (obtain ⟨s0, s1, s2, s3, s4⟩ := hSw; go_simp)
                try simp only [Act.put, List.setIfInBounds_toArray, List.set_cons_zero, List.set_cons_succ]
                refine wpAnyH_take (i := 10) (oi := { dst := some 27, op := .move (.tmp 26), type := _, pos := _, after := _, guard := none }) (v := .bool false) rfl (by kernel_rfl) (by kernel_rfl) (by kernel_rfl) (fun _ _ _ h => h) (Or.inl ⟨by rfl, fun wh hSw => ?_⟩) hHeld ?_
                · (obtain ⟨s0, s1, s2, s3, s4⟩ := hSw; go_simp)
                try simp only [Act.put, List.setIfInBounds_toArray, List.set_cons_zero, List.set_cons_succ]
                refine wpAnyH_take (i := 11) (oi := { dst := some 28, op := .fieldAddr 37 (.tmp 4) 1, type := _, pos := _, after := _, guard := some (10, false) }) (v := .pointer (some ⟨X, 0 + 1, none⟩)) rfl (by kernel_rfl) (by kernel_rfl) (by kernel_rfl) (fun _ _ _ h => h) (Or.inl ⟨by rfl, fun wh hSw => ?_⟩) hHeld ?_
                · (obtain ⟨s0, s1, s2, s3, s4⟩ := hSw; go_simp)
                try simp only [Act.put, List.setIfInBounds_toArray, List.set_cons_zero, List.set_cons_succ]
                refine wpAnyH_take (i := 12) (oi := { dst := some 29, op := .load 3 (.tmp 28), type := _, pos := _, after := _, guard := some (10, false) }) (v := .int .i64 (j : Int)) rfl (by kernel_rfl) (by kernel_rfl) (by kernel_rfl) (fun _ _ _ h => h) (Or.inl ⟨by rfl, fun wh hSw => ?_⟩) hHeld ?_
                · (obtain ⟨s0, s1, s2, s3, s4⟩ := hSw; go_simp)
                try simp only [Act.put, List.setIfInBounds_toArray, List.set_cons_zero, List.set_cons_succ]
                refine wpAnyH_take (i := 13) (oi := { dst := some 30, op := .binOp .geq 3 (.tmp 29) (.const (.int .i64 0)) 3, type := _, pos := _, after := _, guard := some (10, false) }) (v := .bool true) rfl (by kernel_rfl) (by kernel_rfl) (by kernel_rfl) (fun _ _ _ h => h) (Or.inl ⟨by rfl, fun wh hSw => ?_⟩) hHeld ?_
                · (obtain ⟨s0, s1, s2, s3, s4⟩ := hSw; go_simp)
                try simp only [Act.put, List.setIfInBounds_toArray, List.set_cons_zero, List.set_cons_succ]
                refine wpAnyH_take (i := 14) (oi := { dst := some 31, op := .move (.tmp 30), type := _, pos := _, after := _, guard := some (10, false) }) (v := .bool true) rfl (by kernel_rfl) (by kernel_rfl) (by kernel_rfl) (fun _ _ _ h => h) (Or.inl ⟨by rfl, fun wh hSw => ?_⟩) hHeld ?_
                · (obtain ⟨s0, s1, s2, s3, s4⟩ := hSw; go_simp)
                try simp only [Act.put, List.setIfInBounds_toArray, List.set_cons_zero, List.set_cons_succ]
                refine wpAnyH_take (i := 15) (oi := { dst := some 32, op := .fieldAddr 30 (.tmp 1) 1, type := _, pos := _, after := _, guard := some (14, true) }) (v := .pointer (some ⟨w.heap.size, 0 + 1, none⟩)) rfl (by kernel_rfl) (by kernel_rfl) (by kernel_rfl) (fun _ _ _ h => h) (Or.inl ⟨by rfl, fun wh hSw => ?_⟩) hHeld ?_
                · (obtain ⟨s0, s1, s2, s3, s4⟩ := hSw; go_simp)
                try simp only [Act.put, List.setIfInBounds_toArray, List.set_cons_zero, List.set_cons_succ]
                refine wpAnyH_take (i := 16) (oi := { dst := some 33, op := .load 26 (.tmp 32), type := _, pos := _, after := _, guard := some (14, true) }) (v := .slice (some ⟨b0, o0, none⟩) 12 c0) rfl (by kernel_rfl) (by kernel_rfl) (by kernel_rfl) (fun _ _ _ h => h) (Or.inl ⟨by rfl, fun wh hSw => ?_⟩) hHeld ?_
                · (obtain ⟨s0, s1, s2, s3, s4⟩ := hSw; go_simp)
                try simp only [Act.put, List.setIfInBounds_toArray, List.set_cons_zero, List.set_cons_succ]
                refine wpAnyH_take (i := 17) (oi := { dst := some 34, op := .fieldAddr 37 (.tmp 4) 1, type := _, pos := _, after := _, guard := some (14, true) }) (v := .pointer (some ⟨X, 0 + 1, none⟩)) rfl (by kernel_rfl) (by kernel_rfl) (by kernel_rfl) (fun _ _ _ h => h) (Or.inl ⟨by rfl, fun wh hSw => ?_⟩) hHeld ?_
                · (obtain ⟨s0, s1, s2, s3, s4⟩ := hSw; go_simp)
                try simp only [Act.put, List.setIfInBounds_toArray, List.set_cons_zero, List.set_cons_succ]
                refine wpAnyH_take (i := 18) (oi := { dst := some 35, op := .load 3 (.tmp 34), type := _, pos := _, after := _, guard := some (14, true) }) (v := .int .i64 (j : Int)) rfl (by kernel_rfl) (by kernel_rfl) (by kernel_rfl) (fun _ _ _ h => h) (Or.inl ⟨by rfl, fun wh hSw => ?_⟩) hHeld ?_
                · (obtain ⟨s0, s1, s2, s3, s4⟩ := hSw; go_simp)
                try simp only [Act.put, List.setIfInBounds_toArray, List.set_cons_zero, List.set_cons_succ]
                refine wpAnyH_take (i := 19) (oi := { dst := some 36, op := .indexAddr 26 (.tmp 33) (.tmp 35), type := _, pos := _, after := _, guard := some (14, true) }) (v := .pointer (some ⟨b0, o0 + j * 3, none⟩)) rfl (by kernel_rfl) (by kernel_rfl) (by kernel_rfl) (fun _ _ _ h => h) (Or.inl ⟨by rfl, fun wh hSw => ?_⟩) hHeld ?_
                · (obtain ⟨s0, s1, s2, s3, s4⟩ := hSw; go_simp)
                try simp only [Act.put, List.setIfInBounds_toArray, List.set_cons_zero, List.set_cons_succ]
                refine wpAnyH_take (i := 20) (oi := { dst := some 37, op := .fieldAddr 46 (.tmp 36) 0, type := _, pos := _, after := _, guard := some (14, true) }) (v := .pointer (some ⟨b0, o0 + j * 3, none⟩)) rfl (by kernel_rfl) (by kernel_rfl) (by kernel_rfl) (fun _ _ _ h => h) (Or.inl ⟨by rfl, fun wh hSw => ?_⟩) hHeld ?_
                · (obtain ⟨s0, s1, s2, s3, s4⟩ := hSw; go_simp)
                try simp only [Act.put, List.setIfInBounds_toArray, List.set_cons_zero, List.set_cons_succ]
                refine wpAnyH_take (i := 21) (oi := { dst := some 38, op := .load 3 (.tmp 37), type := _, pos := _, after := _, guard := some (14, true) }) (v := .int .i64 3) rfl (by kernel_rfl) (by kernel_rfl) (by kernel_rfl) (fun _ _ _ h => h) (Or.inl ⟨by rfl, fun wh hSw => ?_⟩) hHeld ?_
                · (obtain ⟨s0, s1, s2, s3, s4⟩ := hSw; go_simp)
                try simp only [Act.put, List.setIfInBounds_toArray, List.set_cons_zero, List.set_cons_succ]
                refine wpAnyH_take (i := 22) (oi := { dst := some 39, op := .binOp .neq 3 (.tmp 38) (.const (.int .i64 3)) 3, type := _, pos := _, after := _, guard := some (14, true) }) (v := .bool false) rfl (by kernel_rfl) (by kernel_rfl) (by kernel_rfl) (fun _ _ _ h => h) (Or.inl ⟨by rfl, fun wh hSw => ?_⟩) hHeld ?_
                · (obtain ⟨s0, s1, s2, s3, s4⟩ := hSw; go_simp)
                try simp only [Act.put, List.setIfInBounds_toArray, List.set_cons_zero, List.set_cons_succ]
                refine wpAnyH_take (i := 23) (oi := { dst := some 40, op := .pick (.tmp 31) (.tmp 39) (.const (.bool false)), type := _, pos := _, after := _, guard := some (10, false) }) (v := .bool false) rfl (by kernel_rfl) (by kernel_rfl) (by kernel_rfl) (fun _ _ _ h => h) (Or.inl ⟨by rfl, fun wh hSw => ?_⟩) hHeld ?_
                · (obtain ⟨s0, s1, s2, s3, s4⟩ := hSw; go_simp)
                try simp only [Act.put, List.setIfInBounds_toArray, List.set_cons_zero, List.set_cons_succ]
                refine wpAnyH_take (i := 24) (oi := { dst := some 41, op := .pick (.tmp 27) (.const (.bool true)) (.tmp 40), type := _, pos := _, after := _, guard := none }) (v := .bool false) rfl (by kernel_rfl) (by kernel_rfl) (by kernel_rfl) (fun _ _ _ h => h) (Or.inl ⟨by rfl, fun wh hSw => ?_⟩) hHeld ?_
                · (obtain ⟨s0, s1, s2, s3, s4⟩ := hSw; go_simp)
                try simp only [Act.put, List.setIfInBounds_toArray, List.set_cons_zero, List.set_cons_succ]
                refine wpAnyH_take (i := 25) (oi := { dst := some 42, op := .move (.tmp 41), type := _, pos := _, after := _, guard := none }) (v := .bool false) rfl (by kernel_rfl) (by kernel_rfl) (by kernel_rfl) (fun _ _ _ h => h) (Or.inl ⟨by rfl, fun wh hSw => ?_⟩) hHeld ?_
                · (obtain ⟨s0, s1, s2, s3, s4⟩ := hSw; go_simp)
                try simp only [Act.put, List.setIfInBounds_toArray, List.set_cons_zero, List.set_cons_succ]
                refine wpAnyH_take (i := 26) (oi := { dst := some 43, op := .fieldAddr 30 (.tmp 1) 1, type := _, pos := _, after := _, guard := some (25, false) }) (v := .pointer (some ⟨w.heap.size, 0 + 1, none⟩)) rfl (by kernel_rfl) (by kernel_rfl) (by kernel_rfl) (fun _ _ _ h => h) (Or.inl ⟨by rfl, fun wh hSw => ?_⟩) hHeld ?_
                · (obtain ⟨s0, s1, s2, s3, s4⟩ := hSw; go_simp)
                try simp only [Act.put, List.setIfInBounds_toArray, List.set_cons_zero, List.set_cons_succ]
                refine wpAnyH_take (i := 27) (oi := { dst := some 44, op := .load 26 (.tmp 43), type := _, pos := _, after := _, guard := some (25, false) }) (v := .slice (some ⟨b0, o0, none⟩) 12 c0) rfl (by kernel_rfl) (by kernel_rfl) (by kernel_rfl) (fun _ _ _ h => h) (Or.inl ⟨by rfl, fun wh hSw => ?_⟩) hHeld ?_
                · (obtain ⟨s0, s1, s2, s3, s4⟩ := hSw; go_simp)
                try simp only [Act.put, List.setIfInBounds_toArray, List.set_cons_zero, List.set_cons_succ]
                refine wpAnyH_take (i := 28) (oi := { dst := some 45, op := .fieldAddr 30 (.tmp 1) 0, type := _, pos := _, after := _, guard := some (25, false) }) (v := .pointer (some ⟨w.heap.size, 0, none⟩)) rfl (by kernel_rfl) (by kernel_rfl) (by kernel_rfl) (fun _ _ _ h => h) (Or.inl ⟨by rfl, fun wh hSw => ?_⟩) hHeld ?_
                · (obtain ⟨s0, s1, s2, s3, s4⟩ := hSw; go_simp)
                try simp only [Act.put, List.setIfInBounds_toArray, List.set_cons_zero, List.set_cons_succ]
                refine wpAnyH_take (i := 29) (oi := { dst := some 46, op := .load 25 (.tmp 45), type := _, pos := _, after := _, guard := some (25, false) }) (v := vm) rfl (by kernel_rfl) (by kernel_rfl) (by kernel_rfl) (fun _ _ _ h => h) (Or.inl ⟨by rfl, fun wh hSw => ?_⟩) hHeld ?_
                · (obtain ⟨s0, s1, s2, s3, s4⟩ := hSw; go_simp)
                try simp only [Act.put, List.setIfInBounds_toArray, List.set_cons_zero, List.set_cons_succ]
                refine wpAnyH_take (i := 30) (oi := { dst := some 47, op := .fieldAddr 37 (.tmp 4) 1, type := _, pos := _, after := _, guard := some (25, false) }) (v := .pointer (some ⟨X, 0 + 1, none⟩)) rfl (by kernel_rfl) (by kernel_rfl) (by kernel_rfl) (fun _ _ _ h => h) (Or.inl ⟨by rfl, fun wh hSw => ?_⟩) hHeld ?_
                · (obtain ⟨s0, s1, s2, s3, s4⟩ := hSw; go_simp)
                try simp only [Act.put, List.setIfInBounds_toArray, List.set_cons_zero, List.set_cons_succ]
                refine wpAnyH_take (i := 31) (oi := { dst := some 48, op := .load 3 (.tmp 47), type := _, pos := _, after := _, guard := some (25, false) }) (v := .int .i64 (j : Int)) rfl (by kernel_rfl) (by kernel_rfl) (by kernel_rfl) (fun _ _ _ h => h) (Or.inl ⟨by rfl, fun wh hSw => ?_⟩) hHeld ?_
                · (obtain ⟨s0, s1, s2, s3, s4⟩ := hSw; go_simp)
                try simp only [Act.put, List.setIfInBounds_toArray, List.set_cons_zero, List.set_cons_succ]
                refine wpAnyH_take (i := 33) (oi := { dst := some 50, op := .fieldAddr 37 (.tmp 4) 0, type := _, pos := _, after := _, guard := some (25, false) }) (v := .pointer (some ⟨X, 0, none⟩)) rfl (by kernel_rfl) (by kernel_rfl) (by kernel_rfl) (fun _ _ _ h => h) (Or.inl ⟨by rfl, fun wh hSw => ?_⟩) hHeld ?_
                · (obtain ⟨s0, s1, s2, s3, s4⟩ := hSw; go_simp)
                try simp only [Act.put, List.setIfInBounds_toArray, List.set_cons_zero, List.set_cons_succ]
                refine wpAnyH_take (i := 34) (oi := { dst := some 51, op := .load 35 (.tmp 50), type := _, pos := _, after := _, guard := some (25, false) }) (v := .slice ua rs.length uc) rfl (by kernel_rfl) (by kernel_rfl) (by kernel_rfl) (fun _ _ _ h => h) (Or.inl ⟨by rfl, fun wh hSw => ?_⟩) hHeld ?_
                · (obtain ⟨s0, s1, s2, s3, s4⟩ := hSw; go_simp)
                try simp only [Act.put, List.setIfInBounds_toArray, List.set_cons_zero, List.set_cons_succ]
                refine wpAnyH_ready (rs := [32]) (by kernel_rfl) (by simp) ?_
                refine AllReadyH.cons (o := { dst := some 49, op := .call { callee := .value (.func 84), args := #[.tmp 46, .tmp 48], argTypes := #[25, 3] }, type := _, pos := _, after := _, guard := some (25, false) }) rfl (fun K hK => ?_) AllReadyH.nil
                go_simp
                refine (HRR.out w1 HB1.out).mono ?_
                rintro e w2 ⟨vf, rfl, hf2⟩
                have HB2 := Lib.hid (HB1.out.trans (hf2.bel.mono HB1.out.size))
                have HC2 := Lib.hid (HAA.out w2 vf HB2.out hf2.ints)
                clear hf2
                try go_simp
                refine hK.out _ _ ?_ (fun hHeld => ?_)
                · exact FT.out _ HB2.out
                clear hK K
                try simp only [Act.put, List.setIfInBounds_toArray, List.set_cons_zero, List.set_cons_succ]
                refine wpAnyH_ready (rs := [35]) (by kernel_rfl) (by simp) ?_
                refine AllReadyH.cons (o := { dst := some 52, op := .call { callee := .value (.func 128), args := #[.tmp 44, .tmp 49, .tmp 51], argTypes := #[26, 42, 35] }, type := _, pos := _, after := _, guard := some (25, false) }) rfl (fun K hK => ?_) AllReadyH.nil
                go_simp
                refine HC2.out.mono ?_
                rintro e w' ⟨rfl, rfl⟩
                try go_simp
                refine hK.out _ _ ?_ (fun hHeld => ?_)
                · exact hHeld
                clear hK K
                try simp only [Act.put, List.setIfInBounds_toArray, List.set_cons_zero, List.set_cons_succ]
                refine wpAnyH_take (i := 36) (oi := { dst := some 53, op := .unOp .not 4 (.tmp 52), type := _, pos := _, after := _, guard := some (25, false) }) (v := .bool false) rfl (by kernel_rfl) (by kernel_rfl) (by kernel_rfl) (fun _ _ _ h => h) (Or.inl ⟨by rfl, fun wh hSw => ?_⟩) hHeld ?_
                · (obtain ⟨s0, s1, s2, s3, s4⟩ := hSw; go_simp)
                try simp only [Act.put, List.setIfInBounds_toArray, List.set_cons_zero, List.set_cons_succ]
                refine wpAnyH_take (i := 37) (oi := { dst := some 54, op := .pick (.tmp 42) (.const (.bool true)) (.tmp 53), type := _, pos := _, after := _, guard := none }) (v := .bool false) rfl (by kernel_rfl) (by kernel_rfl) (by kernel_rfl) (fun _ _ _ h => h) (Or.inl ⟨by rfl, fun wh hSw => ?_⟩) hHeld ?_
                · (obtain ⟨s0, s1, s2, s3, s4⟩ := hSw; go_simp)
                try simp only [Act.put, List.setIfInBounds_toArray, List.set_cons_zero, List.set_cons_succ]
                refine wpAnyH_done (by kernel_rfl) ?_ _
                go_wp2_with fail
                go_roundw
                case rel => exact ⟨f + 1, by omega, by go_num, Lib.hid (HP0.out.go HB2.out), Lib.hid (HGX.out (by trivial))⟩
                case measure => simp [intOf]; omega
            · have hk' : (kd == 3) = false := by simpa using hk
              have hk2 : (kd != 3) = true := by simpa using hk
              rw [decide_eq_false hk, Bool.false_and] at HNX HGX
              go_wp2_with fail
              rw [← HXX.out, ← HW0.out]
              refine wp_region_held_drew (S := fun w' => w'.cell? ⟨w.heap.size, 0, none⟩ = some vm ∧ w'.cell? ⟨w.heap.size, 1, none⟩ = some (.slice (some ⟨b0, o0, none⟩) 12 c0) ∧ w'.cell? ⟨X, 0, none⟩ = some (.slice ua rs.length uc) ∧ w'.cell? ⟨X, 1, none⟩ = some (.int .i64 (j : Int)) ∧ w'.cell? ⟨b0, o0 + j * 3, none⟩ = some (.int .i64 kd)) (by kernel_rfl) (FT.out _ (Below.refl _ _).drew) (fun hHeld => ?_)
              refine wpAnyH_take (i := 0) (oi := { dst := some 17, op := .fieldAddr 37 (.tmp 4) 0, type := _, pos := _, after := _, guard := none }) (v := .pointer (some ⟨X, 0, none⟩)) rfl (by kernel_rfl) (by kernel_rfl) (by kernel_rfl) (fun _ _ _ h => h) (Or.inl ⟨by rfl, fun wh hSw => ?_⟩) hHeld ?_
              · (obtain ⟨s0, s1, s2, s3, s4⟩ := hSw; go_simp)
              try simp only [Act.put, List.setIfInBounds_toArray, List.set_cons_zero, List.set_cons_succ]
              refine wpAnyH_take (i := 1) (oi := { dst := some 18, op := .load 35 (.tmp 17), type := _, pos := _, after := _, guard := none }) (v := .slice ua rs.length uc) rfl (by kernel_rfl) (by kernel_rfl) (by kernel_rfl) (fun _ _ _ h => h) (Or.inl ⟨by rfl, fun wh hSw => ?_⟩) hHeld ?_
              · (obtain ⟨s0, s1, s2, s3, s4⟩ := hSw; go_simp)
              try simp only [Act.put, List.setIfInBounds_toArray, List.set_cons_zero, List.set_cons_succ]
              refine wpAnyH_ready (rs := [2]) (by kernel_rfl) (by simp) ?_
              refine AllReadyH.cons (o := { dst := some 19, op := .call { callee := .value (.func 54), args := #[.tmp 18], argTypes := #[35] }, type := _, pos := _, after := _, guard := none }) rfl (fun K hK => ?_) AllReadyH.nil
              go_simp
              refine HVR.out.mono ?_
              rintro e w1 ⟨rfl, nd, hnd⟩
              have HB1 : Hid (Below W0.heap.size W0 w1) := Lib.hid (by rw [hnd]; exact Below.chg (Below.refl _ _).drew (Chg.of_drewN _ nd) (Nat.le_refl _) (.inr rfl))
              clear hnd
              try go_simp
              refine hK.out _ _ ?_ (fun hHeld => ?_)
              · exact FT.out _ HB1.out
              clear hK K
              try simp only [Act.put, List.setIfInBounds_toArray, List.set_cons_zero, List.set_cons_succ]
              refine wpAnyH_take (i := 3) (oi := { dst := some 20, op := .unOp .not 4 (.tmp 19), type := _, pos := _, after := _, guard := none }) (v := .bool false) rfl (by kernel_rfl) (by kernel_rfl) (by kernel_rfl) (fun _ _ _ h => h) (Or.inl ⟨by rfl, fun wh hSw => ?_⟩) hHeld ?_
              · (obtain ⟨s0, s1, s2, s3, s4⟩ := hSw; go_simp)
              try simp only [Act.put, List.setIfInBounds_toArray, List.set_cons_zero, List.set_cons_succ]
              refine wpAnyH_take (i := 4) (oi := { dst := some 21, op := .move (.tmp 20), type := _, pos := _, after := _, guard := none }) (v := .bool false) rfl (by kernel_rfl) (by kernel_rfl) (by kernel_rfl) (fun _ _ _ h => h) (Or.inl ⟨by rfl, fun wh hSw => ?_⟩) hHeld ?_
              · (obtain ⟨s0, s1, s2, s3, s4⟩ := hSw; go_simp)
              try simp only [Act.put, List.setIfInBounds_toArray, List.set_cons_zero, List.set_cons_succ]
              refine wpAnyH_take (i := 5) (oi := { dst := some 22, op := .fieldAddr 37 (.tmp 4) 1, type := _, pos := _, after := _, guard := some (4, false) }) (v := .pointer (some ⟨X, 0 + 1, none⟩)) rfl (by kernel_rfl) (by kernel_rfl) (by kernel_rfl) (fun _ _ _ h => h) (Or.inl ⟨by rfl, fun wh hSw => ?_⟩) hHeld ?_
              · (obtain ⟨s0, s1, s2, s3, s4⟩ := hSw; go_simp)
              try simp only [Act.put, List.setIfInBounds_toArray, List.set_cons_zero, List.set_cons_succ]
              refine wpAnyH_take (i := 6) (oi := { dst := some 23, op := .load 3 (.tmp 22), type := _, pos := _, after := _, guard := some (4, false) }) (v := .int .i64 (j : Int)) rfl (by kernel_rfl) (by kernel_rfl) (by kernel_rfl) (fun _ _ _ h => h) (Or.inl ⟨by rfl, fun wh hSw => ?_⟩) hHeld ?_
              · (obtain ⟨s0, s1, s2, s3, s4⟩ := hSw; go_simp)
              try simp only [Act.put, List.setIfInBounds_toArray, List.set_cons_zero, List.set_cons_succ]
              refine wpAnyH_ready (rs := [7]) (by kernel_rfl) (by simp) ?_
              refine AllReadyH.cons (o := { dst := some 24, op := .call { callee := .value (.func 127), args := #[.tmp 23, .const (.int .i64 (-1)), .const (.int .i64 11)], argTypes := #[3, 3, 3] }, type := _, pos := _, after := _, guard := some (4, false) }) rfl (fun K hK => ?_) AllReadyH.nil
              go_simp
              refine (HII.out _).mono ?_
              rintro e w' ⟨rfl, rfl⟩
              try go_simp
              refine hK.out _ _ ?_ (fun hHeld => ?_)
              · exact hHeld
              clear hK K
              try simp only [Act.put, List.setIfInBounds_toArray, List.set_cons_zero, List.set_cons_succ]
              refine wpAnyH_take (i := 8) (oi := { dst := some 25, op := .unOp .not 4 (.tmp 24), type := _, pos := _, after := _, guard := some (4, false) }) (v := .bool false) rfl (by kernel_rfl) (by kernel_rfl) (by kernel_rfl) (fun _ _ _ h => h) (Or.inl ⟨by rfl, fun wh hSw => ?_⟩) hHeld ?_
              · (obtain ⟨s0, s1, s2, s3, s4⟩ := hSw; go_simp)
              try simp only [Act.put, List.setIfInBounds_toArray, List.set_cons_zero, List.set_cons_succ]
              refine wpAnyH_take (i := 9) (oi := { dst := some 26, op := .pick (.tmp 21) (.const (.bool true)) (.tmp 25), type := _, pos := _, after := _, guard := none }) (v := .bool false) rfl (by kernel_rfl) (by kernel_rfl) (by kernel_rfl) (fun _ _ _ h => h) (Or.inl ⟨by rfl, fun wh hSw => ?_⟩) hHeld ?_
              · (obtain ⟨s0, s1, s2, s3, s4⟩ := hSw; go_simp)
              try simp only [Act.put, List.setIfInBounds_toArray, List.set_cons_zero, List.set_cons_succ]
              refine wpAnyH_take (i := 10) (oi := { dst := some 27, op := .move (.tmp 26), type := _, pos := _, after := _, guard := none }) (v := .bool false) rfl (by kernel_rfl) (by kernel_rfl) (by kernel_rfl) (fun _ _ _ h => h) (Or.inl ⟨by rfl, fun wh hSw => ?_⟩) hHeld ?_
              · (obtain ⟨s0, s1, s2, s3, s4⟩ := hSw; go_simp)
              try simp only [Act.put, List.setIfInBounds_toArray, List.set_cons_zero, List.set_cons_succ]
              refine wpAnyH_take (i := 11) (oi := { dst := some 28, op := .fieldAddr 37 (.tmp 4) 1, type := _, pos := _, after := _, guard := some (10, false) }) (v := .pointer (some ⟨X, 0 + 1, none⟩)) rfl (by kernel_rfl) (by kernel_rfl) (by kernel_rfl) (fun _ _ _ h => h) (Or.inl ⟨by rfl, fun wh hSw => ?_⟩) hHeld ?_
              · (obtain ⟨s0, s1, s2, s3, s4⟩ := hSw; go_simp)
              try simp only [Act.put, List.setIfInBounds_toArray, List.set_cons_zero, List.set_cons_succ]
              refine wpAnyH_take (i := 12) (oi := { dst := some 29, op := .load 3 (.tmp 28), type := _, pos := _, after := _, guard := some (10, false) }) (v := .int .i64 (j : Int)) rfl (by kernel_rfl) (by kernel_rfl) (by kernel_rfl) (fun _ _ _ h => h) (Or.inl ⟨by rfl, fun wh hSw => ?_⟩) hHeld ?_
              · (obtain ⟨s0, s1, s2, s3, s4⟩ := hSw; go_simp)
              try simp only [Act.put, List.setIfInBounds_toArray, List.set_cons_zero, List.set_cons_succ]
              refine wpAnyH_take (i := 13) (oi := { dst := some 30, op := .binOp .geq 3 (.tmp 29) (.const (.int .i64 0)) 3, type := _, pos := _, after := _, guard := some (10, false) }) (v := .bool true) rfl (by kernel_rfl) (by kernel_rfl) (by kernel_rfl) (fun _ _ _ h => h) (Or.inl ⟨by rfl, fun wh hSw => ?_⟩) hHeld ?_
              · (obtain ⟨s0, s1, s2, s3, s4⟩ := hSw; go_simp)
              try simp only [Act.put, List.setIfInBounds_toArray, List.set_cons_zero, List.set_cons_succ]
              refine wpAnyH_take (i := 14) (oi := { dst := some 31, op := .move (.tmp 30), type := _, pos := _, after := _, guard := some (10, false) }) (v := .bool true) rfl (by kernel_rfl) (by kernel_rfl) (by kernel_rfl) (fun _ _ _ h => h) (Or.inl ⟨by rfl, fun wh hSw => ?_⟩) hHeld ?_
              · (obtain ⟨s0, s1, s2, s3, s4⟩ := hSw; go_simp)
              try simp only [Act.put, List.setIfInBounds_toArray, List.set_cons_zero, List.set_cons_succ]
              refine wpAnyH_take (i := 15) (oi := { dst := some 32, op := .fieldAddr 30 (.tmp 1) 1, type := _, pos := _, after := _, guard := some (14, true) }) (v := .pointer (some ⟨w.heap.size, 0 + 1, none⟩)) rfl (by kernel_rfl) (by kernel_rfl) (by kernel_rfl) (fun _ _ _ h => h) (Or.inl ⟨by rfl, fun wh hSw => ?_⟩) hHeld ?_
              · (obtain ⟨s0, s1, s2, s3, s4⟩ := hSw; go_simp)
              try simp only [Act.put, List.setIfInBounds_toArray, List.set_cons_zero, List.set_cons_succ]
              refine wpAnyH_take (i := 16) (oi := { dst := some 33, op := .load 26 (.tmp 32), type := _, pos := _, after := _, guard := some (14, true) }) (v := .slice (some ⟨b0, o0, none⟩) 12 c0) rfl (by kernel_rfl) (by kernel_rfl) (by kernel_rfl) (fun _ _ _ h => h) (Or.inl ⟨by rfl, fun wh hSw => ?_⟩) hHeld ?_
              · (obtain ⟨s0, s1, s2, s3, s4⟩ := hSw; go_simp)
              try simp only [Act.put, List.setIfInBounds_toArray, List.set_cons_zero, List.set_cons_succ]
              refine wpAnyH_take (i := 17) (oi := { dst := some 34, op := .fieldAddr 37 (.tmp 4) 1, type := _, pos := _, after := _, guard := some (14, true) }) (v := .pointer (some ⟨X, 0 + 1, none⟩)) rfl (by kernel_rfl) (by kernel_rfl) (by kernel_rfl) (fun _ _ _ h => h) (Or.inl ⟨by rfl, fun wh hSw => ?_⟩) hHeld ?_
              · (obtain ⟨s0, s1, s2, s3, s4⟩ := hSw; go_simp)
              try simp only [Act.put, List.setIfInBounds_toArray, List.set_cons_zero, List.set_cons_succ]
              refine wpAnyH_take (i := 18) (oi := { dst := some 35, op := .load 3 (.tmp 34), type := _, pos := _, after := _, guard := some (14, true) }) (v := .int .i64 (j : Int)) rfl (by kernel_rfl) (by kernel_rfl) (by kernel_rfl) (fun _ _ _ h => h) (Or.inl ⟨by rfl, fun wh hSw => ?_⟩) hHeld ?_
              · (obtain ⟨s0, s1, s2, s3, s4⟩ := hSw; go_simp)
              try simp only [Act.put, List.setIfInBounds_toArray, List.set_cons_zero, List.set_cons_succ]
              refine wpAnyH_take (i := 19) (oi := { dst := some 36, op := .indexAddr 26 (.tmp 33) (.tmp 35), type := _, pos := _, after := _, guard := some (14, true) }) (v := .pointer (some ⟨b0, o0 + j * 3, none⟩)) rfl (by kernel_rfl) (by kernel_rfl) (by kernel_rfl) (fun _ _ _ h => h) (Or.inl ⟨by rfl, fun wh hSw => ?_⟩) hHeld ?_
              · (obtain ⟨s0, s1, s2, s3, s4⟩ := hSw; go_simp)
              try simp only [Act.put, List.setIfInBounds_toArray, List.set_cons_zero, List.set_cons_succ]
              refine wpAnyH_take (i := 20) (oi := { dst := some 37, op := .fieldAddr 46 (.tmp 36) 0, type := _, pos := _, after := _, guard := some (14, true) }) (v := .pointer (some ⟨b0, o0 + j * 3, none⟩)) rfl (by kernel_rfl) (by kernel_rfl) (by kernel_rfl) (fun _ _ _ h => h) (Or.inl ⟨by rfl, fun wh hSw => ?_⟩) hHeld ?_
              · (obtain ⟨s0, s1, s2, s3, s4⟩ := hSw; go_simp)
              try simp only [Act.put, List.setIfInBounds_toArray, List.set_cons_zero, List.set_cons_succ]
              refine wpAnyH_take (i := 21) (oi := { dst := some 38, op := .load 3 (.tmp 37), type := _, pos := _, after := _, guard := some (14, true) }) (v := .int .i64 kd) rfl (by kernel_rfl) (by kernel_rfl) (by kernel_rfl) (fun _ _ _ h => h) (Or.inl ⟨by rfl, fun wh hSw => ?_⟩) hHeld ?_
              · (obtain ⟨s0, s1, s2, s3, s4⟩ := hSw; go_simp)
              try simp only [Act.put, List.setIfInBounds_toArray, List.set_cons_zero, List.set_cons_succ]
              refine wpAnyH_take (i := 22) (oi := { dst := some 39, op := .binOp .neq 3 (.tmp 38) (.const (.int .i64 3)) 3, type := _, pos := _, after := _, guard := some (14, true) }) (v := .bool true) rfl (by kernel_rfl) (by kernel_rfl) (by kernel_rfl) (fun _ _ _ h => h) (Or.inl ⟨by rfl, fun wh hSw => ?_⟩) hHeld ?_
              · (obtain ⟨s0, s1, s2, s3, s4⟩ := hSw; go_simp)
              try simp only [Act.put, List.setIfInBounds_toArray, List.set_cons_zero, List.set_cons_succ]
              refine wpAnyH_take (i := 23) (oi := { dst := some 40, op := .pick (.tmp 31) (.tmp 39) (.const (.bool false)), type := _, pos := _, after := _, guard := some (10, false) }) (v := .bool true) rfl (by kernel_rfl) (by kernel_rfl) (by kernel_rfl) (fun _ _ _ h => h) (Or.inl ⟨by rfl, fun wh hSw => ?_⟩) hHeld ?_
              · (obtain ⟨s0, s1, s2, s3, s4⟩ := hSw; go_simp)
              try simp only [Act.put, List.setIfInBounds_toArray, List.set_cons_zero, List.set_cons_succ]
              refine wpAnyH_take (i := 24) (oi := { dst := some 41, op := .pick (.tmp 27) (.const (.bool true)) (.tmp 40), type := _, pos := _, after := _, guard := none }) (v := .bool true) rfl (by kernel_rfl) (by kernel_rfl) (by kernel_rfl) (fun _ _ _ h => h) (Or.inl ⟨by rfl, fun wh hSw => ?_⟩) hHeld ?_
              · (obtain ⟨s0, s1, s2, s3, s4⟩ := hSw; go_simp)
              try simp only [Act.put, List.setIfInBounds_toArray, List.set_cons_zero, List.set_cons_succ]
              refine wpAnyH_take (i := 25) (oi := { dst := some 42, op := .move (.tmp 41), type := _, pos := _, after := _, guard := none }) (v := .bool true) rfl (by kernel_rfl) (by kernel_rfl) (by kernel_rfl) (fun _ _ _ h => h) (Or.inl ⟨by rfl, fun wh hSw => ?_⟩) hHeld ?_
              · (obtain ⟨s0, s1, s2, s3, s4⟩ := hSw; go_simp)
              try simp only [Act.put, List.setIfInBounds_toArray, List.set_cons_zero, List.set_cons_succ]
              refine wpAnyH_take (i := 26) (oi := { dst := some 43, op := .fieldAddr 30 (.tmp 1) 1, type := _, pos := _, after := _, guard := some (25, false) }) (v := undef) rfl (by kernel_rfl) (by kernel_rfl) (by kernel_rfl) (fun _ _ _ h => h) (Or.inr ⟨by rfl, rfl⟩) hHeld ?_
              try simp only [Act.put, List.setIfInBounds_toArray, List.set_cons_zero, List.set_cons_succ]
              refine wpAnyH_take (i := 27) (oi := { dst := some 44, op := .load 26 (.tmp 43), type := _, pos := _, after := _, guard := some (25, false) }) (v := undef) rfl (by kernel_rfl) (by kernel_rfl) (by kernel_rfl) (fun _ _ _ h => h) (Or.inr ⟨by rfl, rfl⟩) hHeld ?_
              try simp only [Act.put, List.setIfInBounds_toArray, List.set_cons_zero, List.set_cons_succ]
              refine wpAnyH_take (i := 28) (oi := { dst := some 45, op := .fieldAddr 30 (.tmp 1) 0, type := _, pos := _, after := _, guard := some (25, false) }) (v := undef) rfl (by kernel_rfl) (by kernel_rfl) (by kernel_rfl) (fun _ _ _ h => h) (Or.inr ⟨by rfl, rfl⟩) hHeld ?_
              try simp only [Act.put, List.setIfInBounds_toArray, List.set_cons_zero, List.set_cons_succ]
              refine wpAnyH_take (i := 29) (oi := { dst := some 46, op := .load 25 (.tmp 45), type := _, pos := _, after := _, guard := some (25, false) }) (v := undef) rfl (by kernel_rfl) (by kernel_rfl) (by kernel_rfl) (fun _ _ _ h => h) (Or.inr ⟨by rfl, rfl⟩) hHeld ?_
              try simp only [Act.put, List.setIfInBounds_toArray, List.set_cons_zero, List.set_cons_succ]
              refine wpAnyH_take (i := 30) (oi := { dst := some 47, op := .fieldAddr 37 (.tmp 4) 1, type := _, pos := _, after := _, guard := some (25, false) }) (v := undef) rfl (by kernel_rfl) (by kernel_rfl) (by kernel_rfl) (fun _ _ _ h => h) (Or.inr ⟨by rfl, rfl⟩) hHeld ?_
              try simp only [Act.put, List.setIfInBounds_toArray, List.set_cons_zero, List.set_cons_succ]
              refine wpAnyH_take (i := 31) (oi := { dst := some 48, op := .load 3 (.tmp 47), type := _, pos := _, after := _, guard := some (25, false) }) (v := undef) rfl (by kernel_rfl) (by kernel_rfl) (by kernel_rfl) (fun _ _ _ h => h) (Or.inr ⟨by rfl, rfl⟩) hHeld ?_
              try simp only [Act.put, List.setIfInBounds_toArray, List.set_cons_zero, List.set_cons_succ]
              refine wpAnyH_take (i := 32) (oi := { dst := some 49, op := .call { callee := .value (.func 84), args := #[.tmp 46, .tmp 48], argTypes := #[25, 3] }, type := _, pos := _, after := _, guard := some (25, false) }) (v := undef) rfl (by kernel_rfl) (by kernel_rfl) (by kernel_rfl) (fun _ _ _ h => h) (Or.inr ⟨by rfl, rfl⟩) hHeld ?_
              try simp only [Act.put, List.setIfInBounds_toArray, List.set_cons_zero, List.set_cons_succ]
              refine wpAnyH_take (i := 33) (oi := { dst := some 50, op := .fieldAddr 37 (.tmp 4) 0, type := _, pos := _, after := _, guard := some (25, false) }) (v := undef) rfl (by kernel_rfl) (by kernel_rfl) (by kernel_rfl) (fun _ _ _ h => h) (Or.inr ⟨by rfl, rfl⟩) hHeld ?_
              try simp only [Act.put, List.setIfInBounds_toArray, List.set_cons_zero, List.set_cons_succ]
              refine wpAnyH_take (i := 34) (oi := { dst := some 51, op := .load 35 (.tmp 50), type := _, pos := _, after := _, guard := some (25, false) }) (v := undef) rfl (by kernel_rfl) (by kernel_rfl) (by kernel_rfl) (fun _ _ _ h => h) (Or.inr ⟨by rfl, rfl⟩) hHeld ?_
              try simp only [Act.put, List.setIfInBounds_toArray, List.set_cons_zero, List.set_cons_succ]
              refine wpAnyH_take (i := 35) (oi := { dst := some 52, op := .call { callee := .value (.func 128), args := #[.tmp 44, .tmp 49, .tmp 51], argTypes := #[26, 42, 35] }, type := _, pos := _, after := _, guard := some (25, false) }) (v := undef) rfl (by kernel_rfl) (by kernel_rfl) (by kernel_rfl) (fun _ _ _ h => h) (Or.inr ⟨by rfl, rfl⟩) hHeld ?_
              try simp only [Act.put, List.setIfInBounds_toArray, List.set_cons_zero, List.set_cons_succ]
              refine wpAnyH_take (i := 36) (oi := { dst := some 53, op := .unOp .not 4 (.tmp 52), type := _, pos := _, after := _, guard := some (25, false) }) (v := undef) rfl (by kernel_rfl) (by kernel_rfl) (by kernel_rfl) (fun _ _ _ h => h) (Or.inr ⟨by rfl, rfl⟩) hHeld ?_
              try simp only [Act.put, List.setIfInBounds_toArray, List.set_cons_zero, List.set_cons_succ]
              refine wpAnyH_take (i := 37) (oi := { dst := some 54, op := .pick (.tmp 42) (.const (.bool true)) (.tmp 53), type := _, pos := _, after := _, guard := none }) (v := .bool true) rfl (by kernel_rfl) (by kernel_rfl) (by kernel_rfl) (fun _ _ _ h => h) (Or.inl ⟨by rfl, fun wh hSw => ?_⟩) hHeld ?_
              · (obtain ⟨s0, s1, s2, s3, s4⟩ := hSw; go_simp)
              try simp only [Act.put, List.setIfInBounds_toArray, List.set_cons_zero, List.set_cons_succ]
              refine wpAnyH_done (by kernel_rfl) ?_ _
              go_wp2_with fail
              go_ret
              exact ⟨by rw [HNX.out (by trivial)]; rfl, (HP0.out.go HB1.out).bel⟩
          · obtain rfl : t = -1 := by omega
            have HT : Hid (alw I (reach M (-1)) rs = true) := Lib.hid rfl
            rw [HT.out] at HAA HNX HGX
            clear ht0 HK2
            go_wp2_with fail
            rw [← HXX.out, ← HW0.out]
            refine wp_region_held_drew (S := fun w' => w'.cell? ⟨w.heap.size, 0, none⟩ = some vm ∧ w'.cell? ⟨w.heap.size, 1, none⟩ = some (.slice a0 12 c0) ∧ w'.cell? ⟨X, 0, none⟩ = some (.slice ua rs.length uc) ∧ w'.cell? ⟨X, 1, none⟩ = some (.int .i64 (-1))) (by kernel_rfl) (FS.out _ (Below.refl _ _).drew) (fun hHeld => ?_)
            refine wpAnyH_take (i := 0) (oi := { dst := some 17, op := .fieldAddr 37 (.tmp 4) 0, type := _, pos := _, after := _, guard := none }) (v := .pointer (some ⟨X, 0, none⟩)) rfl (by kernel_rfl) (by kernel_rfl) (by kernel_rfl) (fun _ _ _ h => h) (Or.inl ⟨by rfl, fun wh hSw => ?_⟩) hHeld ?_
            · (obtain ⟨s0, s1, s2, s3⟩ := hSw; go_simp)
            try simp only [Act.put, List.setIfInBounds_toArray, List.set_cons_zero, List.set_cons_succ]
            refine wpAnyH_take (i := 1) (oi := { dst := some 18, op := .load 35 (.tmp 17), type := _, pos := _, after := _, guard := none }) (v := .slice ua rs.length uc) rfl (by kernel_rfl) (by kernel_rfl) (by kernel_rfl) (fun _ _ _ h => h) (Or.inl ⟨by rfl, fun wh hSw => ?_⟩) hHeld ?_
            · (obtain ⟨s0, s1, s2, s3⟩ := hSw; go_simp)
            try simp only [Act.put, List.setIfInBounds_toArray, List.set_cons_zero, List.set_cons_succ]
            refine wpAnyH_ready (rs := [2]) (by kernel_rfl) (by simp) ?_
            refine AllReadyH.cons (o := { dst := some 19, op := .call { callee := .value (.func 54), args := #[.tmp 18], argTypes := #[35] }, type := _, pos := _, after := _, guard := none }) rfl (fun K hK => ?_) AllReadyH.nil
            go_simp
            refine HVR.out.mono ?_
            rintro e w1 ⟨rfl, nd, hnd⟩
            have HB1 : Hid (Below W0.heap.size W0 w1) := Lib.hid (by rw [hnd]; exact Below.chg (Below.refl _ _).drew (Chg.of_drewN _ nd) (Nat.le_refl _) (.inr rfl))
            clear hnd
            try go_simp
            refine hK.out _ _ ?_ (fun hHeld => ?_)
            · exact FS.out _ HB1.out
            clear hK K
            try simp only [Act.put, List.setIfInBounds_toArray, List.set_cons_zero, List.set_cons_succ]
            refine wpAnyH_take (i := 3) (oi := { dst := some 20, op := .unOp .not 4 (.tmp 19), type := _, pos := _, after := _, guard := none }) (v := .bool false) rfl (by kernel_rfl) (by kernel_rfl) (by kernel_rfl) (fun _ _ _ h => h) (Or.inl ⟨by rfl, fun wh hSw => ?_⟩) hHeld ?_
            · (obtain ⟨s0, s1, s2, s3⟩ := hSw; go_simp)
            try simp only [Act.put, List.setIfInBounds_toArray, List.set_cons_zero, List.set_cons_succ]
            refine wpAnyH_take (i := 4) (oi := { dst := some 21, op := .move (.tmp 20), type := _, pos := _, after := _, guard := none }) (v := .bool false) rfl (by kernel_rfl) (by kernel_rfl) (by kernel_rfl) (fun _ _ _ h => h) (Or.inl ⟨by rfl, fun wh hSw => ?_⟩) hHeld ?_
            · (obtain ⟨s0, s1, s2, s3⟩ := hSw; go_simp)
            try simp only [Act.put, List.setIfInBounds_toArray, List.set_cons_zero, List.set_cons_succ]
            refine wpAnyH_take (i := 5) (oi := { dst := some 22, op := .fieldAddr 37 (.tmp 4) 1, type := _, pos := _, after := _, guard := some (4, false) }) (v := .pointer (some ⟨X, 0 + 1, none⟩)) rfl (by kernel_rfl) (by kernel_rfl) (by kernel_rfl) (fun _ _ _ h => h) (Or.inl ⟨by rfl, fun wh hSw => ?_⟩) hHeld ?_
            · (obtain ⟨s0, s1, s2, s3⟩ := hSw; go_simp)
            try simp only [Act.put, List.setIfInBounds_toArray, List.set_cons_zero, List.set_cons_succ]
            refine wpAnyH_take (i := 6) (oi := { dst := some 23, op := .load 3 (.tmp 22), type := _, pos := _, after := _, guard := some (4, false) }) (v := .int .i64 (-1)) rfl (by kernel_rfl) (by kernel_rfl) (by kernel_rfl) (fun _ _ _ h => h) (Or.inl ⟨by rfl, fun wh hSw => ?_⟩) hHeld ?_
            · (obtain ⟨s0, s1, s2, s3⟩ := hSw; go_simp)
            try simp only [Act.put, List.setIfInBounds_toArray, List.set_cons_zero, List.set_cons_succ]
            refine wpAnyH_ready (rs := [7]) (by kernel_rfl) (by simp) ?_
            refine AllReadyH.cons (o := { dst := some 24, op := .call { callee := .value (.func 127), args := #[.tmp 23, .const (.int .i64 (-1)), .const (.int .i64 11)], argTypes := #[3, 3, 3] }, type := _, pos := _, after := _, guard := some (4, false) }) rfl (fun K hK => ?_) AllReadyH.nil
            go_simp
            refine (HII.out _).mono ?_
            rintro e w' ⟨rfl, rfl⟩
            try go_simp
            refine hK.out _ _ ?_ (fun hHeld => ?_)
            · exact hHeld
            clear hK K
            try simp only [Act.put, List.setIfInBounds_toArray, List.set_cons_zero, List.set_cons_succ]
            refine wpAnyH_take (i := 8) (oi := { dst := some 25, op := .unOp .not 4 (.tmp 24), type := _, pos := _, after := _, guard := some (4, false) }) (v := .bool false) rfl (by kernel_rfl) (by kernel_rfl) (by kernel_rfl) (fun _ _ _ h => h) (Or.inl ⟨by rfl, fun wh hSw => ?_⟩) hHeld ?_
            · (obtain ⟨s0, s1, s2, s3⟩ := hSw; go_simp)
            try simp only [Act.put, List.setIfInBounds_toArray, List.set_cons_zero, List.set_cons_succ]
            refine wpAnyH_take (i := 9) (oi := { dst := some 26, op := .pick (.tmp 21) (.const (.bool true)) (.tmp 25), type := _, pos := _, after := _, guard := none }) (v := .bool false) rfl (by kernel_rfl) (by kernel_rfl) (by kernel_rfl) (fun _ _ _ h => h) (Or.inl ⟨by rfl, fun wh hSw => ?_⟩) hHeld ?_
            · (obtain ⟨s0, s1, s2, s3⟩ := hSw; go_simp)
            try simp only [Act.put, List.setIfInBounds_toArray, List.set_cons_zero, List.set_cons_succ]
            refine wpAnyH_take (i := 10) (oi := { dst := some 27, op := .move (.tmp 26), type := _, pos := _, after := _, guard := none }) (v := .bool false) rfl (by kernel_rfl) (by kernel_rfl) (by kernel_rfl) (fun _ _ _ h => h) (Or.inl ⟨by rfl, fun wh hSw => ?_⟩) hHeld ?_
            · (obtain ⟨s0, s1, s2, s3⟩ := hSw; go_simp)
            try simp only [Act.put, List.setIfInBounds_toArray, List.set_cons_zero, List.set_cons_succ]
            refine wpAnyH_take (i := 11) (oi := { dst := some 28, op := .fieldAddr 37 (.tmp 4) 1, type := _, pos := _, after := _, guard := some (10, false) }) (v := .pointer (some ⟨X, 0 + 1, none⟩)) rfl (by kernel_rfl) (by kernel_rfl) (by kernel_rfl) (fun _ _ _ h => h) (Or.inl ⟨by rfl, fun wh hSw => ?_⟩) hHeld ?_
            · (obtain ⟨s0, s1, s2, s3⟩ := hSw; go_simp)
            try simp only [Act.put, List.setIfInBounds_toArray, List.set_cons_zero, List.set_cons_succ]
            refine wpAnyH_take (i := 12) (oi := { dst := some 29, op := .load 3 (.tmp 28), type := _, pos := _, after := _, guard := some (10, false) }) (v := .int .i64 (-1)) rfl (by kernel_rfl) (by kernel_rfl) (by kernel_rfl) (fun _ _ _ h => h) (Or.inl ⟨by rfl, fun wh hSw => ?_⟩) hHeld ?_
            · (obtain ⟨s0, s1, s2, s3⟩ := hSw; go_simp)
            try simp only [Act.put, List.setIfInBounds_toArray, List.set_cons_zero, List.set_cons_succ]
            refine wpAnyH_take (i := 13) (oi := { dst := some 30, op := .binOp .geq 3 (.tmp 29) (.const (.int .i64 0)) 3, type := _, pos := _, after := _, guard := some (10, false) }) (v := .bool false) rfl (by kernel_rfl) (by kernel_rfl) (by kernel_rfl) (fun _ _ _ h => h) (Or.inl ⟨by rfl, fun wh hSw => ?_⟩) hHeld ?_
            · (obtain ⟨s0, s1, s2, s3⟩ := hSw; go_simp)
            try simp only [Act.put, List.setIfInBounds_toArray, List.set_cons_zero, List.set_cons_succ]
            refine wpAnyH_take (i := 14) (oi := { dst := some 31, op := .move (.tmp 30), type := _, pos := _, after := _, guard := some (10, false) }) (v := .bool false) rfl (by kernel_rfl) (by kernel_rfl) (by kernel_rfl) (fun _ _ _ h => h) (Or.inl ⟨by rfl, fun wh hSw => ?_⟩) hHeld ?_
            · (obtain ⟨s0, s1, s2, s3⟩ := hSw; go_simp)
            try simp only [Act.put, List.setIfInBounds_toArray, List.set_cons_zero, List.set_cons_succ]
            refine wpAnyH_take (i := 15) (oi := { dst := some 32, op := .fieldAddr 30 (.tmp 1) 1, type := _, pos := _, after := _, guard := some (14, true) }) (v := undef) rfl (by kernel_rfl) (by kernel_rfl) (by kernel_rfl) (fun _ _ _ h => h) (Or.inr ⟨by rfl, rfl⟩) hHeld ?_
            try simp only [Act.put, List.setIfInBounds_toArray, List.set_cons_zero, List.set_cons_succ]
            refine wpAnyH_take (i := 16) (oi := { dst := some 33, op := .load 26 (.tmp 32), type := _, pos := _, after := _, guard := some (14, true) }) (v := undef) rfl (by kernel_rfl) (by kernel_rfl) (by kernel_rfl) (fun _ _ _ h => h) (Or.inr ⟨by rfl, rfl⟩) hHeld ?_
            try simp only [Act.put, List.setIfInBounds_toArray, List.set_cons_zero, List.set_cons_succ]
            refine wpAnyH_take (i := 17) (oi := { dst := some 34, op := .fieldAddr 37 (.tmp 4) 1, type := _, pos := _, after := _, guard := some (14, true) }) (v := undef) rfl (by kernel_rfl) (by kernel_rfl) (by kernel_rfl) (fun _ _ _ h => h) (Or.inr ⟨by rfl, rfl⟩) hHeld ?_
            try simp only [Act.put, List.setIfInBounds_toArray, List.set_cons_zero, List.set_cons_succ]
            refine wpAnyH_take (i := 18) (oi := { dst := some 35, op := .load 3 (.tmp 34), type := _, pos := _, after := _, guard := some (14, true) }) (v := undef) rfl (by kernel_rfl) (by kernel_rfl) (by kernel_rfl) (fun _ _ _ h => h) (Or.inr ⟨by rfl, rfl⟩) hHeld ?_
            try simp only [Act.put, List.setIfInBounds_toArray, List.set_cons_zero, List.set_cons_succ]
            refine wpAnyH_take (i := 19) (oi := { dst := some 36, op := .indexAddr 26 (.tmp 33) (.tmp 35), type := _, pos := _, after := _, guard := some (14, true) }) (v := undef) rfl (by kernel_rfl) (by kernel_rfl) (by kernel_rfl) (fun _ _ _ h => h) (Or.inr ⟨by rfl, rfl⟩) hHeld ?_
            try simp only [Act.put, List.setIfInBounds_toArray, List.set_cons_zero, List.set_cons_succ]
            refine wpAnyH_take (i := 20) (oi := { dst := some 37, op := .fieldAddr 46 (.tmp 36) 0, type := _, pos := _, after := _, guard := some (14, true) }) (v := undef) rfl (by kernel_rfl) (by kernel_rfl) (by kernel_rfl) (fun _ _ _ h => h) (Or.inr ⟨by rfl, rfl⟩) hHeld ?_
            try simp only [Act.put, List.setIfInBounds_toArray, List.set_cons_zero, List.set_cons_succ]
            refine wpAnyH_take (i := 21) (oi := { dst := some 38, op := .load 3 (.tmp 37), type := _, pos := _, after := _, guard := some (14, true) }) (v := undef) rfl (by kernel_rfl) (by kernel_rfl) (by kernel_rfl) (fun _ _ _ h => h) (Or.inr ⟨by rfl, rfl⟩) hHeld ?_
            try simp only [Act.put, List.setIfInBounds_toArray, List.set_cons_zero, List.set_cons_succ]
            refine wpAnyH_take (i := 22) (oi := { dst := some 39, op := .binOp .neq 3 (.tmp 38) (.const (.int .i64 3)) 3, type := _, pos := _, after := _, guard := some (14, true) }) (v := undef) rfl (by kernel_rfl) (by kernel_rfl) (by kernel_rfl) (fun _ _ _ h => h) (Or.inr ⟨by rfl, rfl⟩) hHeld ?_
            try simp only [Act.put, List.setIfInBounds_toArray, List.set_cons_zero, List.set_cons_succ]
            refine wpAnyH_take (i := 23) (oi := { dst := some 40, op := .pick (.tmp 31) (.tmp 39) (.const (.bool false)), type := _, pos := _, after := _, guard := some (10, false) }) (v := .bool false) rfl (by kernel_rfl) (by kernel_rfl) (by kernel_rfl) (fun _ _ _ h => h) (Or.inl ⟨by rfl, fun wh hSw => ?_⟩) hHeld ?_
            · (obtain ⟨s0, s1, s2, s3⟩ := hSw; go_simp)
            try simp only [Act.put, List.setIfInBounds_toArray, List.set_cons_zero, List.set_cons_succ]
            refine wpAnyH_take (i := 24) (oi := { dst := some 41, op := .pick (.tmp 27) (.const (.bool true)) (.tmp 40), type := _, pos := _, after := _, guard := none }) (v := .bool false) rfl (by kernel_rfl) (by kernel_rfl) (by kernel_rfl) (fun _ _ _ h => h) (Or.inl ⟨by rfl, fun wh hSw => ?_⟩) hHeld ?_
            · (obtain ⟨s0, s1, s2, s3⟩ := hSw; go_simp)
            try simp only [Act.put, List.setIfInBounds_toArray, List.set_cons_zero, List.set_cons_succ]
            refine wpAnyH_take (i := 25) (oi := { dst := some 42, op := .move (.tmp 41), type := _, pos := _, after := _, guard := none }) (v := .bool false) rfl (by kernel_rfl) (by kernel_rfl) (by kernel_rfl) (fun _ _ _ h => h) (Or.inl ⟨by rfl, fun wh hSw => ?_⟩) hHeld ?_
            · (obtain ⟨s0, s1, s2, s3⟩ := hSw; go_simp)
            try simp only [Act.put, List.setIfInBounds_toArray, List.set_cons_zero, List.set_cons_succ]
            refine wpAnyH_take (i := 26) (oi := { dst := some 43, op := .fieldAddr 30 (.tmp 1) 1, type := _, pos := _, after := _, guard := some (25, false) }) (v := .pointer (some ⟨w.heap.size, 0 + 1, none⟩)) rfl (by kernel_rfl) (by kernel_rfl) (by kernel_rfl) (fun _ _ _ h => h) (Or.inl ⟨by rfl, fun wh hSw => ?_⟩) hHeld ?_
            · (obtain ⟨s0, s1, s2, s3⟩ := hSw; go_simp)
            try simp only [Act.put, List.setIfInBounds_toArray, List.set_cons_zero, List.set_cons_succ]
            refine wpAnyH_take (i := 27) (oi := { dst := some 44, op := .load 26 (.tmp 43), type := _, pos := _, after := _, guard := some (25, false) }) (v := .slice a0 12 c0) rfl (by kernel_rfl) (by kernel_rfl) (by kernel_rfl) (fun _ _ _ h => h) (Or.inl ⟨by rfl, fun wh hSw => ?_⟩) hHeld ?_
            · (obtain ⟨s0, s1, s2, s3⟩ := hSw; go_simp)
            try simp only [Act.put, List.setIfInBounds_toArray, List.set_cons_zero, List.set_cons_succ]
            refine wpAnyH_take (i := 28) (oi := { dst := some 45, op := .fieldAddr 30 (.tmp 1) 0, type := _, pos := _, after := _, guard := some (25, false) }) (v := .pointer (some ⟨w.heap.size, 0, none⟩)) rfl (by kernel_rfl) (by kernel_rfl) (by kernel_rfl) (fun _ _ _ h => h) (Or.inl ⟨by rfl, fun wh hSw => ?_⟩) hHeld ?_
            · (obtain ⟨s0, s1, s2, s3⟩ := hSw; go_simp)
            try simp only [Act.put, List.setIfInBounds_toArray, List.set_cons_zero, List.set_cons_succ]
            refine wpAnyH_take (i := 29) (oi := { dst := some 46, op := .load 25 (.tmp 45), type := _, pos := _, after := _, guard := some (25, false) }) (v := vm) rfl (by kernel_rfl) (by kernel_rfl) (by kernel_rfl) (fun _ _ _ h => h) (Or.inl ⟨by rfl, fun wh hSw => ?_⟩) hHeld ?_
            · (obtain ⟨s0, s1, s2, s3⟩ := hSw; go_simp)
            try simp only [Act.put, List.setIfInBounds_toArray, List.set_cons_zero, List.set_cons_succ]
            refine wpAnyH_take (i := 30) (oi := { dst := some 47, op := .fieldAddr 37 (.tmp 4) 1, type := _, pos := _, after := _, guard := some (25, false) }) (v := .pointer (some ⟨X, 0 + 1, none⟩)) rfl (by kernel_rfl) (by kernel_rfl) (by kernel_rfl) (fun _ _ _ h => h) (Or.inl ⟨by rfl, fun wh hSw => ?_⟩) hHeld ?_
            · (obtain ⟨s0, s1, s2, s3⟩ := hSw; go_simp)
            try simp only [Act.put, List.setIfInBounds_toArray, List.set_cons_zero, List.set_cons_succ]
            refine wpAnyH_take (i := 31) (oi := { dst := some 48, op := .load 3 (.tmp 47), type := _, pos := _, after := _, guard := some (25, false) }) (v := .int .i64 (-1)) rfl (by kernel_rfl) (by kernel_rfl) (by kernel_rfl) (fun _ _ _ h => h) (Or.inl ⟨by rfl, fun wh hSw => ?_⟩) hHeld ?_
            · (obtain ⟨s0, s1, s2, s3⟩ := hSw; go_simp)
            try simp only [Act.put, List.setIfInBounds_toArray, List.set_cons_zero, List.set_cons_succ]
            refine wpAnyH_take (i := 33) (oi := { dst := some 50, op := .fieldAddr 37 (.tmp 4) 0, type := _, pos := _, after := _, guard := some (25, false) }) (v := .pointer (some ⟨X, 0, none⟩)) rfl (by kernel_rfl) (by kernel_rfl) (by kernel_rfl) (fun _ _ _ h => h) (Or.inl ⟨by rfl, fun wh hSw => ?_⟩) hHeld ?_
            · (obtain ⟨s0, s1, s2, s3⟩ := hSw; go_simp)
            try simp only [Act.put, List.setIfInBounds_toArray, List.set_cons_zero, List.set_cons_succ]
            refine wpAnyH_take (i := 34) (oi := { dst := some 51, op := .load 35 (.tmp 50), type := _, pos := _, after := _, guard := some (25, false) }) (v := .slice ua rs.length uc) rfl (by kernel_rfl) (by kernel_rfl) (by kernel_rfl) (fun _ _ _ h => h) (Or.inl ⟨by rfl, fun wh hSw => ?_⟩) hHeld ?_
            · (obtain ⟨s0, s1, s2, s3⟩ := hSw; go_simp)
            try simp only [Act.put, List.setIfInBounds_toArray, List.set_cons_zero, List.set_cons_succ]
            refine wpAnyH_ready (rs := [32]) (by kernel_rfl) (by simp) ?_
            refine AllReadyH.cons (o := { dst := some 49, op := .call { callee := .value (.func 84), args := #[.tmp 46, .tmp 48], argTypes := #[25, 3] }, type := _, pos := _, after := _, guard := some (25, false) }) rfl (fun K hK => ?_) AllReadyH.nil
            go_simp
            refine (HRR.out w1 HB1.out).mono ?_
            rintro e w2 ⟨vf, rfl, hf2⟩
            have HB2 := Lib.hid (HB1.out.trans (hf2.bel.mono HB1.out.size))
            have HC2 := Lib.hid (HAA.out w2 vf HB2.out hf2.ints)
            clear hf2
            try go_simp
            refine hK.out _ _ ?_ (fun hHeld => ?_)
            · exact FS.out _ HB2.out
            clear hK K
            try simp only [Act.put, List.setIfInBounds_toArray, List.set_cons_zero, List.set_cons_succ]
            refine wpAnyH_ready (rs := [35]) (by kernel_rfl) (by simp) ?_
            refine AllReadyH.cons (o := { dst := some 52, op := .call { callee := .value (.func 128), args := #[.tmp 44, .tmp 49, .tmp 51], argTypes := #[26, 42, 35] }, type := _, pos := _, after := _, guard := some (25, false) }) rfl (fun K hK => ?_) AllReadyH.nil
            go_simp
            refine HC2.out.mono ?_
            rintro e w' ⟨rfl, rfl⟩
            try go_simp
            refine hK.out _ _ ?_ (fun hHeld => ?_)
            · exact hHeld
            clear hK K
            try simp only [Act.put, List.setIfInBounds_toArray, List.set_cons_zero, List.set_cons_succ]
            refine wpAnyH_take (i := 36) (oi := { dst := some 53, op := .unOp .not 4 (.tmp 52), type := _, pos := _, after := _, guard := some (25, false) }) (v := .bool false) rfl (by kernel_rfl) (by kernel_rfl) (by kernel_rfl) (fun _ _ _ h => h) (Or.inl ⟨by rfl, fun wh hSw => ?_⟩) hHeld ?_
            · (obtain ⟨s0, s1, s2, s3⟩ := hSw; go_simp)
            try simp only [Act.put, List.setIfInBounds_toArray, List.set_cons_zero, List.set_cons_succ]
            refine wpAnyH_take (i := 37) (oi := { dst := some 54, op := .pick (.tmp 42) (.const (.bool true)) (.tmp 53), type := _, pos := _, after := _, guard := none }) (v := .bool false) rfl (by kernel_rfl) (by kernel_rfl) (by kernel_rfl) (fun _ _ _ h => h) (Or.inl ⟨by rfl, fun wh hSw => ?_⟩) hHeld ?_
            · (obtain ⟨s0, s1, s2, s3⟩ := hSw; go_simp)
            try simp only [Act.put, List.setIfInBounds_toArray, List.set_cons_zero, List.set_cons_succ]
            refine wpAnyH_done (by kernel_rfl) ?_ _
            go_wp2_with fail
            go_roundw
            case rel => exact ⟨f + 1, by omega, by go_num, Lib.hid (HP0.out.go HB2.out), Lib.hid (HGX.out (by trivial))⟩
            case measure => simp [intOf]; omega
    · have e : f = n := by omega
      subst e
      have HR := Lib.hid (HYES.out HG.out)
      have HF : Hid (((f : Int) == 3) = decide (f = 3)) := Lib.hid (by
        by_cases h3 : f = 3
        · subst h3; rfl
        · rw [decide_eq_false h3]; simpa using (show (f : Int) ≠ 3 by omega))
      go_wp2
      go_ret
      exact ⟨by rw [HR.out, ← HF.out]; rfl, HP.out.bel⟩
end Go.Proofs.YtcmmlgdfhkcmoaaGreat
namespace Go.Proofs.YtcmmlgdfhkcmoaaGreat
open Go.ChangeShapes Go.WideShapes Go.ChangeAt Go.RowKit
set_option linter.unusedVariables false
set_option maxRecDepth 100000
set_option maxHeartbeats 2000000 in
theorem l21Cache_any (w : World) (vm vi ve vc : Value) (K : KV) (h : Ks w vm vi ve vc K) (hm : memOk K.m = true) (hc : cOk K.c = true) (he : K.e.length = 3) (hb : ∀ j, j < 3 → -1 ≤ (K.e.getD j ez).t ∧ (K.e.getD j ez).t ≤ 11) :
    Calls Tryz.prog 70 #[kV vm vi ve vc] w (BRes (cacheOk K.m K.e K.c) w) := by
  obtain ⟨M, I, E, C⟩ := K
  have HWK : Hid (∀ (W : World) (t a : Int), Below w.heap.size w W → 0 ≤ t ∧ t < 12 → 0 ≤ a ∧ a < 64 → Calls Tryz.prog 91 #[vm, .int .i64 t, .int .i64 a] W (WalkRes W (walkF M t a))) := Lib.hid (fun W t a hW ht ha => l3Walk_any W vm M t a (h.m.below hW) ⟨hm, ht, ha⟩)
  have HKP := Lib.hid (fun t => KP.start w vm vi ve vc t)
  obtain ⟨n, hN⟩ : ∃ n, n = C.length := ⟨_, rfl⟩
  have HCV : Hid (∀ f, f < n → (0 ≤ (C.getD f c0).e ∧ (C.getD f c0).e < 3) ∧ 0 ≤ (C.getD f c0).p ∧ (C.getD f c0).p < 16) := Lib.hid (fun f hf => by
    have h1 := ((cOk_iff C).1 hc).1 (C.getD f c0) (by rw [getD_lt (by omega)]; exact List.getElem_mem _)
    unfold cvOk at h1
    rw [Bool.and_eq_true, Bool.and_eq_true, inR_iff, inR_iff] at h1
    omega)
  have HNO : Hid (∀ f, f < n → cach1 M E (C.getD f c0) = false → cacheOk M E C = false) := Lib.hid (fun f hf hg => by
    rw [Bool.eq_false_iff]
    intro hh
    have := List.all_eq_true.1 hh (C.getD f c0) (by rw [getD_lt (by omega)]; exact List.getElem_mem _)
    rw [hg] at this
    cases this)
  have HYES : Hid ((∀ f, f < n → cach1 M E (C.getD f c0) = true) → cacheOk M E C = true) := Lib.hid (fun hb => List.all_eq_true.2 (fun x hx => by
      obtain ⟨k, hk, rfl⟩ := List.getElem_of_mem hx
      have := hb k (by omega)
      rwa [getD_lt hk] at this))
  dsimp only at he hb ⊢
  generalize cacheOk M E C = r at HNO HYES
  obtain ⟨ae, ce, rfl, e1, e2, e3⟩ := h.e
  obtain ⟨a0, cc, rfl, l1, l2, l3⟩ := h.c
  unfold maxLen at l2 e2
  dsimp only at l1 l3 e1 e3
  rw [he] at e1 HKP ⊢
  rw [← hN] at l1 HKP ⊢
  have HYN := Lib.hid he
  have HNN := Lib.hid hN
  have HX := Lib.hid l3
  have HE := Lib.hid e3
  have HB := Lib.hid hb
  clear h hm hc he l3 e3 hN hb
  go_enter Tryz.func70, Tryz.ntmps70
  go_wp2
  go_loopw [3] (fun i wr => ∃ f : Nat, f ≤ n ∧ i = .int .i64 f ∧ Hid (KP w wr vm vi (.slice ae 3 ce) (.slice a0 n cc)) ∧ Hid (∀ t, t < f → cach1 M E (C.getD t c0) = true)) (fun i _ => n - (intOf i).toNat)
  case atStart => exact ⟨0, Nat.zero_le _, rfl, Lib.hid (HKP.out _), Lib.hid (fun t ht => by omega)⟩
  case round =>
    obtain ⟨f, hf, rfl, HP, HG⟩ := hrel
    obtain ⟨q0, q1, q2, q3⟩ := HP.out.cells
    by_cases hlt : f < n
    · have hlt' : (f : Int) < (n : Int) := by omega
      have hf0 : (0 : Int) ≤ (f : Int) := by omega
      obtain ⟨be, oe, rfl, hf4⟩ := HX.out f (by have := HNN.out; omega)
      have hno := HNO.out f hlt
      have hgo : cach1 M E (C.getD f c0) = true → ∀ t, t < f + 1 → cach1 M E (C.getD t c0) = true := fun hb t ht => by
        by_cases e : t = f
        · subst e; exact hb
        · exact HG.out t (by omega)
      have hcv := HCV.out f hlt
      obtain ⟨x, hx⟩ : ∃ x, x = C.getD f c0 := ⟨_, rfl⟩
      rw [← hx] at hf4 hno hgo hcv
      obtain ⟨xe, xp, xf, xb⟩ := x
      obtain ⟨g0, g1, g2, g3⟩ := hf4
      have d0 := (HP.out.bel.cell (p := ⟨be, oe + f * 4, none⟩) (cell_lt g0)).trans g0
      have d1 := (HP.out.bel.cell (p := ⟨be, oe + f * 4 + 1, none⟩) (cell_lt g1)).trans g1
      have d2 := (HP.out.bel.cell (p := ⟨be, oe + f * 4 + 2, none⟩) (cell_lt g2)).trans g2
      have d3 := (HP.out.bel.cell (p := ⟨be, oe + f * 4 + 3, none⟩) (cell_lt g3)).trans g3
      dsimp only at d0 d1 d2 d3 hcv
      obtain ⟨⟨hj0, hj3⟩, hp0, hp16⟩ := hcv
      obtain ⟨j, rfl⟩ := Int.eq_ofNat_of_zero_le hj0
      have hj3' : j < 3 := by omega
      obtain ⟨bj, oj, uj, rfl, _, hr0, _⟩ := HE.out j (by have := HYN.out; omega)
      have hrb := HB.out j hj3'
      have hro : rootOf E (j : Int) = (E.getD j ez).t := by unfold rootOf; rw [Int.toNat_natCast]
      unfold cach1 at hno hgo
      dsimp only at hno hgo
      rw [hro] at hno hgo
      obtain ⟨t, ht⟩ : ∃ t, t = (E.getD j ez).t := ⟨_, rfl⟩
      rw [← ht] at hr0 hrb hno hgo
      have dr := (HP.out.bel.cell (p := ⟨bj, oj + j * 2 + 1, none⟩) (cell_lt hr0)).trans hr0
      have HNX := Lib.hid hno
      have HGX := Lib.hid hgo
      have hz1 := HP.out.sz
      have hz2 : bj < wr.heap.size := cell_lt dr
      clear g0 g1 g2 g3 hx hno hgo hro ht hr0
      by_cases ht0 : t < 0
      · rw [decide_eq_false (show ¬ 0 ≤ t by omega), Bool.false_and] at HNX
        have HA : Hid (∀ o, Below w.heap.size w (wr.alloc o)) := Lib.hid (fun o => (HP.out.alloc o).bel)
        go_wp2
        go_ret
        exact ⟨by rw [HNX.out (by trivial)]; rfl, HA.out _⟩
      · rw [decide_eq_true (show 0 ≤ t by omega), Bool.true_and] at HNX HGX
        have HA : Hid (∀ o, KP w (wr.alloc o) vm vi (.slice (some ⟨bj, oj, none⟩) 3 ce) (.slice (some ⟨be, oe, none⟩) n cc)) := Lib.hid (fun o => HP.out.alloc o)
        have HW := Lib.hid (fun o => HWK.out (wr.alloc o) t (4 * xp) (HA.out o).bel (by omega) (by omega))
        have HZ : Hid (∀ o, (wr.alloc o).heap.size = wr.heap.size + 1) := Lib.hid (fun o => by simp)
        have hw4 : IntKind.i64.wrap (4 * xp) = 4 * xp := by rw [IntKind.wrap_i64]; omega
        obtain ⟨p, hp⟩ : ∃ p, p = walkF M t (4 * xp) := ⟨_, rfl⟩
        rw [← hp] at HNX HGX HW
        clear hp
        obtain ⟨pf, pt, pb, pc⟩ := p
        dsimp only at HNX HGX
        unfold WalkRes plV at HW
        go_wp2_with fail
        refine (HW.out _).mono ?_
        rintro e w1 ⟨rfl, hb1⟩
        have hX1 : wr.heap.size < w1.heap.size := by have := hb1.size; rw [HZ.out] at this; omega
        have HK1 : Hid (KP w w1 vm vi (.slice (some ⟨bj, oj, none⟩) 3 ce) (.slice (some ⟨be, oe, none⟩) n cc)) := Lib.hid ((HA.out _).go hb1)
        have s2 : w1.cell? ⟨wr.heap.size, 2, none⟩ = some (.int .i64 xf) := (hb1.cell (p := ⟨wr.heap.size, 2, none⟩) (by simp)).trans (new_cell rfl)
        have s3 : w1.cell? ⟨wr.heap.size, 3, none⟩ = some (.bool xb) := (hb1.cell (p := ⟨wr.heap.size, 3, none⟩) (by simp)).trans (new_cell rfl)
        clear hb1 q0 q1 q2 q3 d0 d1 d2 d3 dr HA HW
        by_cases hc0 : pc = 0
        · subst hc0
          by_cases hff : pf = xf
          · subst hff
            by_cases hbb : pb = xb
            · subst hbb
              go_wp2_with fail
              go_roundw
              case rel => exact ⟨f + 1, by omega, by go_num, Lib.hid (HK1.out.alloc _), Lib.hid (HGX.out (by simp))⟩
              case measure => simp [intOf]; omega
            · have hb1 : (pb == xb) = false := by simpa using hbb
              have hb2 : (pb != xb) = true := by simpa using hbb
              have HR := Lib.hid (HNX.out (decide_eq_false (fun hh => hbb hh.2.2)))
              go_wp2_with fail
              go_ret
              exact ⟨by rw [HR.out]; rfl, (HK1.out.alloc _).bel⟩
          · have hb1 : (pf == xf) = false := by simpa using hff
            have hb2 : (pf != xf) = true := by simpa using hff
            have HR := Lib.hid (HNX.out (decide_eq_false (fun hh => hff hh.2.1)))
            go_wp2_with fail
            go_ret
            exact ⟨by rw [HR.out]; rfl, (HK1.out.alloc _).bel⟩
        · have hb1 : (pc == 0) = false := by simpa using hc0
          have hb2 : (pc != 0) = true := by simpa using hc0
          have HR := Lib.hid (HNX.out (decide_eq_false (fun hh => hc0 hh.1)))
          go_wp2_with fail
          go_ret
          exact ⟨by rw [HR.out]; rfl, (HK1.out.alloc _).bel⟩
    · have e : f = n := by omega
      subst e
      have HR := Lib.hid (HYES.out HG.out)
      go_wp2
      go_ret
      exact ⟨by rw [HR.out]; rfl, HP.out.bel⟩
end Go.Proofs.YtcmmlgdfhkcmoaaGreat
namespace Go.Proofs.YtcmmlgdfhkcmoaaGreat
open Go.ChangeShapes Go.WideShapes Go.ChangeAt Go.RowKit
set_option linter.unusedVariables false
set_option maxRecDepth 100000
def cntE (es : List EV) (k : Nat) (j : Nat) : Nat := (es.take k).countP (fun x => decide (x.t = (j : Int)))
theorem cntE_step {es : List EV} {k : Nat} (hk : k < es.length) (j : Nat) : cntE es (k + 1) j = cntE es k j + if (es.getD k ez).t = (j : Int) then 1 else 0 := by
  unfold cntE
  rw [take_snoc_getD es k ez hk, List.countP_append]
  by_cases h : (es.getD k ez).t = (j : Int) <;> simp [h]
theorem cntE_le (es : List EV) (k j : Nat) : cntE es k j ≤ es.length := by
  unfold cntE
  have h1 := List.countP_le_length (p := fun x : EV => decide (x.t = (j : Int))) (l := es.take k)
  rw [List.length_take] at h1
  omega
theorem cntE_all (es : List EV) (j : Nat) : cntE es es.length j = es.countP (fun x => decide (x.t = (j : Int))) := by
  unfold cntE
  rw [List.take_length]
theorem CntRel.up2 {w : World} {C : Nat} {vo : Value} {F : Nat → Nat} {wr : World} (h : CntRel w C vo F wr) {j : Nat} (hj : j < 12) :
    ∃ g p c, vo = .slice (some ⟨g, p, none⟩) 12 c ∧ w.heap.size ≤ g ∧ g < C ∧ wr.cell? ⟨g, p + j, none⟩ = some (.int .i64 (F j)) ∧ wr.frozen? ⟨g, p + j, none⟩ = false ∧ CntRel w C vo (fun i => F i + if i = j then 1 else 0) (wr.setCell ⟨g, p + j, none⟩ (.int .i64 ((F j : Int) + 1))) := by
  obtain ⟨g, p, c, e, hg1, hc, hf, hs⟩ := h.up hj
  obtain ⟨g', p', c', e', hg0, _⟩ := h.out.set (j := j) (by rw [cl_len]; exact hj) 0
  rw [e] at e'
  injection e' with e1
  injection e1 with e1
  injection e1 with e1
  exact ⟨g, p, c, e, by omega, hg1, hc, hf, hs⟩
theorem CntRel.cell {w : World} {C : Nat} {vo : Value} {F : Nat → Nat} {wr : World} (h : CntRel w C vo F wr) {j : Nat} (hj : j < 12) :
    ∃ g p c, vo = .slice (some ⟨g, p, none⟩) 12 c ∧ wr.cell? ⟨g, p + j, none⟩ = some (.int .i64 (F j)) := by
  obtain ⟨g, p, c, e, _, _, hc, _⟩ := h.up2 hj
  exact ⟨g, p, c, e, hc⟩
theorem CntRel.cap {w : World} {C : Nat} {vo : Value} {F : Nat → Nat} {wr : World} (h : CntRel w C vo F wr) : ∃ g p c, vo = .slice (some ⟨g, p, none⟩) 12 c ∧ c ≤ maxLen ∧ 12 ≤ c := by
  obtain ⟨a, cap, e, h1, h2, h3⟩ := h.out
  obtain ⟨g, p, e2, _⟩ := h3 0 (by rw [cl_len]; omega)
  rw [cl_len] at e h1
  exact ⟨g, p, cap, by rw [e, e2], h2, h1⟩
set_option maxHeartbeats 4000000 in
theorem l21Refs_any (w : World) (vm vi ve vc : Value) (K : KV) (h : Ks w vm vi ve vc K) (hm : memOk K.m = true) (hn : K.i.length = 12) (he : K.e.length = 3) (hb : ∀ j, j < 3 → -1 ≤ (K.e.getD j ez).t ∧ (K.e.getD j ez).t ≤ 11) :
    Calls Tryz.prog 69 #[kV vm vi ve vc] w (BRes (refsOk K.m K.i K.e) w) := by
  obtain ⟨M, I, E, C⟩ := K
  have HC : Hid (∀ W, Below w.heap.size w W → Calls Tryz.prog 131 #[vm, vi] W (NewR (cl (fun j => cntN M I j 12)) W)) := Lib.hid (fun W hW => l13Count_any W vm vi M I (h.m.below hW) hm (h.i.below hW) hn)
  have HKP := Lib.hid (fun t => KP.start w vm vi ve vc t)
  have HCL : Hid (∀ j, cntN M I j 12 ≤ 48) := Lib.hid (fun j => cntN_le hm j 12 (Nat.le_refl _))
  have HNO : Hid (∀ f, f < 12 → (I.getD f iz).r ≠ ((cntN M I f 12 + cntE E 3 f : Nat) : Int) → refsOk M I E = false) := Lib.hid (fun f hf hg => by
    rw [Bool.eq_false_iff]
    intro hh
    have h1 := of_decide_eq_true (List.all_eq_true.1 hh f (List.mem_range.2 hf))
    unfold useN at h1
    rw [← cntE_all, show E.length = 3 from he] at h1
    exact hg h1)
  have HYES : Hid ((∀ f, f < 12 → (I.getD f iz).r = ((cntN M I f 12 + cntE E 3 f : Nat) : Int)) → refsOk M I E = true) := Lib.hid (fun hb => List.all_eq_true.2 (fun f hf => by
    have h1 := hb f (List.mem_range.1 hf)
    unfold useN
    rw [← cntE_all, show E.length = 3 from he]
    exact decide_eq_true h1))
  dsimp only at he hb hn ⊢
  generalize refsOk M I E = r at HNO HYES
  obtain ⟨ae, ce, rfl, e1, e2, e3⟩ := h.e
  obtain ⟨a0, cc, rfl, l1, l2, l3⟩ := h.i
  unfold maxLen at l2 e2
  dsimp only at l1 l3 e1 e3
  rw [he] at e1 HKP ⊢
  rw [hn] at l1 HKP HC ⊢
  have HYN := Lib.hid he
  have HNN := Lib.hid hn
  have HX := Lib.hid l3
  have HE := Lib.hid e3
  have HB := Lib.hid hb
  have HCE := Lib.hid (fun k j => cntE_le E k j)
  clear h hm hn he l3 e3 hb
  go_enter Tryz.func69, Tryz.ntmps69
  obtain ⟨W1, hW1⟩ : ∃ W1, W1 = w.alloc (.cells #[vm, .slice a0 12 cc, .slice ae 3 ce, vc] 30) := ⟨_, rfl⟩
  have HP1 : Hid (KP w W1 vm (.slice a0 12 cc) (.slice ae 3 ce) vc) := Lib.hid (by rw [hW1]; exact HKP.out _)
  have HW1 := Lib.hid hW1
  have HS1 : Hid (W1.heap.size = w.heap.size + 1) := Lib.hid (by rw [hW1]; simp)
  clear hW1
  go_wp2_with fail
  rw [← HW1.out]
  refine (HC.out _ HP1.out.bel).mono ?_
  rintro e w1 ⟨vo, rfl, ho, hb1⟩
  have HR0 : Hid (CntRel W1 w1.heap.size vo (fun j => cntN M I j 12 + cntE E 0 j) w1) := Lib.hid ⟨by
    have e0 : (fun j => cntN M I j 12 + cntE E 0 j) = fun j => cntN M I j 12 := funext (fun j => by simp [cntE])
    rw [e0]; exact ho, hb1, hb1.size, Nat.le_refl _⟩
  obtain ⟨C1, hC1⟩ : ∃ C1, C1 = w1.heap.size := ⟨_, rfl⟩
  rw [← hC1] at HR0
  obtain ⟨go, po, co, rfl, hco, _⟩ := HR0.out.cap
  unfold maxLen at hco
  clear ho hb1 hC1 HC
  go_wp2_with fail
  go_loopw [4] (fun i wr => ∃ k : Nat, k ≤ 3 ∧ i = .int .i64 k ∧ Hid (CntRel W1 C1 (.slice (some ⟨go, po, none⟩) 12 co) (fun j => cntN M I j 12 + cntE E k j) wr)) (fun i _ => 3 - (intOf i).toNat)
  case atStart => exact ⟨0, Nat.zero_le _, rfl, HR0⟩
  case round =>
    obtain ⟨k, hk, rfl, HR⟩ := hrel
    have HP := Lib.hid (HP1.out.go HR.out.bel)
    obtain ⟨q0, q1, q2, q3⟩ := HP.out.cells
    by_cases hlt : k < 3
    · have hlt' : (k : Int) < 3 := by omega
      have hk0 : (0 : Int) ≤ (k : Int) := by omega
      obtain ⟨be, oe, u, rfl, _, hd0, _⟩ := HE.out k (by have := HYN.out; omega)
      have hrb := HB.out k hlt
      have HST := Lib.hid (cntE_step (es := E) (k := k) (by have := HYN.out; omega))
      obtain ⟨t, ht⟩ : ∃ t, t = (E.getD k ez).t := ⟨_, rfl⟩
      rw [← ht] at hd0 hrb HST
      have hd := (HP.out.bel.cell (p := ⟨be, oe + k * 2 + 1, none⟩) (cell_lt hd0)).trans hd0
      have hbe : be < w.heap.size := cell_lt hd0
      clear ht hd0
      by_cases ht0 : 0 ≤ t
      · obtain ⟨j, rfl⟩ := Int.eq_ofNat_of_zero_le ht0
        have hj12 : j < 12 := by omega
        have hj12' : (j : Int) < 12 := by omega
        obtain ⟨g, p, c, hvo, hg0, hg1, hcg, hfg, hup⟩ := HR.out.up2 hj12
        injection hvo with hvo _ hvc
        injection hvo with hvo
        injection hvo with hv1 hv2
        subst hv1
        subst hv2
        subst hvc
        have hz : cntN M I j 12 + cntE E k j ≤ 60 := by have h1 := HCL.out j; have h2 := HCE.out k j; have h3 := HYN.out; omega
        have HUP : Hid (∀ z : Nat, z = cntN M I j 12 + cntE E k j → CntRel W1 C1 (.slice (some ⟨go, po, none⟩) 12 co) (fun j => cntN M I j 12 + cntE E (k + 1) j) (wr.drew.setCell ⟨go, po + j, none⟩ (.int .i64 ((z : Int) + 1)))) := Lib.hid (fun z hz => by
          subst hz
          have e : (fun i => cntN M I i 12 + cntE E (k + 1) i) = fun i => (cntN M I i 12 + cntE E k i) + if i = j then 1 else 0 := funext (fun i => by
            rw [HST.out i, Nat.add_assoc]
            congr 2
            by_cases e : i = j
            · subst e; simp
            · rw [if_neg e, if_neg (by omega)])
          rw [e]
          have hq := HR.out.drew.up2 hj12
          obtain ⟨g', p', c', hv', _, _, _, _, hup'⟩ := hq
          injection hv' with hv' _ _
          injection hv' with hv'
          injection hv' with hv1 hv2
          subst hv1
          subst hv2
          exact hup')
        obtain ⟨z, hzz⟩ : ∃ z, z = cntN M I j 12 + cntE E k j := ⟨_, rfl⟩
        rw [← hzz] at hcg hz
        have HU2 := Lib.hid (HUP.out z hzz)
        have hz' : (z : Int) ≤ 60 := by omega
        have hwr : IntKind.i64.wrap ((z : Int) + 1) = (z : Int) + 1 := by rw [IntKind.wrap_i64]; omega
        have hj0 : (0 : Int) ≤ (j : Int) := by omega
        have FS : Hid (wr.drew.cell? ⟨w.heap.size, 2, none⟩ = some (.slice (some ⟨be, oe, none⟩) 3 ce) ∧ wr.drew.cell? ⟨be, oe + k * 2 + 1, none⟩ = some (.int .i64 (j : Int))) := Lib.hid ⟨q2, hd⟩
        have hn1 : w.heap.size ≠ go := by have := HS1.out; omega
        have hn2 : be ≠ go := by have := HS1.out; omega
        clear hup hzz HUP
        go_wp2_with fail
        refine wp_region_held_drew (S := fun w' => w'.cell? ⟨w.heap.size, 2, none⟩ = some (.slice (some ⟨be, oe, none⟩) 3 ce) ∧ w'.cell? ⟨be, oe + k * 2 + 1, none⟩ = some (.int .i64 (j : Int))) (by kernel_rfl) FS.out (fun hHeld => ?_)
        refine wpAnyH_take (i := 0) (oi := { dst := some 25, op := .move (.tmp 3), type := _, pos := _, after := _, guard := none }) (v := .slice (some ⟨go, po, none⟩) 12 co) rfl (by kernel_rfl) (by kernel_rfl) (by kernel_rfl) (fun _ _ _ h => h) (Or.inl ⟨by rfl, fun wh hSw => ?_⟩) hHeld ?_
        · (obtain ⟨s0, s1⟩ := hSw; go_simp)
        try simp only [Act.put, List.setIfInBounds_toArray, List.set_cons_zero, List.set_cons_succ]
        refine wpAnyH_take (i := 1) (oi := { dst := some 26, op := .fieldAddr 30 (.tmp 1) 2, type := _, pos := _, after := _, guard := none }) (v := .pointer (some ⟨w.heap.size, 0 + 2, none⟩)) rfl (by kernel_rfl) (by kernel_rfl) (by kernel_rfl) (fun _ _ _ h => h) (Or.inl ⟨by rfl, fun wh hSw => ?_⟩) hHeld ?_
        · (obtain ⟨s0, s1⟩ := hSw; go_simp)
        try simp only [Act.put, List.setIfInBounds_toArray, List.set_cons_zero, List.set_cons_succ]
        refine wpAnyH_take (i := 2) (oi := { dst := some 27, op := .load 27 (.tmp 26), type := _, pos := _, after := _, guard := none }) (v := .slice (some ⟨be, oe, none⟩) 3 ce) rfl (by kernel_rfl) (by kernel_rfl) (by kernel_rfl) (fun _ _ _ h => h) (Or.inl ⟨by rfl, fun wh hSw => ?_⟩) hHeld ?_
        · (obtain ⟨s0, s1⟩ := hSw; go_simp)
        try simp only [Act.put, List.setIfInBounds_toArray, List.set_cons_zero, List.set_cons_succ]
        refine wpAnyH_take (i := 3) (oi := { dst := some 28, op := .move (.tmp 4), type := _, pos := _, after := _, guard := none }) (v := .int .i64 (k : Int)) rfl (by kernel_rfl) (by kernel_rfl) (by kernel_rfl) (fun _ _ _ h => h) (Or.inl ⟨by rfl, fun wh hSw => ?_⟩) hHeld ?_
        · (obtain ⟨s0, s1⟩ := hSw; go_simp)
        try simp only [Act.put, List.setIfInBounds_toArray, List.set_cons_zero, List.set_cons_succ]
        refine wpAnyH_take (i := 4) (oi := { dst := some 29, op := .indexAddr 27 (.tmp 27) (.tmp 28), type := _, pos := _, after := _, guard := none }) (v := .pointer (some ⟨be, oe + k * 2, none⟩)) rfl (by kernel_rfl) (by kernel_rfl) (by kernel_rfl) (fun _ _ _ h => h) (Or.inl ⟨by rfl, fun wh hSw => ?_⟩) hHeld ?_
        · (obtain ⟨s0, s1⟩ := hSw; go_simp)
        try simp only [Act.put, List.setIfInBounds_toArray, List.set_cons_zero, List.set_cons_succ]
        refine wpAnyH_take (i := 5) (oi := { dst := some 30, op := .fieldAddr 37 (.tmp 29) 1, type := _, pos := _, after := _, guard := none }) (v := .pointer (some ⟨be, oe + k * 2 + 1, none⟩)) rfl (by kernel_rfl) (by kernel_rfl) (by kernel_rfl) (fun _ _ _ h => h) (Or.inl ⟨by rfl, fun wh hSw => ?_⟩) hHeld ?_
        · (obtain ⟨s0, s1⟩ := hSw; go_simp)
        try simp only [Act.put, List.setIfInBounds_toArray, List.set_cons_zero, List.set_cons_succ]
        refine wpAnyH_take (i := 6) (oi := { dst := some 31, op := .load 3 (.tmp 30), type := _, pos := _, after := _, guard := none }) (v := .int .i64 (j : Int)) rfl (by kernel_rfl) (by kernel_rfl) (by kernel_rfl) (fun _ _ _ h => h) (Or.inl ⟨by rfl, fun wh hSw => ?_⟩) hHeld ?_
        · (obtain ⟨s0, s1⟩ := hSw; go_simp)
        try simp only [Act.put, List.setIfInBounds_toArray, List.set_cons_zero, List.set_cons_succ]
        refine wpAnyH_take (i := 7) (oi := { dst := some 32, op := .move (.tmp 3), type := _, pos := _, after := _, guard := none }) (v := .slice (some ⟨go, po, none⟩) 12 co) rfl (by kernel_rfl) (by kernel_rfl) (by kernel_rfl) (fun _ _ _ h => h) (Or.inl ⟨by rfl, fun wh hSw => ?_⟩) hHeld ?_
        · (obtain ⟨s0, s1⟩ := hSw; go_simp)
        try simp only [Act.put, List.setIfInBounds_toArray, List.set_cons_zero, List.set_cons_succ]
        refine wpAnyH_take (i := 8) (oi := { dst := some 33, op := .fieldAddr 30 (.tmp 1) 2, type := _, pos := _, after := _, guard := none }) (v := .pointer (some ⟨w.heap.size, 0 + 2, none⟩)) rfl (by kernel_rfl) (by kernel_rfl) (by kernel_rfl) (fun _ _ _ h => h) (Or.inl ⟨by rfl, fun wh hSw => ?_⟩) hHeld ?_
        · (obtain ⟨s0, s1⟩ := hSw; go_simp)
        try simp only [Act.put, List.setIfInBounds_toArray, List.set_cons_zero, List.set_cons_succ]
        refine wpAnyH_take (i := 9) (oi := { dst := some 34, op := .load 27 (.tmp 33), type := _, pos := _, after := _, guard := none }) (v := .slice (some ⟨be, oe, none⟩) 3 ce) rfl (by kernel_rfl) (by kernel_rfl) (by kernel_rfl) (fun _ _ _ h => h) (Or.inl ⟨by rfl, fun wh hSw => ?_⟩) hHeld ?_
        · (obtain ⟨s0, s1⟩ := hSw; go_simp)
        try simp only [Act.put, List.setIfInBounds_toArray, List.set_cons_zero, List.set_cons_succ]
        refine wpAnyH_take (i := 10) (oi := { dst := some 35, op := .move (.tmp 4), type := _, pos := _, after := _, guard := none }) (v := .int .i64 (k : Int)) rfl (by kernel_rfl) (by kernel_rfl) (by kernel_rfl) (fun _ _ _ h => h) (Or.inl ⟨by rfl, fun wh hSw => ?_⟩) hHeld ?_
        · (obtain ⟨s0, s1⟩ := hSw; go_simp)
        try simp only [Act.put, List.setIfInBounds_toArray, List.set_cons_zero, List.set_cons_succ]
        refine wpAnyH_take (i := 11) (oi := { dst := some 36, op := .indexAddr 27 (.tmp 34) (.tmp 35), type := _, pos := _, after := _, guard := none }) (v := .pointer (some ⟨be, oe + k * 2, none⟩)) rfl (by kernel_rfl) (by kernel_rfl) (by kernel_rfl) (fun _ _ _ h => h) (Or.inl ⟨by rfl, fun wh hSw => ?_⟩) hHeld ?_
        · (obtain ⟨s0, s1⟩ := hSw; go_simp)
        try simp only [Act.put, List.setIfInBounds_toArray, List.set_cons_zero, List.set_cons_succ]
        refine wpAnyH_take (i := 12) (oi := { dst := some 37, op := .fieldAddr 37 (.tmp 36) 1, type := _, pos := _, after := _, guard := none }) (v := .pointer (some ⟨be, oe + k * 2 + 1, none⟩)) rfl (by kernel_rfl) (by kernel_rfl) (by kernel_rfl) (fun _ _ _ h => h) (Or.inl ⟨by rfl, fun wh hSw => ?_⟩) hHeld ?_
        · (obtain ⟨s0, s1⟩ := hSw; go_simp)
        try simp only [Act.put, List.setIfInBounds_toArray, List.set_cons_zero, List.set_cons_succ]
        refine wpAnyH_take (i := 13) (oi := { dst := some 38, op := .load 3 (.tmp 37), type := _, pos := _, after := _, guard := none }) (v := .int .i64 (j : Int)) rfl (by kernel_rfl) (by kernel_rfl) (by kernel_rfl) (fun _ _ _ h => h) (Or.inl ⟨by rfl, fun wh hSw => ?_⟩) hHeld ?_
        · (obtain ⟨s0, s1⟩ := hSw; go_simp)
        try simp only [Act.put, List.setIfInBounds_toArray, List.set_cons_zero, List.set_cons_succ]
        refine wpAnyH_take (i := 14) (oi := { dst := some 39, op := .indexAddr 42 (.tmp 32) (.tmp 38), type := _, pos := _, after := _, guard := none }) (v := .pointer (some ⟨go, po + j, none⟩)) rfl (by kernel_rfl) (by kernel_rfl) (by kernel_rfl) (fun _ _ _ h => h) (Or.inl ⟨by rfl, fun wh hSw => ?_⟩) hHeld ?_
        · (obtain ⟨s0, s1⟩ := hSw; go_simp)
        try simp only [Act.put, List.setIfInBounds_toArray, List.set_cons_zero, List.set_cons_succ]
        refine wpAnyH_ready (rs := [15]) (by kernel_rfl) (by simp) ?_
        refine AllReadyH.cons (o := { dst := some 40, op := .load 3 (.tmp 39), type := _, pos := _, after := _, guard := none }) rfl (fun K hK => ?_) AllReadyH.nil
        go_simp
        refine hK.out _ _ ?_ (fun hHeld => ?_)
        · exact hHeld
        clear hK K
        try simp only [Act.put, List.setIfInBounds_toArray, List.set_cons_zero, List.set_cons_succ]
        refine wpAnyH_take (i := 16) (oi := { dst := some 41, op := .binOp .add 3 (.tmp 40) (.const (.int .i64 1)) 3, type := _, pos := _, after := _, guard := none }) (v := .int .i64 ((z : Int) + 1)) rfl (by kernel_rfl) (by kernel_rfl) (by kernel_rfl) (fun _ _ _ h => h) (Or.inl ⟨by rfl, fun wh hSw => ?_⟩) hHeld ?_
        · (obtain ⟨s0, s1⟩ := hSw; go_simp)
        try simp only [Act.put, List.setIfInBounds_toArray, List.set_cons_zero, List.set_cons_succ]
        refine wpAnyH_take (i := 17) (oi := { dst := some 42, op := .indexAddr 42 (.tmp 25) (.tmp 31), type := _, pos := _, after := _, guard := none }) (v := .pointer (some ⟨go, po + j, none⟩)) rfl (by kernel_rfl) (by kernel_rfl) (by kernel_rfl) (fun _ _ _ h => h) (Or.inl ⟨by rfl, fun wh hSw => ?_⟩) hHeld ?_
        · (obtain ⟨s0, s1⟩ := hSw; go_simp)
        try simp only [Act.put, List.setIfInBounds_toArray, List.set_cons_zero, List.set_cons_succ]
        refine wpAnyH_ready (rs := [18]) (by kernel_rfl) (by simp) ?_
        refine AllReadyH.cons (o := { dst := none, op := .store 3 (.tmp 42) (.tmp 41), type := _, pos := _, after := _, guard := none }) rfl (fun K hK => ?_) AllReadyH.nil
        go_simp
        refine hK.out _ _ ?_ (fun hHeld => ?_)
        · exact ⟨(cell_set_other (.inl hn1)).trans hHeld.1, (cell_set_other (.inl hn2)).trans hHeld.2⟩
        clear hK K
        try simp only [Act.put, List.setIfInBounds_toArray, List.set_cons_zero, List.set_cons_succ]
        refine wpAnyH_done (by kernel_rfl) ?_ _
        go_wp2_with fail
        go_roundw
        case rel => exact ⟨k + 1, by omega, by go_num, HU2⟩
        case measure => simp [intOf]; omega
      · have ht1 : ¬ (t ≥ 0) := by omega
        have HR2 : Hid (CntRel W1 C1 (.slice (some ⟨go, po, none⟩) 12 co) (fun j => cntN M I j 12 + cntE E (k + 1) j) wr) := Lib.hid (by
          have e : (fun i => cntN M I i 12 + cntE E (k + 1) i) = fun i => cntN M I i 12 + cntE E k i := funext (fun i => by
            rw [HST.out i, if_neg (by omega)]; rfl)
          rw [e]; exact HR.out)
        go_wp2_with fail
        go_roundw
        case rel => exact ⟨k + 1, by omega, by go_num, HR2⟩
        case measure => simp [intOf]; omega
    · have e : k = 3 := by omega
      rw [e] at HR
      have hge : ¬ (k : Int) < 3 := by omega
      clear e hlt
      have HF : Hid (∀ j, cntN M I j 12 + cntE E 3 j ≤ 60) := Lib.hid (fun j => by have h1 := HCL.out j; have h2 := HCE.out 3 j; have h3 := HYN.out; omega)
      obtain ⟨G, hG⟩ : ∃ G : Nat → Nat, G = fun j => cntN M I j 12 + cntE E 3 j := ⟨_, rfl⟩
      have HG1 : Hid (∀ f, f < 12 → (I.getD f iz).r ≠ ((G f : Nat) : Int) → r = false) := Lib.hid (by rw [hG]; exact HNO.out)
      have HG2 : Hid ((∀ f, f < 12 → (I.getD f iz).r = ((G f : Nat) : Int)) → r = true) := Lib.hid (by rw [hG]; exact HYES.out)
      rw [← hG] at HR
      clear hG HNO HYES HF
      go_wp2_with fail
      go_loopw [5] (fun i ws => ∃ f : Nat, f ≤ 12 ∧ i = .int .i64 f ∧ Hid (Below wr.heap.size wr ws) ∧ Hid (∀ t, t < f → (I.getD t iz).r = ((G t : Nat) : Int))) (fun i _ => 12 - (intOf i).toNat)
      case atStart => exact ⟨0, Nat.zero_le _, rfl, Lib.hid (Below.refl _ _), Lib.hid (fun t ht => by omega)⟩
      case round =>
        obtain ⟨f, hf, rfl, hws, HQ⟩ := hrel
        have HRS := Lib.hid (HR.out.below hws.out)
        have HPS := Lib.hid (HP.out.go hws.out)
        by_cases hlf : f < 12
        · have hlf' : (f : Int) < 12 := by omega
          have hf0 : (0 : Int) ≤ (f : Int) := by omega
          obtain ⟨b0, o0, rfl, ht⟩ := HX.out f (by have := HNN.out; omega)
          obtain ⟨g, p, c, hvo, hcg⟩ := HRS.out.cell hlf
          injection hvo with hvo _ hvc
          injection hvo with hvo
          injection hvo with hv1 hv2
          subst hv1
          subst hv2
          subst hvc
          have hc2 := (ht.below HPS.out.bel ht.lt).c2
          have hg1 := HG1.out f hlf
          obtain ⟨y, hy⟩ : ∃ y, y = (I.getD f iz).r := ⟨_, rfl⟩
          rw [← hy] at hc2 hg1
          obtain ⟨z, hz⟩ : ∃ z, z = G f := ⟨_, rfl⟩
          rw [← hz] at hcg hg1
          have HY := Lib.hid hy
          have HZ := Lib.hid hz
          have HGG := Lib.hid hg1
          have FS : Hid (wr.drew.cell? ⟨w.heap.size, 1, none⟩ = some (.slice (some ⟨b0, o0, none⟩) 12 cc) ∧ wr.drew.cell? ⟨b0, o0 + f * 3 + 2, none⟩ = some (.int .i64 y) ∧ wr.drew.cell? ⟨go, po + f, none⟩ = some (.int .i64 (z : Int))) := Lib.hid ⟨HPS.out.c1, hc2, hcg⟩
          clear ht hy hz hg1
          by_cases he : y = (z : Int)
          · have he1 : (y != (z : Int)) = false := by simpa using he
            have he2 : (y == (z : Int)) = true := by simpa using he
            have HQ2 : Hid (∀ t, t < f + 1 → (I.getD t iz).r = ((G t : Nat) : Int)) := Lib.hid (fun t ht => by
              by_cases e : t = f
              · subst e; rw [← HY.out, ← HZ.out]; exact he
              · exact HQ.out t (by omega))
            clear he
            go_wp2_with fail
            refine wp_region_held_drew (S := fun w' => w'.cell? ⟨w.heap.size, 1, none⟩ = some (.slice (some ⟨b0, o0, none⟩) 12 cc) ∧ w'.cell? ⟨b0, o0 + f * 3 + 2, none⟩ = some (.int .i64 y) ∧ w'.cell? ⟨go, po + f, none⟩ = some (.int .i64 (z : Int))) (by kernel_rfl) FS.out (fun hHeld => ?_)
            refine wpAnyH_take (i := 0) (oi := { dst := some 47, op := .fieldAddr 30 (.tmp 1) 1, type := _, pos := _, after := _, guard := none }) (v := .pointer (some ⟨w.heap.size, 0 + 1, none⟩)) rfl (by kernel_rfl) (by kernel_rfl) (by kernel_rfl) (fun _ _ _ h => h) (Or.inl ⟨by rfl, fun wh hSw => ?_⟩) hHeld ?_
            · (obtain ⟨s0, s1, s2⟩ := hSw; go_simp)
            try simp only [Act.put, List.setIfInBounds_toArray, List.set_cons_zero, List.set_cons_succ]
            refine wpAnyH_take (i := 1) (oi := { dst := some 48, op := .load 26 (.tmp 47), type := _, pos := _, after := _, guard := none }) (v := .slice (some ⟨b0, o0, none⟩) 12 cc) rfl (by kernel_rfl) (by kernel_rfl) (by kernel_rfl) (fun _ _ _ h => h) (Or.inl ⟨by rfl, fun wh hSw => ?_⟩) hHeld ?_
            · (obtain ⟨s0, s1, s2⟩ := hSw; go_simp)
            try simp only [Act.put, List.setIfInBounds_toArray, List.set_cons_zero, List.set_cons_succ]
            refine wpAnyH_take (i := 2) (oi := { dst := some 49, op := .move (.tmp 5), type := _, pos := _, after := _, guard := none }) (v := .int .i64 (f : Int)) rfl (by kernel_rfl) (by kernel_rfl) (by kernel_rfl) (fun _ _ _ h => h) (Or.inl ⟨by rfl, fun wh hSw => ?_⟩) hHeld ?_
            · (obtain ⟨s0, s1, s2⟩ := hSw; go_simp)
            try simp only [Act.put, List.setIfInBounds_toArray, List.set_cons_zero, List.set_cons_succ]
            refine wpAnyH_take (i := 3) (oi := { dst := some 50, op := .indexAddr 26 (.tmp 48) (.tmp 49), type := _, pos := _, after := _, guard := none }) (v := .pointer (some ⟨b0, o0 + f * 3, none⟩)) rfl (by kernel_rfl) (by kernel_rfl) (by kernel_rfl) (fun _ _ _ h => h) (Or.inl ⟨by rfl, fun wh hSw => ?_⟩) hHeld ?_
            · (obtain ⟨s0, s1, s2⟩ := hSw; go_simp)
            try simp only [Act.put, List.setIfInBounds_toArray, List.set_cons_zero, List.set_cons_succ]
            refine wpAnyH_take (i := 4) (oi := { dst := some 51, op := .fieldAddr 46 (.tmp 50) 2, type := _, pos := _, after := _, guard := none }) (v := .pointer (some ⟨b0, o0 + f * 3 + 2, none⟩)) rfl (by kernel_rfl) (by kernel_rfl) (by kernel_rfl) (fun _ _ _ h => h) (Or.inl ⟨by rfl, fun wh hSw => ?_⟩) hHeld ?_
            · (obtain ⟨s0, s1, s2⟩ := hSw; go_simp)
            try simp only [Act.put, List.setIfInBounds_toArray, List.set_cons_zero, List.set_cons_succ]
            refine wpAnyH_take (i := 5) (oi := { dst := some 52, op := .load 3 (.tmp 51), type := _, pos := _, after := _, guard := none }) (v := .int .i64 y) rfl (by kernel_rfl) (by kernel_rfl) (by kernel_rfl) (fun _ _ _ h => h) (Or.inl ⟨by rfl, fun wh hSw => ?_⟩) hHeld ?_
            · (obtain ⟨s0, s1, s2⟩ := hSw; go_simp)
            try simp only [Act.put, List.setIfInBounds_toArray, List.set_cons_zero, List.set_cons_succ]
            refine wpAnyH_take (i := 6) (oi := { dst := some 53, op := .move (.tmp 3), type := _, pos := _, after := _, guard := none }) (v := .slice (some ⟨go, po, none⟩) 12 co) rfl (by kernel_rfl) (by kernel_rfl) (by kernel_rfl) (fun _ _ _ h => h) (Or.inl ⟨by rfl, fun wh hSw => ?_⟩) hHeld ?_
            · (obtain ⟨s0, s1, s2⟩ := hSw; go_simp)
            try simp only [Act.put, List.setIfInBounds_toArray, List.set_cons_zero, List.set_cons_succ]
            refine wpAnyH_take (i := 7) (oi := { dst := some 54, op := .move (.tmp 5), type := _, pos := _, after := _, guard := none }) (v := .int .i64 (f : Int)) rfl (by kernel_rfl) (by kernel_rfl) (by kernel_rfl) (fun _ _ _ h => h) (Or.inl ⟨by rfl, fun wh hSw => ?_⟩) hHeld ?_
            · (obtain ⟨s0, s1, s2⟩ := hSw; go_simp)
            try simp only [Act.put, List.setIfInBounds_toArray, List.set_cons_zero, List.set_cons_succ]
            refine wpAnyH_take (i := 8) (oi := { dst := some 55, op := .indexAddr 42 (.tmp 53) (.tmp 54), type := _, pos := _, after := _, guard := none }) (v := .pointer (some ⟨go, po + f, none⟩)) rfl (by kernel_rfl) (by kernel_rfl) (by kernel_rfl) (fun _ _ _ h => h) (Or.inl ⟨by rfl, fun wh hSw => ?_⟩) hHeld ?_
            · (obtain ⟨s0, s1, s2⟩ := hSw; go_simp)
            try simp only [Act.put, List.setIfInBounds_toArray, List.set_cons_zero, List.set_cons_succ]
            refine wpAnyH_take (i := 9) (oi := { dst := some 56, op := .load 3 (.tmp 55), type := _, pos := _, after := _, guard := none }) (v := .int .i64 (z : Int)) rfl (by kernel_rfl) (by kernel_rfl) (by kernel_rfl) (fun _ _ _ h => h) (Or.inl ⟨by rfl, fun wh hSw => ?_⟩) hHeld ?_
            · (obtain ⟨s0, s1, s2⟩ := hSw; go_simp)
            try simp only [Act.put, List.setIfInBounds_toArray, List.set_cons_zero, List.set_cons_succ]
            refine wpAnyH_take (i := 10) (oi := { dst := some 57, op := .binOp .neq 3 (.tmp 52) (.tmp 56) 3, type := _, pos := _, after := _, guard := none }) (v := .bool false) rfl (by kernel_rfl) (by kernel_rfl) (by kernel_rfl) (fun _ _ _ h => h) (Or.inl ⟨by rfl, fun wh hSw => ?_⟩) hHeld ?_
            · (obtain ⟨s0, s1, s2⟩ := hSw; go_simp)
            try simp only [Act.put, List.setIfInBounds_toArray, List.set_cons_zero, List.set_cons_succ]
            refine wpAnyH_done (by kernel_rfl) ?_ _
            go_wp2_with fail
            go_roundw
            case rel => exact ⟨f + 1, by omega, by go_num, Lib.hid (hws.out.drew), HQ2⟩
            case measure => simp [intOf]; omega
          · have he1 : (y != (z : Int)) = true := by simpa using he
            have he2 : (y == (z : Int)) = false := by simpa using he
            have HF := Lib.hid (HGG.out he)
            clear he
            go_wp2_with fail
            refine wp_region_held_drew (S := fun w' => w'.cell? ⟨w.heap.size, 1, none⟩ = some (.slice (some ⟨b0, o0, none⟩) 12 cc) ∧ w'.cell? ⟨b0, o0 + f * 3 + 2, none⟩ = some (.int .i64 y) ∧ w'.cell? ⟨go, po + f, none⟩ = some (.int .i64 (z : Int))) (by kernel_rfl) FS.out (fun hHeld => ?_)
            refine wpAnyH_take (i := 0) (oi := { dst := some 47, op := .fieldAddr 30 (.tmp 1) 1, type := _, pos := _, after := _, guard := none }) (v := .pointer (some ⟨w.heap.size, 0 + 1, none⟩)) rfl (by kernel_rfl) (by kernel_rfl) (by kernel_rfl) (fun _ _ _ h => h) (Or.inl ⟨by rfl, fun wh hSw => ?_⟩) hHeld ?_
            · (obtain ⟨s0, s1, s2⟩ := hSw; go_simp)
            try simp only [Act.put, List.setIfInBounds_toArray, List.set_cons_zero, List.set_cons_succ]
            refine wpAnyH_take (i := 1) (oi := { dst := some 48, op := .load 26 (.tmp 47), type := _, pos := _, after := _, guard := none }) (v := .slice (some ⟨b0, o0, none⟩) 12 cc) rfl (by kernel_rfl) (by kernel_rfl) (by kernel_rfl) (fun _ _ _ h => h) (Or.inl ⟨by rfl, fun wh hSw => ?_⟩) hHeld ?_
            · (obtain ⟨s0, s1, s2⟩ := hSw; go_simp)
            try simp only [Act.put, List.setIfInBounds_toArray, List.set_cons_zero, List.set_cons_succ]
            refine wpAnyH_take (i := 2) (oi := { dst := some 49, op := .move (.tmp 5), type := _, pos := _, after := _, guard := none }) (v := .int .i64 (f : Int)) rfl (by kernel_rfl) (by kernel_rfl) (by kernel_rfl) (fun _ _ _ h => h) (Or.inl ⟨by rfl, fun wh hSw => ?_⟩) hHeld ?_
            · (obtain ⟨s0, s1, s2⟩ := hSw; go_simp)
            try simp only [Act.put, List.setIfInBounds_toArray, List.set_cons_zero, List.set_cons_succ]
            refine wpAnyH_take (i := 3) (oi := { dst := some 50, op := .indexAddr 26 (.tmp 48) (.tmp 49), type := _, pos := _, after := _, guard := none }) (v := .pointer (some ⟨b0, o0 + f * 3, none⟩)) rfl (by kernel_rfl) (by kernel_rfl) (by kernel_rfl) (fun _ _ _ h => h) (Or.inl ⟨by rfl, fun wh hSw => ?_⟩) hHeld ?_
            · (obtain ⟨s0, s1, s2⟩ := hSw; go_simp)
            try simp only [Act.put, List.setIfInBounds_toArray, List.set_cons_zero, List.set_cons_succ]
            refine wpAnyH_take (i := 4) (oi := { dst := some 51, op := .fieldAddr 46 (.tmp 50) 2, type := _, pos := _, after := _, guard := none }) (v := .pointer (some ⟨b0, o0 + f * 3 + 2, none⟩)) rfl (by kernel_rfl) (by kernel_rfl) (by kernel_rfl) (fun _ _ _ h => h) (Or.inl ⟨by rfl, fun wh hSw => ?_⟩) hHeld ?_
            · (obtain ⟨s0, s1, s2⟩ := hSw; go_simp)
            try simp only [Act.put, List.setIfInBounds_toArray, List.set_cons_zero, List.set_cons_succ]
            refine wpAnyH_take (i := 5) (oi := { dst := some 52, op := .load 3 (.tmp 51), type := _, pos := _, after := _, guard := none }) (v := .int .i64 y) rfl (by kernel_rfl) (by kernel_rfl) (by kernel_rfl) (fun _ _ _ h => h) (Or.inl ⟨by rfl, fun wh hSw => ?_⟩) hHeld ?_
            · (obtain ⟨s0, s1, s2⟩ := hSw; go_simp)
            try simp only [Act.put, List.setIfInBounds_toArray, List.set_cons_zero, List.set_cons_succ]
            refine wpAnyH_take (i := 6) (oi := { dst := some 53, op := .move (.tmp 3), type := _, pos := _, after := _, guard := none }) (v := .slice (some ⟨go, po, none⟩) 12 co) rfl (by kernel_rfl) (by kernel_rfl) (by kernel_rfl) (fun _ _ _ h => h) (Or.inl ⟨by rfl, fun wh hSw => ?_⟩) hHeld ?_
            · (obtain ⟨s0, s1, s2⟩ := hSw; go_simp)
            try simp only [Act.put, List.setIfInBounds_toArray, List.set_cons_zero, List.set_cons_succ]
            refine wpAnyH_take (i := 7) (oi := { dst := some 54, op := .move (.tmp 5), type := _, pos := _, after := _, guard := none }) (v := .int .i64 (f : Int)) rfl (by kernel_rfl) (by kernel_rfl) (by kernel_rfl) (fun _ _ _ h => h) (Or.inl ⟨by rfl, fun wh hSw => ?_⟩) hHeld ?_
            · (obtain ⟨s0, s1, s2⟩ := hSw; go_simp)
            try simp only [Act.put, List.setIfInBounds_toArray, List.set_cons_zero, List.set_cons_succ]
            refine wpAnyH_take (i := 8) (oi := { dst := some 55, op := .indexAddr 42 (.tmp 53) (.tmp 54), type := _, pos := _, after := _, guard := none }) (v := .pointer (some ⟨go, po + f, none⟩)) rfl (by kernel_rfl) (by kernel_rfl) (by kernel_rfl) (fun _ _ _ h => h) (Or.inl ⟨by rfl, fun wh hSw => ?_⟩) hHeld ?_
            · (obtain ⟨s0, s1, s2⟩ := hSw; go_simp)
            try simp only [Act.put, List.setIfInBounds_toArray, List.set_cons_zero, List.set_cons_succ]
            refine wpAnyH_take (i := 9) (oi := { dst := some 56, op := .load 3 (.tmp 55), type := _, pos := _, after := _, guard := none }) (v := .int .i64 (z : Int)) rfl (by kernel_rfl) (by kernel_rfl) (by kernel_rfl) (fun _ _ _ h => h) (Or.inl ⟨by rfl, fun wh hSw => ?_⟩) hHeld ?_
            · (obtain ⟨s0, s1, s2⟩ := hSw; go_simp)
            try simp only [Act.put, List.setIfInBounds_toArray, List.set_cons_zero, List.set_cons_succ]
            refine wpAnyH_take (i := 10) (oi := { dst := some 57, op := .binOp .neq 3 (.tmp 52) (.tmp 56) 3, type := _, pos := _, after := _, guard := none }) (v := .bool true) rfl (by kernel_rfl) (by kernel_rfl) (by kernel_rfl) (fun _ _ _ h => h) (Or.inl ⟨by rfl, fun wh hSw => ?_⟩) hHeld ?_
            · (obtain ⟨s0, s1, s2⟩ := hSw; go_simp)
            try simp only [Act.put, List.setIfInBounds_toArray, List.set_cons_zero, List.set_cons_succ]
            refine wpAnyH_done (by kernel_rfl) ?_ _
            go_wp2_with fail
            go_ret
            exact ⟨by rw [HF.out]; rfl, HPS.out.drew.bel⟩
        · have e : f = 12 := by omega
          subst e
          have HF := Lib.hid (HG2.out HQ.out)
          go_wp2
          go_ret
          exact ⟨by rw [HF.out]; rfl, HPS.out.bel⟩
end Go.Proofs.YtcmmlgdfhkcmoaaGreat
namespace Go.Proofs.YtcmmlgdfhkcmoaaGreat
open Go.ChangeShapes Go.WideShapes Go.ChangeAt Go.RowKit
set_option linter.unusedVariables false
set_option maxRecDepth 100000
theorem four_alloc (w : World) (x : CV) (t : TypeId) : Four (w.alloc (.cells #[.int .i64 x.e, .int .i64 x.p, .int .i64 x.f, .bool x.b] t)) w.heap.size 0 x := ⟨new_cell rfl, new_cell rfl, new_cell rfl, new_cell rfl⟩
theorem Four.drew {w : World} {b o : Nat} {x : CV} (h : Four w b o x) : Four w.drew b o x := ⟨h.c0, h.c1, h.c2, h.c3⟩
end Go.Proofs.YtcmmlgdfhkcmoaaGreat
namespace Go.Proofs.YtcmmlgdfhkcmoaaGreat
open Go.ChangeShapes Go.WideShapes Go.ChangeAt Go.RowKit
set_option linter.unusedVariables false
set_option maxRecDepth 100000
def rlist (A : Nat → CV) (f c : Nat) : List CV := (List.range c).map (fun i => A ((f + i) % 4))
def upd (A : Nat → CV) (k : Nat) (x : CV) (j : Nat) : CV := if j = k then x else A j
theorem rlist_len (A : Nat → CV) (f c : Nat) : (rlist A f c).length = c := by simp [rlist]
theorem rlist_get (A : Nat → CV) (f c : Nat) {i : Nat} (h : i < c) : (rlist A f c).getD i c0 = A ((f + i) % 4) := by
  rw [getD_lt (by rw [rlist_len]; exact h)]
  simp [rlist]
theorem rlist_snoc (A : Nat → CV) (f c : Nat) : rlist A f (c + 1) = rlist A f c ++ [A ((f + c) % 4)] := by
  unfold rlist
  rw [List.range_succ, List.map_append]
  rfl
theorem rlist_congr {A B : Nat → CV} {f c : Nat} (h : ∀ i, i < c → A ((f + i) % 4) = B ((f + i) % 4)) : rlist A f c = rlist B f c := by
  unfold rlist
  refine List.map_congr_left fun i hi => h i (List.mem_range.1 hi)
theorem push_room (A : Nat → CV) (f c : Nat) (x : CV) (hf : f < 4) (hc : c < 4) : rlist (upd A ((f + c) % 4) x) f (c + 1) = rlist A f c ++ [x] := by
  rw [rlist_snoc]
  congr 1
  · exact rlist_congr fun i hi => by unfold upd; rw [if_neg (by omega)]
  · unfold upd; rw [if_pos rfl]
theorem rlist_drop (A : Nat → CV) (f c : Nat) : rlist A ((f + 1) % 4) (c - 1) = (rlist A f c).drop 1 := by
  refine List.ext_getElem (by rw [List.length_drop, rlist_len, rlist_len]) fun i h1 h2 => ?_
  rw [rlist_len] at h1
  simp only [rlist, List.getElem_map, List.getElem_range, List.getElem_drop]
  congr 1
  omega
theorem push_full (A : Nat → CV) (f : Nat) (x : CV) (hf : f < 4) : rlist (upd A f x) ((f + 1) % 4) 4 = (rlist A f 4).drop 1 ++ [x] := by
  have h := push_room A ((f + 1) % 4) 3 x (by omega) (by omega)
  rw [show ((f + 1) % 4 + 3) % 4 = f by omega] at h
  rw [h, show (3 : Nat) = 4 - 1 from rfl, rlist_drop]
def rput (l : List CV) (x : CV) : List CV := if 4 ≤ l.length then l.drop 1 ++ [x] else l ++ [x]
end Go.Proofs.YtcmmlgdfhkcmoaaGreat
namespace Go.Proofs.YtcmmlgdfhkcmoaaGreat
open Go.ChangeShapes Go.WideShapes Go.ChangeAt Go.RowKit
set_option linter.unusedVariables false
set_option maxRecDepth 100000
def ringC (A : Nat → CV) (f c : Nat) : List Value := cvC (A 0) ++ cvC (A 1) ++ cvC (A 2) ++ cvC (A 3) ++ [.int .i64 (f : Int), .int .i64 (c : Int)]
theorem ringC_len (A : Nat → CV) (f c : Nat) : (ringC A f c).length = 18 := rfl
theorem ringC_one (A : Nat → CV) (f c : Nat) : (ringC A f c).toArray.all (·.oneCell') = true := by simp [ringC, cvC, Value.oneCell']
abbrev ringV (A : Nat → CV) (f c : Nat) : Value := .agg (ringC A f c).toArray
structure Ring (w : World) (b : Nat) (A : Nat → CV) (f c : Nat) : Prop where
  at4 : ∀ i, i < 4 → FourW w b (i * 4) (A i)
  cf : w.cell? ⟨b, 16, none⟩ = some (.int .i64 (f : Int))
  cc : w.cell? ⟨b, 17, none⟩ = some (.int .i64 (c : Int))
  ff : w.frozen? ⟨b, 16, none⟩ = false
  fc : w.frozen? ⟨b, 17, none⟩ = false
theorem Ring.range {w : World} {b : Nat} {A : Nat → CV} {f c : Nat} (h : Ring w b A f c) : w.rangeAt b 0 (ringC A f c) := by
  obtain ⟨h4, hf, hc, _, _⟩ := h
  have q : ∀ i, i < 4 → w.rangeAt b (i * 4) (cvC (A i)) := fun i hi j v hv => by
    have hj : j < 4 := (List.getElem?_eq_some_iff.1 hv).1
    have hx := (h4 i hi).at4
    obtain rfl | rfl | rfl | rfl : j = 0 ∨ j = 1 ∨ j = 2 ∨ j = 3 := by omega
    · cases hv; exact hx.c0
    · cases hv; exact hx.c1
    · cases hv; exact hx.c2
    · cases hv; exact hx.c3
  have q2 : w.rangeAt b 16 [.int .i64 (f : Int), .int .i64 (c : Int)] := fun j v hv => by
    have hj : j < 2 := (List.getElem?_eq_some_iff.1 hv).1
    obtain rfl | rfl : j = 0 ∨ j = 1 := by omega
    · cases hv; exact hf
    · cases hv; exact hc
  exact range_append (range_append (range_append (range_append (q 0 (by omega)) (q 1 (by omega)) rfl) (q 2 (by omega)) rfl) (q 3 (by omega)) rfl) q2 rfl
theorem Ring.there {w : World} {b : Nat} {A : Nat → CV} {f c : Nat} (h : Ring w b A f c) : w.there b 0 18 := fun j hj => by
  rw [Nat.zero_add]
  by_cases h1 : j < 16
  · have := (h.at4 (j / 4) (by omega)).there (j % 4) (by omega)
    rwa [show j / 4 * 4 + j % 4 = j by omega] at this
  · obtain rfl | rfl : j = 16 ∨ j = 17 := by omega
    · exact ⟨by rw [h.cf]; rfl, h.ff⟩
    · exact ⟨by rw [h.cc]; rfl, h.fc⟩
theorem Ring.block {w w' : World} {b : Nat} {A : Nat → CV} {f c : Nat} (h : Ring w b A f c) (e : w'.heap[b]? = w.heap[b]?) : Ring w' b A f c :=
  ⟨fun i hi => (h.at4 i hi).block e, (World.cell?_of_block e).trans h.cf, (World.cell?_of_block e).trans h.cc, (World.frozen?_of_block e).trans h.ff, (World.frozen?_of_block e).trans h.fc⟩
theorem Ring.drew {w : World} {b : Nat} {A : Nat → CV} {f c : Nat} (h : Ring w b A f c) : Ring w.drew b A f c := ⟨fun i hi => ⟨⟨(h.at4 i hi).at4.c0, (h.at4 i hi).at4.c1, (h.at4 i hi).at4.c2, (h.at4 i hi).at4.c3⟩, (h.at4 i hi).fr⟩, h.cf, h.cc, h.ff, h.fc⟩
theorem Ring.of_range {w : World} {b : Nat} {A : Nat → CV} {f c : Nat} (h : w.rangeAt b 0 (ringC A f c)) (ht : w.there b 0 18) : Ring w b A f c := by
  have q : ∀ j, j < 18 → w.frozen? ⟨b, j, none⟩ = false := fun j hj => by have := (ht j hj).2; rwa [Nat.zero_add] at this
  have r : ∀ j v, (ringC A f c)[j]? = some v → w.cell? ⟨b, j, none⟩ = some v := fun j v hv => by have := h j v hv; rwa [Nat.zero_add] at this
  refine ⟨fun i hi => ⟨?_, fun j hj => q _ (by omega)⟩, r 16 _ rfl, r 17 _ rfl, q 16 (by omega), q 17 (by omega)⟩
  obtain rfl | rfl | rfl | rfl : i = 0 ∨ i = 1 ∨ i = 2 ∨ i = 3 := by omega
  · exact ⟨r 0 _ rfl, r 1 _ rfl, r 2 _ rfl, r 3 _ rfl⟩
  · exact ⟨r 4 _ rfl, r 5 _ rfl, r 6 _ rfl, r 7 _ rfl⟩
  · exact ⟨r 8 _ rfl, r 9 _ rfl, r 10 _ rfl, r 11 _ rfl⟩
  · exact ⟨r 12 _ rfl, r 13 _ rfl, r 14 _ rfl, r 15 _ rfl⟩
theorem Ring.boxed (w : World) (A : Nat → CV) (f c : Nat) (t : TypeId) : Ring (w.alloc (.cells (ringC A f c).toArray t)) w.heap.size A f c :=
  Ring.of_range (range_row (heap_alloc_new w _)) (there_row (heap_alloc_new w _) (by simp [ringC, cvC]))
theorem Ring.stored {w : World} {b : Nat} {A : Nat → CV} {f c : Nat} (h : w.there b 0 18) : Ring (w.setCells b 0 (ringC A f c)) b A f c :=
  Ring.of_range (World.rangeAt_setCells_same w b 0 (ringC A f c) h) (fun j hj => by
    have h2 := World.rangeAt_setCells_same w b 0 (ringC A f c) h j ((ringC A f c)[j]) (List.getElem?_eq_getElem (by rw [ringC_len]; exact hj))
    rw [h2, World.frozen?_setCells]
    exact ⟨rfl, (h j hj).2⟩)
theorem Ring.lt {w : World} {b : Nat} {A : Nat → CV} {f c : Nat} (h : Ring w b A f c) : b < w.heap.size := block_lt_of_cell h.cf
def RV (v : Value) (l : List CV) : Prop := ∃ A f c, v = ringV A f c ∧ f < 4 ∧ c ≤ 4 ∧ rlist A f c = l
def A0 : Nat → CV := fun _ => c0
theorem ringC_zero : (ringC A0 0 0).toArray = #[.int .i64 0, .int .i64 0, .int .i64 0, .bool false, .int .i64 0, .int .i64 0, .int .i64 0, .bool false, .int .i64 0, .int .i64 0, .int .i64 0, .bool false, .int .i64 0, .int .i64 0, .int .i64 0, .bool false, .int .i64 0, .int .i64 0] := rfl
theorem RV.zero : RV (ringV A0 0 0) [] := ⟨A0, 0, 0, rfl, by omega, by omega, rfl⟩
set_option maxRecDepth 100000 in
theorem slot_any (w : World) (A : Nat → CV) (f c : Nat) (k : Nat) (hf : f < 4) (hk : k ≤ 4) :
    Calls Tryz.prog 166 #[ringV A f c, .int .i64 (k : Int)] w fun e w' => e = .returned (.int .i64 (((f + k) % 4 : Nat) : Int)) ∧ Below w.heap.size w w' := by
  obtain ⟨R, hR⟩ : ∃ R, R = ringC A f c := ⟨_, rfl⟩
  have hRng := Ring.boxed w A f c 99
  have hcf := hRng.cf
  have HB := Lib.hid ((Below.refl w.heap.size w).alloc (Nat.le_refl _) (.cells (ringC A f c).toArray 99))
  unfold ringV
  rw [← hR] at hcf HB ⊢
  clear hR hRng
  go_enter Tryz.func166, Tryz.ntmps166
  go_wp2_with ((with_reducible refine box_is _ (.tmp 0) ?_); refine box_arr _ (.tmp 0) R.toArray rfl ?_)
  go_ret
  refine ⟨?_, HB.out⟩
  have e : (((f + k) % 4 : Nat) : Int) = ((f : Int) + (k : Int)) % 4 := by omega
  rw [e]
  rfl
theorem below_anyC (w : World) (x lim : Int) : Calls Tryz.prog 71 #[.int .i64 x, .int .i64 lim] w fun e w' => e = .returned (.bool (inR x 0 (lim - 1))) ∧ w = w' := by
  obtain ⟨b, hb⟩ : ∃ b, b = inR x 0 (lim - 1) := ⟨_, rfl⟩
  rw [← hb]
  unfold inR at hb
  have HB := Lib.hid hb
  clear hb
  by_cases h0 : 0 ≤ x
  · by_cases h1 : x < lim
    · have e : Hid (b = true) := Lib.hid (by rw [HB.out]; exact decide_eq_true ⟨h0, by omega⟩)
      go_enter Tryz.func71, Tryz.ntmps71
      go_wp2
      go_ret
      exact ⟨by rw [e.out]; rfl, rfl⟩
    · have e : Hid (b = false) := Lib.hid (by rw [HB.out]; exact decide_eq_false (fun h => h1 (by omega)))
      have h1' : decide (x < lim) = false := by simpa using h1
      clear h1
      go_enter Tryz.func71, Tryz.ntmps71
      go_wp2
      go_ret
      exact ⟨by rw [e.out]; rfl, rfl⟩
  · have e : Hid (b = false) := Lib.hid (by rw [HB.out]; exact decide_eq_false (fun h => h0 h.1))
    have h0' : decide (0 ≤ x) = false := by simpa using h0
    clear h0
    go_enter Tryz.func71, Tryz.ntmps71
    go_wp2
    go_ret
    exact ⟨by rw [e.out]; rfl, rfl⟩
set_option maxRecDepth 100000 in
theorem valid_anyC (w : World) (x : CV) : Calls Tryz.prog 168 #[cvV x] w (BoolResC w (cvOk x)) := by
  obtain ⟨xe, xp, xf, xb⟩ := x
  unfold cvOk
  have hB : Below w.heap.size w (w.alloc (.cells #[.int .i64 xe, .int .i64 xp, .int .i64 xf, .bool xb] 55)) := (Below.refl _ _).alloc (Nat.le_refl _) _
  have H1 : ∀ w, Calls Tryz.prog 71 #[.int .i64 xe, .int .i64 3] w fun e w' => e = .returned (.bool (inR xe 0 2)) ∧ w = w' := fun w => below_anyC w xe 3
  have H2 : ∀ w, Calls Tryz.prog 71 #[.int .i64 xp, .int .i64 16] w fun e w' => e = .returned (.bool (inR xp 0 15)) ∧ w = w' := fun w => below_anyC w xp 16
  have H3 : ∀ w, Calls Tryz.prog 71 #[.int .i64 xf, .int .i64 12] w fun e w' => e = .returned (.bool (inR xf 0 11)) ∧ w = w' := fun w => below_anyC w xf 12
  have HB := Lib.hid hB
  clear hB
  cases h1 : inR xe 0 2
  · rw [h1] at H1
    clear h1
    go_enter Tryz.func168, Tryz.ntmps168
    go_wp2_with fail
    refine (H1 _).mono ?_
    rintro e w' ⟨rfl, rfl⟩
    go_wp2
    go_ret
    exact ⟨rfl, HB.out⟩
  · rw [h1] at H1
    clear h1
    cases h2 : inR xp 0 15
    · rw [h2] at H2
      clear h2
      go_enter Tryz.func168, Tryz.ntmps168
      go_wp2_with fail
      refine (H1 _).mono ?_
      rintro e w' ⟨rfl, rfl⟩
      go_wp2_with fail
      refine (H2 _).mono ?_
      rintro e w' ⟨rfl, rfl⟩
      go_wp2
      go_ret
      exact ⟨rfl, HB.out⟩
    · rw [h2] at H2
      clear h2
      go_enter Tryz.func168, Tryz.ntmps168
      go_wp2_with fail
      refine (H1 _).mono ?_
      rintro e w' ⟨rfl, rfl⟩
      go_wp2_with fail
      refine (H2 _).mono ?_
      rintro e w' ⟨rfl, rfl⟩
      go_wp2_with fail
      refine (H3 _).mono ?_
      rintro e w' ⟨rfl, rfl⟩
      go_wp2
      go_ret
      exact ⟨rfl, HB.out⟩
set_option maxRecDepth 100000 in
theorem isOf_any (w : World) (x : CV) (n p : Int) : Calls Tryz.prog 206 #[cvV x, .int .i64 n, .int .i64 p] w (BoolResC w (same x n p)) := by
  obtain ⟨xe, xp, xf, xb⟩ := x
  unfold same
  dsimp only
  have hB : Below w.heap.size w (w.alloc (.cells #[.int .i64 xe, .int .i64 xp, .int .i64 xf, .bool xb] 55)) := (Below.refl _ _).alloc (Nat.le_refl _) _
  have HB := Lib.hid hB
  clear hB
  obtain ⟨b, hb⟩ : ∃ b, b = decide (xe = n ∧ xp = p) := ⟨_, rfl⟩
  rw [← hb]
  have HBB := Lib.hid hb
  clear hb
  by_cases h1 : xe = n
  · have e1 : (xe == n) = true := by simpa using h1
    by_cases h2 : xp = p
    · have e2 : (xp == p) = true := by simpa using h2
      have HR : Hid (b = true) := Lib.hid (by rw [HBB.out]; exact decide_eq_true ⟨h1, h2⟩)
      clear h1 h2
      go_enter Tryz.func206, Tryz.ntmps206
      go_wp2
      go_ret
      exact ⟨by rw [HR.out]; rfl, HB.out⟩
    · have e2 : (xp == p) = false := by simpa using h2
      have HR : Hid (b = false) := Lib.hid (by rw [HBB.out]; exact decide_eq_false (fun h => h2 h.2))
      clear h1 h2
      go_enter Tryz.func206, Tryz.ntmps206
      go_wp2
      go_ret
      exact ⟨by rw [HR.out]; rfl, HB.out⟩
  · have e1 : (xe == n) = false := by simpa using h1
    have HR : Hid (b = false) := Lib.hid (by rw [HBB.out]; exact decide_eq_false (fun h => h1 h.1))
    clear h1
    go_enter Tryz.func206, Tryz.ntmps206
    go_wp2
    go_ret
    exact ⟨by rw [HR.out]; rfl, HB.out⟩
end Go.Proofs.YtcmmlgdfhkcmoaaGreat
namespace Go.Proofs.YtcmmlgdfhkcmoaaGreat
open Go.ChangeShapes Go.WideShapes Go.ChangeAt Go.RowKit
set_option linter.unusedVariables false
set_option maxRecDepth 100000
def findL (l : List CV) (e p : Int) : FV := if 0 ≤ fnd l e p then ⟨l.getD (fnd l e p).toNat c0, true⟩ else ⟨c0, false⟩
theorem findL_no {l : List CV} {e p : Int} (h : ∀ j, j < l.length → same (l.getD j c0) e p = false) : findL l e p = ⟨c0, false⟩ := by
  unfold findL
  rw [fnd_no h, if_neg (by omega)]
theorem findL_yes {l : List CV} {e p : Int} {k : Nat} (hk : k < l.length) (hy : same (l.getD k c0) e p = true) (h : ∀ j, j < k → same (l.getD j c0) e p = false) : findL l e p = ⟨l.getD k c0, true⟩ := by
  unfold findL
  rw [fnd_yes hk hy h, if_pos (by omega)]
  rfl
theorem ring_info {L : List Value} (h : L.length = 18) : (Tryz.prog.info? 99).map (·.size) = some L.length := by rw [h]; kernel_rfl
theorem fourW_row {w : World} {b : Nat} {x : CV} {t : TypeId} (h : w.heap[b]? = some (.cells #[.int .i64 x.e, .int .i64 x.p, .int .i64 x.f, .bool x.b] t (0, 0))) : FourW w b 0 x :=
  ⟨⟨(cell_of_row w b _ _ t (0, 0) h).trans rfl, (cell_of_row w b _ _ t (0, 0) h).trans rfl, (cell_of_row w b _ _ t (0, 0) h).trans rfl, (cell_of_row w b _ _ t (0, 0) h).trans rfl⟩, fun j hj => frozen_of_row w b _ _ t h⟩
set_option maxRecDepth 100000 in
set_option maxHeartbeats 1000000 in
theorem ringFind_any (w : World) (A : Nat → CV) (f c : Nat) (e p : Int) (hf : f < 4) (hc : c ≤ 4) :
    Calls Tryz.prog 167 #[ringV A f c, .int .i64 e, .int .i64 p] w (FindRes w (findL (rlist A f c) e p)) := by
  obtain ⟨R, HR⟩ : ∃ R, Hid (R = findL (rlist A f c) e p) := ⟨_, Lib.hid rfl⟩
  rw [← HR.out]
  have HSL := Lib.hid (fun w k hk => slot_any w A f c k hf hk)
  have HLE := Lib.hid (rlist_len A f c)
  have HGE := Lib.hid (fun i (hi : i < c) => rlist_get A f c hi)
  unfold ringV at HSL ⊢
  obtain ⟨L, hL⟩ : ∃ L, L = ringC A f c := ⟨_, rfl⟩
  have HLL : Hid (L.length = 18) := Lib.hid (by rw [hL]; rfl)
  have hL17 : L[17]? = some (.int .i64 (c : Int)) := by rw [hL]; rfl
  have HRG0 : Hid (Ring (w.alloc (.cells L.toArray 99)) w.heap.size A f c) := Lib.hid (by rw [hL]; exact Ring.boxed w A f c _)
  rw [← hL] at HSL ⊢
  have HL := Lib.hid hL
  clear hL
  go_enter Tryz.func167, Tryz.ntmps167
  go_wp2_with ((with_reducible refine box_is _ (.tmp 0) ?_); refine box_arr _ (.tmp 0) L.toArray rfl ?_)
  obtain ⟨X, hX⟩ : ∃ X, w.heap.size = X := ⟨_, rfl⟩
  obtain ⟨w0, hw0⟩ : ∃ w0, (w.alloc (.cells L.toArray 99)).alloc (.cells #[.int .i64 0, .int .i64 0, .int .i64 0, .bool false] 55) = w0 := ⟨_, rfl⟩
  have HRG : Hid (Ring w0 X A f c) := Lib.hid (by rw [← hw0, ← hX]; exact HRG0.out.block (heap_alloc_old _ _ (by simp)))
  have HZ : Hid (FourW w0 (X + 1) 0 c0) := Lib.hid (by
    rw [← hw0, ← hX]
    have h := heap_alloc_new (w.alloc (.cells L.toArray 99)) (.cells #[.int .i64 0, .int .i64 0, .int .i64 0, .bool false] 55)
    rw [World.size_alloc] at h
    exact fourW_row h)
  have HB : Hid (Below X w w0) := Lib.hid (by rw [← hw0, ← hX]; exact ((Below.refl _ _).alloc (Nat.le_refl _) _).alloc (by simp) _)
  have HS : Hid (X + 2 ≤ w0.heap.size) := Lib.hid (by rw [← hw0, ← hX]; simp)
  have HXW := Lib.hid hX
  simp only [hX, hw0]
  clear hw0 HRG0 hX
  have HUN := Lib.hid (show X + 1 = X + 1 from rfl)
  go_loopw [12] (fun i wr => ∃ k : Nat, k ≤ c ∧ i = .int .i64 k ∧ Hid (Ring wr X A f c) ∧ Hid (FourW wr (X + 1) 0 c0) ∧ Hid (Below X w wr) ∧ Hid (X + 2 ≤ wr.heap.size) ∧ Hid (∀ j, j < k → same ((rlist A f c).getD j c0) e p = false)) (fun i _ => c - (intOf i).toNat)
  case atStart => exact ⟨0, Nat.zero_le _, rfl, HRG, HZ, HB, HS, Lib.hid (fun j hj => by omega)⟩
  case round =>
    obtain ⟨k, hk, rfl, HRG, HZ, HB, HS, HNO⟩ := hrel
    have HRR := Lib.hid HRG.out.range
    by_cases hlt : k < c
    · have hlt' : (k : Int) < (c : Int) := by omega
      go_wp2_with (first | ((with_reducible refine load_is 99 (.tmp 3) ?_); refine load_arr 99 (.tmp 3) X 0 L _ rfl (by rw [HL.out]; exact HRR.out) Tryz.underlying99 rfl (ring_info HLL.out) ?_) | fail)
      refine (HSL.out _ k (by omega)).mono ?_
      rintro en w1 ⟨rfl, hb1⟩
      obtain ⟨s, hs⟩ : ∃ s, s = (f + k) % 4 := ⟨_, rfl⟩
      have hs4 : (s : Int) < 4 := by omega
      have hs4n : s < 4 := by omega
      obtain ⟨x, hx⟩ : ∃ x, x = A s := ⟨_, rfl⟩
      have HX : Hid (x = (rlist A f c).getD k c0) := Lib.hid (by rw [hx, hs]; exact (HGE.out k hlt).symm)
      have hbl := HRG.out.lt
      have hf4 := ((HRG.out.at4 s hs4n).block (hb1.block _ hbl)).at4
      rw [← hx] at hf4
      obtain ⟨g0, g1, g2, g3⟩ := hf4
      rw [← hs]
      have HBS := Lib.hid hb1
      clear hs hx hb1
      go_wp2_with fail
      obtain ⟨Y, hY⟩ : ∃ Y, w1.heap.size = Y := ⟨_, rfl⟩
      obtain ⟨w2, hw2⟩ : ∃ w2, w1.alloc (.cells #[.int .i64 x.e, .int .i64 x.p, .int .i64 x.f, .bool x.b] 55) = w2 := ⟨_, rfl⟩
      have hb2 : Below wr.heap.size wr w2 := by rw [← hw2]; exact HBS.out.alloc HBS.out.size _
      have HYX : Hid (X + 2 ≤ Y) := Lib.hid (by rw [← hY]; exact Nat.le_trans HS.out HBS.out.size)
      have HF2 : Hid (FourW w2 Y 0 x ∧ Y < w2.heap.size) := Lib.hid (by
        rw [← hw2, ← hY]
        exact ⟨fourW_row (heap_alloc_new w1 (.cells #[.int .i64 x.e, .int .i64 x.p, .int .i64 x.f, .bool x.b] 55)), by simp⟩)
      have HBS2 := Lib.hid hb2
      simp only [hY, hw2]
      clear hw2 hY hb2 HBS g0 g1 g2 g3
      refine (isOf_any w2 x e p).mono ?_
      rintro en w3 ⟨rfl, hb3⟩
      have HB3 : Hid (Below wr.heap.size wr w3) := Lib.hid (HBS2.out.trans (hb3.mono HBS2.out.size))
      have HF3 : Hid (FourW w3 Y 0 x) := Lib.hid (HF2.out.1.block (hb3.block _ HF2.out.2))
      have HRG3 : Hid (Ring w3 X A f c) := Lib.hid (HRG.out.block (HB3.out.block _ (by have := HS.out; omega)))
      have HZ3 : Hid (FourW w3 (X + 1) 0 c0) := Lib.hid (HZ.out.block (HB3.out.block _ (by have := HS.out; omega)))
      have HBB3 : Hid (Below X w w3) := Lib.hid (HB.out.trans (HB3.out.mono (by have := HS.out; omega)))
      have HS3 : Hid (X + 2 ≤ w3.heap.size) := Lib.hid (Nat.le_trans HS.out HB3.out.size)
      clear hb3 HB3 HBS2 HF2
      cases hsm : same x e p
      · have HN2 : Hid (∀ j, j < k + 1 → same ((rlist A f c).getD j c0) e p = false) := Lib.hid (fun j hj => by
          by_cases hjk : j < k
          · exact HNO.out j hjk
          · obtain rfl : j = k := by omega
            rw [← HX.out]; exact hsm)
        clear hsm
        go_wp2
        go_roundw
        case rel => exact ⟨k + 1, by omega, by go_num, HRG3, HZ3, HBB3, HS3, HN2⟩
        case measure => simp [intOf]; omega
      · have HR2 : Hid (R = ⟨x, true⟩) := Lib.hid (by
          rw [HR.out, HX.out]
          exact findL_yes (by rw [HLE.out]; exact hlt) (by rw [← HX.out]; exact hsm) HNO.out)
        clear hsm
        obtain ⟨q0, q1, q2, q3⟩ := HF3.out.at4
        rw [Nat.zero_add] at q1 q2 q3
        have HT := Lib.hid HZ3.out.there
        go_wp2_with (first | ((with_reducible refine store_is 55 (.tmp 6) (.tmp 25) ?_); refine store_arr 55 (.tmp 6) (.tmp 25) (X + 1) 0 #[.int .i64 x.e, .int .i64 x.p, .int .i64 x.f, .bool x.b] rfl rfl HT.out (by kernel_rfl) (by simp [Value.oneCell']) ?_) | fail)
        refine bodyPost_ret (results_cell_mid rfl _ _ (X + 1) 0 [.int .i64 x.e, .int .i64 x.p, .int .i64 x.f, .bool x.b] _ rfl (World.rangeAt_setCells_same _ _ _ _ HT.out) Tryz.underlying55 rfl (by kernel_rfl)) rfl ?_
        rw [HR2.out]
        exact ⟨rfl, by rw [HXW.out]; exact Below.setCells HBB3.out _ (by omega) _ _ _ HBB3.out⟩
    · have ek : k = c := by omega
      subst ek
      have HR2 : Hid (R = ⟨c0, false⟩) := Lib.hid (by
        rw [HR.out]
        exact findL_no (fun j hj => HNO.out j (by rw [HLE.out] at hj; exact hj)))
      have HT := Lib.hid HZ.out.there
      go_wp2_with (first | ((with_reducible refine store_is 55 (.tmp 6) (.tmp 27) ?_); refine store_arr 55 (.tmp 6) (.tmp 27) (X + 1) 0 #[.int .i64 0, .int .i64 0, .int .i64 0, .bool false] rfl rfl HT.out (by kernel_rfl) (by kernel_rfl) ?_) | fail)
      refine bodyPost_ret (results_cell_mid rfl _ _ (X + 1) 0 [.int .i64 0, .int .i64 0, .int .i64 0, .bool false] _ rfl (World.rangeAt_setCells_same _ _ _ _ HT.out) Tryz.underlying55 rfl (by kernel_rfl)) rfl ?_
      rw [HR2.out]
      exact ⟨rfl, by rw [HXW.out]; exact Below.setCells HB.out _ (by omega) _ _ _ HB.out⟩
end Go.Proofs.YtcmmlgdfhkcmoaaGreat
namespace Go.Proofs.YtcmmlgdfhkcmoaaGreat
open Go.ChangeShapes Go.WideShapes Go.ChangeAt Go.RowKit
set_option linter.unusedVariables false
set_option maxRecDepth 100000
theorem OwnC.made {w w' : World} {n : Nat} (h : w'.ownsRow w.heap.size 55 4 (.slice (some ⟨w.heap.size, 0, none⟩) 0 n) 0 []) (hg : w.grownBy w' none) : OwnC w (.slice (some ⟨w.heap.size, 0, none⟩) 0 n) [] w' :=
  ⟨h, (Below.refl _ _).grown hg (Nat.le_refl _) (fun k e => by cases e), fun h => by cases h⟩
theorem OwnC.later {w w1 w2 : World} {v : Value} {ys : List CV} (h : OwnC w v ys w1) (hb : Below w1.heap.size w1 w2) : OwnC w v ys w2 :=
  ⟨by
    refine ⟨h.own.1, ?_⟩
    rcases h.own.2 with hn | ⟨g, cap, cur, e, hg, hbl, rest⟩
    · exact .inl hn
    · exact .inr ⟨g, cap, cur, e, hg, (hb.block _ (Array.getElem?_eq_some_iff.1 hbl).1).trans hbl, rest⟩, h.bel.trans (hb.mono h.bel.size), h.nn⟩
set_option maxRecDepth 100000 in
set_option maxHeartbeats 1000000 in
theorem ringList_any (w : World) (A : Nat → CV) (f c : Nat) (hf : f < 4) (hc : c ≤ 4) :
    Calls Tryz.prog 113 #[ringV A f c] w (NewC (rlist A f c) w) := by
  obtain ⟨i0, hi, hz0, hz1, hz2⟩ := info_parts cvInfo
  have HI := Lib.hid hi
  have HZ0 := Lib.hid hz0
  have HZ1 := Lib.hid hz1
  have HZ2 := Lib.hid hz2
  clear hi hz0 hz1 hz2
  obtain ⟨R, HR⟩ : ∃ R, Hid (R = rlist A f c) := ⟨_, Lib.hid rfl⟩
  rw [← HR.out]
  have HSL := Lib.hid (fun w k hk => slot_any w A f c k hf hk)
  have HSN := Lib.hid (fun k => rlist_snoc A f k)
  have HLN := Lib.hid (fun k => rlist_len A f k)
  unfold ringV at HSL ⊢
  obtain ⟨L, hL⟩ : ∃ L, L = ringC A f c := ⟨_, rfl⟩
  have HLL : Hid (L.length = 18) := Lib.hid (by rw [hL]; rfl)
  have hL17 : L[17]? = some (.int .i64 (c : Int)) := by rw [hL]; rfl
  have HRG0 : Hid (Ring (w.alloc (.cells L.toArray 99)) w.heap.size A f c) := Lib.hid (by rw [hL]; exact Ring.boxed w A f c _)
  rw [← hL] at HSL ⊢
  have HL := Lib.hid hL
  clear hL
  go_enter Tryz.func113, Tryz.ntmps113
  go_wp2_with (first | ((with_reducible refine box_is _ (.tmp 0) ?_); refine box_arr _ (.tmp 0) L.toArray rfl ?_) | (at_make; refine wpList_make_own _ rfl (.const (.int .i64 0)) (.tmp 6) 28 rfl (w.heap.size + 1) 55 i0 (.agg #[.int .i64 0, .int .i64 0, .int .i64 0, .bool false]) 4 Tryz.underlying28 HI.out HZ0.out HZ1.out .i64 .i64 _ c rfl rfl rfl (by rw [HZ2.out]; omega) (by unfold maxLen; omega) (by simp) ?_; intro wm hown hgrow; have hcm : wm.cell? ⟨w.heap.size, 17, none⟩ = some (.int .i64 (c : Int)) := (World.cell?_of_block (hgrow.block _ (by simp) (by simp))).trans HRG0.out.cc) | fail)
  obtain ⟨X, hX⟩ : ∃ X, w.heap.size = X := ⟨_, rfl⟩
  obtain ⟨w0, hw0⟩ : ∃ w0, w.alloc (.cells L.toArray 99) = w0 := ⟨_, rfl⟩
  have hX1 : w0.heap.size = X + 1 := by rw [← hw0, ← hX]; simp
  have HRG : Hid (Ring w0 X A f c) := Lib.hid (by rw [← hw0, ← hX]; exact HRG0.out)
  have HBW : Hid (Below X w w0) := Lib.hid (by rw [← hw0, ← hX]; exact (Below.refl _ _).alloc (Nat.le_refl _) _)
  simp only [hX, hw0] at hown hgrow ⊢
  simp only [hX1] at hown ⊢
  have HST : Hid (OwnC w0 (.slice (some ⟨X + 1, 0, none⟩) 0 c) [] wm) := Lib.hid (by
    have h := @OwnC.made w0 wm c
    rw [hX1] at h
    exact h hown hgrow)
  have HXX := Lib.hid hX1
  have HXW := Lib.hid hX
  clear hown hgrow hX1 hX hw0 HRG0 hcm
  go_loopw [3, 10] (fun u i wr => ∃ k : Nat, k ≤ c ∧ i = .int .i64 k ∧ OwnC w0 u (rlist A f k) wr) (fun _ i _ => c - (intOf i).toNat)
  case atStart => exact ⟨0, Nat.zero_le _, rfl, HST.out⟩
  case round =>
    obtain ⟨k, hk, rfl, hrel⟩ := hrel
    have HREL := Lib.hid hrel
    clear hrel
    have HRGR : Hid (Ring wr X A f c) := Lib.hid (HRG.out.block (HREL.out.bel.block _ HRG.out.lt))
    have HRR := Lib.hid HRGR.out.range
    have HXR : Hid (X < wr.heap.size) := Lib.hid HRGR.out.lt
    by_cases hlt : k < c
    · have hlt' : (k : Int) < (c : Int) := by omega
      go_wp2_with (first | ((with_reducible refine load_is 99 (.tmp 1) ?_); refine load_arr 99 (.tmp 1) X 0 L _ rfl (by rw [HL.out]; exact HRR.out) Tryz.underlying99 rfl (ring_info HLL.out) ?_) | fail)
      refine (HSL.out _ k (by omega)).mono ?_
      rintro en w1 ⟨rfl, hb1⟩
      obtain ⟨s, hs⟩ : ∃ s, s = (f + k) % 4 := ⟨_, rfl⟩
      have hs4 : (s : Int) < 4 := by omega
      have hs4n : s < 4 := by omega
      obtain ⟨x, hx⟩ : ∃ x, x = A s := ⟨_, rfl⟩
      have HX : Hid (rlist A f (k + 1) = rlist A f k ++ [x]) := Lib.hid (by rw [HSN.out, hx, hs])
      have hf4 := ((HRGR.out.at4 s hs4n).block (hb1.block _ HXR.out)).at4
      rw [← hx] at hf4
      obtain ⟨g0, g1, g2, g3⟩ := hf4
      rw [← hs]
      have HOWN1 : Hid (OwnC w0 u3 (rlist A f k) w1) := Lib.hid (HREL.out.later hb1)
      clear hs hx hb1
      go_wp2_with (first | (at_builtin; refine wpList_append_own _ rfl (.tmp 13) (.tmp 20) 28 rfl w0.heap.size 55 i0 (.agg #[.int .i64 0, .int .i64 0, .int .i64 0, .bool false]) 4 32 Tryz.underlying28 HI.out HZ0.out HZ1.out HZ2.out rfl (by decide) _ _ _ rfl (HOWN1.out.own.alloc _) ⟨w1.heap.size, 0, none⟩ 1 1 (cvC x) rfl rfl (cell_four_new _ _ _) (by intro u hu; simp [cvC] at hu; rcases hu with rfl | rfl | rfl | rfl <;> rfl) (by rw [HLN.out]; unfold maxLen; omega) (by rw [HLN.out]; omega) (by have := HOWN1.out.bel.size; simp; omega) ?_; intro v2 w2 hown2 hgrow2 hnn2) | fail)
      have HR2 : Hid (OwnC w0 v2 (rlist A f (k + 1)) w2) := Lib.hid (by
        rw [HX.out]
        exact HOWN1.out.grow (zs := [x]) rfl (by rw [show csC [x] = cvC x from by simp [csC]]; exact hown2) hgrow2 (fun e => (hnn2.1 e).1))
      clear hown2 hgrow2 hnn2
      go_wp2
      go_roundw
      case rel => exact ⟨k + 1, by omega, by go_num, HR2.out⟩
      case measure => simp [intOf]; omega
    · have ek : k = c := by omega
      subst ek
      go_wp2
      go_ret
      refine ⟨_, rfl, ?_⟩
      rw [HR.out]
      exact HREL.out.from (by rw [HXW.out]; exact HBW.out)
end Go.Proofs.YtcmmlgdfhkcmoaaGreat
namespace Go.Proofs.YtcmmlgdfhkcmoaaGreat
open Go.ChangeShapes Go.WideShapes Go.ChangeAt Go.RowKit
set_option linter.unusedVariables false
set_option maxRecDepth 100000
set_option linter.unusedSimpArgs false
theorem Chg.trans {lo hi : Nat} {a b c : World} (h : Chg lo hi a b) (k : Chg lo hi b c) : Chg lo hi a c :=
  ⟨k.os.trans h.os, k.tape.trans h.tape, k.output.trans h.output, Nat.le_trans h.size k.size, fun i hi hb => (k.block i (Nat.lt_of_lt_of_le hi h.size) hb).trans (h.block i hi hb)⟩
theorem Chg.of_bel {lo hi : Nat} {w w' : World} (h : Below w.heap.size w w') : Chg lo hi w w' := ⟨h.os, h.tape, h.output, h.size, fun b hb _ => h.block b hb⟩
theorem chg_setCells (w : World) (b o : Nat) (vs : List Value) : Chg b (b + 1) w (w.setCells b o vs) := by
  have h := Below.setCells (Below.refl (b) w) b (Nat.le_refl _) vs o w (Below.refl _ _)
  exact ⟨h.os, h.tape, h.output, h.size, fun i _ hb => heap_setCells_other w b vs o w i (by omega)⟩
theorem chg_setCell (w : World) (b o : Nat) (v : Value) : Chg b (b + 1) w (w.setCell ⟨b, o, none⟩ v) := chg_setCells w b o [v]
theorem Four.below_chg {w w' : World} {lo hi b o : Nat} {x : CV} (h : Four w b o x) (hc : Chg lo hi w w') (hb : b < lo ∨ hi ≤ b) : Four w' b o x := by
  have e := hc.block b (block_lt_of_cell h.c0) hb
  exact ⟨(World.cell?_of_block e).trans h.c0, (World.cell?_of_block e).trans h.c1, (World.cell?_of_block e).trans h.c2, (World.cell?_of_block e).trans h.c3⟩
theorem cell_setCells_apart {w : World} {b o j : Nat} {vs : List Value} {v : Value} (h : w.cell? ⟨b, j, none⟩ = some v) (ha : j < o ∨ o + vs.length ≤ j) : (w.setCells b o vs).cell? ⟨b, j, none⟩ = some v := by
  have hr : w.rangeAt b j [v] := fun i u hu => by
    have hi : i < 1 := (List.getElem?_eq_some_iff.1 hu).1
    obtain rfl : i = 0 := by omega
    cases hu
    exact h
  exact World.rangeAt_setCells_apart hr b o vs (.inr (by simp; omega)) 0 _ rfl
theorem Ring.put {w : World} {b : Nat} {A : Nat → CV} {f c k : Nat} {x : CV} (h : Ring w b A f c) (hk : k < 4) : Ring (w.setCells b (k * 4) (cvC x)) b (upd A k x) f c := by
  refine ⟨fun i hi => ?_, cell_setCells_apart h.cf (by simp [cvC]; omega), cell_setCells_apart h.cc (by simp [cvC]; omega), ?_, ?_⟩
  · unfold upd
    by_cases hik : i = k
    · rw [if_pos hik, hik]
      exact FourW.stored (h.at4 k hk).there
    · rw [if_neg hik]
      exact (h.at4 i hi).apart (by simp [cvC]; omega)
  · rw [World.frozen?_setCells]; exact h.ff
  · rw [World.frozen?_setCells]; exact h.fc
theorem Ring.setF {w : World} {b : Nat} {A : Nat → CV} {f c : Nat} (f' : Nat) (h : Ring w b A f c) : Ring (w.setCell ⟨b, 16, none⟩ (.int .i64 (f' : Int))) b A f' c := by
  have e : w.setCell ⟨b, 16, none⟩ (.int .i64 (f' : Int)) = w.setCells b 16 [.int .i64 (f' : Int)] := rfl
  rw [e]
  refine ⟨fun i hi => (h.at4 i hi).apart (by simp; omega), ?_, cell_setCells_apart h.cc (by simp), ?_, ?_⟩
  · exact World.rangeAt_setCells_same w b 16 [.int .i64 (f' : Int)] (fun j hj => h.there (16 + j) (by simp at hj; omega) |> (fun z => by rw [Nat.zero_add] at z; exact z)) 0 _ rfl
  · rw [World.frozen?_setCells]; exact h.ff
  · rw [World.frozen?_setCells]; exact h.fc
theorem Ring.setC {w : World} {b : Nat} {A : Nat → CV} {f c : Nat} (c' : Nat) (h : Ring w b A f c) : Ring (w.setCell ⟨b, 17, none⟩ (.int .i64 (c' : Int))) b A f c' := by
  have e : w.setCell ⟨b, 17, none⟩ (.int .i64 (c' : Int)) = w.setCells b 17 [.int .i64 (c' : Int)] := rfl
  rw [e]
  refine ⟨fun i hi => (h.at4 i hi).apart (by simp; omega), cell_setCells_apart h.cf (by simp), ?_, ?_, ?_⟩
  · exact World.rangeAt_setCells_same w b 17 [.int .i64 (c' : Int)] (fun j hj => h.there (17 + j) (by simp at hj; omega) |> (fun z => by rw [Nat.zero_add] at z; exact z)) 0 _ rfl
  · rw [World.frozen?_setCells]; exact h.ff
  · rw [World.frozen?_setCells]; exact h.fc
def RL (w : World) (b : Nat) (l : List CV) : Prop := ∃ A f c, Ring w b A f c ∧ f < 4 ∧ c ≤ 4 ∧ rlist A f c = l
def PushR (w : World) (b : Nat) (l : List CV) (e : Ending) (w' : World) : Prop := e = .returned (.tuple #[]) ∧ RL w' b l ∧ Chg b (b + 1) w w'
end Go.Proofs.YtcmmlgdfhkcmoaaGreat
