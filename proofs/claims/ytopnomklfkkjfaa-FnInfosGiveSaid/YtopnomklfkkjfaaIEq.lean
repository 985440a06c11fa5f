/- How the laws compare what is known of frames. -/
import Derived.Test.YtopnomklfkkjfaaIOwn
import Derived.Deep.RegionHeld3
namespace Go.Proofs.Ytopnomklfkkjfaa
open Go.ChangeShapes Go.WideShapes Go.ChangeAt Go.RowKit
set_option linter.unusedVariables false

/-- the call answers a bool; nothing that was there changes -/
def BRes (b : Bool) (w : World) (e : Ending) (w' : World) : Prop := e = .returned (.bool b) ∧ Below w.heap.size w w'
set_option maxRecDepth 100000 in
theorem eqInfo_any (w : World) (x y : IV) : Calls Try.prog 48 #[ivV x, ivV y] w (BRes (decide (x = y)) w) := by
  obtain ⟨xk, xg, xr⟩ := x
  obtain ⟨yk, yg, yr⟩ := y
  have HB : Hid (Below w.heap.size w ((w.alloc (.cells #[.int .i64 xk, .string ⟨xg.toArray⟩, .int .i64 xr] 30)).alloc (.cells #[.int .i64 yk, .string ⟨yg.toArray⟩, .int .i64 yr] 30))) := Lib.hid (((Below.refl _ _).alloc (Nat.le_refl _) _).alloc (by simp) _)
  obtain ⟨r, hr⟩ : ∃ r, r = decide ((⟨xk, xg, xr⟩ : IV) = ⟨yk, yg, yr⟩) := ⟨_, rfl⟩
  rw [← hr]
  by_cases h0 : xk = yk
  · by_cases h1 : xg = yg
    · by_cases h2 : xr = yr
      · have HR : Hid (r = true) := Lib.hid (by rw [hr]; exact decide_eq_true (iv_ext.2 ⟨h0, h1, h2⟩))
        have e0 : (xk != yk) = false := by simpa using h0
        have e1 : (xg == yg) = true := by simpa using h1
        have e2 : (xr != yr) = false := by simpa using h2
        clear h0 h1 h2 hr
        go_enter Try.func48, Try.ntmps48
        go_wp2
        go_ret
        exact ⟨by rw [HR.out]; rfl, HB.out⟩
      · have HR : Hid (r = false) := Lib.hid (by rw [hr]; exact decide_eq_false (fun hh => h2 (iv_ext.1 hh).2.2))
        have e0 : (xk != yk) = false := by simpa using h0
        have e1 : (xg == yg) = true := by simpa using h1
        have e2 : (xr != yr) = true := by simpa using h2
        clear h0 h1 h2 hr
        go_enter Try.func48, Try.ntmps48
        go_wp2
        go_ret
        exact ⟨by rw [HR.out]; rfl, HB.out⟩
    · have HR : Hid (r = false) := Lib.hid (by rw [hr]; exact decide_eq_false (fun hh => h1 (iv_ext.1 hh).2.1))
      have e0 : (xk != yk) = false := by simpa using h0
      have e1 : (xg == yg) = false := by simpa using h1
      clear h0 h1 hr
      go_enter Try.func48, Try.ntmps48
      go_wp2
      go_ret
      exact ⟨by rw [HR.out]; rfl, HB.out⟩
  · have HR : Hid (r = false) := Lib.hid (by rw [hr]; exact decide_eq_false (fun hh => h0 (iv_ext.1 hh).1))
    have e0 : (xk != yk) = true := by simpa using h0
    clear h0 hr
    go_enter Try.func48, Try.ntmps48
    go_wp2
    go_ret
    exact ⟨by rw [HR.out]; rfl, HB.out⟩
set_option maxRecDepth 100000 in
theorem eqInfoS_any (w : World) (v u : Value) (xs ys : List IV) (h : Is w v xs) (k : Is w u ys) : Calls Try.prog 29 #[v, u] w (BRes (decide (xs = ys)) w) := by
  obtain ⟨a, ca, rfl, ha1, ha2, ha3⟩ := h
  obtain ⟨b, cb, rfl, hb1, hb2, hb3⟩ := k
  unfold maxLen at ha2 hb2
  obtain ⟨r, hr⟩ : ∃ r, r = decide (xs = ys) := ⟨_, rfl⟩
  rw [← hr]
  have HR := Lib.hid hr
  have HA := Lib.hid ha3
  have HBs := Lib.hid hb3
  obtain ⟨m, hm⟩ : ∃ m, m = xs.length := ⟨_, rfl⟩
  obtain ⟨n, hn⟩ : ∃ n, n = ys.length := ⟨_, rfl⟩
  have HM := Lib.hid hm
  have HN := Lib.hid hn
  rw [← hm] at ha1 ⊢
  rw [← hn] at hb1 ⊢
  clear hm hn hr ha3 hb3
  by_cases hl : m = n
  · subst hl
    have hl' : ((m : Int) != (m : Int)) = false := by simp
    go_enter Try.func29, Try.ntmps29
    go_wp2
    go_loopw [5] (fun i wr => ∃ k : Nat, k ≤ m ∧ i = .int .i64 k ∧ Hid (Below w.heap.size w wr) ∧ Hid (xs.take k = ys.take k)) (fun i _ => m - (intOf i).toNat)
    case atStart => exact ⟨0, Nat.zero_le _, rfl, Lib.hid (Below.refl _ _), Lib.hid rfl⟩
    case round =>
      obtain ⟨k, hk, rfl, HBW, HTK⟩ := hrel
      by_cases hlt : k < m
      · obtain ⟨ba, oa, rfl, hfa⟩ := HA.out k (by have := HM.out; omega)
        obtain ⟨bb, ob, rfl, hfb⟩ := HBs.out k (by have := HN.out; omega)
        have hba := block_lt_of_cell hfa.c0
        have hbb := block_lt_of_cell hfb.c0
        obtain ⟨x, hx⟩ : ∃ x, x = xs.getD k iz := ⟨_, rfl⟩
        obtain ⟨y, hy⟩ : ∃ y, y = ys.getD k iz := ⟨_, rfl⟩
        rw [← hx] at hfa
        rw [← hy] at hfb
        have HFA := Lib.hid hfa
        have HFB := Lib.hid hfb
        have HX := Lib.hid hx
        have HY := Lib.hid hy
        have FA : Hid (Tri wr.drew ba (oa + k * 3) x) := Lib.hid (hfa.below HBW.out.drew hba)
        have FB : Hid (Tri wr.drew bb (ob + k * 3) y) := Lib.hid (hfb.below HBW.out.drew hbb)
        have HC1 := Lib.hid (eqInfo_any wr.drew x y)
        have hlt' : (k : Int) < (m : Int) := by omega
        clear hx hy hfa hfb
        by_cases he : x = y
        · rw [decide_eq_true he] at HC1
          have HT2 : Hid (xs.take (k + 1) = ys.take (k + 1)) := Lib.hid (take_eq_succ (d := iz) (by rw [← HM.out, ← HN.out]) (by have := HM.out; omega) HTK.out (by rw [← HX.out, ← HY.out]; exact he))
          clear he
          go_wp2_with fail
          refine wp_region_held_drew (S := fun w' => Tri w' ba (oa + k * 3) x ∧ Tri w' bb (ob + k * 3) y) (by kernel_rfl) ⟨FA.out, FB.out⟩ (fun hHeld => ?_)
          refine wpAnyH_take (i := 0) (oi := { dst := some 17, op := .move (.tmp 0), type := _, pos := _, after := _, guard := none }) (v := .slice (some ⟨ba, oa, none⟩) m ca) rfl (by kernel_rfl) (by kernel_rfl) (by kernel_rfl) (fun _ _ _ h => h) (Or.inl ⟨by rfl, fun wh hSw => ?_⟩) hHeld ?_
          · (obtain ⟨⟨s0, s1, s2⟩, t0, t1, t2⟩ := hSw; go_simp)
          try simp only [Act.put, List.setIfInBounds_toArray, List.set_cons_zero, List.set_cons_succ]
          refine wpAnyH_take (i := 1) (oi := { dst := some 18, op := .move (.tmp 5), type := _, pos := _, after := _, guard := none }) (v := .int .i64 (k : Int)) rfl (by kernel_rfl) (by kernel_rfl) (by kernel_rfl) (fun _ _ _ h => h) (Or.inl ⟨by rfl, fun wh hSw => ?_⟩) hHeld ?_
          · (obtain ⟨⟨s0, s1, s2⟩, t0, t1, t2⟩ := hSw; go_simp)
          try simp only [Act.put, List.setIfInBounds_toArray, List.set_cons_zero, List.set_cons_succ]
          refine wpAnyH_take (i := 2) (oi := { dst := some 19, op := .indexAddr 23 (.tmp 17) (.tmp 18), type := _, pos := _, after := _, guard := none }) (v := .pointer (some ⟨ba, oa + k * 3, none⟩)) rfl (by kernel_rfl) (by kernel_rfl) (by kernel_rfl) (fun _ _ _ h => h) (Or.inl ⟨by rfl, fun wh hSw => ?_⟩) hHeld ?_
          · (obtain ⟨⟨s0, s1, s2⟩, t0, t1, t2⟩ := hSw; go_simp)
          try simp only [Act.put, List.setIfInBounds_toArray, List.set_cons_zero, List.set_cons_succ]
          refine wpAnyH_take (i := 3) (oi := { dst := some 20, op := .load 30 (.tmp 19), type := _, pos := _, after := _, guard := none }) (v := ivV x) rfl (by kernel_rfl) (by kernel_rfl) (by kernel_rfl) (fun _ _ _ h => h) (Or.inl ⟨by rfl, fun wh hSw => ?_⟩) hHeld ?_
          · (obtain ⟨⟨s0, s1, s2⟩, t0, t1, t2⟩ := hSw; go_simp)
          try simp only [Act.put, List.setIfInBounds_toArray, List.set_cons_zero, List.set_cons_succ]
          refine wpAnyH_take (i := 4) (oi := { dst := some 21, op := .move (.tmp 1), type := _, pos := _, after := _, guard := none }) (v := .slice (some ⟨bb, ob, none⟩) m cb) rfl (by kernel_rfl) (by kernel_rfl) (by kernel_rfl) (fun _ _ _ h => h) (Or.inl ⟨by rfl, fun wh hSw => ?_⟩) hHeld ?_
          · (obtain ⟨⟨s0, s1, s2⟩, t0, t1, t2⟩ := hSw; go_simp)
          try simp only [Act.put, List.setIfInBounds_toArray, List.set_cons_zero, List.set_cons_succ]
          refine wpAnyH_take (i := 5) (oi := { dst := some 22, op := .move (.tmp 5), type := _, pos := _, after := _, guard := none }) (v := .int .i64 (k : Int)) rfl (by kernel_rfl) (by kernel_rfl) (by kernel_rfl) (fun _ _ _ h => h) (Or.inl ⟨by rfl, fun wh hSw => ?_⟩) hHeld ?_
          · (obtain ⟨⟨s0, s1, s2⟩, t0, t1, t2⟩ := hSw; go_simp)
          try simp only [Act.put, List.setIfInBounds_toArray, List.set_cons_zero, List.set_cons_succ]
          refine wpAnyH_take (i := 6) (oi := { dst := some 23, op := .indexAddr 23 (.tmp 21) (.tmp 22), type := _, pos := _, after := _, guard := none }) (v := .pointer (some ⟨bb, ob + k * 3, none⟩)) rfl (by kernel_rfl) (by kernel_rfl) (by kernel_rfl) (fun _ _ _ h => h) (Or.inl ⟨by rfl, fun wh hSw => ?_⟩) hHeld ?_
          · (obtain ⟨⟨s0, s1, s2⟩, t0, t1, t2⟩ := hSw; go_simp)
          try simp only [Act.put, List.setIfInBounds_toArray, List.set_cons_zero, List.set_cons_succ]
          refine wpAnyH_take (i := 7) (oi := { dst := some 24, op := .load 30 (.tmp 23), type := _, pos := _, after := _, guard := none }) (v := ivV y) rfl (by kernel_rfl) (by kernel_rfl) (by kernel_rfl) (fun _ _ _ h => h) (Or.inl ⟨by rfl, fun wh hSw => ?_⟩) hHeld ?_
          · (obtain ⟨⟨s0, s1, s2⟩, t0, t1, t2⟩ := hSw; go_simp)
          try simp only [Act.put, List.setIfInBounds_toArray, List.set_cons_zero, List.set_cons_succ]
          refine wpAnyH_ready (rs := [8]) (by kernel_rfl) (by simp) ?_
          refine AllReadyH.cons (o := { dst := some 25, op := .call { callee := .value (.func 48), args := #[.tmp 20, .tmp 24], argTypes := #[30, 30] }, type := _, pos := _, after := _, guard := none }) rfl (fun K hK => ?_) AllReadyH.nil
          go_simp
          refine HC1.out.mono ?_
          rintro e w1 ⟨rfl, hb1⟩
          have HB1 := Lib.hid ((HBW.out.drew).trans (hb1.mono HBW.out.size))
          clear hb1
          try go_simp
          refine hK.out _ _ ?_ (fun hHeld => ?_)
          · exact ⟨HFA.out.below HB1.out hba, HFB.out.below HB1.out hbb⟩
          clear hK K
          try simp only [Act.put, List.setIfInBounds_toArray, List.set_cons_zero, List.set_cons_succ]
          refine wpAnyH_take (i := 9) (oi := { dst := some 26, op := .unOp .not 4 (.tmp 25), type := _, pos := _, after := _, guard := none }) (v := .bool false) rfl (by kernel_rfl) (by kernel_rfl) (by kernel_rfl) (fun _ _ _ h => h) (Or.inl ⟨by rfl, fun wh hSw => ?_⟩) hHeld ?_
          · (obtain ⟨⟨s0, s1, s2⟩, t0, t1, t2⟩ := hSw; go_simp)
          try simp only [Act.put, List.setIfInBounds_toArray, List.set_cons_zero, List.set_cons_succ]
          refine wpAnyH_done (by kernel_rfl) ?_ _
          go_wp2
          go_roundw
          case rel => exact ⟨k + 1, by omega, by go_num, HB1, HT2⟩
          case measure => simp [intOf]; omega
        · rw [decide_eq_false he] at HC1
          have HF : Hid (r = false) := Lib.hid (by rw [HR.out]; exact decide_eq_false (fun hh => he (by rw [HX.out, HY.out, hh])))
          clear he
          go_wp2_with fail
          refine wp_region_held_drew (S := fun w' => Tri w' ba (oa + k * 3) x ∧ Tri w' bb (ob + k * 3) y) (by kernel_rfl) ⟨FA.out, FB.out⟩ (fun hHeld => ?_)
          refine wpAnyH_take (i := 0) (oi := { dst := some 17, op := .move (.tmp 0), type := _, pos := _, after := _, guard := none }) (v := .slice (some ⟨ba, oa, none⟩) m ca) rfl (by kernel_rfl) (by kernel_rfl) (by kernel_rfl) (fun _ _ _ h => h) (Or.inl ⟨by rfl, fun wh hSw => ?_⟩) hHeld ?_
          · (obtain ⟨⟨s0, s1, s2⟩, t0, t1, t2⟩ := hSw; go_simp)
          try simp only [Act.put, List.setIfInBounds_toArray, List.set_cons_zero, List.set_cons_succ]
          refine wpAnyH_take (i := 1) (oi := { dst := some 18, op := .move (.tmp 5), type := _, pos := _, after := _, guard := none }) (v := .int .i64 (k : Int)) rfl (by kernel_rfl) (by kernel_rfl) (by kernel_rfl) (fun _ _ _ h => h) (Or.inl ⟨by rfl, fun wh hSw => ?_⟩) hHeld ?_
          · (obtain ⟨⟨s0, s1, s2⟩, t0, t1, t2⟩ := hSw; go_simp)
          try simp only [Act.put, List.setIfInBounds_toArray, List.set_cons_zero, List.set_cons_succ]
          refine wpAnyH_take (i := 2) (oi := { dst := some 19, op := .indexAddr 23 (.tmp 17) (.tmp 18), type := _, pos := _, after := _, guard := none }) (v := .pointer (some ⟨ba, oa + k * 3, none⟩)) rfl (by kernel_rfl) (by kernel_rfl) (by kernel_rfl) (fun _ _ _ h => h) (Or.inl ⟨by rfl, fun wh hSw => ?_⟩) hHeld ?_
          · (obtain ⟨⟨s0, s1, s2⟩, t0, t1, t2⟩ := hSw; go_simp)
          try simp only [Act.put, List.setIfInBounds_toArray, List.set_cons_zero, List.set_cons_succ]
          refine wpAnyH_take (i := 3) (oi := { dst := some 20, op := .load 30 (.tmp 19), type := _, pos := _, after := _, guard := none }) (v := ivV x) rfl (by kernel_rfl) (by kernel_rfl) (by kernel_rfl) (fun _ _ _ h => h) (Or.inl ⟨by rfl, fun wh hSw => ?_⟩) hHeld ?_
          · (obtain ⟨⟨s0, s1, s2⟩, t0, t1, t2⟩ := hSw; go_simp)
          try simp only [Act.put, List.setIfInBounds_toArray, List.set_cons_zero, List.set_cons_succ]
          refine wpAnyH_take (i := 4) (oi := { dst := some 21, op := .move (.tmp 1), type := _, pos := _, after := _, guard := none }) (v := .slice (some ⟨bb, ob, none⟩) m cb) rfl (by kernel_rfl) (by kernel_rfl) (by kernel_rfl) (fun _ _ _ h => h) (Or.inl ⟨by rfl, fun wh hSw => ?_⟩) hHeld ?_
          · (obtain ⟨⟨s0, s1, s2⟩, t0, t1, t2⟩ := hSw; go_simp)
          try simp only [Act.put, List.setIfInBounds_toArray, List.set_cons_zero, List.set_cons_succ]
          refine wpAnyH_take (i := 5) (oi := { dst := some 22, op := .move (.tmp 5), type := _, pos := _, after := _, guard := none }) (v := .int .i64 (k : Int)) rfl (by kernel_rfl) (by kernel_rfl) (by kernel_rfl) (fun _ _ _ h => h) (Or.inl ⟨by rfl, fun wh hSw => ?_⟩) hHeld ?_
          · (obtain ⟨⟨s0, s1, s2⟩, t0, t1, t2⟩ := hSw; go_simp)
          try simp only [Act.put, List.setIfInBounds_toArray, List.set_cons_zero, List.set_cons_succ]
          refine wpAnyH_take (i := 6) (oi := { dst := some 23, op := .indexAddr 23 (.tmp 21) (.tmp 22), type := _, pos := _, after := _, guard := none }) (v := .pointer (some ⟨bb, ob + k * 3, none⟩)) rfl (by kernel_rfl) (by kernel_rfl) (by kernel_rfl) (fun _ _ _ h => h) (Or.inl ⟨by rfl, fun wh hSw => ?_⟩) hHeld ?_
          · (obtain ⟨⟨s0, s1, s2⟩, t0, t1, t2⟩ := hSw; go_simp)
          try simp only [Act.put, List.setIfInBounds_toArray, List.set_cons_zero, List.set_cons_succ]
          refine wpAnyH_take (i := 7) (oi := { dst := some 24, op := .load 30 (.tmp 23), type := _, pos := _, after := _, guard := none }) (v := ivV y) rfl (by kernel_rfl) (by kernel_rfl) (by kernel_rfl) (fun _ _ _ h => h) (Or.inl ⟨by rfl, fun wh hSw => ?_⟩) hHeld ?_
          · (obtain ⟨⟨s0, s1, s2⟩, t0, t1, t2⟩ := hSw; go_simp)
          try simp only [Act.put, List.setIfInBounds_toArray, List.set_cons_zero, List.set_cons_succ]
          refine wpAnyH_ready (rs := [8]) (by kernel_rfl) (by simp) ?_
          refine AllReadyH.cons (o := { dst := some 25, op := .call { callee := .value (.func 48), args := #[.tmp 20, .tmp 24], argTypes := #[30, 30] }, type := _, pos := _, after := _, guard := none }) rfl (fun K hK => ?_) AllReadyH.nil
          go_simp
          refine HC1.out.mono ?_
          rintro e w1 ⟨rfl, hb1⟩
          have HB1 := Lib.hid ((HBW.out.drew).trans (hb1.mono HBW.out.size))
          clear hb1
          try go_simp
          refine hK.out _ _ ?_ (fun hHeld => ?_)
          · exact ⟨HFA.out.below HB1.out hba, HFB.out.below HB1.out hbb⟩
          clear hK K
          try simp only [Act.put, List.setIfInBounds_toArray, List.set_cons_zero, List.set_cons_succ]
          refine wpAnyH_take (i := 9) (oi := { dst := some 26, op := .unOp .not 4 (.tmp 25), type := _, pos := _, after := _, guard := none }) (v := .bool true) rfl (by kernel_rfl) (by kernel_rfl) (by kernel_rfl) (fun _ _ _ h => h) (Or.inl ⟨by rfl, fun wh hSw => ?_⟩) hHeld ?_
          · (obtain ⟨⟨s0, s1, s2⟩, t0, t1, t2⟩ := hSw; go_simp)
          try simp only [Act.put, List.setIfInBounds_toArray, List.set_cons_zero, List.set_cons_succ]
          refine wpAnyH_done (by kernel_rfl) ?_ _
          go_wp2
          go_ret
          exact ⟨by rw [HF.out]; rfl, HB1.out⟩
      · have ek : k = m := by omega
        subst ek
        have HF : Hid (r = true) := Lib.hid (by rw [HR.out]; exact decide_eq_true (eq_of_take (by rw [← HM.out, ← HN.out]) HM.out HTK.out))
        go_wp2
        go_ret
        exact ⟨by rw [HF.out]; rfl, HBW.out⟩
  · have hl' : ((m : Int) != (n : Int)) = true := by simp; omega
    have HF : Hid (r = false) := Lib.hid (by rw [HR.out]; exact decide_eq_false (fun hh => hl (by rw [HM.out, HN.out, hh])))
    go_enter Try.func29, Try.ntmps29
    go_wp2
    go_ret
    exact ⟨by rw [HF.out]; rfl, Below.refl _ _⟩
end Go.Proofs.Ytopnomklfkkjfaa
