/- What the proofs stand on, part 21. -/
import Derived.Test.YtachiggolgdocaaRows
import Derived.Test.YtachiggolgdocaaM1
import Derived.Test.YtachiggolgdocaaM2
import Derived.Test.YtachiggolgdocaaM4
set_option linter.unusedSimpArgs false
set_option linter.unusedVariables false
namespace Go.Proofs.Ytachiggolgdocaa
open Go.ChangeShapes Go.WideShapes Go.ChangeAt Go.RowKit
set_option linter.unusedVariables false
set_option maxRecDepth 100000 in
theorem eqInfo_any (w : World) (x y : IV) : Calls Try.prog 35 #[ivV x, ivV y] w (BRes (decide (x = y)) w) := by
  obtain ⟨xk, xg, xr⟩ := x
  obtain ⟨yk, yg, yr⟩ := y
  have HB : Hid (Below w.heap.size w ((w.alloc (.cells #[.int .i64 xk, .int .i64 xg, .int .i64 xr] 25)).alloc (.cells #[.int .i64 yk, .int .i64 yg, .int .i64 yr] 25))) := Lib.hid (((Below.refl _ _).alloc (Nat.le_refl _) _).alloc (by simp) _)
  obtain ⟨r, hr⟩ : ∃ r, r = decide ((⟨xk, xg, xr⟩ : IV) = ⟨yk, yg, yr⟩) := ⟨_, rfl⟩
  rw [← hr]
  by_cases h0 : xk = yk
  · by_cases h1 : xg = yg
    · by_cases h2 : xr = yr
      · have HR : Hid (r = true) := Lib.hid (by rw [hr]; exact decide_eq_true (iv_ext.2 ⟨h0, h1, h2⟩))
        have e0 : (xk != yk) = false := by simpa using h0
        have e1 : (xg != yg) = false := by simpa using h1
        have e2 : (xr != yr) = false := by simpa using h2
        clear h0 h1 h2 hr
        go_enter Try.func35, Try.ntmps35
        go_wp2
        go_ret
        exact ⟨by rw [HR.out]; rfl, HB.out⟩
      · have HR : Hid (r = false) := Lib.hid (by rw [hr]; exact decide_eq_false (fun hh => h2 (iv_ext.1 hh).2.2))
        have e0 : (xk != yk) = false := by simpa using h0
        have e1 : (xg != yg) = false := by simpa using h1
        have e2 : (xr != yr) = true := by simpa using h2
        clear h0 h1 h2 hr
        go_enter Try.func35, Try.ntmps35
        go_wp2
        go_ret
        exact ⟨by rw [HR.out]; rfl, HB.out⟩
    · have HR : Hid (r = false) := Lib.hid (by rw [hr]; exact decide_eq_false (fun hh => h1 (iv_ext.1 hh).2.1))
      have e0 : (xk != yk) = false := by simpa using h0
      have e1 : (xg != yg) = true := by simpa using h1
      clear h0 h1 hr
      go_enter Try.func35, Try.ntmps35
      go_wp2
      go_ret
      exact ⟨by rw [HR.out]; rfl, HB.out⟩
  · have HR : Hid (r = false) := Lib.hid (by rw [hr]; exact decide_eq_false (fun hh => h0 (iv_ext.1 hh).1))
    have e0 : (xk != yk) = true := by simpa using h0
    clear h0 hr
    go_enter Try.func35, Try.ntmps35
    go_wp2
    go_ret
    exact ⟨by rw [HR.out]; rfl, HB.out⟩
set_option maxRecDepth 100000 in
theorem eqInfoS_any (w : World) (v u : Value) (xs ys : List IV) (h : Is w v xs) (k : Is w u ys) : Calls Try.prog 31 #[v, u] w (BRes (decide (xs = ys)) w) := by
  obtain ⟨a, ca, rfl, ha1, ha2, ha3⟩ := h
  obtain ⟨b, cb, rfl, hb1, hb2, hb3⟩ := k
  unfold maxLen at ha2 hb2
  obtain ⟨r, hr⟩ : ∃ r, r = decide (xs = ys) := ⟨_, rfl⟩
  rw [← hr]
  have HR := Lib.hid hr
  have HA := Lib.hid ha3
  have HBs := Lib.hid hb3
  obtain ⟨m, hm⟩ : ∃ m, m = xs.length := ⟨_, rfl⟩
  obtain ⟨n, hn⟩ : ∃ n, n = ys.length := ⟨_, rfl⟩
  have HM := Lib.hid hm
  have HN := Lib.hid hn
  rw [← hm] at ha1 ⊢
  rw [← hn] at hb1 ⊢
  clear hm hn hr ha3 hb3
  by_cases hl : m = n
  · subst hl
    have hl' : ((m : Int) != (m : Int)) = false := by simp
    go_enter Try.func31, Try.ntmps31
    go_wp2
    go_loopw [5] (fun i wr => ∃ k : Nat, k ≤ m ∧ i = .int .i64 k ∧ Hid (Below w.heap.size w wr) ∧ Hid (xs.take k = ys.take k)) (fun i _ => m - (intOf i).toNat)
    case atStart => exact ⟨0, Nat.zero_le _, rfl, Lib.hid (Below.refl _ _), Lib.hid rfl⟩
    case round =>
      obtain ⟨k, hk, rfl, HBW, HTK⟩ := hrel
      by_cases hlt : k < m
      · obtain ⟨ba, oa, rfl, hfa⟩ := HA.out k (by have := HM.out; omega)
        obtain ⟨bb, ob, rfl, hfb⟩ := HBs.out k (by have := HN.out; omega)
        have hba := block_lt_of_cell hfa.c0
        have hbb := block_lt_of_cell hfb.c0
        obtain ⟨x, hx⟩ : ∃ x, x = xs.getD k iz := ⟨_, rfl⟩
        obtain ⟨y, hy⟩ : ∃ y, y = ys.getD k iz := ⟨_, rfl⟩
        rw [← hx] at hfa
        rw [← hy] at hfb
        have HFA := Lib.hid hfa
        have HFB := Lib.hid hfb
        have HX := Lib.hid hx
        have HY := Lib.hid hy
        have FA : Hid (Tri wr.drew ba (oa + k * 3) x) := Lib.hid (hfa.below HBW.out.drew hba)
        have FB : Hid (Tri wr.drew bb (ob + k * 3) y) := Lib.hid (hfb.below HBW.out.drew hbb)
        have HC1 := Lib.hid (eqInfo_any wr.drew x y)
        have hlt' : (k : Int) < (m : Int) := by omega
        clear hx hy hfa hfb
        by_cases he : x = y
        · rw [decide_eq_true he] at HC1
          have HT2 : Hid (xs.take (k + 1) = ys.take (k + 1)) := Lib.hid (take_eq_succ (d := iz) (by rw [← HM.out, ← HN.out]) (by have := HM.out; omega) HTK.out (by rw [← HX.out, ← HY.out]; exact he))
          clear he
          go_wp2_with fail
          refine wp_region_held_drew (S := fun w' => Tri w' ba (oa + k * 3) x ∧ Tri w' bb (ob + k * 3) y) (by kernel_rfl) ⟨FA.out, FB.out⟩ (fun hHeld => ?_)
          refine wpAnyH_take (i := 0) (oi := { dst := some 17, op := .move (.tmp 0), type := _, pos := _, after := _, guard := none }) (v := .slice (some ⟨ba, oa, none⟩) m ca) rfl (by kernel_rfl) (by kernel_rfl) (by kernel_rfl) (fun _ _ _ h => h) (Or.inl ⟨by rfl, fun wh hSw => ?_⟩) hHeld ?_
          · (obtain ⟨⟨s0, s1, s2⟩, t0, t1, t2⟩ := hSw; go_simp)
          try simp only [Act.put, List.setIfInBounds_toArray, List.set_cons_zero, List.set_cons_succ]
          refine wpAnyH_take (i := 1) (oi := { dst := some 18, op := .move (.tmp 5), type := _, pos := _, after := _, guard := none }) (v := .int .i64 (k : Int)) rfl (by kernel_rfl) (by kernel_rfl) (by kernel_rfl) (fun _ _ _ h => h) (Or.inl ⟨by rfl, fun wh hSw => ?_⟩) hHeld ?_
          · (obtain ⟨⟨s0, s1, s2⟩, t0, t1, t2⟩ := hSw; go_simp)
          try simp only [Act.put, List.setIfInBounds_toArray, List.set_cons_zero, List.set_cons_succ]
          refine wpAnyH_take (i := 2) (oi := { dst := some 19, op := .indexAddr 23 (.tmp 17) (.tmp 18), type := _, pos := _, after := _, guard := none }) (v := .pointer (some ⟨ba, oa + k * 3, none⟩)) rfl (by kernel_rfl) (by kernel_rfl) (by kernel_rfl) (fun _ _ _ h => h) (Or.inl ⟨by rfl, fun wh hSw => ?_⟩) hHeld ?_
          · (obtain ⟨⟨s0, s1, s2⟩, t0, t1, t2⟩ := hSw; go_simp)
          try simp only [Act.put, List.setIfInBounds_toArray, List.set_cons_zero, List.set_cons_succ]
          refine wpAnyH_take (i := 3) (oi := { dst := some 20, op := .load 25 (.tmp 19), type := _, pos := _, after := _, guard := none }) (v := ivV x) rfl (by kernel_rfl) (by kernel_rfl) (by kernel_rfl) (fun _ _ _ h => h) (Or.inl ⟨by rfl, fun wh hSw => ?_⟩) hHeld ?_
          · (obtain ⟨⟨s0, s1, s2⟩, t0, t1, t2⟩ := hSw; go_simp)
          try simp only [Act.put, List.setIfInBounds_toArray, List.set_cons_zero, List.set_cons_succ]
          refine wpAnyH_take (i := 4) (oi := { dst := some 21, op := .move (.tmp 1), type := _, pos := _, after := _, guard := none }) (v := .slice (some ⟨bb, ob, none⟩) m cb) rfl (by kernel_rfl) (by kernel_rfl) (by kernel_rfl) (fun _ _ _ h => h) (Or.inl ⟨by rfl, fun wh hSw => ?_⟩) hHeld ?_
          · (obtain ⟨⟨s0, s1, s2⟩, t0, t1, t2⟩ := hSw; go_simp)
          try simp only [Act.put, List.setIfInBounds_toArray, List.set_cons_zero, List.set_cons_succ]
          refine wpAnyH_take (i := 5) (oi := { dst := some 22, op := .move (.tmp 5), type := _, pos := _, after := _, guard := none }) (v := .int .i64 (k : Int)) rfl (by kernel_rfl) (by kernel_rfl) (by kernel_rfl) (fun _ _ _ h => h) (Or.inl ⟨by rfl, fun wh hSw => ?_⟩) hHeld ?_
          · (obtain ⟨⟨s0, s1, s2⟩, t0, t1, t2⟩ := hSw; go_simp)
          try simp only [Act.put, List.setIfInBounds_toArray, List.set_cons_zero, List.set_cons_succ]
          refine wpAnyH_take (i := 6) (oi := { dst := some 23, op := .indexAddr 23 (.tmp 21) (.tmp 22), type := _, pos := _, after := _, guard := none }) (v := .pointer (some ⟨bb, ob + k * 3, none⟩)) rfl (by kernel_rfl) (by kernel_rfl) (by kernel_rfl) (fun _ _ _ h => h) (Or.inl ⟨by rfl, fun wh hSw => ?_⟩) hHeld ?_
          · (obtain ⟨⟨s0, s1, s2⟩, t0, t1, t2⟩ := hSw; go_simp)
          try simp only [Act.put, List.setIfInBounds_toArray, List.set_cons_zero, List.set_cons_succ]
          refine wpAnyH_take (i := 7) (oi := { dst := some 24, op := .load 25 (.tmp 23), type := _, pos := _, after := _, guard := none }) (v := ivV y) rfl (by kernel_rfl) (by kernel_rfl) (by kernel_rfl) (fun _ _ _ h => h) (Or.inl ⟨by rfl, fun wh hSw => ?_⟩) hHeld ?_
          · (obtain ⟨⟨s0, s1, s2⟩, t0, t1, t2⟩ := hSw; go_simp)
          try simp only [Act.put, List.setIfInBounds_toArray, List.set_cons_zero, List.set_cons_succ]
          refine wpAnyH_ready (rs := [8]) (by kernel_rfl) (by simp) ?_
          refine AllReadyH.cons (o := { dst := some 25, op := .call { callee := .value (.func 35), args := #[.tmp 20, .tmp 24], argTypes := #[25, 25] }, type := _, pos := _, after := _, guard := none }) rfl (fun K hK => ?_) AllReadyH.nil
          go_simp
          refine HC1.out.mono ?_
          rintro e w1 ⟨rfl, hb1⟩
          have HB1 := Lib.hid ((HBW.out.drew).trans (hb1.mono HBW.out.size))
          clear hb1
          try go_simp
          refine hK.out _ _ ?_ (fun hHeld => ?_)
          · exact ⟨HFA.out.below HB1.out hba, HFB.out.below HB1.out hbb⟩
          clear hK K
          try simp only [Act.put, List.setIfInBounds_toArray, List.set_cons_zero, List.set_cons_succ]
          refine wpAnyH_take (i := 9) (oi := { dst := some 26, op := .unOp .not 4 (.tmp 25), type := _, pos := _, after := _, guard := none }) (v := .bool false) rfl (by kernel_rfl) (by kernel_rfl) (by kernel_rfl) (fun _ _ _ h => h) (Or.inl ⟨by rfl, fun wh hSw => ?_⟩) hHeld ?_
          · (obtain ⟨⟨s0, s1, s2⟩, t0, t1, t2⟩ := hSw; go_simp)
          try simp only [Act.put, List.setIfInBounds_toArray, List.set_cons_zero, List.set_cons_succ]
          refine wpAnyH_done (by kernel_rfl) ?_ _
          go_wp2
          go_roundw
          case rel => exact ⟨k + 1, by omega, by go_num, HB1, HT2⟩
          case measure => simp [intOf]; omega
        · rw [decide_eq_false he] at HC1
          have HF : Hid (r = false) := Lib.hid (by rw [HR.out]; exact decide_eq_false (fun hh => he (by rw [HX.out, HY.out, hh])))
          clear he
          go_wp2_with fail
          refine wp_region_held_drew (S := fun w' => Tri w' ba (oa + k * 3) x ∧ Tri w' bb (ob + k * 3) y) (by kernel_rfl) ⟨FA.out, FB.out⟩ (fun hHeld => ?_)
          refine wpAnyH_take (i := 0) (oi := { dst := some 17, op := .move (.tmp 0), type := _, pos := _, after := _, guard := none }) (v := .slice (some ⟨ba, oa, none⟩) m ca) rfl (by kernel_rfl) (by kernel_rfl) (by kernel_rfl) (fun _ _ _ h => h) (Or.inl ⟨by rfl, fun wh hSw => ?_⟩) hHeld ?_
          · (obtain ⟨⟨s0, s1, s2⟩, t0, t1, t2⟩ := hSw; go_simp)
          try simp only [Act.put, List.setIfInBounds_toArray, List.set_cons_zero, List.set_cons_succ]
          refine wpAnyH_take (i := 1) (oi := { dst := some 18, op := .move (.tmp 5), type := _, pos := _, after := _, guard := none }) (v := .int .i64 (k : Int)) rfl (by kernel_rfl) (by kernel_rfl) (by kernel_rfl) (fun _ _ _ h => h) (Or.inl ⟨by rfl, fun wh hSw => ?_⟩) hHeld ?_
          · (obtain ⟨⟨s0, s1, s2⟩, t0, t1, t2⟩ := hSw; go_simp)
          try simp only [Act.put, List.setIfInBounds_toArray, List.set_cons_zero, List.set_cons_succ]
          refine wpAnyH_take (i := 2) (oi := { dst := some 19, op := .indexAddr 23 (.tmp 17) (.tmp 18), type := _, pos := _, after := _, guard := none }) (v := .pointer (some ⟨ba, oa + k * 3, none⟩)) rfl (by kernel_rfl) (by kernel_rfl) (by kernel_rfl) (fun _ _ _ h => h) (Or.inl ⟨by rfl, fun wh hSw => ?_⟩) hHeld ?_
          · (obtain ⟨⟨s0, s1, s2⟩, t0, t1, t2⟩ := hSw; go_simp)
          try simp only [Act.put, List.setIfInBounds_toArray, List.set_cons_zero, List.set_cons_succ]
          refine wpAnyH_take (i := 3) (oi := { dst := some 20, op := .load 25 (.tmp 19), type := _, pos := _, after := _, guard := none }) (v := ivV x) rfl (by kernel_rfl) (by kernel_rfl) (by kernel_rfl) (fun _ _ _ h => h) (Or.inl ⟨by rfl, fun wh hSw => ?_⟩) hHeld ?_
          · (obtain ⟨⟨s0, s1, s2⟩, t0, t1, t2⟩ := hSw; go_simp)
          try simp only [Act.put, List.setIfInBounds_toArray, List.set_cons_zero, List.set_cons_succ]
          refine wpAnyH_take (i := 4) (oi := { dst := some 21, op := .move (.tmp 1), type := _, pos := _, after := _, guard := none }) (v := .slice (some ⟨bb, ob, none⟩) m cb) rfl (by kernel_rfl) (by kernel_rfl) (by kernel_rfl) (fun _ _ _ h => h) (Or.inl ⟨by rfl, fun wh hSw => ?_⟩) hHeld ?_
          · (obtain ⟨⟨s0, s1, s2⟩, t0, t1, t2⟩ := hSw; go_simp)
          try simp only [Act.put, List.setIfInBounds_toArray, List.set_cons_zero, List.set_cons_succ]
          refine wpAnyH_take (i := 5) (oi := { dst := some 22, op := .move (.tmp 5), type := _, pos := _, after := _, guard := none }) (v := .int .i64 (k : Int)) rfl (by kernel_rfl) (by kernel_rfl) (by kernel_rfl) (fun _ _ _ h => h) (Or.inl ⟨by rfl, fun wh hSw => ?_⟩) hHeld ?_
          · (obtain ⟨⟨s0, s1, s2⟩, t0, t1, t2⟩ := hSw; go_simp)
          try simp only [Act.put, List.setIfInBounds_toArray, List.set_cons_zero, List.set_cons_succ]
          refine wpAnyH_take (i := 6) (oi := { dst := some 23, op := .indexAddr 23 (.tmp 21) (.tmp 22), type := _, pos := _, after := _, guard := none }) (v := .pointer (some ⟨bb, ob + k * 3, none⟩)) rfl (by kernel_rfl) (by kernel_rfl) (by kernel_rfl) (fun _ _ _ h => h) (Or.inl ⟨by rfl, fun wh hSw => ?_⟩) hHeld ?_
          · (obtain ⟨⟨s0, s1, s2⟩, t0, t1, t2⟩ := hSw; go_simp)
          try simp only [Act.put, List.setIfInBounds_toArray, List.set_cons_zero, List.set_cons_succ]
          refine wpAnyH_take (i := 7) (oi := { dst := some 24, op := .load 25 (.tmp 23), type := _, pos := _, after := _, guard := none }) (v := ivV y) rfl (by kernel_rfl) (by kernel_rfl) (by kernel_rfl) (fun _ _ _ h => h) (Or.inl ⟨by rfl, fun wh hSw => ?_⟩) hHeld ?_
          · (obtain ⟨⟨s0, s1, s2⟩, t0, t1, t2⟩ := hSw; go_simp)
          try simp only [Act.put, List.setIfInBounds_toArray, List.set_cons_zero, List.set_cons_succ]
          refine wpAnyH_ready (rs := [8]) (by kernel_rfl) (by simp) ?_
          refine AllReadyH.cons (o := { dst := some 25, op := .call { callee := .value (.func 35), args := #[.tmp 20, .tmp 24], argTypes := #[25, 25] }, type := _, pos := _, after := _, guard := none }) rfl (fun K hK => ?_) AllReadyH.nil
          go_simp
          refine HC1.out.mono ?_
          rintro e w1 ⟨rfl, hb1⟩
          have HB1 := Lib.hid ((HBW.out.drew).trans (hb1.mono HBW.out.size))
          clear hb1
          try go_simp
          refine hK.out _ _ ?_ (fun hHeld => ?_)
          · exact ⟨HFA.out.below HB1.out hba, HFB.out.below HB1.out hbb⟩
          clear hK K
          try simp only [Act.put, List.setIfInBounds_toArray, List.set_cons_zero, List.set_cons_succ]
          refine wpAnyH_take (i := 9) (oi := { dst := some 26, op := .unOp .not 4 (.tmp 25), type := _, pos := _, after := _, guard := none }) (v := .bool true) rfl (by kernel_rfl) (by kernel_rfl) (by kernel_rfl) (fun _ _ _ h => h) (Or.inl ⟨by rfl, fun wh hSw => ?_⟩) hHeld ?_
          · (obtain ⟨⟨s0, s1, s2⟩, t0, t1, t2⟩ := hSw; go_simp)
          try simp only [Act.put, List.setIfInBounds_toArray, List.set_cons_zero, List.set_cons_succ]
          refine wpAnyH_done (by kernel_rfl) ?_ _
          go_wp2
          go_ret
          exact ⟨by rw [HF.out]; rfl, HB1.out⟩
      · have ek : k = m := by omega
        subst ek
        have HF : Hid (r = true) := Lib.hid (by rw [HR.out]; exact decide_eq_true (eq_of_take (by rw [← HM.out, ← HN.out]) HM.out HTK.out))
        go_wp2
        go_ret
        exact ⟨by rw [HF.out]; rfl, HBW.out⟩
  · have hl' : ((m : Int) != (n : Int)) = true := by simp; omega
    have HF : Hid (r = false) := Lib.hid (by rw [HR.out]; exact decide_eq_false (fun hh => hl (by rw [HM.out, HN.out, hh])))
    go_enter Try.func31, Try.ntmps31
    go_wp2
    go_ret
    exact ⟨by rw [HF.out]; rfl, Below.refl _ _⟩
end Go.Proofs.Ytachiggolgdocaa
namespace Go.Proofs.Ytachiggolgdocaa
open Go.ChangeShapes Go.WideShapes Go.ChangeAt Go.RowKit
set_option linter.unusedVariables false
theorem szMailS_any (w : World) (v : Value) (xs : List IV) (left : Int) (h : Is w v xs) (h0 : 0 ≤ left) (h1 : left ≤ 1048576) :
    Calls Try.prog 29 #[v, .int .i64 left] w fun e w' => ∃ r : Int, (r < 0 ∨ (0 ≤ r ∧ r + xs.length = left)) ∧ e = .returned (.int .i64 r) ∧ w = w' := by
  obtain ⟨a, ca, rfl, hla, hma, hxa⟩ := h
  unfold maxLen at hma
  obtain ⟨n, hN⟩ : ∃ n, n = xs.length := ⟨_, rfl⟩
  rw [← hN] at hla ⊢
  clear hN hxa
  by_cases hneg : left < (n : Int)
  · have hneg' : left - (n : Int) < 0 := by omega
    go_enter Try.func29, Try.ntmps29
    go_wp2
    go_ret
    exact ⟨-1, .inl (by omega), rfl, rfl⟩
  · have hpos : ¬ left - (n : Int) < 0 := by omega
    go_enter Try.func29, Try.ntmps29
    go_wp2
    go_ret
    exact ⟨left - n, .inr ⟨by omega, by omega⟩, rfl, rfl⟩
end Go.Proofs.Ytachiggolgdocaa
namespace Go.Proofs.Ytachiggolgdocaa
open Go.ChangeShapes Go.WideShapes Go.ChangeAt Go.RowKit
set_option linter.unusedVariables false
def ToIs (xs : List IV) (w : World) (e : Ending) (w' : World) : Prop :=
  ∃ v, e = .returned v ∧ IsW w' w.heap.size w'.heap.size v xs ∧ Below w.heap.size w w' ∧ v = .slice (some ⟨w.heap.size, 0, none⟩) xs.length xs.length
set_option maxRecDepth 100000 in
theorem toInfo_any (w : World) (x : IV) : Calls Try.prog 32 #[ivV x] w fun e w' => e = .returned (ivV x) ∧ Below w.heap.size w w' := by
  obtain ⟨xk, xg, xr⟩ := x
  go_enter Try.func32, Try.ntmps32
  go_wp2
  refine bodyPost_ret (results_cell_row rfl _ _ (w.heap.size + 1) 25 #[.int .i64 xk, .int .i64 xg, .int .i64 xr] (0, 0) _ rfl (by
    have h := heap_alloc_new (w.alloc (.cells #[.int .i64 xk, .int .i64 xg, .int .i64 xr] 48)) (.cells #[.int .i64 xk, .int .i64 xg, .int .i64 xr] 25)
    rw [World.size_alloc] at h
    exact (Below.heap_alloc _ _ _ (by simp)).trans h) Try.underlying25 rfl (by kernel_rfl)) rfl ?_
  exact ⟨rfl, (((Below.refl _ _).alloc (Nat.le_refl _) _).alloc (by simp) _).alloc (by simp; omega) _⟩
def part3 (xs : List IV) (k i : Nat) : IV := if i < k then xs.getD i iz else iz
set_option maxRecDepth 100000 in
set_option maxHeartbeats 1000000 in
theorem toInfoS_any (w : World) (v : Value) (xs : List IV) (h : Is w v xs) (hn : xs.length ≤ 1048576) :
    Calls Try.prog 30 #[v] w (ToIs xs w) := by
  obtain ⟨i0, hi, hz0, hz1, hz2⟩ := info_parts ivInfo
  have HI := Lib.hid hi
  have HZ0 := Lib.hid hz0
  have HZ1 := Lib.hid hz1
  have HZ2 := Lib.hid hz2
  clear hi hz0 hz1 hz2
  obtain ⟨a, ca, rfl, hla, hma, hxa⟩ := h
  unfold maxLen at hma
  obtain ⟨n, hN⟩ : ∃ n, n = xs.length := ⟨_, rfl⟩
  have HXA := Lib.hid hxa
  rw [← hN] at hla hn ⊢
  have HN := Lib.hid hN
  clear hN hxa
  go_enter Try.func30, Try.ntmps30
  go_wp2_with (at_make; refine wpList_make_full _ rfl (.tmp 6) (.tmp 6) 23 rfl w.heap.size 25 i0 (.agg #[.int .i64 0, .int .i64 0, .int .i64 0]) 3 Try.underlying23 HI.out HZ0.out HZ1.out .i64 .i64 _ _ n rfl rfl rfl rfl (by rw [HZ2.out]; omega) (by unfold maxLen; omega) (Nat.le_refl _) ?_; intro w1 hown hg)
  have HST : Hid (∀ i, i < n → TriW w1 w.heap.size (0 + i * 3) (part3 xs 0 i)) := Lib.hid (fun i hi => by
    have hc : ∀ j v, j < 3 → (#[Value.int .i64 0, .int .i64 0, .int .i64 0] : Array Value)[j]? = some v → w1.cell? ⟨w.heap.size, 0 + i * 3 + j, none⟩ = some v := fun j v hj hv => by
      have := hown.cells (g := w.heap.size) rfl (i * 3 + j) v (by
        rw [Array.getElem?_toList]
        unfold madeCells
        rw [Array.getElem?_map, Array.getElem?_range, if_pos (by omega)]
        simp only [Option.map_some, Value.cells]
        rw [← hv]
        have e : (i * 3 + j) % 3 = j := by omega
        simp only [List.size_toArray, List.length_cons, List.length_nil, e]
        obtain rfl | rfl | rfl : j = 0 ∨ j = 1 ∨ j = 2 := by omega
        all_goals simp)
      rw [add0] at this
      rw [Nat.zero_add]
      exact this
    exact ⟨⟨hc 0 _ (by omega) rfl, hc 1 _ (by omega) rfl, hc 2 _ (by omega) rfl⟩, fun j _ => hown.frozenAt _⟩)
  have HB1 : Hid (Below w.heap.size w w1) := Lib.hid ((Below.refl _ _).grown hg (Nat.le_refl _) (fun k e => by cases e))
  have HS1 : Hid (w.heap.size < w1.heap.size) := Lib.hid (hown.lt _ rfl).2
  clear hown hg
  go_loopw [4] (fun i wr => ∃ k : Nat, k ≤ n ∧ i = .int .i64 k ∧ Hid (Below w.heap.size w wr) ∧ Hid (w.heap.size < wr.heap.size) ∧ Hid (∀ i, i < n → TriW wr w.heap.size (0 + i * 3) (part3 xs k i))) (fun i _ => n - (intOf i).toNat)
  case atStart => exact ⟨0, Nat.zero_le _, rfl, HB1, HS1, HST⟩
  case round =>
    obtain ⟨k, hk, rfl, HBW, HSW, HFW⟩ := hrel
    by_cases hlt : k < n
    · obtain ⟨b, o, rfl, hf0⟩ := HXA.out k (by have := HN.out; omega)
      obtain ⟨x, hx⟩ : ∃ x, x = xs.getD k iz := ⟨_, rfl⟩
      rw [← hx] at hf0
      have hbl := block_lt_of_cell hf0.c0
      obtain ⟨g0, g1, g2⟩ := hf0.below HBW.out hbl
      have HX := Lib.hid hx
      have HC := Lib.hid (toInfo_any wr x)
      have hlt' : (k : Int) < (n : Int) := by omega
      clear hx hf0
      go_wp2_with fail
      refine HC.out.mono ?_
      rintro e w2 ⟨rfl, hb2⟩
      have HB2 := Lib.hid (HBW.out.trans (hb2.mono HBW.out.size))
      have HS2 : Hid (w.heap.size < w2.heap.size) := Lib.hid (Nat.lt_of_lt_of_le HSW.out hb2.size)
      have HF2 : Hid (∀ i, i < n → TriW w2 w.heap.size (0 + i * 3) (part3 xs k i)) := Lib.hid (fun i hi => (HFW.out i hi).block (hb2.block _ HSW.out))
      have HT : Hid (w2.there w.heap.size (k * 3) 3) := Lib.hid (by
        have h := HF2.out k hlt
        rw [Nat.zero_add] at h
        exact h.there)
      clear hb2
      go_wp2_with ((with_reducible refine store_is 25 (.tmp 21) (.tmp 20) ?_); refine store_arr 25 (.tmp 21) (.tmp 20) w.heap.size (k * 3) #[.int .i64 x.k, .int .i64 x.g, .int .i64 x.r] rfl rfl HT.out (by kernel_rfl) (by simp [Value.oneCell']) ?_)
      go_roundw
      case rel =>
        refine ⟨k + 1, by omega, by go_num, Lib.hid (Below.setCells HB2.out _ (Nat.le_refl _) _ _ _ HB2.out), Lib.hid (by rw [size_setCells]; exact HS2.out), Lib.hid (fun i hi => ?_)⟩
        by_cases hik : i = k
        · subst hik
          have e : part3 xs (i + 1) i = x := by unfold part3; rw [if_pos (by omega), HX.out]
          rw [e, Nat.zero_add]
          exact TriW.stored HT.out
        · have e : part3 xs (k + 1) i = part3 xs k i := by
            unfold part3
            by_cases h : i < k
            · rw [if_pos h, if_pos (by omega)]
            · rw [if_neg h, if_neg (by omega)]
          rw [e]
          exact (HF2.out i hi).apart (.inr (by show 0 + i * 3 + 3 ≤ k * 3 ∨ k * 3 + 3 ≤ 0 + i * 3; omega))
      case measure => simp [intOf]; omega
    · have ek : k = n := by omega
      subst ek
      go_wp2
      go_ret
      refine ⟨_, rfl, ⟨some ⟨w.heap.size, 0, none⟩, k, by rw [← HN.out]; rfl, by rw [← HN.out]; exact Nat.le_refl _, by unfold maxLen; omega, fun i hi => ⟨w.heap.size, 0, rfl, Nat.le_refl _, HSW.out, ?_⟩⟩, HBW.out, congrArg (fun q => Value.slice (some ⟨w.heap.size, 0, none⟩) q q) HN.out⟩
      have h := HFW.out i (by have := HN.out; omega)
      have e : part3 xs k i = xs.getD i iz := by unfold part3; rw [if_pos (by have := HN.out; omega)]
      rwa [e] at h
end Go.Proofs.Ytachiggolgdocaa
namespace Go.Proofs.Ytachiggolgdocaa
open Go.ChangeShapes Go.WideShapes Go.ChangeAt Go.RowKit
set_option linter.unusedVariables false
theorem eqI_same (w : World) (va vb : Value) (xs : List IV) (ha : Is w va xs) (hb : Is w vb xs) :
    Calls Try.prog 31 #[va, vb] w fun e w' => e = .returned (.bool true) ∧ Chg 0 0 w w' := by
  refine (eqInfoS_any w va vb xs xs ha hb).mono ?_
  rintro e w' ⟨rfl, hb⟩
  rw [decide_eq_true (rfl : xs = xs)]
  exact ⟨rfl, Chg.of_below hb⟩
theorem nilOk_of {v : Value} {a : Addr} {n c : Nat} (h : v = .slice (some a) n c) : NilOkI v := by subst h; exact nilOkI_some
end Go.Proofs.Ytachiggolgdocaa
namespace Go.Proofs.Ytachiggolgdocaa
open Go.ChangeShapes Go.WideShapes Go.ChangeAt Go.RowKit
set_option linter.unusedVariables false
theorem is_of_trod {H : Type} {enc : TypeId × Value → H} {w : World} {base : Nat} {held : Bool} {fuel : Nat} {a : Option Addr} {len cap : Nat} {x : DataW H × List MemPlace}
    (h : DataW.trod enc Try.prog w base (fun _ => true) held fuel 44 (Value.slice a len cap).cells.toList = some x) : ∃ xs, Is w (.slice a len cap) xs := by
  rcases Go.Deep.open_slice Try.underlying44 h with ⟨hcs, _⟩ | ⟨a', len', cap', m, n, D, Pl, hcs, _, hl, hm, hmm, _, hrow⟩
  · simp [Value.cells] at hcs
    obtain ⟨rfl, rfl, rfl⟩ := hcs
    exact ⟨[], none, 0, rfl, Nat.le_refl _, Nat.zero_le _, fun i hi => by simp at hi⟩
  · simp [Value.cells] at hcs
    obtain ⟨rfl, rfl, rfl⟩ := hcs
    have hmc : m = cap := by simpa using hmm
    have hce : Try.prog.cellsOf 48 = 3 := by kernel_rfl
    have hci : Try.prog.cellsOf 3 = 1 := by kernel_rfl
    have each : ∀ i, i < len → ∃ y : IV, w.cell? (a'.add (i * 3)) = some (.int .i64 y.k) ∧ w.cell? (a'.add (i * 3 + 1)) = some (.int .i64 y.g) ∧ w.cell? (a'.add (i * 3 + 2)) = some (.int .i64 y.r) := by
      intro i hi
      obtain ⟨cs', h1, h2⟩ := hrow i (by omega)
      rw [hce] at h1
      obtain ⟨_, hlen, hcell⟩ := World.cells?_some h1
      obtain ⟨y0, y1, y2, k, _, _, g0, g1, g2⟩ := Go.Deep.trod_struct3 Try.underlying48 h2
      match cs', hlen with
      | [v0, v1, v2], _ =>
        obtain ⟨n0, e0, _⟩ := DataW.trod_int Try.underlying3 g0
        obtain ⟨n1, e1, _⟩ := DataW.trod_int Try.underlying3 g1
        obtain ⟨n2, e2, _⟩ := DataW.trod_int Try.underlying3 g2
        rw [hci] at e0 e1 e2
        have q0 := hcell 0 (by omega)
        have q1 := hcell 1 (by omega)
        have q2 := hcell 2 (by omega)
        rw [Go.Deep.add_add] at q0 q1 q2
        injection e0 with e0
        injection e1 with e1
        injection e2 with e2
        subst e0 e1 e2
        exact ⟨⟨n0, n1, n2⟩, q0, q1, q2⟩
    obtain ⟨q, hq⟩ := Go.Deep.choose_lt each
    by_cases h0 : len = 0
    · subst h0
      exact ⟨[], some a', cap, rfl, by simp, hm, fun i hi => by simp at hi⟩
    · have hs : a'.spot = none := by
        have := (hq 0 (by omega)).1
        rw [Nat.zero_mul, show a'.add 0 = a' from rfl] at this
        exact World.cell?_spot this
      obtain ⟨b, o, s⟩ := a'
      simp only at hs
      subst hs
      refine ⟨(List.range len).map q, some ⟨b, o, none⟩, cap, by simp, by simpa using hl, hm, fun i hi => ⟨b, o, rfl, ?_⟩⟩
      have hi' : i < len := by simpa using hi
      have hg : ((List.range len).map q).getD i iz = q i := by rw [getD_lt hi]; simp
      obtain ⟨r0, r1, r2⟩ := hq i hi'
      rw [Addr.add_mid] at r0 r1 r2
      rw [hg]
      exact ⟨r0, r1, r2⟩
end Go.Proofs.Ytachiggolgdocaa
