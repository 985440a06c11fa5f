/- What the proofs stand on, part 3: IEq StrTo StrSz StrMk RSpec RApp. -/
import Derived.Test.YticnfekjbknomaaMg2
import Derived.Deep.RegionHeld3
import Derived.Laws.BytesString
import Derived.Laws.IdiomStrings
import Derived.Laws.DeepStrings4
import Derived.Laws.Cover1
import Derived.OwnWalk
import Derived.Maps.AppendAt
import Derived.Laws.AppendOwnNone
/- How the laws compare what is known of frames. -/
namespace Go.Proofs.Yticnfekjbknomaa
open Go.ChangeShapes Go.WideShapes Go.ChangeAt Go.RowKit
set_option linter.unusedVariables false

/-- the call answers a bool; nothing that was there changes -/
def BRes (b : Bool) (w : World) (e : Ending) (w' : World) : Prop := e = .returned (.bool b) ∧ Below w.heap.size w w'
set_option maxRecDepth 100000 in
theorem eqInfo_any (w : World) (x y : IV) : Calls Try.prog 98 #[ivV x, ivV y] w (BRes (decide (x = y)) w) := by
  obtain ⟨xk, xg, xr⟩ := x
  obtain ⟨yk, yg, yr⟩ := y
  have HB : Hid (Below w.heap.size w ((w.alloc (.cells #[.int .i64 xk, .string ⟨xg.toArray⟩, .int .i64 xr] 36)).alloc (.cells #[.int .i64 yk, .string ⟨yg.toArray⟩, .int .i64 yr] 36))) := Lib.hid (((Below.refl _ _).alloc (Nat.le_refl _) _).alloc (by simp) _)
  obtain ⟨r, hr⟩ : ∃ r, r = decide ((⟨xk, xg, xr⟩ : IV) = ⟨yk, yg, yr⟩) := ⟨_, rfl⟩
  rw [← hr]
  by_cases h0 : xk = yk
  · by_cases h1 : xg = yg
    · by_cases h2 : xr = yr
      · have HR : Hid (r = true) := Lib.hid (by rw [hr]; exact decide_eq_true (iv_ext.2 ⟨h0, h1, h2⟩))
        have e0 : (xk != yk) = false := by simpa using h0
        have e1 : (xg == yg) = true := by simpa using h1
        have e2 : (xr != yr) = false := by simpa using h2
        clear h0 h1 h2 hr
        go_enter Try.func98, Try.ntmps98
        go_wp2
        go_ret
        exact ⟨by rw [HR.out]; rfl, HB.out⟩
      · have HR : Hid (r = false) := Lib.hid (by rw [hr]; exact decide_eq_false (fun hh => h2 (iv_ext.1 hh).2.2))
        have e0 : (xk != yk) = false := by simpa using h0
        have e1 : (xg == yg) = true := by simpa using h1
        have e2 : (xr != yr) = true := by simpa using h2
        clear h0 h1 h2 hr
        go_enter Try.func98, Try.ntmps98
        go_wp2
        go_ret
        exact ⟨by rw [HR.out]; rfl, HB.out⟩
    · have HR : Hid (r = false) := Lib.hid (by rw [hr]; exact decide_eq_false (fun hh => h1 (iv_ext.1 hh).2.1))
      have e0 : (xk != yk) = false := by simpa using h0
      have e1 : (xg == yg) = false := by simpa using h1
      clear h0 h1 hr
      go_enter Try.func98, Try.ntmps98
      go_wp2
      go_ret
      exact ⟨by rw [HR.out]; rfl, HB.out⟩
  · have HR : Hid (r = false) := Lib.hid (by rw [hr]; exact decide_eq_false (fun hh => h0 (iv_ext.1 hh).1))
    have e0 : (xk != yk) = true := by simpa using h0
    clear h0 hr
    go_enter Try.func98, Try.ntmps98
    go_wp2
    go_ret
    exact ⟨by rw [HR.out]; rfl, HB.out⟩
set_option maxRecDepth 100000 in
theorem eqInfoS_any (w : World) (v u : Value) (xs ys : List IV) (h : Is w v xs) (k : Is w u ys) : Calls Try.prog 53 #[v, u] w (BRes (decide (xs = ys)) w) := by
  obtain ⟨a, ca, rfl, ha1, ha2, ha3⟩ := h
  obtain ⟨b, cb, rfl, hb1, hb2, hb3⟩ := k
  unfold maxLen at ha2 hb2
  obtain ⟨r, hr⟩ : ∃ r, r = decide (xs = ys) := ⟨_, rfl⟩
  rw [← hr]
  have HR := Lib.hid hr
  have HA := Lib.hid ha3
  have HBs := Lib.hid hb3
  obtain ⟨m, hm⟩ : ∃ m, m = xs.length := ⟨_, rfl⟩
  obtain ⟨n, hn⟩ : ∃ n, n = ys.length := ⟨_, rfl⟩
  have HM := Lib.hid hm
  have HN := Lib.hid hn
  rw [← hm] at ha1 ⊢
  rw [← hn] at hb1 ⊢
  clear hm hn hr ha3 hb3
  by_cases hl : m = n
  · subst hl
    have hl' : ((m : Int) != (m : Int)) = false := by simp
    go_enter Try.func53, Try.ntmps53
    go_wp2
    go_loopw [5] (fun i wr => ∃ k : Nat, k ≤ m ∧ i = .int .i64 k ∧ Hid (Below w.heap.size w wr) ∧ Hid (xs.take k = ys.take k)) (fun i _ => m - (intOf i).toNat)
    case atStart => exact ⟨0, Nat.zero_le _, rfl, Lib.hid (Below.refl _ _), Lib.hid rfl⟩
    case round =>
      obtain ⟨k, hk, rfl, HBW, HTK⟩ := hrel
      by_cases hlt : k < m
      · obtain ⟨ba, oa, rfl, hfa⟩ := HA.out k (by have := HM.out; omega)
        obtain ⟨bb, ob, rfl, hfb⟩ := HBs.out k (by have := HN.out; omega)
        have hba := block_lt_of_cell hfa.c0
        have hbb := block_lt_of_cell hfb.c0
        obtain ⟨x, hx⟩ : ∃ x, x = xs.getD k iz := ⟨_, rfl⟩
        obtain ⟨y, hy⟩ : ∃ y, y = ys.getD k iz := ⟨_, rfl⟩
        rw [← hx] at hfa
        rw [← hy] at hfb
        have HFA := Lib.hid hfa
        have HFB := Lib.hid hfb
        have HX := Lib.hid hx
        have HY := Lib.hid hy
        have FA : Hid (Tri wr.drew ba (oa + k * 3) x) := Lib.hid (hfa.below HBW.out.drew hba)
        have FB : Hid (Tri wr.drew bb (ob + k * 3) y) := Lib.hid (hfb.below HBW.out.drew hbb)
        have HC1 := Lib.hid (eqInfo_any wr.drew x y)
        have hlt' : (k : Int) < (m : Int) := by omega
        clear hx hy hfa hfb
        by_cases he : x = y
        · rw [decide_eq_true he] at HC1
          have HT2 : Hid (xs.take (k + 1) = ys.take (k + 1)) := Lib.hid (take_eq_succ (d := iz) (by rw [← HM.out, ← HN.out]) (by have := HM.out; omega) HTK.out (by rw [← HX.out, ← HY.out]; exact he))
          clear he
          go_wp2_with fail
          refine wp_region_held_drew (S := fun w' => Tri w' ba (oa + k * 3) x ∧ Tri w' bb (ob + k * 3) y) (by kernel_rfl) ⟨FA.out, FB.out⟩ (fun hHeld => ?_)
          refine wpAnyH_take (i := 0) (oi := { dst := some 17, op := .move (.tmp 0), type := _, pos := _, after := _, guard := none }) (v := .slice (some ⟨ba, oa, none⟩) m ca) rfl (by kernel_rfl) (by kernel_rfl) (by kernel_rfl) (fun _ _ _ h => h) (Or.inl ⟨by rfl, fun wh hSw => ?_⟩) hHeld ?_
          · (obtain ⟨⟨s0, s1, s2⟩, t0, t1, t2⟩ := hSw; go_simp)
          try simp only [Act.put, List.setIfInBounds_toArray, List.set_cons_zero, List.set_cons_succ]
          refine wpAnyH_take (i := 1) (oi := { dst := some 18, op := .move (.tmp 5), type := _, pos := _, after := _, guard := none }) (v := .int .i64 (k : Int)) rfl (by kernel_rfl) (by kernel_rfl) (by kernel_rfl) (fun _ _ _ h => h) (Or.inl ⟨by rfl, fun wh hSw => ?_⟩) hHeld ?_
          · (obtain ⟨⟨s0, s1, s2⟩, t0, t1, t2⟩ := hSw; go_simp)
          try simp only [Act.put, List.setIfInBounds_toArray, List.set_cons_zero, List.set_cons_succ]
          refine wpAnyH_take (i := 2) (oi := { dst := some 19, op := .indexAddr 27 (.tmp 17) (.tmp 18), type := _, pos := _, after := _, guard := none }) (v := .pointer (some ⟨ba, oa + k * 3, none⟩)) rfl (by kernel_rfl) (by kernel_rfl) (by kernel_rfl) (fun _ _ _ h => h) (Or.inl ⟨by rfl, fun wh hSw => ?_⟩) hHeld ?_
          · (obtain ⟨⟨s0, s1, s2⟩, t0, t1, t2⟩ := hSw; go_simp)
          try simp only [Act.put, List.setIfInBounds_toArray, List.set_cons_zero, List.set_cons_succ]
          refine wpAnyH_take (i := 3) (oi := { dst := some 20, op := .load 36 (.tmp 19), type := _, pos := _, after := _, guard := none }) (v := ivV x) rfl (by kernel_rfl) (by kernel_rfl) (by kernel_rfl) (fun _ _ _ h => h) (Or.inl ⟨by rfl, fun wh hSw => ?_⟩) hHeld ?_
          · (obtain ⟨⟨s0, s1, s2⟩, t0, t1, t2⟩ := hSw; go_simp)
          try simp only [Act.put, List.setIfInBounds_toArray, List.set_cons_zero, List.set_cons_succ]
          refine wpAnyH_take (i := 4) (oi := { dst := some 21, op := .move (.tmp 1), type := _, pos := _, after := _, guard := none }) (v := .slice (some ⟨bb, ob, none⟩) m cb) rfl (by kernel_rfl) (by kernel_rfl) (by kernel_rfl) (fun _ _ _ h => h) (Or.inl ⟨by rfl, fun wh hSw => ?_⟩) hHeld ?_
          · (obtain ⟨⟨s0, s1, s2⟩, t0, t1, t2⟩ := hSw; go_simp)
          try simp only [Act.put, List.setIfInBounds_toArray, List.set_cons_zero, List.set_cons_succ]
          refine wpAnyH_take (i := 5) (oi := { dst := some 22, op := .move (.tmp 5), type := _, pos := _, after := _, guard := none }) (v := .int .i64 (k : Int)) rfl (by kernel_rfl) (by kernel_rfl) (by kernel_rfl) (fun _ _ _ h => h) (Or.inl ⟨by rfl, fun wh hSw => ?_⟩) hHeld ?_
          · (obtain ⟨⟨s0, s1, s2⟩, t0, t1, t2⟩ := hSw; go_simp)
          try simp only [Act.put, List.setIfInBounds_toArray, List.set_cons_zero, List.set_cons_succ]
          refine wpAnyH_take (i := 6) (oi := { dst := some 23, op := .indexAddr 27 (.tmp 21) (.tmp 22), type := _, pos := _, after := _, guard := none }) (v := .pointer (some ⟨bb, ob + k * 3, none⟩)) rfl (by kernel_rfl) (by kernel_rfl) (by kernel_rfl) (fun _ _ _ h => h) (Or.inl ⟨by rfl, fun wh hSw => ?_⟩) hHeld ?_
          · (obtain ⟨⟨s0, s1, s2⟩, t0, t1, t2⟩ := hSw; go_simp)
          try simp only [Act.put, List.setIfInBounds_toArray, List.set_cons_zero, List.set_cons_succ]
          refine wpAnyH_take (i := 7) (oi := { dst := some 24, op := .load 36 (.tmp 23), type := _, pos := _, after := _, guard := none }) (v := ivV y) rfl (by kernel_rfl) (by kernel_rfl) (by kernel_rfl) (fun _ _ _ h => h) (Or.inl ⟨by rfl, fun wh hSw => ?_⟩) hHeld ?_
          · (obtain ⟨⟨s0, s1, s2⟩, t0, t1, t2⟩ := hSw; go_simp)
          try simp only [Act.put, List.setIfInBounds_toArray, List.set_cons_zero, List.set_cons_succ]
          refine wpAnyH_ready (rs := [8]) (by kernel_rfl) (by simp) ?_
          refine AllReadyH.cons (o := { dst := some 25, op := .call { callee := .value (.func 98), args := #[.tmp 20, .tmp 24], argTypes := #[36, 36] }, type := _, pos := _, after := _, guard := none }) rfl (fun K hK => ?_) AllReadyH.nil
          go_simp
          refine HC1.out.mono ?_
          rintro e w1 ⟨rfl, hb1⟩
          have HB1 := Lib.hid ((HBW.out.drew).trans (hb1.mono HBW.out.size))
          clear hb1
          try go_simp
          refine hK.out _ _ ?_ (fun hHeld => ?_)
          · exact ⟨HFA.out.below HB1.out hba, HFB.out.below HB1.out hbb⟩
          clear hK K
          try simp only [Act.put, List.setIfInBounds_toArray, List.set_cons_zero, List.set_cons_succ]
          refine wpAnyH_take (i := 9) (oi := { dst := some 26, op := .unOp .not 4 (.tmp 25), type := _, pos := _, after := _, guard := none }) (v := .bool false) rfl (by kernel_rfl) (by kernel_rfl) (by kernel_rfl) (fun _ _ _ h => h) (Or.inl ⟨by rfl, fun wh hSw => ?_⟩) hHeld ?_
          · (obtain ⟨⟨s0, s1, s2⟩, t0, t1, t2⟩ := hSw; go_simp)
          try simp only [Act.put, List.setIfInBounds_toArray, List.set_cons_zero, List.set_cons_succ]
          refine wpAnyH_done (by kernel_rfl) ?_ _
          go_wp2
          go_roundw
          case rel => exact ⟨k + 1, by omega, by go_num, HB1, HT2⟩
          case measure => simp [intOf]; omega
        · rw [decide_eq_false he] at HC1
          have HF : Hid (r = false) := Lib.hid (by rw [HR.out]; exact decide_eq_false (fun hh => he (by rw [HX.out, HY.out, hh])))
          clear he
          go_wp2_with fail
          refine wp_region_held_drew (S := fun w' => Tri w' ba (oa + k * 3) x ∧ Tri w' bb (ob + k * 3) y) (by kernel_rfl) ⟨FA.out, FB.out⟩ (fun hHeld => ?_)
          refine wpAnyH_take (i := 0) (oi := { dst := some 17, op := .move (.tmp 0), type := _, pos := _, after := _, guard := none }) (v := .slice (some ⟨ba, oa, none⟩) m ca) rfl (by kernel_rfl) (by kernel_rfl) (by kernel_rfl) (fun _ _ _ h => h) (Or.inl ⟨by rfl, fun wh hSw => ?_⟩) hHeld ?_
          · (obtain ⟨⟨s0, s1, s2⟩, t0, t1, t2⟩ := hSw; go_simp)
          try simp only [Act.put, List.setIfInBounds_toArray, List.set_cons_zero, List.set_cons_succ]
          refine wpAnyH_take (i := 1) (oi := { dst := some 18, op := .move (.tmp 5), type := _, pos := _, after := _, guard := none }) (v := .int .i64 (k : Int)) rfl (by kernel_rfl) (by kernel_rfl) (by kernel_rfl) (fun _ _ _ h => h) (Or.inl ⟨by rfl, fun wh hSw => ?_⟩) hHeld ?_
          · (obtain ⟨⟨s0, s1, s2⟩, t0, t1, t2⟩ := hSw; go_simp)
          try simp only [Act.put, List.setIfInBounds_toArray, List.set_cons_zero, List.set_cons_succ]
          refine wpAnyH_take (i := 2) (oi := { dst := some 19, op := .indexAddr 27 (.tmp 17) (.tmp 18), type := _, pos := _, after := _, guard := none }) (v := .pointer (some ⟨ba, oa + k * 3, none⟩)) rfl (by kernel_rfl) (by kernel_rfl) (by kernel_rfl) (fun _ _ _ h => h) (Or.inl ⟨by rfl, fun wh hSw => ?_⟩) hHeld ?_
          · (obtain ⟨⟨s0, s1, s2⟩, t0, t1, t2⟩ := hSw; go_simp)
          try simp only [Act.put, List.setIfInBounds_toArray, List.set_cons_zero, List.set_cons_succ]
          refine wpAnyH_take (i := 3) (oi := { dst := some 20, op := .load 36 (.tmp 19), type := _, pos := _, after := _, guard := none }) (v := ivV x) rfl (by kernel_rfl) (by kernel_rfl) (by kernel_rfl) (fun _ _ _ h => h) (Or.inl ⟨by rfl, fun wh hSw => ?_⟩) hHeld ?_
          · (obtain ⟨⟨s0, s1, s2⟩, t0, t1, t2⟩ := hSw; go_simp)
          try simp only [Act.put, List.setIfInBounds_toArray, List.set_cons_zero, List.set_cons_succ]
          refine wpAnyH_take (i := 4) (oi := { dst := some 21, op := .move (.tmp 1), type := _, pos := _, after := _, guard := none }) (v := .slice (some ⟨bb, ob, none⟩) m cb) rfl (by kernel_rfl) (by kernel_rfl) (by kernel_rfl) (fun _ _ _ h => h) (Or.inl ⟨by rfl, fun wh hSw => ?_⟩) hHeld ?_
          · (obtain ⟨⟨s0, s1, s2⟩, t0, t1, t2⟩ := hSw; go_simp)
          try simp only [Act.put, List.setIfInBounds_toArray, List.set_cons_zero, List.set_cons_succ]
          refine wpAnyH_take (i := 5) (oi := { dst := some 22, op := .move (.tmp 5), type := _, pos := _, after := _, guard := none }) (v := .int .i64 (k : Int)) rfl (by kernel_rfl) (by kernel_rfl) (by kernel_rfl) (fun _ _ _ h => h) (Or.inl ⟨by rfl, fun wh hSw => ?_⟩) hHeld ?_
          · (obtain ⟨⟨s0, s1, s2⟩, t0, t1, t2⟩ := hSw; go_simp)
          try simp only [Act.put, List.setIfInBounds_toArray, List.set_cons_zero, List.set_cons_succ]
          refine wpAnyH_take (i := 6) (oi := { dst := some 23, op := .indexAddr 27 (.tmp 21) (.tmp 22), type := _, pos := _, after := _, guard := none }) (v := .pointer (some ⟨bb, ob + k * 3, none⟩)) rfl (by kernel_rfl) (by kernel_rfl) (by kernel_rfl) (fun _ _ _ h => h) (Or.inl ⟨by rfl, fun wh hSw => ?_⟩) hHeld ?_
          · (obtain ⟨⟨s0, s1, s2⟩, t0, t1, t2⟩ := hSw; go_simp)
          try simp only [Act.put, List.setIfInBounds_toArray, List.set_cons_zero, List.set_cons_succ]
          refine wpAnyH_take (i := 7) (oi := { dst := some 24, op := .load 36 (.tmp 23), type := _, pos := _, after := _, guard := none }) (v := ivV y) rfl (by kernel_rfl) (by kernel_rfl) (by kernel_rfl) (fun _ _ _ h => h) (Or.inl ⟨by rfl, fun wh hSw => ?_⟩) hHeld ?_
          · (obtain ⟨⟨s0, s1, s2⟩, t0, t1, t2⟩ := hSw; go_simp)
          try simp only [Act.put, List.setIfInBounds_toArray, List.set_cons_zero, List.set_cons_succ]
          refine wpAnyH_ready (rs := [8]) (by kernel_rfl) (by simp) ?_
          refine AllReadyH.cons (o := { dst := some 25, op := .call { callee := .value (.func 98), args := #[.tmp 20, .tmp 24], argTypes := #[36, 36] }, type := _, pos := _, after := _, guard := none }) rfl (fun K hK => ?_) AllReadyH.nil
          go_simp
          refine HC1.out.mono ?_
          rintro e w1 ⟨rfl, hb1⟩
          have HB1 := Lib.hid ((HBW.out.drew).trans (hb1.mono HBW.out.size))
          clear hb1
          try go_simp
          refine hK.out _ _ ?_ (fun hHeld => ?_)
          · exact ⟨HFA.out.below HB1.out hba, HFB.out.below HB1.out hbb⟩
          clear hK K
          try simp only [Act.put, List.setIfInBounds_toArray, List.set_cons_zero, List.set_cons_succ]
          refine wpAnyH_take (i := 9) (oi := { dst := some 26, op := .unOp .not 4 (.tmp 25), type := _, pos := _, after := _, guard := none }) (v := .bool true) rfl (by kernel_rfl) (by kernel_rfl) (by kernel_rfl) (fun _ _ _ h => h) (Or.inl ⟨by rfl, fun wh hSw => ?_⟩) hHeld ?_
          · (obtain ⟨⟨s0, s1, s2⟩, t0, t1, t2⟩ := hSw; go_simp)
          try simp only [Act.put, List.setIfInBounds_toArray, List.set_cons_zero, List.set_cons_succ]
          refine wpAnyH_done (by kernel_rfl) ?_ _
          go_wp2
          go_ret
          exact ⟨by rw [HF.out]; rfl, HB1.out⟩
      · have ek : k = m := by omega
        subst ek
        have HF : Hid (r = true) := Lib.hid (by rw [HR.out]; exact decide_eq_true (eq_of_take (by rw [← HM.out, ← HN.out]) HM.out HTK.out))
        go_wp2
        go_ret
        exact ⟨by rw [HF.out]; rfl, HBW.out⟩
  · have hl' : ((m : Int) != (n : Int)) = true := by simp; omega
    have HF : Hid (r = false) := Lib.hid (by rw [HR.out]; exact decide_eq_false (fun hh => hl (by rw [HM.out, HN.out, hh])))
    go_enter Try.func53, Try.ntmps53
    go_wp2
    go_ret
    exact ⟨by rw [HF.out]; rfl, Below.refl _ _⟩
end Go.Proofs.Yticnfekjbknomaa
/- What the copying, counting and comparing helpers of the laws return for slices of texts. -/
namespace Go.Proofs.Yticnfekjbknomaa
open Go.ChangeShapes Go.WideShapes Go.ChangeAt Go.RowKit
set_option linter.unusedVariables false

theorem strInfo : (Try.prog.info? 9).map (fun i => (i.zero, i.size, i.bytes)) = some (some (.string ⟨#[]⟩), 1, 16) := by kernel_rfl

def contS (xs : List Bs) (k : Nat) (j : Nat) : Value := if j < k then .string ⟨(xs.getD j []).toArray⟩ else .string ⟨#[]⟩
theorem contS_step {xs : List Bs} {k : Nat} (j : Nat) : (if j = k then Value.string ⟨(xs.getD k []).toArray⟩ else contS xs k j) = contS xs (k + 1) j := by
  unfold contS
  by_cases h : j = k
  · subst h; simp
  · by_cases h2 : j < k
    · rw [if_neg h, if_pos h2, if_pos (by omega)]
    · rw [if_neg h, if_neg h2, if_neg (by omega)]
theorem strs_own {w : World} {g n : Nat} {xs : List Bs} (hN : n = xs.length) (hn : n ≤ 1048576) (hr : w.rowIs g 9 n (contS xs n)) : StrsW w g (g + 1) (.slice (some ⟨g, 0, none⟩) n n) xs := by
  subst hN
  refine ⟨_, _, rfl, Nat.le_refl _, by unfold maxLen; omega, fun i hi => ⟨g, 0, rfl, Nat.le_refl _, Nat.lt_succ_self _, ?_, ?_⟩⟩
  · have := hr.cell hi
    rw [Nat.zero_add, this]
    simp [contS, hi]
  · exact hr.frozen (0 + i)
/-- a new slice of texts -/
def ToStrs (xs : List Bs) (w : World) (e : Ending) (w' : World) : Prop :=
  ∃ v, e = .returned v ∧ StrsW w' w.heap.size (w.heap.size + 1) v xs ∧ Below w.heap.size w w' ∧ w'.heap.size = w.heap.size + 1 ∧ v = .slice (some ⟨w.heap.size, 0, none⟩) xs.length xs.length

theorem toStringS_any (w : World) (v : Value) (xs : List Bs) (h : Strs w v xs) (hn : xs.length ≤ 1048576) :
    Calls Try.prog 51 #[v] w (ToStrs xs w) := by
  obtain ⟨a, ca, rfl, hla, hma, hxa⟩ := h
  unfold maxLen at hma
  obtain ⟨n, hN⟩ : ∃ n, n = xs.length := ⟨_, rfl⟩
  rw [← hN] at hla hxa hn ⊢
  have HN := Lib.hid hN
  clear hN
  have hmk := run_make_row' (P := Try.prog) 28 9 (.string ⟨#[]⟩) 16 Try.underlying28 strInfo rfl .i64 .i64 n (by omega) (by omega)
  go_enter Try.func51, Try.ntmps51
  go_wp2
  clear hmk
  go_loopw [4] (fun i wr => ∃ k : Nat, k ≤ n ∧ i = .int .i64 k ∧ Below w.heap.size w wr ∧ wr.rowIs w.heap.size 9 n (contS xs k) ∧ Hid (wr.heap.size = w.heap.size + 1)) (fun i _ => n - (intOf i).toNat)
  case atStart => exact ⟨0, Nat.zero_le _, rfl, (Below.refl _ _).alloc (Nat.le_refl _) _, (World.rowIs_made w (.string ⟨#[]⟩) n 9).congr (fun j _ => by simp [contS]), Lib.hid (by simp)⟩
  case round =>
    obtain ⟨k, hk, rfl, hbel, hrow, HS⟩ := hrel
    by_cases hlt : k < n
    · obtain ⟨b, o, rfl, hc⟩ := hxa k hlt
      have hb := cell_lt hc
      have hcr := (hbel.cell (p := ⟨b, o + k, none⟩) hb).trans hc
      have hdst := hrow.cell hlt
      have hfr := hrow.frozen k
      generalize hx : xs.getD k [] = x at hcr
      have HX := Lib.hid hx
      clear hx hc hxa
      have hlt' : (k : Int) < (n : Int) := by omega
      go_wp2
      go_roundw
      case rel => exact ⟨k + 1, by omega, by go_num, hbel.setCell (p := ⟨w.heap.size, k, none⟩) (Nat.le_refl _) _, (hrow.set k _).congr (fun j _ => by rw [← HX.out]; exact contS_step j), Lib.hid (by have := HS.out; simpa [World.setCell] using this)⟩
      case measure => simp [intOf]; omega
    · go_wp2
      go_ret
      have e : k = n := by omega
      subst e
      exact ⟨_, rfl, strs_own HN.out hn hrow, hbel, HS.out, congrArg (fun q => Value.slice (some ⟨w.heap.size, 0, none⟩) q q) HN.out⟩

theorem eqStringS_any (w : World) (va vb : Value) (xs ys : List Bs) (ha : Strs w va xs) (hb : Strs w vb ys) :
    Calls Try.prog 54 #[va, vb] w (Reads (.bool (decide (xs = ys))) w) := by
  obtain ⟨a, ca, rfl, hla, hma, hxa⟩ := ha
  obtain ⟨b, cb, rfl, hlb, hmb, hxb⟩ := hb
  unfold maxLen at hma hmb
  by_cases hl : xs.length = ys.length
  · obtain ⟨n, hn⟩ : ∃ n, n = xs.length := ⟨_, rfl⟩
    have hn2 : ys.length = n := by omega
    rw [← hn] at hla hxa ⊢
    rw [hn2] at hlb hxb ⊢
    have HN := Lib.hid hn
    have HN2 := Lib.hid hn2
    clear hn hn2 hl
    go_enter Try.func54, Try.ntmps54
    go_wp2
    go_loopw [5] (fun i wr => ∃ k d : Nat, k ≤ n ∧ i = .int .i64 k ∧ Hid (xs.take k = ys.take k) ∧ wr = w.drewN d) (fun i _ => n - (intOf i).toNat)
    case atStart => exact ⟨0, 0, Nat.zero_le _, rfl, Lib.hid rfl, rfl⟩
    case round =>
      obtain ⟨k, d, hk, rfl, HT, rfl⟩ := hrel
      by_cases hlt : k < n
      · obtain ⟨ba, oa, rfl, hca⟩ := hxa k hlt
        obtain ⟨bb, ob, rfl, hcb⟩ := hxb k hlt
        generalize hx : xs.getD k [] = x at hca
        generalize hy : ys.getD k [] = y at hcb
        have HX := Lib.hid hx
        have HY := Lib.hid hy
        clear hx hy hxa hxb
        have hlt' : (k : Int) < (n : Int) := by omega
        by_cases he : x = y
        · subst he
          go_wp2_with fail
          go_quiet (fail)
          go_wp2
          go_roundw
          case rel => exact ⟨k + 1, _, by omega, by go_num, Lib.hid (take_eq_succ (d := []) (HN.out.symm.trans HN2.out.symm) (by have := HN.out; omega) HT.out (HX.out.trans HY.out.symm)), rfl⟩
          case measure => simp [intOf]; omega
        · have hne : (x == y) = false := by simpa using he
          have HE : Hid (¬ x = y) := Lib.hid he
          clear he
          go_wp2_with fail
          go_quiet (fail)
          go_wp2
          go_ret
          exact reads_mk2 (by symm; exact decide_eq_false (ne_of_getD (d := []) (k := k) (fun h => HE.out (HX.out.symm.trans (h.trans HY.out)))))
      · go_wp2
        go_ret
        exact reads_mk (by symm; exact decide_eq_true (eq_of_take (HN.out.symm.trans HN2.out.symm) (by have := HN.out; omega) HT.out))
  · have hne : ((xs.length : Int) != (ys.length : Int)) = true := by simp; omega
    have HL := Lib.hid hl
    clear hl
    go_enter Try.func54, Try.ntmps54
    go_wp2
    go_ret
    exact reads_mk0 (by symm; exact decide_eq_false (fun h => HL.out (by rw [h])))

end Go.Proofs.Yticnfekjbknomaa
/- What the counting helper of the laws returns for a slice of texts: a number below 0, or what is left of the bound. -/
namespace Go.Proofs.Yticnfekjbknomaa
open Go.ChangeShapes Go.WideShapes Go.ChangeAt Go.RowKit
set_option linter.unusedVariables false

def Fit (xs : List Bs) : Prop := ∀ x ∈ xs, x.length ≤ maxLen
theorem Fit.at {xs : List Bs} (h : Fit xs) (i : Nat) : (xs.getD i []).length ≤ maxLen := by
  by_cases hi : i < xs.length
  · rw [getD_lt hi]; exact h _ (List.getElem_mem hi)
  · rw [List.getD, List.getElem?_eq_none (Nat.le_of_not_lt hi)]; exact Nat.zero_le _
def totalS (xs : List Bs) : Nat := (xs.map List.length).sum
theorem totalS_snoc (xs : List Bs) (k : Nat) (h : k < xs.length) : totalS (xs.take (k + 1)) = totalS (xs.take k) + (xs.getD k []).length := by
  rw [take_snoc_getD xs k [] h]; simp [totalS]
theorem totalS_mem {xs : List Bs} {x : Bs} (h : x ∈ xs) : x.length ≤ totalS xs := by
  induction xs with
  | nil => cases h
  | cons y ys ih =>
    simp only [totalS, List.map_cons, List.sum_cons] at ih ⊢
    rcases List.mem_cons.1 h with e | h
    · subst e; omega
    · have := ih h; omega
/-- below 0; or all texts and their letters together with it make 'left' -/
def LeftS (xs : List Bs) (left : Int) (w : World) (e : Ending) (w' : World) : Prop :=
  ∃ r : Int, (r < 0 ∨ (0 ≤ r ∧ r + xs.length + totalS xs = left)) ∧ e = .returned (.int .i64 r) ∧ w = w'
theorem leftS_neg {xs : List Bs} {left : Int} {w : World} : LeftS xs left w (.returned (.int .i64 (-1))) w := ⟨-1, .inl (by omega), rfl, rfl⟩

theorem szStringS_any (w : World) (v : Value) (xs : List Bs) (left : Int) (h : Strs w v xs) (hf : Fit xs) (h0 : 0 ≤ left) (h1 : left ≤ 1048576) :
    Calls Try.prog 48 #[v, .int .i64 left] w (LeftS xs left w) := by
  obtain ⟨a, ca, rfl, hla, hma, hxa⟩ := h
  unfold maxLen at hma
  obtain ⟨n, hN⟩ : ∃ n, n = xs.length := ⟨_, rfl⟩
  rw [← hN] at hla hxa ⊢
  have HN := Lib.hid hN
  have HF := Lib.hid hf
  clear hN hf
  by_cases hneg : left < (n : Int)
  · have hneg' : left - (n : Int) < 0 := by omega
    go_enter Try.func48, Try.ntmps48
    go_wp2
    go_ret
    exact leftS_neg
  · have hpos : ¬ left - (n : Int) < 0 := by omega
    go_enter Try.func48, Try.ntmps48
    go_wp2
    go_loop [1, 5] (fun l i => ∃ (k : Nat) (r : Int), k ≤ n ∧ i = .int .i64 k ∧ l = .int .i64 r ∧ 0 ≤ r ∧ r ≤ 1048576 ∧ Hid (r + n + totalS (xs.take k) = left)) (fun _ i => n - (intOf i).toNat)
    case atStart => exact ⟨0, left - n, Nat.zero_le _, rfl, rfl, by omega, by omega, Lib.hid (by simp [totalS])⟩
    case round =>
      obtain ⟨k, r, hk, rfl, rfl, hr0, hr1, HT⟩ := hrel
      by_cases hlt : k < n
      · obtain ⟨b, o, rfl, hc⟩ := hxa k hlt
        have hx0 := HF.out.at k
        unfold maxLen at hx0
        generalize hx : xs.getD k [] = x at hc hx0
        have HX := Lib.hid hx
        clear hx hxa
        have hlt' : (k : Int) < (n : Int) := by omega
        by_cases hng : r < (x.length : Int)
        · have hng' : r - (x.length : Int) < 0 := by omega
          go_wp2
          go_ret
          exact leftS_neg
        · have hng' : ¬ r - (x.length : Int) < 0 := by omega
          go_wp2
          go_round
          case rel => exact ⟨k + 1, r - x.length, by omega, by go_num, rfl, by omega, by omega, Lib.hid (by have h1 := HT.out; have h2 := totalS_snoc xs k (by have := HN.out; omega); rw [HX.out] at h2; rw [h2]; omega)⟩
          case measure => simp [intOf]; omega
      · go_wp2
        go_ret
        have e : k = n := by omega
        subst e
        exact ⟨r, .inr ⟨hr0, by have h1 := HT.out; rw [take_all HN.out] at h1; rw [← HN.out]; exact h1⟩, rfl, rfl⟩
end Go.Proofs.Yticnfekjbknomaa
/- What the marking and the holding helpers of the laws do for slices of texts. -/
namespace Go.Proofs.Yticnfekjbknomaa
open Go.ChangeShapes Go.WideShapes Go.ChangeAt Go.RowKit
set_option linter.unusedVariables false

def dig (k : Nat) : UInt8 := UInt8.ofNat (48 + k % 10)
def digs (k : Nat) (acc : Bs) : Bs := if h : k = 0 then acc else digs (k / 10) (dig k :: acc)
termination_by k
decreasing_by omega
theorem digs_zero (acc : Bs) : digs 0 acc = acc := by rw [digs]; simp
theorem digs_step {k : Nat} (h : k ≠ 0) (acc : Bs) : digs k acc = digs (k / 10) (dig k :: acc) := by rw [digs, dif_neg h]
theorem dig_nat (k : Nat) : ((dig k).toNat : Int) = 48 + (k : Int) % 10 := by
  have : (dig k).toNat = 48 + k % 10 := by
    show (48 + k % 10) % 256 = _
    omega
  rw [this]; omega
/-- the text that marks with k -/
def mtext (k : Nat) : Bs := 109 :: digs k []

theorem markText_any (w : World) (k : Nat) (h0 : 1 ≤ k) (h1 : k ≤ 4000000) :
    Calls Try.prog 99 #[.int .i64 k] w fun e w' => e = .returned (.string ⟨(mtext k).toArray⟩) ∧ Below w.heap.size w w' := by
  have hk : ¬ (k : Int) ≤ 0 := by omega
  go_enter Try.func99, Try.ntmps99
  go_wp2
  go_loopw [0, 3] (fun a b wr => ∃ (j : Nat) (t : Bs), a = .int .i64 j ∧ b = .string ⟨t.toArray⟩ ∧ t.length + j ≤ k ∧ Hid (digs j t = digs k []) ∧ Below w.heap.size w wr) (fun a _ _ => (intOf a).toNat)
  case atStart => exact ⟨k, [], rfl, rfl, by simp, Lib.hid rfl, Below.refl _ _⟩
  case round =>
    obtain ⟨j, t, rfl, rfl, hl, HD, hb⟩ := hrel
    by_cases hj : 0 < j
    · have hj' : (0 : Int) < (j : Int) := by omega
      have hcv := run_convert_bytes_back (P := Try.prog) (wr.alloc (Obj.cells #[Value.int IntKind.u8 (48 + (j : Int) % 10)] 5)) 22 9 5 ⟨wr.heap.size, 0, none⟩ 1 [dig j] Try.underlying22 Try.underlying5 Try.underlying9 (fun i hi => by
        have e : i = 0 := by simpa using hi
        subst e
        show _ = some (Value.int .u8 ((dig j).toNat : Int))
        rw [dig_nat]
        exact new_cell rfl)
      simp only [List.length_singleton] at hcv
      have hb2 := Lib.hid (hb.alloc hb.size (Obj.cells #[Value.int IntKind.u8 (48 + (j : Int) % 10)] 5))
      have hsz : (t.length : Int) ≤ 4000000 := by omega
      go_wp2
      go_roundw
      case rel =>
        refine ⟨j / 10, dig j :: t, by simp, ?_, by simp only [List.length_cons]; omega, Lib.hid (by rw [← HD.out, digs_step (k := j) (by omega)]), hb2.out⟩
        rw [show (ByteArray.mk #[dig j]) = ByteArray.mk ([dig j] : List UInt8).toArray from rfl, ByteArray.mk_append_mk]
        rfl
      case measure => simp [intOf]; omega
    · have e : j = 0 := by omega
      subst e
      have hsz : (t.length : Int) ≤ 4000000 := by omega
      go_wp2
      go_ret
      have ht : t = digs k [] := by rw [← HD.out, digs_zero]
      refine ⟨?_, hb⟩
      rw [ht, show (ByteArray.mk #[109]) = ByteArray.mk ([109] : List UInt8).toArray from rfl, ByteArray.mk_append_mk]
      rfl

/-- the texts that mark n places -/
def mkS (n : Nat) : List Bs := (List.range n).map (fun i => mtext (1 + i))
theorem mkS_len (n : Nat) : (mkS n).length = n := by simp [mkS]
theorem mkS_get {n i : Nat} (h : i < n) : (mkS n).getD i [] = mtext (1 + i) := by
  rw [getD_lt (by rw [mkS_len]; exact h)]
  simp [mkS]
theorem list_ext_getD {xs ys : List Bs} (hl : xs.length = ys.length) (h : ∀ i, i < xs.length → xs.getD i [] = ys.getD i []) : xs = ys := by
  refine List.ext_getElem hl (fun i h1 h2 => ?_)
  have := h i h1
  rwa [getD_lt h1, getD_lt h2] at this
theorem set_getD {xs : List Bs} {k i : Nat} {t : Bs} (hk : k < xs.length) : (xs.set k t).getD i [] = if i = k then t else xs.getD i [] := by
  by_cases h : i = k
  · subst h
    rw [if_pos rfl, getD_lt (by rw [List.length_set]; exact hk), List.getElem_set_self]
  · rw [if_neg h]
    by_cases hi : i < xs.length
    · rw [getD_lt (by rw [List.length_set]; exact hi), getD_lt hi, List.getElem_set_ne (by omega)]
    · simp [List.getD, List.getElem?_eq_none (Nat.le_of_not_lt hi), List.getElem?_eq_none (show (xs.set k t).length ≤ i by rw [List.length_set]; omega)]

/-- the texts of a slice in blocks B0 .. B1-1 are replaced by the marks -/
theorem markStringS_any (w : World) (B0 B1 : Nat) (a : Option Addr) (n cap : Nat) (xs : List Bs) (h : StrsW w B0 B1 (.slice a n cap) xs) (hB : B1 ≤ w.heap.size) (hN : n = xs.length) (hn : n ≤ 1048576) :
    Calls Try.prog 60 #[.slice a n cap, .int .i64 1] w fun e w' => e = .returned (.int .i64 (1 + n)) ∧ StrsW w' B0 B1 (.slice a n cap) (mkS n) ∧ Chg B0 B1 w w' := by
  have H := Lib.hid h
  have HN := Lib.hid hN
  have HB := Lib.hid hB
  clear h hN hB
  go_enter Try.func60, Try.ntmps60
  go_wp2
  go_loopw [1, 5] (fun l i wr => ∃ (j : Nat) (ys : List Bs), j ≤ n ∧ i = .int .i64 j ∧ l = .int .i64 ((1 + j : Nat) : Int) ∧ Hid (ys.length = n) ∧ Hid (∀ q, q < j → ys.getD q [] = mtext (1 + q)) ∧ Hid (StrsW wr B0 B1 (.slice a n cap) ys) ∧ Hid (Chg B0 B1 w wr)) (fun _ i _ => n - (intOf i).toNat)
  case atStart => exact ⟨0, xs, Nat.zero_le _, rfl, rfl, Lib.hid HN.out.symm, Lib.hid (fun q hq => by omega), H, Lib.hid ⟨rfl, rfl, rfl, Nat.le_refl _, fun _ _ _ => rfl⟩⟩
  case round =>
    obtain ⟨j, ys, hj, rfl, rfl, HL, HY, HS, HC⟩ := hrel
    by_cases hlt : j < n
    · have hlt' : (j : Int) < (n : Int) := by omega
      have hs0 := HS.out
      obtain ⟨a', cap', e, q1, q2, q3⟩ := hs0
      injection e with e1 e2 e3
      subst e1
      obtain ⟨g, p, rfl, hg0, hg1, -, -⟩ := q3 j (by omega)
      clear q1 q2 q3 e2 e3
      have HG := Lib.hid (And.intro hg0 hg1)
      clear hg0 hg1
      go_wp2_with fail
      refine (markText_any wr (1 + j) (by omega) (by omega)).mono ?_
      rintro e w1 ⟨rfl, hb1⟩
      have HS1 := Lib.hid (HS.out.below hb1 (Nat.le_trans HB.out HC.out.size))
      have HC1 := Lib.hid (chg_below HC.out hb1)
      clear hb1
      have hcell : ∃ u, w1.cell? ⟨g, p + j, none⟩ = some u ∧ w1.frozen? ⟨g, p + j, none⟩ = false := by
        obtain ⟨a', cap', e, q1, q2, q3⟩ := HS1.out
        injection e with e1 e2 e3
        subst e1
        obtain ⟨g', p', e, _, _, h1, h2⟩ := q3 j (by omega)
        cases e
        exact ⟨_, h1, h2⟩
      obtain ⟨u, hc, hf⟩ := hcell
      go_wp2
      go_roundw
      case rel =>
        refine ⟨j + 1, ys.set j (mtext (1 + j)), by omega, by go_num, by go_num, Lib.hid (by rw [List.length_set]; exact HL.out), Lib.hid (fun q hq => ?_), Lib.hid (HS1.out.put rfl hlt _), Lib.hid (chg_set HC1.out HG.out.1 HG.out.2)⟩
        rw [set_getD (by rw [HL.out]; exact hlt)]
        by_cases hqj : q = j
        · rw [if_pos hqj, hqj]
        · rw [if_neg hqj]; exact HY.out q (by omega)
      case measure => simp [intOf]; omega
    · go_wp2
      go_ret
      have e : j = n := by omega
      subst e
      have hys : ys = mkS j := list_ext_getD (by rw [mkS_len, HL.out]) (fun i hi => by rw [HL.out] at hi; rw [HY.out i hi, mkS_get hi])
      rw [← hys]
      exact ⟨by rw [Int.natCast_add]; rfl, HS.out, HC.out⟩

end Go.Proofs.Yticnfekjbknomaa
/- What the reference's functions of rights return. -/
namespace Go.Proofs.Yticnfekjbknomaa
open Go.ChangeShapes Go.WideShapes Go.ChangeAt Go.RowKit
set_option linter.unusedVariables false

/-- the letters below k are letters of rights -/
def okTo (s : Bs) (k : Nat) : Prop := ∀ b ∈ s.take k, lok b = true
theorem lok_iff {b : UInt8} : lok b = true ↔ 97 ≤ b.toNat ∧ b.toNat ≤ 99 := by
  rw [lok, Bool.and_eq_true, decide_eq_true_eq, decide_eq_true_eq]
theorem okTo_all {s : Bs} {k : Nat} (h : okTo s k) (hk : k = s.length) : rv s = decide (s.length ≤ 4) := by
  have h1 : s.all lok = true := List.all_eq_true.2 (by rw [okTo, take_all hk] at h; exact h)
  rw [rv, h1, Bool.true_and]
theorem okTo_succ {s : Bs} {k : Nat} (h : okTo s k) (hk : k < s.length) (hb : lok s[k] = true) : okTo s (k + 1) := by
  intro b hm
  rw [List.take_succ_eq_append_getElem hk, List.mem_append] at hm
  rcases hm with hm | hm
  · exact h b hm
  · rw [List.mem_singleton.1 hm]; exact hb
theorem rv_bad {s : Bs} {k : Nat} (hk : k < s.length) (hb : lok s[k] = false) : rv s = false := by
  rw [Bool.eq_false_iff]
  intro h
  have := (rv_iff.1 h).1 _ (List.getElem_mem hk)
  rw [hb] at this; cases this

/-- the call returns v, and reads only -/
def BoolRes (b : Bool) (w : World) (e : Ending) (w' : World) : Prop := e = .returned (.bool b) ∧ ∃ n, w' = w.drewN n

theorem run_index_str (s : Bs) (k : Nat) (hk : k < s.length) (x : Nat) (hx : s[k].toNat = x) (w : World) : (Instr.index 9 (.string ⟨s.toArray⟩) (.int .i64 k)).run Try.prog w = .ok (.int .u8 x) w := by
  subst hx
  have hs : (ByteArray.mk s.toArray).size = s.length := by simp [ByteArray.size]
  rw [run_index_string (P := Try.prog) w 9 ⟨s.toArray⟩ .i64 k Try.underlying9, dif_pos (by rw [hs]; omega)]
  have e : (ByteArray.mk s.toArray)[(k : Int).toNat]'(by rw [hs]; omega) = s[k] := rfl
  rw [e]

/-- the call returns a bool and changes nothing -/
def Says (b : Bool) (w : World) (e : Ending) (w' : World) : Prop := e = .returned (.bool b) ∧ w = w'
theorem says_mk {b c : Bool} {w : World} (h : b = c) : Says c w (.returned (.bool b)) w := ⟨by rw [h], rfl⟩

theorem sRightValid_any (w : World) (s : Bs) (hs : s.length ≤ 2000000) :
    Calls Try.prog 80 #[.string ⟨s.toArray⟩] w (Says (rv s) w) := by
  obtain ⟨n, hN⟩ : ∃ n, n = s.length := ⟨_, rfl⟩
  have hn : n ≤ 2000000 := by omega
  have hsz : s.toArray.size = n := by simp [hN]
  have HN := Lib.hid hN
  clear hN hs
  go_enter Try.func80, Try.ntmps80
  go_wp2
  go_loop [3] (fun i => ∃ k : Nat, k ≤ n ∧ i = .int .i64 k ∧ Hid (okTo s k)) (fun i => n - (intOf i).toNat)
  case atStart => exact ⟨0, Nat.zero_le _, rfl, Lib.hid (fun b hb => by simp at hb)⟩
  case round =>
    obtain ⟨k, hk, rfl, HT⟩ := hrel
    by_cases hlt : k < n
    · have hlt' : (k : Int) < (n : Int) := by omega
      have hks : k < s.length := by rw [← HN.out]; exact hlt
      have HB := Lib.hid (@lok_iff s[k])
      have hix := run_index_str s k hks _ rfl
      obtain ⟨x, hx⟩ : ∃ x, x = s[k].toNat := ⟨_, rfl⟩
      rw [← hx] at hix HB
      clear hx
      have HR := Lib.hid (fun h => rv_bad hks h)
      have HO := Lib.hid (fun h => okTo_succ HT.out hks h)
      by_cases h1 : x < 97
      · have h1' : (x : Int) < 97 := by omega
        go_wp2
        go_ret
        exact says_mk (HR.out (by rw [Bool.eq_false_iff]; intro h; have := HB.out.1 h; omega)).symm
      · by_cases h2 : 99 < x
        · have h1' : ¬ (x : Int) < 97 := by omega
          have h2' : (99 : Int) < (x : Int) := by omega
          go_wp2
          go_ret
          exact says_mk (HR.out (by rw [Bool.eq_false_iff]; intro h; have := HB.out.1 h; omega)).symm
        · have h1' : ¬ (x : Int) < 97 := by omega
          have h2' : ¬ (99 : Int) < (x : Int) := by omega
          go_wp2
          go_round
          case rel => exact ⟨k + 1, by omega, by go_num, Lib.hid (HO.out (HB.out.2 ⟨by omega, by omega⟩))⟩
          case measure => simp [intOf]; omega
    · go_wp2
      go_ret
      have e : k = n := by omega
      refine says_mk ?_
      rw [okTo_all HT.out (by rw [e]; exact HN.out), ← HN.out, decide_eq_decide]
      omega

theorem extract_mk (l : Bs) (i j : Nat) : (ByteArray.mk l.toArray).extract i j = ByteArray.mk ((l.take j).drop i).toArray := by
  apply ByteArray.ext
  rw [ByteArray.data_extract]
  simp [List.extract_toArray, List.extract_eq_take_drop, List.drop_take]
theorem extract_toList (l : Bs) (j : Nat) : ((ByteArray.mk l.toArray).extract 0 j).toList = l.take j := by
  rw [extract_mk, ByteArray.toList_mk]; rfl

theorem sCovers_any (w : World) (a b : Bs) (ha : a.length ≤ 2000000) (hb : b.length ≤ 2000000) :
    Calls Try.prog 127 #[.string ⟨a.toArray⟩, .string ⟨b.toArray⟩] w (Says (cov a b) w) := by
  have hsa : (a.length : Int) ≤ 2000000 := by omega
  have hsb : (b.length : Int) ≤ 2000000 := by omega
  by_cases h : a.length ≤ b.length
  · have h' : (a.length : Int) ≤ (b.length : Int) := by omega
    go_enter Try.func127, Try.ntmps127
    go_wp2
    go_ret
    refine says_mk ?_
    rw [extract_toList, cov, decide_eq_true h, Bool.true_and]
  · have h' : ¬ (a.length : Int) ≤ (b.length : Int) := by omega
    go_enter Try.func127, Try.ntmps127
    go_wp2
    go_ret
    exact says_mk (by simp [cov, h])

/-- the texts below k are in order -/
def rokTo (xs : List Bs) (k : Nat) : Prop := ∀ j, j < k → rv (xs.getD j []) = true ∧ (0 < j → bl (xs.getD (j - 1) []) (xs.getD j []) = true)
theorem rokTo_all {xs : List Bs} {k : Nat} (h : rokTo xs k) (hk : k = xs.length) : rok xs = true := rok_iff.2 (by rw [← hk]; exact h)
theorem rokTo_succ {xs : List Bs} {k : Nat} (h : rokTo xs k) (h1 : rv (xs.getD k []) = true) (h2 : 0 < k → bl (xs.getD (k - 1) []) (xs.getD k []) = true) : rokTo xs (k + 1) := by
  intro j hj
  by_cases e : j = k
  · rw [e]; exact ⟨h1, h2⟩
  · exact h j (by omega)
theorem rok_bad1 {xs : List Bs} {k : Nat} (hk : k < xs.length) (h : rv (xs.getD k []) = false) : rvs xs = false := by
  rw [Bool.eq_false_iff]
  intro hh
  rw [rvs, Bool.and_eq_true, rok_iff] at hh
  rw [(hh.1 k hk).1] at h; cases h
theorem rok_bad2 {xs : List Bs} {k : Nat} (hk : k < xs.length) (h0 : 0 < k) (h : bl (xs.getD (k - 1) []) (xs.getD k []) = false) : rvs xs = false := by
  rw [Bool.eq_false_iff]
  intro hh
  rw [rvs, Bool.and_eq_true, rok_iff] at hh
  rw [(hh.1 k hk).2 h0] at h; cases h
/-- texts that are short enough to count their letters -/
def Short (xs : List Bs) : Prop := ∀ x ∈ xs, x.length ≤ 2000000
theorem Short.at {xs : List Bs} (h : Short xs) (i : Nat) : (xs.getD i []).length ≤ 2000000 := by
  by_cases hi : i < xs.length
  · rw [getD_lt hi]; exact h _ (List.getElem_mem hi)
  · rw [List.getD, List.getElem?_eq_none (Nat.le_of_not_lt hi)]; exact Nat.zero_le _

theorem sRightsValid_any (w : World) (v : Value) (xs : List Bs) (h : Strs w v xs) (hs : Short xs) :
    Calls Try.prog 29 #[v] w (Reads (.bool (rvs xs)) w) := by
  obtain ⟨a, ca, rfl, hla, hma, hxa⟩ := h
  unfold maxLen at hma
  obtain ⟨n, hN⟩ : ∃ n, n = xs.length := ⟨_, rfl⟩
  rw [← hN] at hla hxa ⊢
  have HN := Lib.hid hN
  have HS := Lib.hid hs
  have HX := Lib.hid hxa
  clear hN hs hxa
  go_enter Try.func29, Try.ntmps29
  go_wp2
  go_loopw [3] (fun i wr => ∃ k d : Nat, k ≤ n ∧ i = .int .i64 k ∧ Hid (rokTo xs k) ∧ wr = w.drewN d) (fun i _ => n - (intOf i).toNat)
  case atStart => exact ⟨0, 0, Nat.zero_le _, rfl, Lib.hid (fun j hj => by omega), rfl⟩
  case round =>
    obtain ⟨k, d, hk, rfl, HT, rfl⟩ := hrel
    by_cases hlt : k < n
    · have hlt' : (k : Int) < (n : Int) := by omega
      have hkx : k < xs.length := by rw [← HN.out]; exact hlt
      obtain ⟨b, o, rfl, hc⟩ := HX.out k hlt
      have HV := Lib.hid (fun w => sRightValid_any w (xs.getD k []) (HS.out.at k))
      have HB1 := Lib.hid (fun h => rok_bad1 hkx h)
      have HB2 := Lib.hid (fun h0 h => rok_bad2 hkx h0 h)
      have HO := Lib.hid (fun h1 h2 => rokTo_succ HT.out h1 h2)
      generalize xs.getD k [] = x at hc HV HB1 HB2 HO
      clear hkx
      cases hv : rv x with
      | false =>
        have HR := Lib.hid (HB1.out hv)
        rw [hv] at HV
        clear hv
        go_wp2_with fail
        refine wp_region_held_drew (S := fun w' => w'.cell? ⟨b, o + k, none⟩ = some (.string ⟨x.toArray⟩)) (by kernel_rfl) hc (fun hHeld => ?_)
        refine wpAnyH_take (i := 0) (oi := { dst := some 10, op := .move (.tmp 0), type := _, pos := _, after := _, guard := none }) (v := .slice (some ⟨b, o, none⟩) n ca) rfl (by kernel_rfl) (by kernel_rfl) (by kernel_rfl) (fun _ _ _ h => h) (Or.inl ⟨by rfl, fun wh hSw => ?_⟩) hHeld ?_
        · (dsimp only at hSw; go_simp)
        try simp only [Act.put, List.setIfInBounds_toArray, List.set_cons_zero, List.set_cons_succ]
        refine wpAnyH_take (i := 1) (oi := { dst := some 11, op := .move (.tmp 3), type := _, pos := _, after := _, guard := none }) (v := .int .i64 (k : Int)) rfl (by kernel_rfl) (by kernel_rfl) (by kernel_rfl) (fun _ _ _ h => h) (Or.inl ⟨by rfl, fun wh hSw => ?_⟩) hHeld ?_
        · (dsimp only at hSw; go_simp)
        try simp only [Act.put, List.setIfInBounds_toArray, List.set_cons_zero, List.set_cons_succ]
        refine wpAnyH_take (i := 2) (oi := { dst := some 12, op := .indexAddr 28 (.tmp 10) (.tmp 11), type := _, pos := _, after := _, guard := none }) (v := .pointer (some ⟨b, o + k, none⟩)) rfl (by kernel_rfl) (by kernel_rfl) (by kernel_rfl) (fun _ _ _ h => h) (Or.inl ⟨by rfl, fun wh hSw => ?_⟩) hHeld ?_
        · (dsimp only at hSw; go_simp)
        try simp only [Act.put, List.setIfInBounds_toArray, List.set_cons_zero, List.set_cons_succ]
        refine wpAnyH_take (i := 3) (oi := { dst := some 13, op := .load 9 (.tmp 12), type := _, pos := _, after := _, guard := none }) (v := .string ⟨x.toArray⟩) rfl (by kernel_rfl) (by kernel_rfl) (by kernel_rfl) (fun _ _ _ h => h) (Or.inl ⟨by rfl, fun wh hSw => ?_⟩) hHeld ?_
        · (dsimp only at hSw; go_simp)
        try simp only [Act.put, List.setIfInBounds_toArray, List.set_cons_zero, List.set_cons_succ]
        refine wpAnyH_ready (rs := [4]) (by kernel_rfl) (by simp) ?_
        refine AllReadyH.cons (o := { dst := some 14, op := .call { callee := .value (.func 80), args := #[.tmp 13], argTypes := #[9] }, type := _, pos := _, after := _, guard := none }) rfl (fun K hK => ?_) AllReadyH.nil
        go_simp
        refine (HV.out _).mono ?_
        rintro e w' ⟨rfl, rfl⟩
        refine hK.out _ _ ?_ (fun hHeld => ?_)
        · exact hHeld
        clear hK K
        try simp only [Act.put, List.setIfInBounds_toArray, List.set_cons_zero, List.set_cons_succ]
        refine wpAnyH_take (i := 5) (oi := { dst := some 15, op := .unOp .not 4 (.tmp 14), type := _, pos := _, after := _, guard := none }) (v := .bool true) rfl (by kernel_rfl) (by kernel_rfl) (by kernel_rfl) (fun _ _ _ h => h) (Or.inl ⟨by rfl, fun wh hSw => ?_⟩) hHeld ?_
        · (dsimp only at hSw; go_simp)
        try simp only [Act.put, List.setIfInBounds_toArray, List.set_cons_zero, List.set_cons_succ]
        refine wpAnyH_take (i := 6) (oi := { dst := some 16, op := .move (.tmp 15), type := _, pos := _, after := _, guard := none }) (v := .bool true) rfl (by kernel_rfl) (by kernel_rfl) (by kernel_rfl) (fun _ _ _ h => h) (Or.inl ⟨by rfl, fun wh hSw => ?_⟩) hHeld ?_
        · (dsimp only at hSw; go_simp)
        try simp only [Act.put, List.setIfInBounds_toArray, List.set_cons_zero, List.set_cons_succ]
        refine wpAnyH_take (i := 7) (oi := { dst := some 17, op := .move (.tmp 3), type := _, pos := _, after := _, guard := some (6, false) }) (v := undef) rfl (by kernel_rfl) (by kernel_rfl) (by kernel_rfl) (fun _ _ _ h => h) (Or.inr ⟨by rfl, rfl⟩) hHeld ?_
        try simp only [Act.put, List.setIfInBounds_toArray, List.set_cons_zero, List.set_cons_succ]
        refine wpAnyH_take (i := 8) (oi := { dst := some 18, op := .binOp .gtr 3 (.tmp 17) (.const (.int .i64 0)) 3, type := _, pos := _, after := _, guard := some (6, false) }) (v := undef) rfl (by kernel_rfl) (by kernel_rfl) (by kernel_rfl) (fun _ _ _ h => h) (Or.inr ⟨by rfl, rfl⟩) hHeld ?_
        try simp only [Act.put, List.setIfInBounds_toArray, List.set_cons_zero, List.set_cons_succ]
        refine wpAnyH_take (i := 9) (oi := { dst := some 19, op := .move (.tmp 18), type := _, pos := _, after := _, guard := some (6, false) }) (v := undef) rfl (by kernel_rfl) (by kernel_rfl) (by kernel_rfl) (fun _ _ _ h => h) (Or.inr ⟨by rfl, rfl⟩) hHeld ?_
        try simp only [Act.put, List.setIfInBounds_toArray, List.set_cons_zero, List.set_cons_succ]
        refine wpAnyH_take (i := 10) (oi := { dst := some 20, op := .move (.tmp 0), type := _, pos := _, after := _, guard := some (9, true) }) (v := undef) rfl (by kernel_rfl) (by kernel_rfl) (by kernel_rfl) (fun _ _ _ h => h) (Or.inr ⟨by rfl, rfl⟩) hHeld ?_
        try simp only [Act.put, List.setIfInBounds_toArray, List.set_cons_zero, List.set_cons_succ]
        refine wpAnyH_take (i := 11) (oi := { dst := some 21, op := .move (.tmp 3), type := _, pos := _, after := _, guard := some (9, true) }) (v := undef) rfl (by kernel_rfl) (by kernel_rfl) (by kernel_rfl) (fun _ _ _ h => h) (Or.inr ⟨by rfl, rfl⟩) hHeld ?_
        try simp only [Act.put, List.setIfInBounds_toArray, List.set_cons_zero, List.set_cons_succ]
        refine wpAnyH_take (i := 12) (oi := { dst := some 22, op := .binOp .sub 3 (.tmp 21) (.const (.int .i64 1)) 3, type := _, pos := _, after := _, guard := some (9, true) }) (v := undef) rfl (by kernel_rfl) (by kernel_rfl) (by kernel_rfl) (fun _ _ _ h => h) (Or.inr ⟨by rfl, rfl⟩) hHeld ?_
        try simp only [Act.put, List.setIfInBounds_toArray, List.set_cons_zero, List.set_cons_succ]
        refine wpAnyH_take (i := 13) (oi := { dst := some 23, op := .indexAddr 28 (.tmp 20) (.tmp 22), type := _, pos := _, after := _, guard := some (9, true) }) (v := undef) rfl (by kernel_rfl) (by kernel_rfl) (by kernel_rfl) (fun _ _ _ h => h) (Or.inr ⟨by rfl, rfl⟩) hHeld ?_
        try simp only [Act.put, List.setIfInBounds_toArray, List.set_cons_zero, List.set_cons_succ]
        refine wpAnyH_take (i := 14) (oi := { dst := some 24, op := .load 9 (.tmp 23), type := _, pos := _, after := _, guard := some (9, true) }) (v := undef) rfl (by kernel_rfl) (by kernel_rfl) (by kernel_rfl) (fun _ _ _ h => h) (Or.inr ⟨by rfl, rfl⟩) hHeld ?_
        try simp only [Act.put, List.setIfInBounds_toArray, List.set_cons_zero, List.set_cons_succ]
        refine wpAnyH_take (i := 15) (oi := { dst := some 25, op := .move (.tmp 0), type := _, pos := _, after := _, guard := some (9, true) }) (v := undef) rfl (by kernel_rfl) (by kernel_rfl) (by kernel_rfl) (fun _ _ _ h => h) (Or.inr ⟨by rfl, rfl⟩) hHeld ?_
        try simp only [Act.put, List.setIfInBounds_toArray, List.set_cons_zero, List.set_cons_succ]
        refine wpAnyH_take (i := 16) (oi := { dst := some 26, op := .move (.tmp 3), type := _, pos := _, after := _, guard := some (9, true) }) (v := undef) rfl (by kernel_rfl) (by kernel_rfl) (by kernel_rfl) (fun _ _ _ h => h) (Or.inr ⟨by rfl, rfl⟩) hHeld ?_
        try simp only [Act.put, List.setIfInBounds_toArray, List.set_cons_zero, List.set_cons_succ]
        refine wpAnyH_take (i := 17) (oi := { dst := some 27, op := .indexAddr 28 (.tmp 25) (.tmp 26), type := _, pos := _, after := _, guard := some (9, true) }) (v := undef) rfl (by kernel_rfl) (by kernel_rfl) (by kernel_rfl) (fun _ _ _ h => h) (Or.inr ⟨by rfl, rfl⟩) hHeld ?_
        try simp only [Act.put, List.setIfInBounds_toArray, List.set_cons_zero, List.set_cons_succ]
        refine wpAnyH_take (i := 18) (oi := { dst := some 28, op := .load 9 (.tmp 27), type := _, pos := _, after := _, guard := some (9, true) }) (v := undef) rfl (by kernel_rfl) (by kernel_rfl) (by kernel_rfl) (fun _ _ _ h => h) (Or.inr ⟨by rfl, rfl⟩) hHeld ?_
        try simp only [Act.put, List.setIfInBounds_toArray, List.set_cons_zero, List.set_cons_succ]
        refine wpAnyH_take (i := 19) (oi := { dst := some 29, op := .binOp .geq 9 (.tmp 24) (.tmp 28) 9, type := _, pos := _, after := _, guard := some (9, true) }) (v := undef) rfl (by kernel_rfl) (by kernel_rfl) (by kernel_rfl) (fun _ _ _ h => h) (Or.inr ⟨by rfl, rfl⟩) hHeld ?_
        try simp only [Act.put, List.setIfInBounds_toArray, List.set_cons_zero, List.set_cons_succ]
        refine wpAnyH_take (i := 20) (oi := { dst := some 30, op := .pick (.tmp 19) (.tmp 29) (.const (.bool false)), type := _, pos := _, after := _, guard := some (6, false) }) (v := undef) rfl (by kernel_rfl) (by kernel_rfl) (by kernel_rfl) (fun _ _ _ h => h) (Or.inr ⟨by rfl, rfl⟩) hHeld ?_
        try simp only [Act.put, List.setIfInBounds_toArray, List.set_cons_zero, List.set_cons_succ]
        refine wpAnyH_take (i := 21) (oi := { dst := some 31, op := .pick (.tmp 16) (.const (.bool true)) (.tmp 30), type := _, pos := _, after := _, guard := none }) (v := .bool true) rfl (by kernel_rfl) (by kernel_rfl) (by kernel_rfl) (fun _ _ _ h => h) (Or.inl ⟨by rfl, fun wh hSw => ?_⟩) hHeld ?_
        · (dsimp only at hSw; go_simp)
        try simp only [Act.put, List.setIfInBounds_toArray, List.set_cons_zero, List.set_cons_succ]
        refine wpAnyH_done (by kernel_rfl) ?_ _
        go_wp2
        go_ret
        exact reads_mk HR.out.symm
      | true =>
        have HW := Lib.hid hv
        rw [hv] at HV
        clear hv
        rcases Nat.eq_zero_or_pos k with h0 | hpos
        · have hgt : ¬ (0 : Int) < (k : Int) := by omega
          have hgt2 : ¬ 0 < k := by omega
          have HO2 := Lib.hid (HO.out HW.out (fun h => absurd h hgt2))
          clear h0
          go_wp2_with fail
          refine wp_region_held_drew (S := fun w' => w'.cell? ⟨b, o + k, none⟩ = some (.string ⟨x.toArray⟩)) (by kernel_rfl) hc (fun hHeld => ?_)
          refine wpAnyH_take (i := 0) (oi := { dst := some 10, op := .move (.tmp 0), type := _, pos := _, after := _, guard := none }) (v := .slice (some ⟨b, o, none⟩) n ca) rfl (by kernel_rfl) (by kernel_rfl) (by kernel_rfl) (fun _ _ _ h => h) (Or.inl ⟨by rfl, fun wh hSw => ?_⟩) hHeld ?_
          · (dsimp only at hSw; go_simp)
          try simp only [Act.put, List.setIfInBounds_toArray, List.set_cons_zero, List.set_cons_succ]
          refine wpAnyH_take (i := 1) (oi := { dst := some 11, op := .move (.tmp 3), type := _, pos := _, after := _, guard := none }) (v := .int .i64 (k : Int)) rfl (by kernel_rfl) (by kernel_rfl) (by kernel_rfl) (fun _ _ _ h => h) (Or.inl ⟨by rfl, fun wh hSw => ?_⟩) hHeld ?_
          · (dsimp only at hSw; go_simp)
          try simp only [Act.put, List.setIfInBounds_toArray, List.set_cons_zero, List.set_cons_succ]
          refine wpAnyH_take (i := 2) (oi := { dst := some 12, op := .indexAddr 28 (.tmp 10) (.tmp 11), type := _, pos := _, after := _, guard := none }) (v := .pointer (some ⟨b, o + k, none⟩)) rfl (by kernel_rfl) (by kernel_rfl) (by kernel_rfl) (fun _ _ _ h => h) (Or.inl ⟨by rfl, fun wh hSw => ?_⟩) hHeld ?_
          · (dsimp only at hSw; go_simp)
          try simp only [Act.put, List.setIfInBounds_toArray, List.set_cons_zero, List.set_cons_succ]
          refine wpAnyH_take (i := 3) (oi := { dst := some 13, op := .load 9 (.tmp 12), type := _, pos := _, after := _, guard := none }) (v := .string ⟨x.toArray⟩) rfl (by kernel_rfl) (by kernel_rfl) (by kernel_rfl) (fun _ _ _ h => h) (Or.inl ⟨by rfl, fun wh hSw => ?_⟩) hHeld ?_
          · (dsimp only at hSw; go_simp)
          try simp only [Act.put, List.setIfInBounds_toArray, List.set_cons_zero, List.set_cons_succ]
          refine wpAnyH_ready (rs := [4]) (by kernel_rfl) (by simp) ?_
          refine AllReadyH.cons (o := { dst := some 14, op := .call { callee := .value (.func 80), args := #[.tmp 13], argTypes := #[9] }, type := _, pos := _, after := _, guard := none }) rfl (fun K hK => ?_) AllReadyH.nil
          go_simp
          refine (HV.out _).mono ?_
          rintro e w' ⟨rfl, rfl⟩
          refine hK.out _ _ ?_ (fun hHeld => ?_)
          · exact hHeld
          clear hK K
          try simp only [Act.put, List.setIfInBounds_toArray, List.set_cons_zero, List.set_cons_succ]
          refine wpAnyH_take (i := 5) (oi := { dst := some 15, op := .unOp .not 4 (.tmp 14), type := _, pos := _, after := _, guard := none }) (v := .bool false) rfl (by kernel_rfl) (by kernel_rfl) (by kernel_rfl) (fun _ _ _ h => h) (Or.inl ⟨by rfl, fun wh hSw => ?_⟩) hHeld ?_
          · (dsimp only at hSw; go_simp)
          try simp only [Act.put, List.setIfInBounds_toArray, List.set_cons_zero, List.set_cons_succ]
          refine wpAnyH_take (i := 6) (oi := { dst := some 16, op := .move (.tmp 15), type := _, pos := _, after := _, guard := none }) (v := .bool false) rfl (by kernel_rfl) (by kernel_rfl) (by kernel_rfl) (fun _ _ _ h => h) (Or.inl ⟨by rfl, fun wh hSw => ?_⟩) hHeld ?_
          · (dsimp only at hSw; go_simp)
          try simp only [Act.put, List.setIfInBounds_toArray, List.set_cons_zero, List.set_cons_succ]
          refine wpAnyH_take (i := 7) (oi := { dst := some 17, op := .move (.tmp 3), type := _, pos := _, after := _, guard := some (6, false) }) (v := .int .i64 (k : Int)) rfl (by kernel_rfl) (by kernel_rfl) (by kernel_rfl) (fun _ _ _ h => h) (Or.inl ⟨by rfl, fun wh hSw => ?_⟩) hHeld ?_
          · (dsimp only at hSw; go_simp)
          try simp only [Act.put, List.setIfInBounds_toArray, List.set_cons_zero, List.set_cons_succ]
          refine wpAnyH_take (i := 8) (oi := { dst := some 18, op := .binOp .gtr 3 (.tmp 17) (.const (.int .i64 0)) 3, type := _, pos := _, after := _, guard := some (6, false) }) (v := .bool false) rfl (by kernel_rfl) (by kernel_rfl) (by kernel_rfl) (fun _ _ _ h => h) (Or.inl ⟨by rfl, fun wh hSw => ?_⟩) hHeld ?_
          · (dsimp only at hSw; go_simp)
          try simp only [Act.put, List.setIfInBounds_toArray, List.set_cons_zero, List.set_cons_succ]
          refine wpAnyH_take (i := 9) (oi := { dst := some 19, op := .move (.tmp 18), type := _, pos := _, after := _, guard := some (6, false) }) (v := .bool false) rfl (by kernel_rfl) (by kernel_rfl) (by kernel_rfl) (fun _ _ _ h => h) (Or.inl ⟨by rfl, fun wh hSw => ?_⟩) hHeld ?_
          · (dsimp only at hSw; go_simp)
          try simp only [Act.put, List.setIfInBounds_toArray, List.set_cons_zero, List.set_cons_succ]
          refine wpAnyH_take (i := 10) (oi := { dst := some 20, op := .move (.tmp 0), type := _, pos := _, after := _, guard := some (9, true) }) (v := undef) rfl (by kernel_rfl) (by kernel_rfl) (by kernel_rfl) (fun _ _ _ h => h) (Or.inr ⟨by rfl, rfl⟩) hHeld ?_
          try simp only [Act.put, List.setIfInBounds_toArray, List.set_cons_zero, List.set_cons_succ]
          refine wpAnyH_take (i := 11) (oi := { dst := some 21, op := .move (.tmp 3), type := _, pos := _, after := _, guard := some (9, true) }) (v := undef) rfl (by kernel_rfl) (by kernel_rfl) (by kernel_rfl) (fun _ _ _ h => h) (Or.inr ⟨by rfl, rfl⟩) hHeld ?_
          try simp only [Act.put, List.setIfInBounds_toArray, List.set_cons_zero, List.set_cons_succ]
          refine wpAnyH_take (i := 12) (oi := { dst := some 22, op := .binOp .sub 3 (.tmp 21) (.const (.int .i64 1)) 3, type := _, pos := _, after := _, guard := some (9, true) }) (v := undef) rfl (by kernel_rfl) (by kernel_rfl) (by kernel_rfl) (fun _ _ _ h => h) (Or.inr ⟨by rfl, rfl⟩) hHeld ?_
          try simp only [Act.put, List.setIfInBounds_toArray, List.set_cons_zero, List.set_cons_succ]
          refine wpAnyH_take (i := 13) (oi := { dst := some 23, op := .indexAddr 28 (.tmp 20) (.tmp 22), type := _, pos := _, after := _, guard := some (9, true) }) (v := undef) rfl (by kernel_rfl) (by kernel_rfl) (by kernel_rfl) (fun _ _ _ h => h) (Or.inr ⟨by rfl, rfl⟩) hHeld ?_
          try simp only [Act.put, List.setIfInBounds_toArray, List.set_cons_zero, List.set_cons_succ]
          refine wpAnyH_take (i := 14) (oi := { dst := some 24, op := .load 9 (.tmp 23), type := _, pos := _, after := _, guard := some (9, true) }) (v := undef) rfl (by kernel_rfl) (by kernel_rfl) (by kernel_rfl) (fun _ _ _ h => h) (Or.inr ⟨by rfl, rfl⟩) hHeld ?_
          try simp only [Act.put, List.setIfInBounds_toArray, List.set_cons_zero, List.set_cons_succ]
          refine wpAnyH_take (i := 15) (oi := { dst := some 25, op := .move (.tmp 0), type := _, pos := _, after := _, guard := some (9, true) }) (v := undef) rfl (by kernel_rfl) (by kernel_rfl) (by kernel_rfl) (fun _ _ _ h => h) (Or.inr ⟨by rfl, rfl⟩) hHeld ?_
          try simp only [Act.put, List.setIfInBounds_toArray, List.set_cons_zero, List.set_cons_succ]
          refine wpAnyH_take (i := 16) (oi := { dst := some 26, op := .move (.tmp 3), type := _, pos := _, after := _, guard := some (9, true) }) (v := undef) rfl (by kernel_rfl) (by kernel_rfl) (by kernel_rfl) (fun _ _ _ h => h) (Or.inr ⟨by rfl, rfl⟩) hHeld ?_
          try simp only [Act.put, List.setIfInBounds_toArray, List.set_cons_zero, List.set_cons_succ]
          refine wpAnyH_take (i := 17) (oi := { dst := some 27, op := .indexAddr 28 (.tmp 25) (.tmp 26), type := _, pos := _, after := _, guard := some (9, true) }) (v := undef) rfl (by kernel_rfl) (by kernel_rfl) (by kernel_rfl) (fun _ _ _ h => h) (Or.inr ⟨by rfl, rfl⟩) hHeld ?_
          try simp only [Act.put, List.setIfInBounds_toArray, List.set_cons_zero, List.set_cons_succ]
          refine wpAnyH_take (i := 18) (oi := { dst := some 28, op := .load 9 (.tmp 27), type := _, pos := _, after := _, guard := some (9, true) }) (v := undef) rfl (by kernel_rfl) (by kernel_rfl) (by kernel_rfl) (fun _ _ _ h => h) (Or.inr ⟨by rfl, rfl⟩) hHeld ?_
          try simp only [Act.put, List.setIfInBounds_toArray, List.set_cons_zero, List.set_cons_succ]
          refine wpAnyH_take (i := 19) (oi := { dst := some 29, op := .binOp .geq 9 (.tmp 24) (.tmp 28) 9, type := _, pos := _, after := _, guard := some (9, true) }) (v := undef) rfl (by kernel_rfl) (by kernel_rfl) (by kernel_rfl) (fun _ _ _ h => h) (Or.inr ⟨by rfl, rfl⟩) hHeld ?_
          try simp only [Act.put, List.setIfInBounds_toArray, List.set_cons_zero, List.set_cons_succ]
          refine wpAnyH_take (i := 20) (oi := { dst := some 30, op := .pick (.tmp 19) (.tmp 29) (.const (.bool false)), type := _, pos := _, after := _, guard := some (6, false) }) (v := .bool false) rfl (by kernel_rfl) (by kernel_rfl) (by kernel_rfl) (fun _ _ _ h => h) (Or.inl ⟨by rfl, fun wh hSw => ?_⟩) hHeld ?_
          · (dsimp only at hSw; go_simp)
          try simp only [Act.put, List.setIfInBounds_toArray, List.set_cons_zero, List.set_cons_succ]
          refine wpAnyH_take (i := 21) (oi := { dst := some 31, op := .pick (.tmp 16) (.const (.bool true)) (.tmp 30), type := _, pos := _, after := _, guard := none }) (v := .bool false) rfl (by kernel_rfl) (by kernel_rfl) (by kernel_rfl) (fun _ _ _ h => h) (Or.inl ⟨by rfl, fun wh hSw => ?_⟩) hHeld ?_
          · (dsimp only at hSw; go_simp)
          try simp only [Act.put, List.setIfInBounds_toArray, List.set_cons_zero, List.set_cons_succ]
          refine wpAnyH_done (by kernel_rfl) ?_ _
          go_wp2
          go_roundw
          case rel => exact ⟨k + 1, _, by omega, by go_num, HO2, rfl⟩
          case measure => simp [intOf]; omega
        · have hgt : (0 : Int) < (k : Int) := by omega
          obtain ⟨q, hq⟩ : ∃ q : Nat, (k : Int) - 1 = (q : Int) := ⟨k - 1, by omega⟩
          have hqk : k - 1 = q := by omega
          have hq0 : (q : Int) < (n : Int) := by omega
          obtain ⟨b2, o2, e2, hc2⟩ := HX.out q (by omega)
          cases e2
          rw [hqk] at HB2 HO
          generalize xs.getD q [] = y at hc2 HB2 HO
          clear hqk
          cases hbl : bl y x with
          | false =>
            have HR := Lib.hid (HB2.out hpos hbl)
            have hle : (Op.bytesLess y x) = false := hbl
            clear hbl
            go_wp2_with fail
            refine wp_region_held_drew (S := fun w' => w'.cell? ⟨b, o + k, none⟩ = some (.string ⟨x.toArray⟩) ∧ w'.cell? ⟨b, o + q, none⟩ = some (.string ⟨y.toArray⟩)) (by kernel_rfl) ⟨hc, hc2⟩ (fun hHeld => ?_)
            refine wpAnyH_take (i := 0) (oi := { dst := some 10, op := .move (.tmp 0), type := _, pos := _, after := _, guard := none }) (v := .slice (some ⟨b, o, none⟩) n ca) rfl (by kernel_rfl) (by kernel_rfl) (by kernel_rfl) (fun _ _ _ h => h) (Or.inl ⟨by rfl, fun wh hSw => ?_⟩) hHeld ?_
            · (dsimp only at hSw; go_simp)
            try simp only [Act.put, List.setIfInBounds_toArray, List.set_cons_zero, List.set_cons_succ]
            refine wpAnyH_take (i := 1) (oi := { dst := some 11, op := .move (.tmp 3), type := _, pos := _, after := _, guard := none }) (v := .int .i64 (k : Int)) rfl (by kernel_rfl) (by kernel_rfl) (by kernel_rfl) (fun _ _ _ h => h) (Or.inl ⟨by rfl, fun wh hSw => ?_⟩) hHeld ?_
            · (dsimp only at hSw; go_simp)
            try simp only [Act.put, List.setIfInBounds_toArray, List.set_cons_zero, List.set_cons_succ]
            refine wpAnyH_take (i := 2) (oi := { dst := some 12, op := .indexAddr 28 (.tmp 10) (.tmp 11), type := _, pos := _, after := _, guard := none }) (v := .pointer (some ⟨b, o + k, none⟩)) rfl (by kernel_rfl) (by kernel_rfl) (by kernel_rfl) (fun _ _ _ h => h) (Or.inl ⟨by rfl, fun wh hSw => ?_⟩) hHeld ?_
            · (dsimp only at hSw; go_simp)
            try simp only [Act.put, List.setIfInBounds_toArray, List.set_cons_zero, List.set_cons_succ]
            refine wpAnyH_take (i := 3) (oi := { dst := some 13, op := .load 9 (.tmp 12), type := _, pos := _, after := _, guard := none }) (v := .string ⟨x.toArray⟩) rfl (by kernel_rfl) (by kernel_rfl) (by kernel_rfl) (fun _ _ _ h => h) (Or.inl ⟨by rfl, fun wh hSw => ?_⟩) hHeld ?_
            · (dsimp only at hSw; go_simp)
            try simp only [Act.put, List.setIfInBounds_toArray, List.set_cons_zero, List.set_cons_succ]
            refine wpAnyH_ready (rs := [4]) (by kernel_rfl) (by simp) ?_
            refine AllReadyH.cons (o := { dst := some 14, op := .call { callee := .value (.func 80), args := #[.tmp 13], argTypes := #[9] }, type := _, pos := _, after := _, guard := none }) rfl (fun K hK => ?_) AllReadyH.nil
            go_simp
            refine (HV.out _).mono ?_
            rintro e w' ⟨rfl, rfl⟩
            refine hK.out _ _ ?_ (fun hHeld => ?_)
            · exact hHeld
            clear hK K
            try simp only [Act.put, List.setIfInBounds_toArray, List.set_cons_zero, List.set_cons_succ]
            refine wpAnyH_take (i := 5) (oi := { dst := some 15, op := .unOp .not 4 (.tmp 14), type := _, pos := _, after := _, guard := none }) (v := .bool false) rfl (by kernel_rfl) (by kernel_rfl) (by kernel_rfl) (fun _ _ _ h => h) (Or.inl ⟨by rfl, fun wh hSw => ?_⟩) hHeld ?_
            · (dsimp only at hSw; go_simp)
            try simp only [Act.put, List.setIfInBounds_toArray, List.set_cons_zero, List.set_cons_succ]
            refine wpAnyH_take (i := 6) (oi := { dst := some 16, op := .move (.tmp 15), type := _, pos := _, after := _, guard := none }) (v := .bool false) rfl (by kernel_rfl) (by kernel_rfl) (by kernel_rfl) (fun _ _ _ h => h) (Or.inl ⟨by rfl, fun wh hSw => ?_⟩) hHeld ?_
            · (dsimp only at hSw; go_simp)
            try simp only [Act.put, List.setIfInBounds_toArray, List.set_cons_zero, List.set_cons_succ]
            refine wpAnyH_take (i := 7) (oi := { dst := some 17, op := .move (.tmp 3), type := _, pos := _, after := _, guard := some (6, false) }) (v := .int .i64 (k : Int)) rfl (by kernel_rfl) (by kernel_rfl) (by kernel_rfl) (fun _ _ _ h => h) (Or.inl ⟨by rfl, fun wh hSw => ?_⟩) hHeld ?_
            · (dsimp only at hSw; go_simp)
            try simp only [Act.put, List.setIfInBounds_toArray, List.set_cons_zero, List.set_cons_succ]
            refine wpAnyH_take (i := 8) (oi := { dst := some 18, op := .binOp .gtr 3 (.tmp 17) (.const (.int .i64 0)) 3, type := _, pos := _, after := _, guard := some (6, false) }) (v := .bool true) rfl (by kernel_rfl) (by kernel_rfl) (by kernel_rfl) (fun _ _ _ h => h) (Or.inl ⟨by rfl, fun wh hSw => ?_⟩) hHeld ?_
            · (dsimp only at hSw; go_simp)
            try simp only [Act.put, List.setIfInBounds_toArray, List.set_cons_zero, List.set_cons_succ]
            refine wpAnyH_take (i := 9) (oi := { dst := some 19, op := .move (.tmp 18), type := _, pos := _, after := _, guard := some (6, false) }) (v := .bool true) rfl (by kernel_rfl) (by kernel_rfl) (by kernel_rfl) (fun _ _ _ h => h) (Or.inl ⟨by rfl, fun wh hSw => ?_⟩) hHeld ?_
            · (dsimp only at hSw; go_simp)
            try simp only [Act.put, List.setIfInBounds_toArray, List.set_cons_zero, List.set_cons_succ]
            refine wpAnyH_take (i := 10) (oi := { dst := some 20, op := .move (.tmp 0), type := _, pos := _, after := _, guard := some (9, true) }) (v := .slice (some ⟨b, o, none⟩) n ca) rfl (by kernel_rfl) (by kernel_rfl) (by kernel_rfl) (fun _ _ _ h => h) (Or.inl ⟨by rfl, fun wh hSw => ?_⟩) hHeld ?_
            · (dsimp only at hSw; go_simp)
            try simp only [Act.put, List.setIfInBounds_toArray, List.set_cons_zero, List.set_cons_succ]
            refine wpAnyH_take (i := 11) (oi := { dst := some 21, op := .move (.tmp 3), type := _, pos := _, after := _, guard := some (9, true) }) (v := .int .i64 (k : Int)) rfl (by kernel_rfl) (by kernel_rfl) (by kernel_rfl) (fun _ _ _ h => h) (Or.inl ⟨by rfl, fun wh hSw => ?_⟩) hHeld ?_
            · (dsimp only at hSw; go_simp)
            try simp only [Act.put, List.setIfInBounds_toArray, List.set_cons_zero, List.set_cons_succ]
            refine wpAnyH_take (i := 12) (oi := { dst := some 22, op := .binOp .sub 3 (.tmp 21) (.const (.int .i64 1)) 3, type := _, pos := _, after := _, guard := some (9, true) }) (v := .int .i64 (q : Int)) rfl (by kernel_rfl) (by kernel_rfl) (by kernel_rfl) (fun _ _ _ h => h) (Or.inl ⟨by rfl, fun wh hSw => ?_⟩) hHeld ?_
            · (dsimp only at hSw; go_simp; rw [IntKind.wrap_i64]; omega)
            try simp only [Act.put, List.setIfInBounds_toArray, List.set_cons_zero, List.set_cons_succ]
            refine wpAnyH_take (i := 13) (oi := { dst := some 23, op := .indexAddr 28 (.tmp 20) (.tmp 22), type := _, pos := _, after := _, guard := some (9, true) }) (v := .pointer (some ⟨b, o + q, none⟩)) rfl (by kernel_rfl) (by kernel_rfl) (by kernel_rfl) (fun _ _ _ h => h) (Or.inl ⟨by rfl, fun wh hSw => ?_⟩) hHeld ?_
            · (dsimp only at hSw; go_simp)
            try simp only [Act.put, List.setIfInBounds_toArray, List.set_cons_zero, List.set_cons_succ]
            refine wpAnyH_take (i := 14) (oi := { dst := some 24, op := .load 9 (.tmp 23), type := _, pos := _, after := _, guard := some (9, true) }) (v := .string ⟨y.toArray⟩) rfl (by kernel_rfl) (by kernel_rfl) (by kernel_rfl) (fun _ _ _ h => h) (Or.inl ⟨by rfl, fun wh hSw => ?_⟩) hHeld ?_
            · (dsimp only at hSw; go_simp)
            try simp only [Act.put, List.setIfInBounds_toArray, List.set_cons_zero, List.set_cons_succ]
            refine wpAnyH_take (i := 15) (oi := { dst := some 25, op := .move (.tmp 0), type := _, pos := _, after := _, guard := some (9, true) }) (v := .slice (some ⟨b, o, none⟩) n ca) rfl (by kernel_rfl) (by kernel_rfl) (by kernel_rfl) (fun _ _ _ h => h) (Or.inl ⟨by rfl, fun wh hSw => ?_⟩) hHeld ?_
            · (dsimp only at hSw; go_simp)
            try simp only [Act.put, List.setIfInBounds_toArray, List.set_cons_zero, List.set_cons_succ]
            refine wpAnyH_take (i := 16) (oi := { dst := some 26, op := .move (.tmp 3), type := _, pos := _, after := _, guard := some (9, true) }) (v := .int .i64 (k : Int)) rfl (by kernel_rfl) (by kernel_rfl) (by kernel_rfl) (fun _ _ _ h => h) (Or.inl ⟨by rfl, fun wh hSw => ?_⟩) hHeld ?_
            · (dsimp only at hSw; go_simp)
            try simp only [Act.put, List.setIfInBounds_toArray, List.set_cons_zero, List.set_cons_succ]
            refine wpAnyH_take (i := 17) (oi := { dst := some 27, op := .indexAddr 28 (.tmp 25) (.tmp 26), type := _, pos := _, after := _, guard := some (9, true) }) (v := .pointer (some ⟨b, o + k, none⟩)) rfl (by kernel_rfl) (by kernel_rfl) (by kernel_rfl) (fun _ _ _ h => h) (Or.inl ⟨by rfl, fun wh hSw => ?_⟩) hHeld ?_
            · (dsimp only at hSw; go_simp)
            try simp only [Act.put, List.setIfInBounds_toArray, List.set_cons_zero, List.set_cons_succ]
            refine wpAnyH_take (i := 18) (oi := { dst := some 28, op := .load 9 (.tmp 27), type := _, pos := _, after := _, guard := some (9, true) }) (v := .string ⟨x.toArray⟩) rfl (by kernel_rfl) (by kernel_rfl) (by kernel_rfl) (fun _ _ _ h => h) (Or.inl ⟨by rfl, fun wh hSw => ?_⟩) hHeld ?_
            · (dsimp only at hSw; go_simp)
            try simp only [Act.put, List.setIfInBounds_toArray, List.set_cons_zero, List.set_cons_succ]
            refine wpAnyH_take (i := 19) (oi := { dst := some 29, op := .binOp .geq 9 (.tmp 24) (.tmp 28) 9, type := _, pos := _, after := _, guard := some (9, true) }) (v := .bool true) rfl (by kernel_rfl) (by kernel_rfl) (by kernel_rfl) (fun _ _ _ h => h) (Or.inl ⟨by rfl, fun wh hSw => ?_⟩) hHeld ?_
            · (dsimp only at hSw; go_simp)
            try simp only [Act.put, List.setIfInBounds_toArray, List.set_cons_zero, List.set_cons_succ]
            refine wpAnyH_take (i := 20) (oi := { dst := some 30, op := .pick (.tmp 19) (.tmp 29) (.const (.bool false)), type := _, pos := _, after := _, guard := some (6, false) }) (v := .bool true) rfl (by kernel_rfl) (by kernel_rfl) (by kernel_rfl) (fun _ _ _ h => h) (Or.inl ⟨by rfl, fun wh hSw => ?_⟩) hHeld ?_
            · (dsimp only at hSw; go_simp)
            try simp only [Act.put, List.setIfInBounds_toArray, List.set_cons_zero, List.set_cons_succ]
            refine wpAnyH_take (i := 21) (oi := { dst := some 31, op := .pick (.tmp 16) (.const (.bool true)) (.tmp 30), type := _, pos := _, after := _, guard := none }) (v := .bool true) rfl (by kernel_rfl) (by kernel_rfl) (by kernel_rfl) (fun _ _ _ h => h) (Or.inl ⟨by rfl, fun wh hSw => ?_⟩) hHeld ?_
            · (dsimp only at hSw; go_simp)
            try simp only [Act.put, List.setIfInBounds_toArray, List.set_cons_zero, List.set_cons_succ]
            refine wpAnyH_done (by kernel_rfl) ?_ _
            go_wp2
            go_ret
            exact reads_mk HR.out.symm
          | true =>
            have HO2 := Lib.hid (HO.out HW.out (fun _ => hbl))
            have hle : (Op.bytesLess y x) = true := hbl
            clear hbl
            go_wp2_with fail
            refine wp_region_held_drew (S := fun w' => w'.cell? ⟨b, o + k, none⟩ = some (.string ⟨x.toArray⟩) ∧ w'.cell? ⟨b, o + q, none⟩ = some (.string ⟨y.toArray⟩)) (by kernel_rfl) ⟨hc, hc2⟩ (fun hHeld => ?_)
            refine wpAnyH_take (i := 0) (oi := { dst := some 10, op := .move (.tmp 0), type := _, pos := _, after := _, guard := none }) (v := .slice (some ⟨b, o, none⟩) n ca) rfl (by kernel_rfl) (by kernel_rfl) (by kernel_rfl) (fun _ _ _ h => h) (Or.inl ⟨by rfl, fun wh hSw => ?_⟩) hHeld ?_
            · (dsimp only at hSw; go_simp)
            try simp only [Act.put, List.setIfInBounds_toArray, List.set_cons_zero, List.set_cons_succ]
            refine wpAnyH_take (i := 1) (oi := { dst := some 11, op := .move (.tmp 3), type := _, pos := _, after := _, guard := none }) (v := .int .i64 (k : Int)) rfl (by kernel_rfl) (by kernel_rfl) (by kernel_rfl) (fun _ _ _ h => h) (Or.inl ⟨by rfl, fun wh hSw => ?_⟩) hHeld ?_
            · (dsimp only at hSw; go_simp)
            try simp only [Act.put, List.setIfInBounds_toArray, List.set_cons_zero, List.set_cons_succ]
            refine wpAnyH_take (i := 2) (oi := { dst := some 12, op := .indexAddr 28 (.tmp 10) (.tmp 11), type := _, pos := _, after := _, guard := none }) (v := .pointer (some ⟨b, o + k, none⟩)) rfl (by kernel_rfl) (by kernel_rfl) (by kernel_rfl) (fun _ _ _ h => h) (Or.inl ⟨by rfl, fun wh hSw => ?_⟩) hHeld ?_
            · (dsimp only at hSw; go_simp)
            try simp only [Act.put, List.setIfInBounds_toArray, List.set_cons_zero, List.set_cons_succ]
            refine wpAnyH_take (i := 3) (oi := { dst := some 13, op := .load 9 (.tmp 12), type := _, pos := _, after := _, guard := none }) (v := .string ⟨x.toArray⟩) rfl (by kernel_rfl) (by kernel_rfl) (by kernel_rfl) (fun _ _ _ h => h) (Or.inl ⟨by rfl, fun wh hSw => ?_⟩) hHeld ?_
            · (dsimp only at hSw; go_simp)
            try simp only [Act.put, List.setIfInBounds_toArray, List.set_cons_zero, List.set_cons_succ]
            refine wpAnyH_ready (rs := [4]) (by kernel_rfl) (by simp) ?_
            refine AllReadyH.cons (o := { dst := some 14, op := .call { callee := .value (.func 80), args := #[.tmp 13], argTypes := #[9] }, type := _, pos := _, after := _, guard := none }) rfl (fun K hK => ?_) AllReadyH.nil
            go_simp
            refine (HV.out _).mono ?_
            rintro e w' ⟨rfl, rfl⟩
            refine hK.out _ _ ?_ (fun hHeld => ?_)
            · exact hHeld
            clear hK K
            try simp only [Act.put, List.setIfInBounds_toArray, List.set_cons_zero, List.set_cons_succ]
            refine wpAnyH_take (i := 5) (oi := { dst := some 15, op := .unOp .not 4 (.tmp 14), type := _, pos := _, after := _, guard := none }) (v := .bool false) rfl (by kernel_rfl) (by kernel_rfl) (by kernel_rfl) (fun _ _ _ h => h) (Or.inl ⟨by rfl, fun wh hSw => ?_⟩) hHeld ?_
            · (dsimp only at hSw; go_simp)
            try simp only [Act.put, List.setIfInBounds_toArray, List.set_cons_zero, List.set_cons_succ]
            refine wpAnyH_take (i := 6) (oi := { dst := some 16, op := .move (.tmp 15), type := _, pos := _, after := _, guard := none }) (v := .bool false) rfl (by kernel_rfl) (by kernel_rfl) (by kernel_rfl) (fun _ _ _ h => h) (Or.inl ⟨by rfl, fun wh hSw => ?_⟩) hHeld ?_
            · (dsimp only at hSw; go_simp)
            try simp only [Act.put, List.setIfInBounds_toArray, List.set_cons_zero, List.set_cons_succ]
            refine wpAnyH_take (i := 7) (oi := { dst := some 17, op := .move (.tmp 3), type := _, pos := _, after := _, guard := some (6, false) }) (v := .int .i64 (k : Int)) rfl (by kernel_rfl) (by kernel_rfl) (by kernel_rfl) (fun _ _ _ h => h) (Or.inl ⟨by rfl, fun wh hSw => ?_⟩) hHeld ?_
            · (dsimp only at hSw; go_simp)
            try simp only [Act.put, List.setIfInBounds_toArray, List.set_cons_zero, List.set_cons_succ]
            refine wpAnyH_take (i := 8) (oi := { dst := some 18, op := .binOp .gtr 3 (.tmp 17) (.const (.int .i64 0)) 3, type := _, pos := _, after := _, guard := some (6, false) }) (v := .bool true) rfl (by kernel_rfl) (by kernel_rfl) (by kernel_rfl) (fun _ _ _ h => h) (Or.inl ⟨by rfl, fun wh hSw => ?_⟩) hHeld ?_
            · (dsimp only at hSw; go_simp)
            try simp only [Act.put, List.setIfInBounds_toArray, List.set_cons_zero, List.set_cons_succ]
            refine wpAnyH_take (i := 9) (oi := { dst := some 19, op := .move (.tmp 18), type := _, pos := _, after := _, guard := some (6, false) }) (v := .bool true) rfl (by kernel_rfl) (by kernel_rfl) (by kernel_rfl) (fun _ _ _ h => h) (Or.inl ⟨by rfl, fun wh hSw => ?_⟩) hHeld ?_
            · (dsimp only at hSw; go_simp)
            try simp only [Act.put, List.setIfInBounds_toArray, List.set_cons_zero, List.set_cons_succ]
            refine wpAnyH_take (i := 10) (oi := { dst := some 20, op := .move (.tmp 0), type := _, pos := _, after := _, guard := some (9, true) }) (v := .slice (some ⟨b, o, none⟩) n ca) rfl (by kernel_rfl) (by kernel_rfl) (by kernel_rfl) (fun _ _ _ h => h) (Or.inl ⟨by rfl, fun wh hSw => ?_⟩) hHeld ?_
            · (dsimp only at hSw; go_simp)
            try simp only [Act.put, List.setIfInBounds_toArray, List.set_cons_zero, List.set_cons_succ]
            refine wpAnyH_take (i := 11) (oi := { dst := some 21, op := .move (.tmp 3), type := _, pos := _, after := _, guard := some (9, true) }) (v := .int .i64 (k : Int)) rfl (by kernel_rfl) (by kernel_rfl) (by kernel_rfl) (fun _ _ _ h => h) (Or.inl ⟨by rfl, fun wh hSw => ?_⟩) hHeld ?_
            · (dsimp only at hSw; go_simp)
            try simp only [Act.put, List.setIfInBounds_toArray, List.set_cons_zero, List.set_cons_succ]
            refine wpAnyH_take (i := 12) (oi := { dst := some 22, op := .binOp .sub 3 (.tmp 21) (.const (.int .i64 1)) 3, type := _, pos := _, after := _, guard := some (9, true) }) (v := .int .i64 (q : Int)) rfl (by kernel_rfl) (by kernel_rfl) (by kernel_rfl) (fun _ _ _ h => h) (Or.inl ⟨by rfl, fun wh hSw => ?_⟩) hHeld ?_
            · (dsimp only at hSw; go_simp; rw [IntKind.wrap_i64]; omega)
            try simp only [Act.put, List.setIfInBounds_toArray, List.set_cons_zero, List.set_cons_succ]
            refine wpAnyH_take (i := 13) (oi := { dst := some 23, op := .indexAddr 28 (.tmp 20) (.tmp 22), type := _, pos := _, after := _, guard := some (9, true) }) (v := .pointer (some ⟨b, o + q, none⟩)) rfl (by kernel_rfl) (by kernel_rfl) (by kernel_rfl) (fun _ _ _ h => h) (Or.inl ⟨by rfl, fun wh hSw => ?_⟩) hHeld ?_
            · (dsimp only at hSw; go_simp)
            try simp only [Act.put, List.setIfInBounds_toArray, List.set_cons_zero, List.set_cons_succ]
            refine wpAnyH_take (i := 14) (oi := { dst := some 24, op := .load 9 (.tmp 23), type := _, pos := _, after := _, guard := some (9, true) }) (v := .string ⟨y.toArray⟩) rfl (by kernel_rfl) (by kernel_rfl) (by kernel_rfl) (fun _ _ _ h => h) (Or.inl ⟨by rfl, fun wh hSw => ?_⟩) hHeld ?_
            · (dsimp only at hSw; go_simp)
            try simp only [Act.put, List.setIfInBounds_toArray, List.set_cons_zero, List.set_cons_succ]
            refine wpAnyH_take (i := 15) (oi := { dst := some 25, op := .move (.tmp 0), type := _, pos := _, after := _, guard := some (9, true) }) (v := .slice (some ⟨b, o, none⟩) n ca) rfl (by kernel_rfl) (by kernel_rfl) (by kernel_rfl) (fun _ _ _ h => h) (Or.inl ⟨by rfl, fun wh hSw => ?_⟩) hHeld ?_
            · (dsimp only at hSw; go_simp)
            try simp only [Act.put, List.setIfInBounds_toArray, List.set_cons_zero, List.set_cons_succ]
            refine wpAnyH_take (i := 16) (oi := { dst := some 26, op := .move (.tmp 3), type := _, pos := _, after := _, guard := some (9, true) }) (v := .int .i64 (k : Int)) rfl (by kernel_rfl) (by kernel_rfl) (by kernel_rfl) (fun _ _ _ h => h) (Or.inl ⟨by rfl, fun wh hSw => ?_⟩) hHeld ?_
            · (dsimp only at hSw; go_simp)
            try simp only [Act.put, List.setIfInBounds_toArray, List.set_cons_zero, List.set_cons_succ]
            refine wpAnyH_take (i := 17) (oi := { dst := some 27, op := .indexAddr 28 (.tmp 25) (.tmp 26), type := _, pos := _, after := _, guard := some (9, true) }) (v := .pointer (some ⟨b, o + k, none⟩)) rfl (by kernel_rfl) (by kernel_rfl) (by kernel_rfl) (fun _ _ _ h => h) (Or.inl ⟨by rfl, fun wh hSw => ?_⟩) hHeld ?_
            · (dsimp only at hSw; go_simp)
            try simp only [Act.put, List.setIfInBounds_toArray, List.set_cons_zero, List.set_cons_succ]
            refine wpAnyH_take (i := 18) (oi := { dst := some 28, op := .load 9 (.tmp 27), type := _, pos := _, after := _, guard := some (9, true) }) (v := .string ⟨x.toArray⟩) rfl (by kernel_rfl) (by kernel_rfl) (by kernel_rfl) (fun _ _ _ h => h) (Or.inl ⟨by rfl, fun wh hSw => ?_⟩) hHeld ?_
            · (dsimp only at hSw; go_simp)
            try simp only [Act.put, List.setIfInBounds_toArray, List.set_cons_zero, List.set_cons_succ]
            refine wpAnyH_take (i := 19) (oi := { dst := some 29, op := .binOp .geq 9 (.tmp 24) (.tmp 28) 9, type := _, pos := _, after := _, guard := some (9, true) }) (v := .bool false) rfl (by kernel_rfl) (by kernel_rfl) (by kernel_rfl) (fun _ _ _ h => h) (Or.inl ⟨by rfl, fun wh hSw => ?_⟩) hHeld ?_
            · (dsimp only at hSw; go_simp)
            try simp only [Act.put, List.setIfInBounds_toArray, List.set_cons_zero, List.set_cons_succ]
            refine wpAnyH_take (i := 20) (oi := { dst := some 30, op := .pick (.tmp 19) (.tmp 29) (.const (.bool false)), type := _, pos := _, after := _, guard := some (6, false) }) (v := .bool false) rfl (by kernel_rfl) (by kernel_rfl) (by kernel_rfl) (fun _ _ _ h => h) (Or.inl ⟨by rfl, fun wh hSw => ?_⟩) hHeld ?_
            · (dsimp only at hSw; go_simp)
            try simp only [Act.put, List.setIfInBounds_toArray, List.set_cons_zero, List.set_cons_succ]
            refine wpAnyH_take (i := 21) (oi := { dst := some 31, op := .pick (.tmp 16) (.const (.bool true)) (.tmp 30), type := _, pos := _, after := _, guard := none }) (v := .bool false) rfl (by kernel_rfl) (by kernel_rfl) (by kernel_rfl) (fun _ _ _ h => h) (Or.inl ⟨by rfl, fun wh hSw => ?_⟩) hHeld ?_
            · (dsimp only at hSw; go_simp)
            try simp only [Act.put, List.setIfInBounds_toArray, List.set_cons_zero, List.set_cons_succ]
            refine wpAnyH_done (by kernel_rfl) ?_ _
            go_wp2
            go_roundw
            case rel => exact ⟨k + 1, _, by omega, by go_num, HO2, rfl⟩
            case measure => simp [intOf]; omega
    · go_wp2
      go_ret
      have e : k = n := by omega
      refine reads_mk ?_
      rw [rvs, rokTo_all HT.out (by rw [e]; exact HN.out), ← HN.out, Bool.true_and, decide_eq_decide]
      omega
end Go.Proofs.Yticnfekjbknomaa
/- Appending texts to a new slice of texts. -/
namespace Go.Proofs.Yticnfekjbknomaa
open Go.ChangeShapes Go.WideShapes Go.ChangeAt Go.RowKit
set_option linter.unusedVariables false

theorem anyH_gen {P : Program} {md : Region.Mode} {ops : Array Oper} {Q : Exit → Act → World → Prop} {S : World → Prop} {fuel : Nat} {listed : Array Bool} {a : Act} (w : World) (h : ∀ w', w' = w → wpAnyH P md ops Q S fuel listed a w') : wpAnyH P md ops Q S fuel listed a w := h w rfl
/-- a slice that is nil has no room -/
def NilOk (v : Value) : Prop := ∀ n c, v = .slice none n c → n = 0 ∧ c = 0
theorem OwnS.nilOk {w w' : World} {v : Value} {ys : List Bs} (h : OwnS w v ys w') : NilOk v := by
  intro n c e
  rcases h.own.2 with ⟨e2, hz⟩ | ⟨g, cap, cur, e2, _⟩
  · rw [e] at e2
    injection e2 with e1 e2 e3
    omega
  · rw [e] at e2; cases e2
theorem nilOk_some {a : Addr} {n c : Nat} : NilOk (.slice (some a) n c) := fun _ _ e => by cases e
theorem texts_get {zs : List Bs} {j : Nat} {u : Value} (h : (zs.map (fun s : Bs => Value.string ⟨s.toArray⟩))[j]? = some u) : j < zs.length ∧ u = .string ⟨(zs.getD j []).toArray⟩ := by
  have hj : j < zs.length := by
    have := (List.getElem?_eq_some_iff.1 h).1
    simpa using this
  refine ⟨hj, ?_⟩
  rw [getD_map_str hj] at h
  exact (Option.some.inj h).symm
theorem texts_one (zs : List Bs) : ∀ u ∈ zs.map (fun s : Bs => Value.string ⟨s.toArray⟩), u.oneCell' = true := by
  intro u hu
  obtain ⟨s, _, rfl⟩ := List.mem_map.1 hu
  rfl

theorem addN (b o j : Nat) : (⟨b, o, none⟩ : Addr).add j = ⟨b, o + j, none⟩ := by unfold Addr.add; split <;> simp_all
/-- 'append(s, x...)' where s owns its row -/
theorem wp_append_row {a : Act} {w : World} {K : Act → World → Prop} {Q : Exit → Act → World → Prop} {dst : Option Nat} {tt : TypeId} {pos : String} {after : Array Edge} {gd : Option (Nat × Bool)} (s x : Operand)
    (base : Nat) (v : Value) (ys : List Bs) (hs : a.eval s = v) (hown : w.ownsRow base 9 1 v ys.length (ys.map (fun s => .string ⟨s.toArray⟩))) (hbase : base ≤ w.heap.size) (xv : Value) (zs : List Bs) (hx : a.eval x = xv) (hz : Strs w xv zs) (hn : NilOk xv) (hl : ys.length + zs.length ≤ 1000000)
    (h : ∀ v' w', w'.ownsRow base 9 1 v' (ys ++ zs).length ((ys ++ zs).map (fun s => .string ⟨s.toArray⟩)) → (v' = .slice none 0 0 ↔ v = .slice none 0 0 ∧ zs.length = 0) → w.grownBy w' v.ownBlock → K (a.put dst v') w') :
    Oper.wp Try.prog { dst := dst, op := .call { callee := .builtin .append, args := #[s, x], argTypes := #[28, 28] }, type := tt, pos := pos, after := after, guard := gd } a w K Q := by
  obtain ⟨i0, hi, hz0, hz1, hz2⟩ := info_parts strInfo
  obtain ⟨ad, cap, rfl, h1, h2, h3⟩ := hz
  cases ad with
  | none =>
    obtain ⟨e1, e2⟩ := hn _ _ rfl
    subst e2
    have hrun := run_append_owned_none (P := Try.prog) (w := w) base 28 tt 9 i0 1 Try.underlying28 hi v ys.length _ hown
    have hzs : zs = [] := List.length_eq_zero_iff.1 e1
    subst hzs
    have hk := h v w (by rw [List.append_nil]; exact hown) (by simp) (World.grownBy.refl w _)
    unfold Oper.wp
    simp [execOp, resolve, invoke, builtin, hs, hx, hrun, Result.andThen]
    exact hk
  | some ad =>
    have hnews : ∀ j u, (zs.map (fun s : Bs => Value.string ⟨s.toArray⟩))[j]? = some u → w.cell? (ad.add j) = some u := by
      intro j u hj
      obtain ⟨hjl, rfl⟩ := texts_get hj
      obtain ⟨b, o, e, hc⟩ := h3 j hjl
      cases e
      rw [addN]
      exact hc
    obtain ⟨v', w', hr, g2, g3, g4, g5⟩ := run_append_own_at (P := Try.prog) w base 28 tt 9 i0 (.string ⟨#[]⟩) 1 16 Try.underlying28 hi hz0 hz1 hz2 rfl (by decide) v ys.length _ hown ad zs.length cap (zs.map (fun s : Bs => Value.string ⟨s.toArray⟩)) (by simp) hnews (texts_one zs) (by unfold maxLen; omega) (by omega) hbase
    have hk := h v' w' (by rw [List.length_append, List.map_append]; exact g2) g4 g3
    unfold Oper.wp execOp
    simp only [resolve, invoke, builtin, Sem.run_bind, Sem.run_pure, Result.andThen_ok, List.map_toArray, List.map_cons, List.map_nil, hs, hx, hr]
    exact hk
theorem wpList_append_row {ops : Array Oper} {rest : List Oper} {a : Act} {w : World} {Q : Exit → Act → World → Prop} {dst : Option Nat} {tt : TypeId} {pos : String} {after : Array Edge} (s x : Operand)
    (base : Nat) (v : Value) (ys : List Bs) (hs : a.eval s = v) (hown : w.ownsRow base 9 1 v ys.length (ys.map (fun s => .string ⟨s.toArray⟩))) (hbase : base ≤ w.heap.size) (xv : Value) (zs : List Bs) (hx : a.eval x = xv) (hz : Strs w xv zs) (hn : NilOk xv) (hl : ys.length + zs.length ≤ 1000000)
    (h : ∀ v' w', w'.ownsRow base 9 1 v' (ys ++ zs).length ((ys ++ zs).map (fun s => .string ⟨s.toArray⟩)) → (v' = .slice none 0 0 ↔ v = .slice none 0 0 ∧ zs.length = 0) → w.grownBy w' v.ownBlock → wpList Try.prog ops Q rest (a.put dst v') w') :
    wpList Try.prog ops Q ({ dst := dst, op := .call { callee := .builtin .append, args := #[s, x], argTypes := #[28, 28] }, type := tt, pos := pos, after := after, guard := none } :: rest) a w :=
  wpList_plain rfl fun K hK => wp_append_row s x base v ys hs hown hbase xv zs hx hz hn hl (fun v' w' h1 h2 h3 => hK _ _ (h v' w' h1 h2 h3))
/-- 'append(s, x...)' where s is new -/
theorem wp_append_strs {a : Act} {w : World} {K : Act → World → Prop} {Q : Exit → Act → World → Prop} {dst : Option Nat} {tt : TypeId} {pos : String} {after : Array Edge} {gd : Option (Nat × Bool)} (s x : Operand)
    (W0 : World) (v : Value) (ys : List Bs) (hs : a.eval s = v) (hown : OwnS W0 v ys w) (xv : Value) (zs : List Bs) (hx : a.eval x = xv) (hz : Strs w xv zs) (hn : NilOk xv) (hl : ys.length + zs.length ≤ 1000000)
    (h : ∀ v' w', OwnS W0 v' (ys ++ zs) w' → (v' = .slice none 0 0 ↔ v = .slice none 0 0 ∧ zs.length = 0) → w.grownBy w' v.ownBlock → K (a.put dst v') w') :
    Oper.wp Try.prog { dst := dst, op := .call { callee := .builtin .append, args := #[s, x], argTypes := #[28, 28] }, type := tt, pos := pos, after := after, guard := gd } a w K Q :=
  wp_append_row s x W0.heap.size v ys hs hown.own hown.bel.size xv zs hx hz hn hl (fun v' w' h1 h2 h3 => h v' w' ⟨h1, hown.bel.grown h3 hown.bel.size (fun b hb => (hown.own.lt b hb).1)⟩ h2 h3)
theorem wpList_append_strs {ops : Array Oper} {rest : List Oper} {a : Act} {w : World} {Q : Exit → Act → World → Prop} {dst : Option Nat} {tt : TypeId} {pos : String} {after : Array Edge} (s x : Operand)
    (W0 : World) (v : Value) (ys : List Bs) (hs : a.eval s = v) (hown : OwnS W0 v ys w) (xv : Value) (zs : List Bs) (hx : a.eval x = xv) (hz : Strs w xv zs) (hn : NilOk xv) (hl : ys.length + zs.length ≤ 1000000)
    (h : ∀ v' w', OwnS W0 v' (ys ++ zs) w' → (v' = .slice none 0 0 ↔ v = .slice none 0 0 ∧ zs.length = 0) → w.grownBy w' v.ownBlock → wpList Try.prog ops Q rest (a.put dst v') w') :
    wpList Try.prog ops Q ({ dst := dst, op := .call { callee := .builtin .append, args := #[s, x], argTypes := #[28, 28] }, type := tt, pos := pos, after := after, guard := none } :: rest) a w :=
  wpList_plain rfl fun K hK => wp_append_strs s x W0 v ys hs hown xv zs hx hz hn hl (fun v' w' h1 h2 h3 => hK _ _ (h v' w' h1 h2 h3))
end Go.Proofs.Yticnfekjbknomaa
