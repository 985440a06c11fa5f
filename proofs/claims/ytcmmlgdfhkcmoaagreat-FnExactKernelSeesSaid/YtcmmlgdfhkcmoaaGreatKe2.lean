/- What the proofs stand on, part 2. -/
import Derived.Test.YtcmmlgdfhkcmoaaGreatRows
import Derived.Test.YtcmmlgdfhkcmoaaGreatKe1
namespace Go.Proofs.YtcmmlgdfhkcmoaaGreat
open Go.ChangeShapes Go.WideShapes Go.ChangeAt Go.RowKit
set_option linter.unusedVariables false
set_option maxRecDepth 100000
set_option maxRecDepth 100000 in
theorem eqCachedS_any (w : World) (v u : Value) (xs ys : List CV) (h : Cs w v xs) (k : Cs w u ys) : Calls Tryz.prog 103 #[v, u] w (BoolResC w (decide (xs = ys))) := by
  obtain ⟨a, ca, rfl, ha1, ha2, ha3⟩ := h
  obtain ⟨b, cb, rfl, hb1, hb2, hb3⟩ := k
  unfold maxLen at ha2 hb2
  obtain ⟨r, hr⟩ : ∃ r, r = decide (xs = ys) := ⟨_, rfl⟩
  rw [← hr]
  have HR := Lib.hid hr
  have HA := Lib.hid ha3
  have HBs := Lib.hid hb3
  obtain ⟨m, hm⟩ : ∃ m, m = xs.length := ⟨_, rfl⟩
  obtain ⟨n, hn⟩ : ∃ n, n = ys.length := ⟨_, rfl⟩
  have HM := Lib.hid hm
  have HN := Lib.hid hn
  rw [← hm] at ha1 ⊢
  rw [← hn] at hb1 ⊢
  clear hm hn hr ha3 hb3
  by_cases hl : m = n
  · subst hl
    have hl' : ((m : Int) != (m : Int)) = false := by simp
    go_enter Tryz.func103, Tryz.ntmps103
    go_wp2
    go_loopw [5] (fun i wr => ∃ k : Nat, k ≤ m ∧ i = .int .i64 k ∧ Hid (Below w.heap.size w wr) ∧ Hid (xs.take k = ys.take k)) (fun i _ => m - (intOf i).toNat)
    case atStart => exact ⟨0, Nat.zero_le _, rfl, Lib.hid (Below.refl _ _), Lib.hid rfl⟩
    case round =>
      obtain ⟨k, hk, rfl, HBW, HTK⟩ := hrel
      by_cases hlt : k < m
      · obtain ⟨ba, oa, rfl, hfa⟩ := HA.out k (by have := HM.out; omega)
        obtain ⟨bb, ob, rfl, hfb⟩ := HBs.out k (by have := HN.out; omega)
        have hba := block_lt_of_cell hfa.c0
        have hbb := block_lt_of_cell hfb.c0
        obtain ⟨x, hx⟩ : ∃ x, x = xs.getD k c0 := ⟨_, rfl⟩
        obtain ⟨y, hy⟩ : ∃ y, y = ys.getD k c0 := ⟨_, rfl⟩
        rw [← hx] at hfa
        rw [← hy] at hfb
        have HFA := Lib.hid hfa
        have HFB := Lib.hid hfb
        have HX := Lib.hid hx
        have HY := Lib.hid hy
        have FA : Hid (Four wr.drew ba (oa + k * 4) x) := Lib.hid (hfa.below HBW.out.drew hba)
        have FB : Hid (Four wr.drew bb (ob + k * 4) y) := Lib.hid (hfb.below HBW.out.drew hbb)
        have HC1 := Lib.hid (eqCached_any wr.drew x y)
        clear hx hy hfa hfb
        by_cases he : x = y
        · rw [decide_eq_true he] at HC1
          have HT2 : Hid (xs.take (k + 1) = ys.take (k + 1)) := Lib.hid (take_eq_succ (d := c0) (by rw [← HM.out, ← HN.out]) (by have := HM.out; omega) HTK.out (by rw [← HX.out, ← HY.out]; exact he))
          clear he
          go_wp2_with fail
          refine wp_region_held_drew (S := fun w' => Four w' ba (oa + k * 4) x ∧ Four w' bb (ob + k * 4) y) (by kernel_rfl) ⟨FA.out, FB.out⟩ (fun hHeld => ?_)
          refine wpAnyH_take (i := 0) (oi := { dst := some 17, op := .move (.tmp 0), type := _, pos := _, after := _, guard := none }) (v := .slice (some ⟨ba, oa, none⟩) m ca) rfl (by kernel_rfl) (by kernel_rfl) (by kernel_rfl) (fun _ _ _ h => h) (Or.inl ⟨by rfl, fun wh hSw => ?_⟩) hHeld ?_
          · (obtain ⟨⟨s0, s1, s2, s3⟩, t0, t1, t2, t3⟩ := hSw; go_simp)
          try simp only [Act.put, List.setIfInBounds_toArray, List.set_cons_zero, List.set_cons_succ]
          refine wpAnyH_take (i := 1) (oi := { dst := some 18, op := .move (.tmp 5), type := _, pos := _, after := _, guard := none }) (v := .int .i64 (k : Int)) rfl (by kernel_rfl) (by kernel_rfl) (by kernel_rfl) (fun _ _ _ h => h) (Or.inl ⟨by rfl, fun wh hSw => ?_⟩) hHeld ?_
          · (obtain ⟨⟨s0, s1, s2, s3⟩, t0, t1, t2, t3⟩ := hSw; go_simp)
          try simp only [Act.put, List.setIfInBounds_toArray, List.set_cons_zero, List.set_cons_succ]
          refine wpAnyH_take (i := 2) (oi := { dst := some 19, op := .indexAddr 28 (.tmp 17) (.tmp 18), type := _, pos := _, after := _, guard := none }) (v := .pointer (some ⟨ba, oa + k * 4, none⟩)) rfl (by kernel_rfl) (by kernel_rfl) (by kernel_rfl) (fun _ _ _ h => h) (Or.inl ⟨by rfl, fun wh hSw => ?_⟩) hHeld ?_
          · (obtain ⟨⟨s0, s1, s2, s3⟩, t0, t1, t2, t3⟩ := hSw; go_simp)
          try simp only [Act.put, List.setIfInBounds_toArray, List.set_cons_zero, List.set_cons_succ]
          refine wpAnyH_take (i := 3) (oi := { dst := some 20, op := .load 55 (.tmp 19), type := _, pos := _, after := _, guard := none }) (v := cvV x) rfl (by kernel_rfl) (by kernel_rfl) (by kernel_rfl) (fun _ _ _ h => h) (Or.inl ⟨by rfl, fun wh hSw => ?_⟩) hHeld ?_
          · (obtain ⟨⟨s0, s1, s2, s3⟩, t0, t1, t2, t3⟩ := hSw; go_simp)
          try simp only [Act.put, List.setIfInBounds_toArray, List.set_cons_zero, List.set_cons_succ]
          refine wpAnyH_take (i := 4) (oi := { dst := some 21, op := .move (.tmp 1), type := _, pos := _, after := _, guard := none }) (v := .slice (some ⟨bb, ob, none⟩) m cb) rfl (by kernel_rfl) (by kernel_rfl) (by kernel_rfl) (fun _ _ _ h => h) (Or.inl ⟨by rfl, fun wh hSw => ?_⟩) hHeld ?_
          · (obtain ⟨⟨s0, s1, s2, s3⟩, t0, t1, t2, t3⟩ := hSw; go_simp)
          try simp only [Act.put, List.setIfInBounds_toArray, List.set_cons_zero, List.set_cons_succ]
          refine wpAnyH_take (i := 5) (oi := { dst := some 22, op := .move (.tmp 5), type := _, pos := _, after := _, guard := none }) (v := .int .i64 (k : Int)) rfl (by kernel_rfl) (by kernel_rfl) (by kernel_rfl) (fun _ _ _ h => h) (Or.inl ⟨by rfl, fun wh hSw => ?_⟩) hHeld ?_
          · (obtain ⟨⟨s0, s1, s2, s3⟩, t0, t1, t2, t3⟩ := hSw; go_simp)
          try simp only [Act.put, List.setIfInBounds_toArray, List.set_cons_zero, List.set_cons_succ]
          refine wpAnyH_take (i := 6) (oi := { dst := some 23, op := .indexAddr 28 (.tmp 21) (.tmp 22), type := _, pos := _, after := _, guard := none }) (v := .pointer (some ⟨bb, ob + k * 4, none⟩)) rfl (by kernel_rfl) (by kernel_rfl) (by kernel_rfl) (fun _ _ _ h => h) (Or.inl ⟨by rfl, fun wh hSw => ?_⟩) hHeld ?_
          · (obtain ⟨⟨s0, s1, s2, s3⟩, t0, t1, t2, t3⟩ := hSw; go_simp)
          try simp only [Act.put, List.setIfInBounds_toArray, List.set_cons_zero, List.set_cons_succ]
          refine wpAnyH_take (i := 7) (oi := { dst := some 24, op := .load 55 (.tmp 23), type := _, pos := _, after := _, guard := none }) (v := cvV y) rfl (by kernel_rfl) (by kernel_rfl) (by kernel_rfl) (fun _ _ _ h => h) (Or.inl ⟨by rfl, fun wh hSw => ?_⟩) hHeld ?_
          · (obtain ⟨⟨s0, s1, s2, s3⟩, t0, t1, t2, t3⟩ := hSw; go_simp)
          try simp only [Act.put, List.setIfInBounds_toArray, List.set_cons_zero, List.set_cons_succ]
          refine wpAnyH_ready (rs := [8]) (by kernel_rfl) (by simp) ?_
          refine AllReadyH.cons (o := { dst := some 25, op := .call { callee := .value (.func 159), args := #[.tmp 20, .tmp 24], argTypes := #[55, 55] }, type := _, pos := _, after := _, guard := none }) rfl (fun K hK => ?_) AllReadyH.nil
          go_simp
          refine HC1.out.mono ?_
          rintro e w1 ⟨rfl, hb1⟩
          have HB1 := Lib.hid ((HBW.out.drew).trans (hb1.mono HBW.out.size))
          clear hb1
          try go_simp
          refine hK.out _ _ ?_ (fun hHeld => ?_)
          · exact ⟨HFA.out.below HB1.out hba, HFB.out.below HB1.out hbb⟩
          clear hK K
          try simp only [Act.put, List.setIfInBounds_toArray, List.set_cons_zero, List.set_cons_succ]
          refine wpAnyH_take (i := 9) (oi := { dst := some 26, op := .unOp .not 4 (.tmp 25), type := _, pos := _, after := _, guard := none }) (v := .bool false) rfl (by kernel_rfl) (by kernel_rfl) (by kernel_rfl) (fun _ _ _ h => h) (Or.inl ⟨by rfl, fun wh hSw => ?_⟩) hHeld ?_
          · (obtain ⟨⟨s0, s1, s2, s3⟩, t0, t1, t2, t3⟩ := hSw; go_simp)
          try simp only [Act.put, List.setIfInBounds_toArray, List.set_cons_zero, List.set_cons_succ]
          refine wpAnyH_done (by kernel_rfl) ?_ _
          go_wp2
          go_roundw
          case rel => exact ⟨k + 1, by omega, by go_num, HB1, HT2⟩
          case measure => simp [intOf]; omega
        · rw [decide_eq_false he] at HC1
          have HF : Hid (r = false) := Lib.hid (by rw [HR.out]; exact decide_eq_false (fun hh => he (by rw [HX.out, HY.out, hh])))
          clear he
          go_wp2_with fail
          refine wp_region_held_drew (S := fun w' => Four w' ba (oa + k * 4) x ∧ Four w' bb (ob + k * 4) y) (by kernel_rfl) ⟨FA.out, FB.out⟩ (fun hHeld => ?_)
          refine wpAnyH_take (i := 0) (oi := { dst := some 17, op := .move (.tmp 0), type := _, pos := _, after := _, guard := none }) (v := .slice (some ⟨ba, oa, none⟩) m ca) rfl (by kernel_rfl) (by kernel_rfl) (by kernel_rfl) (fun _ _ _ h => h) (Or.inl ⟨by rfl, fun wh hSw => ?_⟩) hHeld ?_
          · (obtain ⟨⟨s0, s1, s2, s3⟩, t0, t1, t2, t3⟩ := hSw; go_simp)
          try simp only [Act.put, List.setIfInBounds_toArray, List.set_cons_zero, List.set_cons_succ]
          refine wpAnyH_take (i := 1) (oi := { dst := some 18, op := .move (.tmp 5), type := _, pos := _, after := _, guard := none }) (v := .int .i64 (k : Int)) rfl (by kernel_rfl) (by kernel_rfl) (by kernel_rfl) (fun _ _ _ h => h) (Or.inl ⟨by rfl, fun wh hSw => ?_⟩) hHeld ?_
          · (obtain ⟨⟨s0, s1, s2, s3⟩, t0, t1, t2, t3⟩ := hSw; go_simp)
          try simp only [Act.put, List.setIfInBounds_toArray, List.set_cons_zero, List.set_cons_succ]
          refine wpAnyH_take (i := 2) (oi := { dst := some 19, op := .indexAddr 28 (.tmp 17) (.tmp 18), type := _, pos := _, after := _, guard := none }) (v := .pointer (some ⟨ba, oa + k * 4, none⟩)) rfl (by kernel_rfl) (by kernel_rfl) (by kernel_rfl) (fun _ _ _ h => h) (Or.inl ⟨by rfl, fun wh hSw => ?_⟩) hHeld ?_
          · (obtain ⟨⟨s0, s1, s2, s3⟩, t0, t1, t2, t3⟩ := hSw; go_simp)
          try simp only [Act.put, List.setIfInBounds_toArray, List.set_cons_zero, List.set_cons_succ]
          refine wpAnyH_take (i := 3) (oi := { dst := some 20, op := .load 55 (.tmp 19), type := _, pos := _, after := _, guard := none }) (v := cvV x) rfl (by kernel_rfl) (by kernel_rfl) (by kernel_rfl) (fun _ _ _ h => h) (Or.inl ⟨by rfl, fun wh hSw => ?_⟩) hHeld ?_
          · (obtain ⟨⟨s0, s1, s2, s3⟩, t0, t1, t2, t3⟩ := hSw; go_simp)
          try simp only [Act.put, List.setIfInBounds_toArray, List.set_cons_zero, List.set_cons_succ]
          refine wpAnyH_take (i := 4) (oi := { dst := some 21, op := .move (.tmp 1), type := _, pos := _, after := _, guard := none }) (v := .slice (some ⟨bb, ob, none⟩) m cb) rfl (by kernel_rfl) (by kernel_rfl) (by kernel_rfl) (fun _ _ _ h => h) (Or.inl ⟨by rfl, fun wh hSw => ?_⟩) hHeld ?_
          · (obtain ⟨⟨s0, s1, s2, s3⟩, t0, t1, t2, t3⟩ := hSw; go_simp)
          try simp only [Act.put, List.setIfInBounds_toArray, List.set_cons_zero, List.set_cons_succ]
          refine wpAnyH_take (i := 5) (oi := { dst := some 22, op := .move (.tmp 5), type := _, pos := _, after := _, guard := none }) (v := .int .i64 (k : Int)) rfl (by kernel_rfl) (by kernel_rfl) (by kernel_rfl) (fun _ _ _ h => h) (Or.inl ⟨by rfl, fun wh hSw => ?_⟩) hHeld ?_
          · (obtain ⟨⟨s0, s1, s2, s3⟩, t0, t1, t2, t3⟩ := hSw; go_simp)
          try simp only [Act.put, List.setIfInBounds_toArray, List.set_cons_zero, List.set_cons_succ]
          refine wpAnyH_take (i := 6) (oi := { dst := some 23, op := .indexAddr 28 (.tmp 21) (.tmp 22), type := _, pos := _, after := _, guard := none }) (v := .pointer (some ⟨bb, ob + k * 4, none⟩)) rfl (by kernel_rfl) (by kernel_rfl) (by kernel_rfl) (fun _ _ _ h => h) (Or.inl ⟨by rfl, fun wh hSw => ?_⟩) hHeld ?_
          · (obtain ⟨⟨s0, s1, s2, s3⟩, t0, t1, t2, t3⟩ := hSw; go_simp)
          try simp only [Act.put, List.setIfInBounds_toArray, List.set_cons_zero, List.set_cons_succ]
          refine wpAnyH_take (i := 7) (oi := { dst := some 24, op := .load 55 (.tmp 23), type := _, pos := _, after := _, guard := none }) (v := cvV y) rfl (by kernel_rfl) (by kernel_rfl) (by kernel_rfl) (fun _ _ _ h => h) (Or.inl ⟨by rfl, fun wh hSw => ?_⟩) hHeld ?_
          · (obtain ⟨⟨s0, s1, s2, s3⟩, t0, t1, t2, t3⟩ := hSw; go_simp)
          try simp only [Act.put, List.setIfInBounds_toArray, List.set_cons_zero, List.set_cons_succ]
          refine wpAnyH_ready (rs := [8]) (by kernel_rfl) (by simp) ?_
          refine AllReadyH.cons (o := { dst := some 25, op := .call { callee := .value (.func 159), args := #[.tmp 20, .tmp 24], argTypes := #[55, 55] }, type := _, pos := _, after := _, guard := none }) rfl (fun K hK => ?_) AllReadyH.nil
          go_simp
          refine HC1.out.mono ?_
          rintro e w1 ⟨rfl, hb1⟩
          have HB1 := Lib.hid ((HBW.out.drew).trans (hb1.mono HBW.out.size))
          clear hb1
          try go_simp
          refine hK.out _ _ ?_ (fun hHeld => ?_)
          · exact ⟨HFA.out.below HB1.out hba, HFB.out.below HB1.out hbb⟩
          clear hK K
          try simp only [Act.put, List.setIfInBounds_toArray, List.set_cons_zero, List.set_cons_succ]
          refine wpAnyH_take (i := 9) (oi := { dst := some 26, op := .unOp .not 4 (.tmp 25), type := _, pos := _, after := _, guard := none }) (v := .bool true) rfl (by kernel_rfl) (by kernel_rfl) (by kernel_rfl) (fun _ _ _ h => h) (Or.inl ⟨by rfl, fun wh hSw => ?_⟩) hHeld ?_
          · (obtain ⟨⟨s0, s1, s2, s3⟩, t0, t1, t2, t3⟩ := hSw; go_simp)
          try simp only [Act.put, List.setIfInBounds_toArray, List.set_cons_zero, List.set_cons_succ]
          refine wpAnyH_done (by kernel_rfl) ?_ _
          go_wp2
          go_ret
          exact ⟨by rw [HF.out]; rfl, HB1.out⟩
      · have ek : k = m := by omega
        subst ek
        have HF : Hid (r = true) := Lib.hid (by rw [HR.out]; exact decide_eq_true (eq_of_take (by rw [← HM.out, ← HN.out]) HM.out HTK.out))
        go_wp2
        go_ret
        exact ⟨by rw [HF.out]; rfl, HBW.out⟩
  · have hl' : ((m : Int) != (n : Int)) = true := by simp; omega
    have HF : Hid (r = false) := Lib.hid (by rw [HR.out]; exact decide_eq_false (fun hh => hl (by rw [HM.out, HN.out, hh])))
    go_enter Tryz.func103, Tryz.ntmps103
    go_wp2
    go_ret
    exact ⟨by rw [HF.out]; rfl, Below.refl _ _⟩
end Go.Proofs.YtcmmlgdfhkcmoaaGreat
namespace Go.Proofs.YtcmmlgdfhkcmoaaGreat
open Go.ChangeShapes Go.WideShapes Go.ChangeAt Go.RowKit
set_option linter.unusedVariables false
set_option maxRecDepth 100000
structure FourW (w : World) (b o : Nat) (x : CV) : Prop where
  at4 : Four w b o x
  fr : ∀ j, j < 4 → w.frozen? ⟨b, o + j, none⟩ = false
def CsW (w : World) (B0 B1 : Nat) (v : Value) (xs : List CV) : Prop :=
  ∃ (a : Option Addr) (cap : Nat), v = .slice a xs.length cap ∧ xs.length ≤ cap ∧ cap ≤ maxLen ∧
    ∀ i, i < xs.length → ∃ g p, a = some ⟨g, p, none⟩ ∧ B0 ≤ g ∧ g < B1 ∧ FourW w g (p + i * 4) (xs.getD i c0)
theorem CsW.cs {w : World} {B0 B1 : Nat} {v : Value} {xs : List CV} (h : CsW w B0 B1 v xs) : Cs w v xs := by
  obtain ⟨a, cap, rfl, h1, h2, h3⟩ := h
  refine ⟨a, cap, rfl, h1, h2, fun i hi => ?_⟩
  obtain ⟨g, p, e, _, _, hf⟩ := h3 i hi
  exact ⟨g, p, e, hf.at4⟩
theorem FourW.block {w w' : World} {b o : Nat} {x : CV} (h : FourW w b o x) (e : w'.heap[b]? = w.heap[b]?) : FourW w' b o x :=
  ⟨⟨(World.cell?_of_block e).trans h.at4.c0, (World.cell?_of_block e).trans h.at4.c1, (World.cell?_of_block e).trans h.at4.c2, (World.cell?_of_block e).trans h.at4.c3⟩, fun j hj => (World.frozen?_of_block e).trans (h.fr j hj)⟩
theorem FourW.there {w : World} {b o : Nat} {x : CV} (h : FourW w b o x) : w.there b o 4 := fun j hj => by
  refine ⟨?_, h.fr j hj⟩
  obtain rfl | rfl | rfl | rfl : j = 0 ∨ j = 1 ∨ j = 2 ∨ j = 3 := by omega
  · rw [Nat.add_zero, h.at4.c0]; rfl
  · rw [h.at4.c1]; rfl
  · rw [h.at4.c2]; rfl
  · rw [h.at4.c3]; rfl
theorem FourW.stored {w : World} {b o : Nat} {x : CV} (h : w.there b o 4) : FourW (w.setCells b o (cvC x)) b o x := by
  have hr := World.rangeAt_setCells_same w b o (cvC x) h
  exact ⟨⟨hr 0 _ rfl, hr 1 _ rfl, hr 2 _ rfl, hr 3 _ rfl⟩, fun j hj => by rw [World.frozen?_setCells]; exact (h j hj).2⟩
theorem FourW.apart {w : World} {b o o' : Nat} {x : CV} {vs : List Value} (h : FourW w b o' x) (ha : o' + 4 ≤ o ∨ o + vs.length ≤ o') : FourW (w.setCells b o vs) b o' x := by
  have hr : w.rangeAt b o' (cvC x) := fun j v hv => by
    have hj : j < 4 := (List.getElem?_eq_some_iff.1 hv).1
    obtain rfl | rfl | rfl | rfl : j = 0 ∨ j = 1 ∨ j = 2 ∨ j = 3 := by omega
    · cases hv; exact h.at4.c0
    · cases hv; exact h.at4.c1
    · cases hv; exact h.at4.c2
    · cases hv; exact h.at4.c3
  have h2 := World.rangeAt_setCells_apart hr b o vs (.inr ha)
  exact ⟨⟨h2 0 _ rfl, h2 1 _ rfl, h2 2 _ rfl, h2 3 _ rfl⟩, fun j hj => by rw [World.frozen?_setCells]; exact h.fr j hj⟩
theorem CsW.of_own {w w' : World} {v : Value} {ys : List CV} (h : OwnC w v ys w') : CsW w' w.heap.size w'.heap.size v ys := by
  have hc := h.cs
  rcases h.own.2 with ⟨e, _⟩ | ⟨g, cap, cur, rfl, hb, hbl, hnc, hcm, hcs, htk⟩
  · exact absurd e h.nn
  · refine ⟨some ⟨g, 0, none⟩, cap, rfl, hnc, hcm, fun i hi => ⟨g, 0, rfl, hb, (Array.getElem?_eq_some_iff.1 hbl).1, ?_, fun j hj => frozen_of_row w' g _ cur _ hbl⟩⟩
    obtain ⟨a, cp, e, _, _, h3⟩ := hc
    obtain ⟨b, o, e2, hf⟩ := h3 i hi
    injection e with e _ _
    rw [← e] at e2
    injection e2 with e2
    injection e2 with e3 e4
    subst e3; subst e4
    exact hf
def NewCR (ys : List CV) (w : World) (e : Ending) (w' : World) : Prop := ∃ v, e = .returned v ∧ CsW w' w.heap.size w'.heap.size v ys ∧ Below w.heap.size w w'
set_option maxRecDepth 100000 in
theorem toCached_any (w : World) (x : CV) : Calls Tryz.prog 156 #[cvV x] w fun e w' => e = .returned (cvV x) ∧ Below w.heap.size w w' := by
  obtain ⟨xe, xp, xf, xb⟩ := x
  go_enter Tryz.func156, Tryz.ntmps156
  go_wp2
  refine bodyPost_ret (results_cell_row rfl _ _ (w.heap.size + 1) 55 #[.int .i64 xe, .int .i64 xp, .int .i64 xf, .bool xb] (0, 0) _ rfl (by
    have h := heap_alloc_new (w.alloc (.cells #[.int .i64 xe, .int .i64 xp, .int .i64 xf, .bool xb] 203)) (.cells #[.int .i64 xe, .int .i64 xp, .int .i64 xf, .bool xb] 55)
    rw [World.size_alloc] at h
    exact (Below.heap_alloc _ _ _ (by simp)).trans h) Tryz.underlying55 rfl (by kernel_rfl)) rfl ?_
  exact ⟨rfl, (((Below.refl _ _).alloc (Nat.le_refl _) _).alloc (by simp) _).alloc (by simp; omega) _⟩
theorem szCachedS_any (w : World) (v : Value) (xs : List CV) (left : Int) (h : Cs w v xs) (hl : 0 ≤ left ∧ left ≤ 1048576) :
    Calls Tryz.prog 95 #[v, .int .i64 left] w fun e w' => e = .returned (.int .i64 (if (xs.length : Int) ≤ left then left - xs.length else -1)) ∧ w = w' := by
  obtain ⟨a, cap, rfl, h1, h2, h3⟩ := h
  unfold maxLen at h2
  by_cases hc : (xs.length : Int) ≤ left
  · rw [if_pos hc]
    go_enter Tryz.func95, Tryz.ntmps95
    go_wp2
    go_ret
    exact ⟨rfl, rfl⟩
  · rw [if_neg hc]
    have hc' : decide (left - (xs.length : Int) < 0) = true := by simp; omega
    go_enter Tryz.func95, Tryz.ntmps95
    go_wp2
    go_ret
    exact ⟨rfl, rfl⟩
def part4 (xs : List CV) (k i : Nat) : CV := if i < k then xs.getD i c0 else c0
set_option maxRecDepth 100000 in
set_option maxHeartbeats 1000000 in
theorem toCachedS_any (w : World) (v : Value) (xs : List CV) (h : Cs w v xs) (hn : xs.length ≤ 1048576) :
    Calls Tryz.prog 99 #[v] w (NewCR xs w) := by
  obtain ⟨i0, hi, hz0, hz1, hz2⟩ := info_parts cvInfo
  have HI := Lib.hid hi
  have HZ0 := Lib.hid hz0
  have HZ1 := Lib.hid hz1
  have HZ2 := Lib.hid hz2
  clear hi hz0 hz1 hz2
  obtain ⟨a, ca, rfl, hla, hma, hxa⟩ := h
  unfold maxLen at hma
  obtain ⟨n, hN⟩ : ∃ n, n = xs.length := ⟨_, rfl⟩
  have HXA := Lib.hid hxa
  rw [← hN] at hla hn ⊢
  have HN := Lib.hid hN
  clear hN hxa
  go_enter Tryz.func99, Tryz.ntmps99
  go_wp2_with (at_make; refine wpList_make_full _ rfl (.tmp 6) (.tmp 6) 28 rfl w.heap.size 55 i0 (.agg #[.int .i64 0, .int .i64 0, .int .i64 0, .bool false]) 4 Tryz.underlying28 HI.out HZ0.out HZ1.out .i64 .i64 _ _ n rfl rfl rfl rfl (by rw [HZ2.out]; omega) (by unfold maxLen; omega) (Nat.le_refl _) ?_; intro w1 hown hg)
  have HST : Hid (∀ i, i < n → FourW w1 w.heap.size (0 + i * 4) (part4 xs 0 i)) := Lib.hid (fun i hi => by
    have hc : ∀ j v, j < 4 → (#[Value.int .i64 0, .int .i64 0, .int .i64 0, .bool false] : Array Value)[j]? = some v → w1.cell? ⟨w.heap.size, 0 + i * 4 + j, none⟩ = some v := fun j v hj hv => by
      have := hown.cells (g := w.heap.size) rfl (i * 4 + j) v (by
        rw [Array.getElem?_toList]
        unfold madeCells
        rw [Array.getElem?_map, Array.getElem?_range, if_pos (by omega)]
        simp only [Option.map_some, Value.cells]
        rw [← hv]
        have e : (i * 4 + j) % 4 = j := by omega
        simp only [List.size_toArray, List.length_cons, List.length_nil, e]
        obtain rfl | rfl | rfl | rfl : j = 0 ∨ j = 1 ∨ j = 2 ∨ j = 3 := by omega
        all_goals simp)
      rw [add0] at this
      rw [Nat.zero_add]
      exact this
    exact ⟨⟨hc 0 _ (by omega) rfl, hc 1 _ (by omega) rfl, hc 2 _ (by omega) rfl, hc 3 _ (by omega) rfl⟩, fun j _ => hown.frozenAt _⟩)
  have HB1 : Hid (Below w.heap.size w w1) := Lib.hid ((Below.refl _ _).grown hg (Nat.le_refl _) (fun k e => by cases e))
  have HS1 : Hid (w.heap.size < w1.heap.size) := Lib.hid (hown.lt _ rfl).2
  clear hown hg
  go_loopw [4] (fun i wr => ∃ k : Nat, k ≤ n ∧ i = .int .i64 k ∧ Hid (Below w.heap.size w wr) ∧ Hid (w.heap.size < wr.heap.size) ∧ Hid (∀ i, i < n → FourW wr w.heap.size (0 + i * 4) (part4 xs k i))) (fun i _ => n - (intOf i).toNat)
  case atStart => exact ⟨0, Nat.zero_le _, rfl, HB1, HS1, HST⟩
  case round =>
    obtain ⟨k, hk, rfl, HBW, HSW, HFW⟩ := hrel
    by_cases hlt : k < n
    · obtain ⟨b, o, rfl, hf0⟩ := HXA.out k (by have := HN.out; omega)
      obtain ⟨x, hx⟩ : ∃ x, x = xs.getD k c0 := ⟨_, rfl⟩
      rw [← hx] at hf0
      have hbl := block_lt_of_cell hf0.c0
      obtain ⟨g0, g1, g2, g3⟩ := hf0.below HBW.out hbl
      have HX := Lib.hid hx
      have HC := Lib.hid (toCached_any wr x)
      have hlt' : (k : Int) < (n : Int) := by omega
      clear hx hf0
      go_wp2_with fail
      refine HC.out.mono ?_
      rintro e w2 ⟨rfl, hb2⟩
      have HB2 := Lib.hid (HBW.out.trans (hb2.mono HBW.out.size))
      have HS2 : Hid (w.heap.size < w2.heap.size) := Lib.hid (Nat.lt_of_lt_of_le HSW.out hb2.size)
      have HF2 : Hid (∀ i, i < n → FourW w2 w.heap.size (0 + i * 4) (part4 xs k i)) := Lib.hid (fun i hi => (HFW.out i hi).block (hb2.block _ HSW.out))
      have HT : Hid (w2.there w.heap.size (k * 4) 4) := Lib.hid (by
        have h := HF2.out k hlt
        rw [Nat.zero_add] at h
        exact h.there)
      clear hb2
      go_wp2_with ((with_reducible refine store_is 55 (.tmp 21) (.tmp 20) ?_); refine store_arr 55 (.tmp 21) (.tmp 20) w.heap.size (k * 4) #[.int .i64 x.e, .int .i64 x.p, .int .i64 x.f, .bool x.b] rfl rfl HT.out (by kernel_rfl) (by simp [Value.oneCell']) ?_)
      go_roundw
      case rel =>
        refine ⟨k + 1, by omega, by go_num, Lib.hid (Below.setCells HB2.out _ (Nat.le_refl _) _ _ _ HB2.out), Lib.hid (by rw [size_setCells]; exact HS2.out), Lib.hid (fun i hi => ?_)⟩
        by_cases hik : i = k
        · subst hik
          have e : part4 xs (i + 1) i = x := by unfold part4; rw [if_pos (by omega), HX.out]
          rw [e, Nat.zero_add]
          exact FourW.stored HT.out
        · have e : part4 xs (k + 1) i = part4 xs k i := by
            unfold part4
            by_cases h : i < k
            · rw [if_pos h, if_pos (by omega)]
            · rw [if_neg h, if_neg (by omega)]
          rw [e]
          exact (HF2.out i hi).apart (by show 0 + i * 4 + 4 ≤ k * 4 ∨ k * 4 + 4 ≤ 0 + i * 4; omega)
      case measure => simp [intOf]; omega
    · have ek : k = n := by omega
      subst ek
      go_wp2
      go_ret
      refine ⟨_, rfl, ⟨some ⟨w.heap.size, 0, none⟩, k, by rw [← HN.out]; rfl, by rw [← HN.out]; exact Nat.le_refl _, by unfold maxLen; omega, fun i hi => ⟨w.heap.size, 0, rfl, Nat.le_refl _, HSW.out, ?_⟩⟩, HBW.out⟩
      have h := HFW.out i (by have := HN.out; omega)
      have e : part4 xs k i = xs.getD i c0 := by unfold part4; rw [if_pos (by have := HN.out; omega)]
      rwa [e] at h
end Go.Proofs.YtcmmlgdfhkcmoaaGreat
namespace Go.Proofs.YtcmmlgdfhkcmoaaGreat
open Go.ChangeShapes Go.WideShapes Go.ChangeAt Go.RowKit
set_option linter.unusedVariables false
set_option maxRecDepth 100000
def Es (w : World) (v : Value) (es : List EV) : Prop :=
  ∃ (a : Option Addr) (cap : Nat), v = .slice a es.length cap ∧ es.length ≤ cap ∧ cap ≤ maxLen ∧
    ∀ i, i < es.length → ∃ b o u, a = some ⟨b, o, none⟩ ∧ w.cell? ⟨b, o + i * 2, none⟩ = some u ∧ w.cell? ⟨b, o + i * 2 + 1, none⟩ = some (.int .i64 (es.getD i ez).t) ∧ Strs w u (es.getD i ez).r
theorem Es.below {w w' : World} {v : Value} {es : List EV} (h : Es w v es) (hb : Below w.heap.size w w') : Es w' v es := by
  obtain ⟨a, cap, rfl, h1, h2, h3⟩ := h
  refine ⟨a, cap, rfl, h1, h2, fun i hi => ?_⟩
  obtain ⟨b, o, u, rfl, hc, hd, hu⟩ := h3 i hi
  exact ⟨b, o, u, rfl, (hb.cell (p := ⟨b, o + i * 2, none⟩) (cell_lt hc)).trans hc, (hb.cell (p := ⟨b, o + i * 2 + 1, none⟩) (cell_lt hd)).trans hd, hu.below hb⟩
theorem StrsW.of_blocks {w w' : World} {B0 B1 : Nat} {v : Value} {xs : List Bs} (h : StrsW w B0 B1 v xs) (e : ∀ b, B0 ≤ b → b < B1 → w'.heap[b]? = w.heap[b]?) : StrsW w' B0 B1 v xs := by
  obtain ⟨a, cap, rfl, h1, h2, h3⟩ := h
  refine ⟨a, cap, rfl, h1, h2, fun i hi => ?_⟩
  obtain ⟨g, p, ea, hg0, hg1, hc, hf⟩ := h3 i hi
  have hb := e g hg0 hg1
  exact ⟨g, p, ea, hg0, hg1, (World.cell?_of_block hb).trans hc, (World.frozen?_of_block hb).trans hf⟩
abbrev kV (vm vi ve vc : Value) : Value := .agg #[vm, vi, ve, vc]
structure Ks (w : World) (vm vi ve vc : Value) (K : KV) : Prop where
  m : Rows2 w vm K.m
  i : Is w vi K.i
  e : Es w ve K.e
  c : Cs w vc K.c
theorem Ks.below {w w' : World} {vm vi ve vc : Value} {K : KV} (h : Ks w vm vi ve vc K) (hb : Below w.heap.size w w') : Ks w' vm vi ve vc K :=
  ⟨h.m.below hb, h.i.below hb, h.e.below hb, h.c.below hb⟩
structure TAt (w : World) (B0 B1 : Nat) (s : Nat) (a : Option Addr) (n : Nat) (A : Nat → Option Addr) (L C : Nat → Nat) (X : Nat → Nat → Bs) : Prop where
  top : ∀ j, j < n → ∃ b o, a = some ⟨b, o, none⟩ ∧ B0 ≤ b ∧ b < B1 ∧ w.cell? ⟨b, o + j * s, none⟩ = some (.slice (A j) (L j) (C j)) ∧ L j ≤ C j ∧ C j ≤ maxLen ∧ w.frozen? ⟨b, o + j * s, none⟩ = false
  row : ∀ j, j < n → ∀ i, i < L j → ∃ g p, A j = some ⟨g, p, none⟩ ∧ B0 ≤ g ∧ g < B1 ∧ w.cell? ⟨g, p + i, none⟩ = some (.string ⟨(X j i).toArray⟩) ∧ w.frozen? ⟨g, p + i, none⟩ = false ∧ ∀ b o, a = some ⟨b, o, none⟩ → g ≠ b
  apart : ∀ j, j < n → ∀ j', j' < n → j ≠ j' → 0 < L j → 0 < L j' → ∀ g p g' p', A j = some ⟨g, p, none⟩ → A j' = some ⟨g', p', none⟩ → g ≠ g'
theorem TAt.of_blocks {w w' : World} {B0 B1 s : Nat} {a : Option Addr} {n : Nat} {A : Nat → Option Addr} {L C : Nat → Nat} {X : Nat → Nat → Bs} (h : TAt w B0 B1 s a n A L C X)
    (e : ∀ b, B0 ≤ b → b < B1 → w'.heap[b]? = w.heap[b]?) : TAt w' B0 B1 s a n A L C X := by
  refine ⟨fun j hj => ?_, fun j hj i hi => ?_, h.apart⟩
  · obtain ⟨b, o, e1, h1, h2, h3, h4⟩ := h.top j hj
    exact ⟨b, o, e1, h1, h2, (World.cell?_of_block (e b h1 h2)).trans h3, h4.1, h4.2.1, (World.frozen?_of_block (e b h1 h2)).trans h4.2.2⟩
  · obtain ⟨g, p, e1, h1, h2, h3, h4, h5⟩ := h.row j hj i hi
    exact ⟨g, p, e1, h1, h2, (World.cell?_of_block (e g h1 h2)).trans h3, (World.frozen?_of_block (e g h1 h2)).trans h4, h5⟩
theorem TAt.chg {lo hi B0 B1 s : Nat} {w w' : World} {a : Option Addr} {n : Nat} {A : Nat → Option Addr} {L C : Nat → Nat} {X : Nat → Nat → Bs} (h : TAt w B0 B1 s a n A L C X) (c : Chg lo hi w w') (hB : B1 ≤ w.heap.size) (hh : B1 ≤ lo ∨ hi ≤ B0) : TAt w' B0 B1 s a n A L C X :=
  h.of_blocks (fun b h0 h1 => c.block b (by omega) (by omega))
def RAt (w : World) (B0 B1 : Nat) (a : Option Addr) (n : Nat) (R : Nat → Int) : Prop :=
  ∀ j, j < n → ∃ b o, a = some ⟨b, o, none⟩ ∧ B0 ≤ b ∧ b < B1 ∧ w.cell? ⟨b, o + j * 2 + 1, none⟩ = some (.int .i64 (R j)) ∧ w.frozen? ⟨b, o + j * 2 + 1, none⟩ = false
theorem RAt.of_blocks {w w' : World} {B0 B1 : Nat} {a : Option Addr} {n : Nat} {R : Nat → Int} (h : RAt w B0 B1 a n R) (e : ∀ b, B0 ≤ b → b < B1 → w'.heap[b]? = w.heap[b]?) : RAt w' B0 B1 a n R := fun j hj => by
  obtain ⟨b, o, e1, h1, h2, h3, h4⟩ := h j hj
  exact ⟨b, o, e1, h1, h2, (World.cell?_of_block (e b h1 h2)).trans h3, (World.frozen?_of_block (e b h1 h2)).trans h4⟩
def EsW (w : World) (B0 B1 : Nat) (v : Value) (es : List EV) : Prop :=
  ∃ (a : Option Addr) (cap : Nat) (A : Nat → Option Addr) (C : Nat → Nat), v = .slice a es.length cap ∧ es.length ≤ cap ∧ cap ≤ maxLen ∧
    TAt w B0 B1 2 a es.length A (fun j => (es.getD j ez).r.length) C (fun j i => (es.getD j ez).r.getD i []) ∧ RAt w B0 B1 a es.length (fun j => (es.getD j ez).t)
theorem EsW.es {w : World} {B0 B1 : Nat} {v : Value} {es : List EV} (h : EsW w B0 B1 v es) : Es w v es := by
  obtain ⟨a, cap, A, C, rfl, h1, h2, h3, h4⟩ := h
  refine ⟨a, cap, rfl, h1, h2, fun i hi => ?_⟩
  obtain ⟨b, o, rfl, _, _, hc, hl, hm, _⟩ := h3.top i hi
  obtain ⟨b', o', e', _, _, hr, _⟩ := h4 i hi
  cases e'
  refine ⟨b, o, _, rfl, hc, hr, A i, C i, rfl, hl, hm, fun k hk => ?_⟩
  obtain ⟨g, p, e, _, _, hk, _⟩ := h3.row i hi k hk
  exact ⟨g, p, e, hk⟩
theorem EsW.chg {lo hi B0 B1 : Nat} {w w' : World} {v : Value} {es : List EV} (h : EsW w B0 B1 v es) (c : Chg lo hi w w') (hB : B1 ≤ w.heap.size) (hh : B1 ≤ lo ∨ hi ≤ B0) : EsW w' B0 B1 v es := by
  obtain ⟨a, cap, A, C, e, h1, h2, h3, h4⟩ := h
  exact ⟨a, cap, A, C, e, h1, h2, h3.chg c hB hh, h4.of_blocks (fun b h0 h1 => c.block b (by omega) (by omega))⟩
theorem EsW.below {B0 B1 : Nat} {w w' : World} {v : Value} {es : List EV} (h : EsW w B0 B1 v es) (c : Below w.heap.size w w') (hB : B1 ≤ w.heap.size) : EsW w' B0 B1 v es := h.chg (Chg.of_below c) hB (.inr (Nat.zero_le _))
end Go.Proofs.YtcmmlgdfhkcmoaaGreat
namespace Go.Proofs.YtcmmlgdfhkcmoaaGreat
open Go.ChangeShapes Go.WideShapes Go.ChangeAt Go.RowKit
set_option linter.unusedVariables false
set_option maxRecDepth 100000
def okTo (s : Bs) (k : Nat) : Prop := ∀ b ∈ s.take k, lok b = true
theorem lok_iff {b : UInt8} : lok b = true ↔ 97 ≤ b.toNat ∧ b.toNat ≤ 99 := by
  rw [lok, Bool.and_eq_true, decide_eq_true_eq, decide_eq_true_eq]
theorem okTo_all {s : Bs} {k : Nat} (h : okTo s k) (hk : k = s.length) : rv s = decide (s.length ≤ 4) := by
  have h1 : s.all lok = true := List.all_eq_true.2 (by rw [okTo, take_all hk] at h; exact h)
  rw [rv, h1, Bool.true_and]
theorem okTo_succ {s : Bs} {k : Nat} (h : okTo s k) (hk : k < s.length) (hb : lok s[k] = true) : okTo s (k + 1) := by
  intro b hm
  rw [List.take_succ_eq_append_getElem hk, List.mem_append] at hm
  rcases hm with hm | hm
  · exact h b hm
  · rw [List.mem_singleton.1 hm]; exact hb
theorem rv_bad {s : Bs} {k : Nat} (hk : k < s.length) (hb : lok s[k] = false) : rv s = false := by
  rw [Bool.eq_false_iff]
  intro h
  have := (rv_iff.1 h).1 _ (List.getElem_mem hk)
  rw [hb] at this; cases this
theorem run_index_str (s : Bs) (k : Nat) (hk : k < s.length) (x : Nat) (hx : s[k].toNat = x) (w : World) : (Instr.index 9 (.string ⟨s.toArray⟩) (.int .i64 k)).run Tryz.prog w = .ok (.int .u8 x) w := by
  subst hx
  have hs : (ByteArray.mk s.toArray).size = s.length := by simp [ByteArray.size]
  rw [run_index_string (P := Tryz.prog) w 9 ⟨s.toArray⟩ .i64 k Tryz.underlying9, dif_pos (by rw [hs]; omega)]
  have e : (ByteArray.mk s.toArray)[(k : Int).toNat]'(by rw [hs]; omega) = s[k] := rfl
  rw [e]
def Says (b : Bool) (w : World) (e : Ending) (w' : World) : Prop := e = .returned (.bool b) ∧ w = w'
theorem says_mk {b c : Bool} {w : World} (h : b = c) : Says c w (.returned (.bool b)) w := ⟨by rw [h], rfl⟩
theorem sRightValid_any (w : World) (s : Bs) (hs : s.length ≤ 2000000) :
    Calls Tryz.prog 114 #[.string ⟨s.toArray⟩] w (Says (rv s) w) := by
  obtain ⟨n, hN⟩ : ∃ n, n = s.length := ⟨_, rfl⟩
  have hn : n ≤ 2000000 := by omega
  have hsz : s.toArray.size = n := by simp [hN]
  have HN := Lib.hid hN
  clear hN hs
  go_enter Tryz.func114, Tryz.ntmps114
  go_wp2
  go_loop [3] (fun i => ∃ k : Nat, k ≤ n ∧ i = .int .i64 k ∧ Hid (okTo s k)) (fun i => n - (intOf i).toNat)
  case atStart => exact ⟨0, Nat.zero_le _, rfl, Lib.hid (fun b hb => by simp at hb)⟩
  case round =>
    obtain ⟨k, hk, rfl, HT⟩ := hrel
    by_cases hlt : k < n
    · have hlt' : (k : Int) < (n : Int) := by omega
      have hks : k < s.length := by rw [← HN.out]; exact hlt
      have HB := Lib.hid (@lok_iff s[k])
      have hix := run_index_str s k hks _ rfl
      obtain ⟨x, hx⟩ : ∃ x, x = s[k].toNat := ⟨_, rfl⟩
      rw [← hx] at hix HB
      clear hx
      have HR := Lib.hid (fun h => rv_bad hks h)
      have HO := Lib.hid (fun h => okTo_succ HT.out hks h)
      by_cases h1 : x < 97
      · have h1' : (x : Int) < 97 := by omega
        go_wp2
        go_ret
        exact says_mk (HR.out (by rw [Bool.eq_false_iff]; intro h; have := HB.out.1 h; omega)).symm
      · by_cases h2 : 99 < x
        · have h1' : ¬ (x : Int) < 97 := by omega
          have h2' : (99 : Int) < (x : Int) := by omega
          go_wp2
          go_ret
          exact says_mk (HR.out (by rw [Bool.eq_false_iff]; intro h; have := HB.out.1 h; omega)).symm
        · have h1' : ¬ (x : Int) < 97 := by omega
          have h2' : ¬ (99 : Int) < (x : Int) := by omega
          go_wp2
          go_round
          case rel => exact ⟨k + 1, by omega, by go_num, Lib.hid (HO.out (HB.out.2 ⟨by omega, by omega⟩))⟩
          case measure => simp [intOf]; omega
    · go_wp2
      go_ret
      have e : k = n := by omega
      refine says_mk ?_
      rw [okTo_all HT.out (by rw [e]; exact HN.out), ← HN.out, decide_eq_decide]
      omega
theorem extract_mk (l : Bs) (i j : Nat) : (ByteArray.mk l.toArray).extract i j = ByteArray.mk ((l.take j).drop i).toArray := by
  apply ByteArray.ext
  rw [ByteArray.data_extract]
  simp [List.extract_toArray, List.extract_eq_take_drop, List.drop_take]
theorem extract_toList (l : Bs) (j : Nat) : ((ByteArray.mk l.toArray).extract 0 j).toList = l.take j := by
  rw [extract_mk, ByteArray.toList_mk]; rfl
theorem sCovers_any (w : World) (a b : Bs) (ha : a.length ≤ 2000000) (hb : b.length ≤ 2000000) :
    Calls Tryz.prog 218 #[.string ⟨a.toArray⟩, .string ⟨b.toArray⟩] w (Says (cov a b) w) := by
  have hsa : (a.length : Int) ≤ 2000000 := by omega
  have hsb : (b.length : Int) ≤ 2000000 := by omega
  by_cases h : a.length ≤ b.length
  · have h' : (a.length : Int) ≤ (b.length : Int) := by omega
    go_enter Tryz.func218, Tryz.ntmps218
    go_wp2
    go_ret
    refine says_mk ?_
    rw [extract_toList, cov, decide_eq_true h, Bool.true_and]
  · have h' : ¬ (a.length : Int) ≤ (b.length : Int) := by omega
    go_enter Tryz.func218, Tryz.ntmps218
    go_wp2
    go_ret
    exact says_mk (by simp [cov, h])
def rokTo (xs : List Bs) (k : Nat) : Prop := ∀ j, j < k → rv (xs.getD j []) = true ∧ (0 < j → bl (xs.getD (j - 1) []) (xs.getD j []) = true)
theorem rokTo_all {xs : List Bs} {k : Nat} (h : rokTo xs k) (hk : k = xs.length) : rok xs = true := rok_iff.2 (by rw [← hk]; exact h)
theorem rokTo_succ {xs : List Bs} {k : Nat} (h : rokTo xs k) (h1 : rv (xs.getD k []) = true) (h2 : 0 < k → bl (xs.getD (k - 1) []) (xs.getD k []) = true) : rokTo xs (k + 1) := by
  intro j hj
  by_cases e : j = k
  · rw [e]; exact ⟨h1, h2⟩
  · exact h j (by omega)
theorem rok_bad1 {xs : List Bs} {k : Nat} (hk : k < xs.length) (h : rv (xs.getD k []) = false) : rvs xs = false := by
  rw [Bool.eq_false_iff]
  intro hh
  rw [rvs, Bool.and_eq_true, rok_iff] at hh
  rw [(hh.1 k hk).1] at h; cases h
theorem rok_bad2 {xs : List Bs} {k : Nat} (hk : k < xs.length) (h0 : 0 < k) (h : bl (xs.getD (k - 1) []) (xs.getD k []) = false) : rvs xs = false := by
  rw [Bool.eq_false_iff]
  intro hh
  rw [rvs, Bool.and_eq_true, rok_iff] at hh
  rw [(hh.1 k hk).2 h0] at h; cases h
def Short (xs : List Bs) : Prop := ∀ x ∈ xs, x.length ≤ 2000000
theorem Short.at {xs : List Bs} (h : Short xs) (i : Nat) : (xs.getD i []).length ≤ 2000000 := by
  by_cases hi : i < xs.length
  · rw [getD_lt hi]; exact h _ (List.getElem_mem hi)
  · rw [List.getD, List.getElem?_eq_none (Nat.le_of_not_lt hi)]; exact Nat.zero_le _
theorem sRightsValid_any (w : World) (v : Value) (xs : List Bs) (h : Strs w v xs) (hs : Short xs) :
    Calls Tryz.prog 54 #[v] w (Reads (.bool (rvs xs)) w) := by
  obtain ⟨a, ca, rfl, hla, hma, hxa⟩ := h
  unfold maxLen at hma
  obtain ⟨n, hN⟩ : ∃ n, n = xs.length := ⟨_, rfl⟩
  rw [← hN] at hla hxa ⊢
  have HN := Lib.hid hN
  have HS := Lib.hid hs
  have HX := Lib.hid hxa
  clear hN hs hxa
  go_enter Tryz.func54, Tryz.ntmps54
  go_wp2
  go_loopw [3] (fun i wr => ∃ k d : Nat, k ≤ n ∧ i = .int .i64 k ∧ Hid (rokTo xs k) ∧ wr = w.drewN d) (fun i _ => n - (intOf i).toNat)
  case atStart => exact ⟨0, 0, Nat.zero_le _, rfl, Lib.hid (fun j hj => by omega), rfl⟩
  case round =>
    obtain ⟨k, d, hk, rfl, HT, rfl⟩ := hrel
    by_cases hlt : k < n
    · have hlt' : (k : Int) < (n : Int) := by omega
      have hkx : k < xs.length := by rw [← HN.out]; exact hlt
      obtain ⟨b, o, rfl, hc⟩ := HX.out k hlt
      have HV := Lib.hid (fun w => sRightValid_any w (xs.getD k []) (HS.out.at k))
      have HB1 := Lib.hid (fun h => rok_bad1 hkx h)
      have HB2 := Lib.hid (fun h0 h => rok_bad2 hkx h0 h)
      have HO := Lib.hid (fun h1 h2 => rokTo_succ HT.out h1 h2)
      generalize xs.getD k [] = x at hc HV HB1 HB2 HO
      clear hkx
      cases hv : rv x with
      | false =>
        have HR := Lib.hid (HB1.out hv)
        rw [hv] at HV
        clear hv
        go_wp2_with fail
        refine wp_region_held_drew (S := fun w' => w'.cell? ⟨b, o + k, none⟩ = some (.string ⟨x.toArray⟩)) (by kernel_rfl) hc (fun hHeld => ?_)
        refine wpAnyH_take (i := 0) (oi := { dst := some 10, op := .move (.tmp 0), type := _, pos := _, after := _, guard := none }) (v := .slice (some ⟨b, o, none⟩) n ca) rfl (by kernel_rfl) (by kernel_rfl) (by kernel_rfl) (fun _ _ _ h => h) (Or.inl ⟨by rfl, fun wh hSw => ?_⟩) hHeld ?_
        · (dsimp only at hSw; go_simp)
        try simp only [Act.put, List.setIfInBounds_toArray, List.set_cons_zero, List.set_cons_succ]
        refine wpAnyH_take (i := 1) (oi := { dst := some 11, op := .move (.tmp 3), type := _, pos := _, after := _, guard := none }) (v := .int .i64 (k : Int)) rfl (by kernel_rfl) (by kernel_rfl) (by kernel_rfl) (fun _ _ _ h => h) (Or.inl ⟨by rfl, fun wh hSw => ?_⟩) hHeld ?_
        · (dsimp only at hSw; go_simp)
        try simp only [Act.put, List.setIfInBounds_toArray, List.set_cons_zero, List.set_cons_succ]
        refine wpAnyH_take (i := 2) (oi := { dst := some 12, op := .indexAddr 35 (.tmp 10) (.tmp 11), type := _, pos := _, after := _, guard := none }) (v := .pointer (some ⟨b, o + k, none⟩)) rfl (by kernel_rfl) (by kernel_rfl) (by kernel_rfl) (fun _ _ _ h => h) (Or.inl ⟨by rfl, fun wh hSw => ?_⟩) hHeld ?_
        · (dsimp only at hSw; go_simp)
        try simp only [Act.put, List.setIfInBounds_toArray, List.set_cons_zero, List.set_cons_succ]
        refine wpAnyH_take (i := 3) (oi := { dst := some 13, op := .load 9 (.tmp 12), type := _, pos := _, after := _, guard := none }) (v := .string ⟨x.toArray⟩) rfl (by kernel_rfl) (by kernel_rfl) (by kernel_rfl) (fun _ _ _ h => h) (Or.inl ⟨by rfl, fun wh hSw => ?_⟩) hHeld ?_
        · (dsimp only at hSw; go_simp)
        try simp only [Act.put, List.setIfInBounds_toArray, List.set_cons_zero, List.set_cons_succ]
        refine wpAnyH_ready (rs := [4]) (by kernel_rfl) (by simp) ?_
        refine AllReadyH.cons (o := { dst := some 14, op := .call { callee := .value (.func 114), args := #[.tmp 13], argTypes := #[9] }, type := _, pos := _, after := _, guard := none }) rfl (fun K hK => ?_) AllReadyH.nil
        go_simp
        refine (HV.out _).mono ?_
        rintro e w' ⟨rfl, rfl⟩
        refine hK.out _ _ ?_ (fun hHeld => ?_)
        · exact hHeld
        clear hK K
        try simp only [Act.put, List.setIfInBounds_toArray, List.set_cons_zero, List.set_cons_succ]
        refine wpAnyH_take (i := 5) (oi := { dst := some 15, op := .unOp .not 4 (.tmp 14), type := _, pos := _, after := _, guard := none }) (v := .bool true) rfl (by kernel_rfl) (by kernel_rfl) (by kernel_rfl) (fun _ _ _ h => h) (Or.inl ⟨by rfl, fun wh hSw => ?_⟩) hHeld ?_
        · (dsimp only at hSw; go_simp)
        try simp only [Act.put, List.setIfInBounds_toArray, List.set_cons_zero, List.set_cons_succ]
        refine wpAnyH_take (i := 6) (oi := { dst := some 16, op := .move (.tmp 15), type := _, pos := _, after := _, guard := none }) (v := .bool true) rfl (by kernel_rfl) (by kernel_rfl) (by kernel_rfl) (fun _ _ _ h => h) (Or.inl ⟨by rfl, fun wh hSw => ?_⟩) hHeld ?_
        · (dsimp only at hSw; go_simp)
        try simp only [Act.put, List.setIfInBounds_toArray, List.set_cons_zero, List.set_cons_succ]
        refine wpAnyH_take (i := 7) (oi := { dst := some 17, op := .move (.tmp 3), type := _, pos := _, after := _, guard := some (6, false) }) (v := undef) rfl (by kernel_rfl) (by kernel_rfl) (by kernel_rfl) (fun _ _ _ h => h) (Or.inr ⟨by rfl, rfl⟩) hHeld ?_
        try simp only [Act.put, List.setIfInBounds_toArray, List.set_cons_zero, List.set_cons_succ]
        refine wpAnyH_take (i := 8) (oi := { dst := some 18, op := .binOp .gtr 3 (.tmp 17) (.const (.int .i64 0)) 3, type := _, pos := _, after := _, guard := some (6, false) }) (v := undef) rfl (by kernel_rfl) (by kernel_rfl) (by kernel_rfl) (fun _ _ _ h => h) (Or.inr ⟨by rfl, rfl⟩) hHeld ?_
        try simp only [Act.put, List.setIfInBounds_toArray, List.set_cons_zero, List.set_cons_succ]
        refine wpAnyH_take (i := 9) (oi := { dst := some 19, op := .move (.tmp 18), type := _, pos := _, after := _, guard := some (6, false) }) (v := undef) rfl (by kernel_rfl) (by kernel_rfl) (by kernel_rfl) (fun _ _ _ h => h) (Or.inr ⟨by rfl, rfl⟩) hHeld ?_
        try simp only [Act.put, List.setIfInBounds_toArray, List.set_cons_zero, List.set_cons_succ]
        refine wpAnyH_take (i := 10) (oi := { dst := some 20, op := .move (.tmp 0), type := _, pos := _, after := _, guard := some (9, true) }) (v := undef) rfl (by kernel_rfl) (by kernel_rfl) (by kernel_rfl) (fun _ _ _ h => h) (Or.inr ⟨by rfl, rfl⟩) hHeld ?_
        try simp only [Act.put, List.setIfInBounds_toArray, List.set_cons_zero, List.set_cons_succ]
        refine wpAnyH_take (i := 11) (oi := { dst := some 21, op := .move (.tmp 3), type := _, pos := _, after := _, guard := some (9, true) }) (v := undef) rfl (by kernel_rfl) (by kernel_rfl) (by kernel_rfl) (fun _ _ _ h => h) (Or.inr ⟨by rfl, rfl⟩) hHeld ?_
        try simp only [Act.put, List.setIfInBounds_toArray, List.set_cons_zero, List.set_cons_succ]
        refine wpAnyH_take (i := 12) (oi := { dst := some 22, op := .binOp .sub 3 (.tmp 21) (.const (.int .i64 1)) 3, type := _, pos := _, after := _, guard := some (9, true) }) (v := undef) rfl (by kernel_rfl) (by kernel_rfl) (by kernel_rfl) (fun _ _ _ h => h) (Or.inr ⟨by rfl, rfl⟩) hHeld ?_
        try simp only [Act.put, List.setIfInBounds_toArray, List.set_cons_zero, List.set_cons_succ]
        refine wpAnyH_take (i := 13) (oi := { dst := some 23, op := .indexAddr 35 (.tmp 20) (.tmp 22), type := _, pos := _, after := _, guard := some (9, true) }) (v := undef) rfl (by kernel_rfl) (by kernel_rfl) (by kernel_rfl) (fun _ _ _ h => h) (Or.inr ⟨by rfl, rfl⟩) hHeld ?_
        try simp only [Act.put, List.setIfInBounds_toArray, List.set_cons_zero, List.set_cons_succ]
        refine wpAnyH_take (i := 14) (oi := { dst := some 24, op := .load 9 (.tmp 23), type := _, pos := _, after := _, guard := some (9, true) }) (v := undef) rfl (by kernel_rfl) (by kernel_rfl) (by kernel_rfl) (fun _ _ _ h => h) (Or.inr ⟨by rfl, rfl⟩) hHeld ?_
        try simp only [Act.put, List.setIfInBounds_toArray, List.set_cons_zero, List.set_cons_succ]
        refine wpAnyH_take (i := 15) (oi := { dst := some 25, op := .move (.tmp 0), type := _, pos := _, after := _, guard := some (9, true) }) (v := undef) rfl (by kernel_rfl) (by kernel_rfl) (by kernel_rfl) (fun _ _ _ h => h) (Or.inr ⟨by rfl, rfl⟩) hHeld ?_
        try simp only [Act.put, List.setIfInBounds_toArray, List.set_cons_zero, List.set_cons_succ]
        refine wpAnyH_take (i := 16) (oi := { dst := some 26, op := .move (.tmp 3), type := _, pos := _, after := _, guard := some (9, true) }) (v := undef) rfl (by kernel_rfl) (by kernel_rfl) (by kernel_rfl) (fun _ _ _ h => h) (Or.inr ⟨by rfl, rfl⟩) hHeld ?_
        try simp only [Act.put, List.setIfInBounds_toArray, List.set_cons_zero, List.set_cons_succ]
        refine wpAnyH_take (i := 17) (oi := { dst := some 27, op := .indexAddr 35 (.tmp 25) (.tmp 26), type := _, pos := _, after := _, guard := some (9, true) }) (v := undef) rfl (by kernel_rfl) (by kernel_rfl) (by kernel_rfl) (fun _ _ _ h => h) (Or.inr ⟨by rfl, rfl⟩) hHeld ?_
        try simp only [Act.put, List.setIfInBounds_toArray, List.set_cons_zero, List.set_cons_succ]
        refine wpAnyH_take (i := 18) (oi := { dst := some 28, op := .load 9 (.tmp 27), type := _, pos := _, after := _, guard := some (9, true) }) (v := undef) rfl (by kernel_rfl) (by kernel_rfl) (by kernel_rfl) (fun _ _ _ h => h) (Or.inr ⟨by rfl, rfl⟩) hHeld ?_
        try simp only [Act.put, List.setIfInBounds_toArray, List.set_cons_zero, List.set_cons_succ]
        refine wpAnyH_take (i := 19) (oi := { dst := some 29, op := .binOp .geq 9 (.tmp 24) (.tmp 28) 9, type := _, pos := _, after := _, guard := some (9, true) }) (v := undef) rfl (by kernel_rfl) (by kernel_rfl) (by kernel_rfl) (fun _ _ _ h => h) (Or.inr ⟨by rfl, rfl⟩) hHeld ?_
        try simp only [Act.put, List.setIfInBounds_toArray, List.set_cons_zero, List.set_cons_succ]
        refine wpAnyH_take (i := 20) (oi := { dst := some 30, op := .pick (.tmp 19) (.tmp 29) (.const (.bool false)), type := _, pos := _, after := _, guard := some (6, false) }) (v := undef) rfl (by kernel_rfl) (by kernel_rfl) (by kernel_rfl) (fun _ _ _ h => h) (Or.inr ⟨by rfl, rfl⟩) hHeld ?_
        try simp only [Act.put, List.setIfInBounds_toArray, List.set_cons_zero, List.set_cons_succ]
        refine wpAnyH_take (i := 21) (oi := { dst := some 31, op := .pick (.tmp 16) (.const (.bool true)) (.tmp 30), type := _, pos := _, after := _, guard := none }) (v := .bool true) rfl (by kernel_rfl) (by kernel_rfl) (by kernel_rfl) (fun _ _ _ h => h) (Or.inl ⟨by rfl, fun wh hSw => ?_⟩) hHeld ?_
        · (dsimp only at hSw; go_simp)
        try simp only [Act.put, List.setIfInBounds_toArray, List.set_cons_zero, List.set_cons_succ]
        refine wpAnyH_done (by kernel_rfl) ?_ _
        go_wp2
        go_ret
        exact reads_mk HR.out.symm
      | true =>
        have HW := Lib.hid hv
        rw [hv] at HV
        clear hv
        rcases Nat.eq_zero_or_pos k with h0 | hpos
        · have hgt : ¬ (0 : Int) < (k : Int) := by omega
          have hgt2 : ¬ 0 < k := by omega
          have HO2 := Lib.hid (HO.out HW.out (fun h => absurd h hgt2))
          clear h0
          go_wp2_with fail
          refine wp_region_held_drew (S := fun w' => w'.cell? ⟨b, o + k, none⟩ = some (.string ⟨x.toArray⟩)) (by kernel_rfl) hc (fun hHeld => ?_)
          refine wpAnyH_take (i := 0) (oi := { dst := some 10, op := .move (.tmp 0), type := _, pos := _, after := _, guard := none }) (v := .slice (some ⟨b, o, none⟩) n ca) rfl (by kernel_rfl) (by kernel_rfl) (by kernel_rfl) (fun _ _ _ h => h) (Or.inl ⟨by rfl, fun wh hSw => ?_⟩) hHeld ?_
          · (dsimp only at hSw; go_simp)
          try simp only [Act.put, List.setIfInBounds_toArray, List.set_cons_zero, List.set_cons_succ]
          refine wpAnyH_take (i := 1) (oi := { dst := some 11, op := .move (.tmp 3), type := _, pos := _, after := _, guard := none }) (v := .int .i64 (k : Int)) rfl (by kernel_rfl) (by kernel_rfl) (by kernel_rfl) (fun _ _ _ h => h) (Or.inl ⟨by rfl, fun wh hSw => ?_⟩) hHeld ?_
          · (dsimp only at hSw; go_simp)
          try simp only [Act.put, List.setIfInBounds_toArray, List.set_cons_zero, List.set_cons_succ]
          refine wpAnyH_take (i := 2) (oi := { dst := some 12, op := .indexAddr 35 (.tmp 10) (.tmp 11), type := _, pos := _, after := _, guard := none }) (v := .pointer (some ⟨b, o + k, none⟩)) rfl (by kernel_rfl) (by kernel_rfl) (by kernel_rfl) (fun _ _ _ h => h) (Or.inl ⟨by rfl, fun wh hSw => ?_⟩) hHeld ?_
          · (dsimp only at hSw; go_simp)
          try simp only [Act.put, List.setIfInBounds_toArray, List.set_cons_zero, List.set_cons_succ]
          refine wpAnyH_take (i := 3) (oi := { dst := some 13, op := .load 9 (.tmp 12), type := _, pos := _, after := _, guard := none }) (v := .string ⟨x.toArray⟩) rfl (by kernel_rfl) (by kernel_rfl) (by kernel_rfl) (fun _ _ _ h => h) (Or.inl ⟨by rfl, fun wh hSw => ?_⟩) hHeld ?_
          · (dsimp only at hSw; go_simp)
          try simp only [Act.put, List.setIfInBounds_toArray, List.set_cons_zero, List.set_cons_succ]
          refine wpAnyH_ready (rs := [4]) (by kernel_rfl) (by simp) ?_
          refine AllReadyH.cons (o := { dst := some 14, op := .call { callee := .value (.func 114), args := #[.tmp 13], argTypes := #[9] }, type := _, pos := _, after := _, guard := none }) rfl (fun K hK => ?_) AllReadyH.nil
          go_simp
          refine (HV.out _).mono ?_
          rintro e w' ⟨rfl, rfl⟩
          refine hK.out _ _ ?_ (fun hHeld => ?_)
          · exact hHeld
          clear hK K
          try simp only [Act.put, List.setIfInBounds_toArray, List.set_cons_zero, List.set_cons_succ]
          refine wpAnyH_take (i := 5) (oi := { dst := some 15, op := .unOp .not 4 (.tmp 14), type := _, pos := _, after := _, guard := none }) (v := .bool false) rfl (by kernel_rfl) (by kernel_rfl) (by kernel_rfl) (fun _ _ _ h => h) (Or.inl ⟨by rfl, fun wh hSw => ?_⟩) hHeld ?_
          · (dsimp only at hSw; go_simp)
          try simp only [Act.put, List.setIfInBounds_toArray, List.set_cons_zero, List.set_cons_succ]
          refine wpAnyH_take (i := 6) (oi := { dst := some 16, op := .move (.tmp 15), type := _, pos := _, after := _, guard := none }) (v := .bool false) rfl (by kernel_rfl) (by kernel_rfl) (by kernel_rfl) (fun _ _ _ h => h) (Or.inl ⟨by rfl, fun wh hSw => ?_⟩) hHeld ?_
          · (dsimp only at hSw; go_simp)
          try simp only [Act.put, List.setIfInBounds_toArray, List.set_cons_zero, List.set_cons_succ]
          refine wpAnyH_take (i := 7) (oi := { dst := some 17, op := .move (.tmp 3), type := _, pos := _, after := _, guard := some (6, false) }) (v := .int .i64 (k : Int)) rfl (by kernel_rfl) (by kernel_rfl) (by kernel_rfl) (fun _ _ _ h => h) (Or.inl ⟨by rfl, fun wh hSw => ?_⟩) hHeld ?_
          · (dsimp only at hSw; go_simp)
          try simp only [Act.put, List.setIfInBounds_toArray, List.set_cons_zero, List.set_cons_succ]
          refine wpAnyH_take (i := 8) (oi := { dst := some 18, op := .binOp .gtr 3 (.tmp 17) (.const (.int .i64 0)) 3, type := _, pos := _, after := _, guard := some (6, false) }) (v := .bool false) rfl (by kernel_rfl) (by kernel_rfl) (by kernel_rfl) (fun _ _ _ h => h) (Or.inl ⟨by rfl, fun wh hSw => ?_⟩) hHeld ?_
          · (dsimp only at hSw; go_simp)
          try simp only [Act.put, List.setIfInBounds_toArray, List.set_cons_zero, List.set_cons_succ]
          refine wpAnyH_take (i := 9) (oi := { dst := some 19, op := .move (.tmp 18), type := _, pos := _, after := _, guard := some (6, false) }) (v := .bool false) rfl (by kernel_rfl) (by kernel_rfl) (by kernel_rfl) (fun _ _ _ h => h) (Or.inl ⟨by rfl, fun wh hSw => ?_⟩) hHeld ?_
          · (dsimp only at hSw; go_simp)
          try simp only [Act.put, List.setIfInBounds_toArray, List.set_cons_zero, List.set_cons_succ]
          refine wpAnyH_take (i := 10) (oi := { dst := some 20, op := .move (.tmp 0), type := _, pos := _, after := _, guard := some (9, true) }) (v := undef) rfl (by kernel_rfl) (by kernel_rfl) (by kernel_rfl) (fun _ _ _ h => h) (Or.inr ⟨by rfl, rfl⟩) hHeld ?_
          try simp only [Act.put, List.setIfInBounds_toArray, List.set_cons_zero, List.set_cons_succ]
          refine wpAnyH_take (i := 11) (oi := { dst := some 21, op := .move (.tmp 3), type := _, pos := _, after := _, guard := some (9, true) }) (v := undef) rfl (by kernel_rfl) (by kernel_rfl) (by kernel_rfl) (fun _ _ _ h => h) (Or.inr ⟨by rfl, rfl⟩) hHeld ?_
          try simp only [Act.put, List.setIfInBounds_toArray, List.set_cons_zero, List.set_cons_succ]
          refine wpAnyH_take (i := 12) (oi := { dst := some 22, op := .binOp .sub 3 (.tmp 21) (.const (.int .i64 1)) 3, type := _, pos := _, after := _, guard := some (9, true) }) (v := undef) rfl (by kernel_rfl) (by kernel_rfl) (by kernel_rfl) (fun _ _ _ h => h) (Or.inr ⟨by rfl, rfl⟩) hHeld ?_
          try simp only [Act.put, List.setIfInBounds_toArray, List.set_cons_zero, List.set_cons_succ]
          refine wpAnyH_take (i := 13) (oi := { dst := some 23, op := .indexAddr 35 (.tmp 20) (.tmp 22), type := _, pos := _, after := _, guard := some (9, true) }) (v := undef) rfl (by kernel_rfl) (by kernel_rfl) (by kernel_rfl) (fun _ _ _ h => h) (Or.inr ⟨by rfl, rfl⟩) hHeld ?_
          try simp only [Act.put, List.setIfInBounds_toArray, List.set_cons_zero, List.set_cons_succ]
          refine wpAnyH_take (i := 14) (oi := { dst := some 24, op := .load 9 (.tmp 23), type := _, pos := _, after := _, guard := some (9, true) }) (v := undef) rfl (by kernel_rfl) (by kernel_rfl) (by kernel_rfl) (fun _ _ _ h => h) (Or.inr ⟨by rfl, rfl⟩) hHeld ?_
          try simp only [Act.put, List.setIfInBounds_toArray, List.set_cons_zero, List.set_cons_succ]
          refine wpAnyH_take (i := 15) (oi := { dst := some 25, op := .move (.tmp 0), type := _, pos := _, after := _, guard := some (9, true) }) (v := undef) rfl (by kernel_rfl) (by kernel_rfl) (by kernel_rfl) (fun _ _ _ h => h) (Or.inr ⟨by rfl, rfl⟩) hHeld ?_
          try simp only [Act.put, List.setIfInBounds_toArray, List.set_cons_zero, List.set_cons_succ]
          refine wpAnyH_take (i := 16) (oi := { dst := some 26, op := .move (.tmp 3), type := _, pos := _, after := _, guard := some (9, true) }) (v := undef) rfl (by kernel_rfl) (by kernel_rfl) (by kernel_rfl) (fun _ _ _ h => h) (Or.inr ⟨by rfl, rfl⟩) hHeld ?_
          try simp only [Act.put, List.setIfInBounds_toArray, List.set_cons_zero, List.set_cons_succ]
          refine wpAnyH_take (i := 17) (oi := { dst := some 27, op := .indexAddr 35 (.tmp 25) (.tmp 26), type := _, pos := _, after := _, guard := some (9, true) }) (v := undef) rfl (by kernel_rfl) (by kernel_rfl) (by kernel_rfl) (fun _ _ _ h => h) (Or.inr ⟨by rfl, rfl⟩) hHeld ?_
          try simp only [Act.put, List.setIfInBounds_toArray, List.set_cons_zero, List.set_cons_succ]
          refine wpAnyH_take (i := 18) (oi := { dst := some 28, op := .load 9 (.tmp 27), type := _, pos := _, after := _, guard := some (9, true) }) (v := undef) rfl (by kernel_rfl) (by kernel_rfl) (by kernel_rfl) (fun _ _ _ h => h) (Or.inr ⟨by rfl, rfl⟩) hHeld ?_
          try simp only [Act.put, List.setIfInBounds_toArray, List.set_cons_zero, List.set_cons_succ]
          refine wpAnyH_take (i := 19) (oi := { dst := some 29, op := .binOp .geq 9 (.tmp 24) (.tmp 28) 9, type := _, pos := _, after := _, guard := some (9, true) }) (v := undef) rfl (by kernel_rfl) (by kernel_rfl) (by kernel_rfl) (fun _ _ _ h => h) (Or.inr ⟨by rfl, rfl⟩) hHeld ?_
          try simp only [Act.put, List.setIfInBounds_toArray, List.set_cons_zero, List.set_cons_succ]
          refine wpAnyH_take (i := 20) (oi := { dst := some 30, op := .pick (.tmp 19) (.tmp 29) (.const (.bool false)), type := _, pos := _, after := _, guard := some (6, false) }) (v := .bool false) rfl (by kernel_rfl) (by kernel_rfl) (by kernel_rfl) (fun _ _ _ h => h) (Or.inl ⟨by rfl, fun wh hSw => ?_⟩) hHeld ?_
          · (dsimp only at hSw; go_simp)
          try simp only [Act.put, List.setIfInBounds_toArray, List.set_cons_zero, List.set_cons_succ]
          refine wpAnyH_take (i := 21) (oi := { dst := some 31, op := .pick (.tmp 16) (.const (.bool true)) (.tmp 30), type := _, pos := _, after := _, guard := none }) (v := .bool false) rfl (by kernel_rfl) (by kernel_rfl) (by kernel_rfl) (fun _ _ _ h => h) (Or.inl ⟨by rfl, fun wh hSw => ?_⟩) hHeld ?_
          · (dsimp only at hSw; go_simp)
          try simp only [Act.put, List.setIfInBounds_toArray, List.set_cons_zero, List.set_cons_succ]
          refine wpAnyH_done (by kernel_rfl) ?_ _
          go_wp2
          go_roundw
          case rel => exact ⟨k + 1, _, by omega, by go_num, HO2, rfl⟩
          case measure => simp [intOf]; omega
        · have hgt : (0 : Int) < (k : Int) := by omega
          obtain ⟨q, hq⟩ : ∃ q : Nat, (k : Int) - 1 = (q : Int) := ⟨k - 1, by omega⟩
          have hqk : k - 1 = q := by omega
          have hq0 : (q : Int) < (n : Int) := by omega
          obtain ⟨b2, o2, e2, hc2⟩ := HX.out q (by omega)
          cases e2
          rw [hqk] at HB2 HO
          generalize xs.getD q [] = y at hc2 HB2 HO
          clear hqk
          cases hbl : bl y x with
          | false =>
            have HR := Lib.hid (HB2.out hpos hbl)
            have hle : (Op.bytesLess y x) = false := hbl
            clear hbl
            go_wp2_with fail
            refine wp_region_held_drew (S := fun w' => w'.cell? ⟨b, o + k, none⟩ = some (.string ⟨x.toArray⟩) ∧ w'.cell? ⟨b, o + q, none⟩ = some (.string ⟨y.toArray⟩)) (by kernel_rfl) ⟨hc, hc2⟩ (fun hHeld => ?_)
            refine wpAnyH_take (i := 0) (oi := { dst := some 10, op := .move (.tmp 0), type := _, pos := _, after := _, guard := none }) (v := .slice (some ⟨b, o, none⟩) n ca) rfl (by kernel_rfl) (by kernel_rfl) (by kernel_rfl) (fun _ _ _ h => h) (Or.inl ⟨by rfl, fun wh hSw => ?_⟩) hHeld ?_
            · (dsimp only at hSw; go_simp)
            try simp only [Act.put, List.setIfInBounds_toArray, List.set_cons_zero, List.set_cons_succ]
            refine wpAnyH_take (i := 1) (oi := { dst := some 11, op := .move (.tmp 3), type := _, pos := _, after := _, guard := none }) (v := .int .i64 (k : Int)) rfl (by kernel_rfl) (by kernel_rfl) (by kernel_rfl) (fun _ _ _ h => h) (Or.inl ⟨by rfl, fun wh hSw => ?_⟩) hHeld ?_
            · (dsimp only at hSw; go_simp)
            try simp only [Act.put, List.setIfInBounds_toArray, List.set_cons_zero, List.set_cons_succ]
            refine wpAnyH_take (i := 2) (oi := { dst := some 12, op := .indexAddr 35 (.tmp 10) (.tmp 11), type := _, pos := _, after := _, guard := none }) (v := .pointer (some ⟨b, o + k, none⟩)) rfl (by kernel_rfl) (by kernel_rfl) (by kernel_rfl) (fun _ _ _ h => h) (Or.inl ⟨by rfl, fun wh hSw => ?_⟩) hHeld ?_
            · (dsimp only at hSw; go_simp)
            try simp only [Act.put, List.setIfInBounds_toArray, List.set_cons_zero, List.set_cons_succ]
            refine wpAnyH_take (i := 3) (oi := { dst := some 13, op := .load 9 (.tmp 12), type := _, pos := _, after := _, guard := none }) (v := .string ⟨x.toArray⟩) rfl (by kernel_rfl) (by kernel_rfl) (by kernel_rfl) (fun _ _ _ h => h) (Or.inl ⟨by rfl, fun wh hSw => ?_⟩) hHeld ?_
            · (dsimp only at hSw; go_simp)
            try simp only [Act.put, List.setIfInBounds_toArray, List.set_cons_zero, List.set_cons_succ]
            refine wpAnyH_ready (rs := [4]) (by kernel_rfl) (by simp) ?_
            refine AllReadyH.cons (o := { dst := some 14, op := .call { callee := .value (.func 114), args := #[.tmp 13], argTypes := #[9] }, type := _, pos := _, after := _, guard := none }) rfl (fun K hK => ?_) AllReadyH.nil
            go_simp
            refine (HV.out _).mono ?_
            rintro e w' ⟨rfl, rfl⟩
            refine hK.out _ _ ?_ (fun hHeld => ?_)
            · exact hHeld
            clear hK K
            try simp only [Act.put, List.setIfInBounds_toArray, List.set_cons_zero, List.set_cons_succ]
            refine wpAnyH_take (i := 5) (oi := { dst := some 15, op := .unOp .not 4 (.tmp 14), type := _, pos := _, after := _, guard := none }) (v := .bool false) rfl (by kernel_rfl) (by kernel_rfl) (by kernel_rfl) (fun _ _ _ h => h) (Or.inl ⟨by rfl, fun wh hSw => ?_⟩) hHeld ?_
            · (dsimp only at hSw; go_simp)
            try simp only [Act.put, List.setIfInBounds_toArray, List.set_cons_zero, List.set_cons_succ]
            refine wpAnyH_take (i := 6) (oi := { dst := some 16, op := .move (.tmp 15), type := _, pos := _, after := _, guard := none }) (v := .bool false) rfl (by kernel_rfl) (by kernel_rfl) (by kernel_rfl) (fun _ _ _ h => h) (Or.inl ⟨by rfl, fun wh hSw => ?_⟩) hHeld ?_
            · (dsimp only at hSw; go_simp)
            try simp only [Act.put, List.setIfInBounds_toArray, List.set_cons_zero, List.set_cons_succ]
            refine wpAnyH_take (i := 7) (oi := { dst := some 17, op := .move (.tmp 3), type := _, pos := _, after := _, guard := some (6, false) }) (v := .int .i64 (k : Int)) rfl (by kernel_rfl) (by kernel_rfl) (by kernel_rfl) (fun _ _ _ h => h) (Or.inl ⟨by rfl, fun wh hSw => ?_⟩) hHeld ?_
            · (dsimp only at hSw; go_simp)
            try simp only [Act.put, List.setIfInBounds_toArray, List.set_cons_zero, List.set_cons_succ]
            refine wpAnyH_take (i := 8) (oi := { dst := some 18, op := .binOp .gtr 3 (.tmp 17) (.const (.int .i64 0)) 3, type := _, pos := _, after := _, guard := some (6, false) }) (v := .bool true) rfl (by kernel_rfl) (by kernel_rfl) (by kernel_rfl) (fun _ _ _ h => h) (Or.inl ⟨by rfl, fun wh hSw => ?_⟩) hHeld ?_
            · (dsimp only at hSw; go_simp)
            try simp only [Act.put, List.setIfInBounds_toArray, List.set_cons_zero, List.set_cons_succ]
            refine wpAnyH_take (i := 9) (oi := { dst := some 19, op := .move (.tmp 18), type := _, pos := _, after := _, guard := some (6, false) }) (v := .bool true) rfl (by kernel_rfl) (by kernel_rfl) (by kernel_rfl) (fun _ _ _ h => h) (Or.inl ⟨by rfl, fun wh hSw => ?_⟩) hHeld ?_
            · (dsimp only at hSw; go_simp)
            try simp only [Act.put, List.setIfInBounds_toArray, List.set_cons_zero, List.set_cons_succ]
            refine wpAnyH_take (i := 10) (oi := { dst := some 20, op := .move (.tmp 0), type := _, pos := _, after := _, guard := some (9, true) }) (v := .slice (some ⟨b, o, none⟩) n ca) rfl (by kernel_rfl) (by kernel_rfl) (by kernel_rfl) (fun _ _ _ h => h) (Or.inl ⟨by rfl, fun wh hSw => ?_⟩) hHeld ?_
            · (dsimp only at hSw; go_simp)
            try simp only [Act.put, List.setIfInBounds_toArray, List.set_cons_zero, List.set_cons_succ]
            refine wpAnyH_take (i := 11) (oi := { dst := some 21, op := .move (.tmp 3), type := _, pos := _, after := _, guard := some (9, true) }) (v := .int .i64 (k : Int)) rfl (by kernel_rfl) (by kernel_rfl) (by kernel_rfl) (fun _ _ _ h => h) (Or.inl ⟨by rfl, fun wh hSw => ?_⟩) hHeld ?_
            · (dsimp only at hSw; go_simp)
            try simp only [Act.put, List.setIfInBounds_toArray, List.set_cons_zero, List.set_cons_succ]
            refine wpAnyH_take (i := 12) (oi := { dst := some 22, op := .binOp .sub 3 (.tmp 21) (.const (.int .i64 1)) 3, type := _, pos := _, after := _, guard := some (9, true) }) (v := .int .i64 (q : Int)) rfl (by kernel_rfl) (by kernel_rfl) (by kernel_rfl) (fun _ _ _ h => h) (Or.inl ⟨by rfl, fun wh hSw => ?_⟩) hHeld ?_
            · (dsimp only at hSw; go_simp; rw [IntKind.wrap_i64]; omega)
            try simp only [Act.put, List.setIfInBounds_toArray, List.set_cons_zero, List.set_cons_succ]
            refine wpAnyH_take (i := 13) (oi := { dst := some 23, op := .indexAddr 35 (.tmp 20) (.tmp 22), type := _, pos := _, after := _, guard := some (9, true) }) (v := .pointer (some ⟨b, o + q, none⟩)) rfl (by kernel_rfl) (by kernel_rfl) (by kernel_rfl) (fun _ _ _ h => h) (Or.inl ⟨by rfl, fun wh hSw => ?_⟩) hHeld ?_
            · (dsimp only at hSw; go_simp)
            try simp only [Act.put, List.setIfInBounds_toArray, List.set_cons_zero, List.set_cons_succ]
            refine wpAnyH_take (i := 14) (oi := { dst := some 24, op := .load 9 (.tmp 23), type := _, pos := _, after := _, guard := some (9, true) }) (v := .string ⟨y.toArray⟩) rfl (by kernel_rfl) (by kernel_rfl) (by kernel_rfl) (fun _ _ _ h => h) (Or.inl ⟨by rfl, fun wh hSw => ?_⟩) hHeld ?_
            · (dsimp only at hSw; go_simp)
            try simp only [Act.put, List.setIfInBounds_toArray, List.set_cons_zero, List.set_cons_succ]
            refine wpAnyH_take (i := 15) (oi := { dst := some 25, op := .move (.tmp 0), type := _, pos := _, after := _, guard := some (9, true) }) (v := .slice (some ⟨b, o, none⟩) n ca) rfl (by kernel_rfl) (by kernel_rfl) (by kernel_rfl) (fun _ _ _ h => h) (Or.inl ⟨by rfl, fun wh hSw => ?_⟩) hHeld ?_
            · (dsimp only at hSw; go_simp)
            try simp only [Act.put, List.setIfInBounds_toArray, List.set_cons_zero, List.set_cons_succ]
            refine wpAnyH_take (i := 16) (oi := { dst := some 26, op := .move (.tmp 3), type := _, pos := _, after := _, guard := some (9, true) }) (v := .int .i64 (k : Int)) rfl (by kernel_rfl) (by kernel_rfl) (by kernel_rfl) (fun _ _ _ h => h) (Or.inl ⟨by rfl, fun wh hSw => ?_⟩) hHeld ?_
            · (dsimp only at hSw; go_simp)
            try simp only [Act.put, List.setIfInBounds_toArray, List.set_cons_zero, List.set_cons_succ]
            refine wpAnyH_take (i := 17) (oi := { dst := some 27, op := .indexAddr 35 (.tmp 25) (.tmp 26), type := _, pos := _, after := _, guard := some (9, true) }) (v := .pointer (some ⟨b, o + k, none⟩)) rfl (by kernel_rfl) (by kernel_rfl) (by kernel_rfl) (fun _ _ _ h => h) (Or.inl ⟨by rfl, fun wh hSw => ?_⟩) hHeld ?_
            · (dsimp only at hSw; go_simp)
            try simp only [Act.put, List.setIfInBounds_toArray, List.set_cons_zero, List.set_cons_succ]
            refine wpAnyH_take (i := 18) (oi := { dst := some 28, op := .load 9 (.tmp 27), type := _, pos := _, after := _, guard := some (9, true) }) (v := .string ⟨x.toArray⟩) rfl (by kernel_rfl) (by kernel_rfl) (by kernel_rfl) (fun _ _ _ h => h) (Or.inl ⟨by rfl, fun wh hSw => ?_⟩) hHeld ?_
            · (dsimp only at hSw; go_simp)
            try simp only [Act.put, List.setIfInBounds_toArray, List.set_cons_zero, List.set_cons_succ]
            refine wpAnyH_take (i := 19) (oi := { dst := some 29, op := .binOp .geq 9 (.tmp 24) (.tmp 28) 9, type := _, pos := _, after := _, guard := some (9, true) }) (v := .bool true) rfl (by kernel_rfl) (by kernel_rfl) (by kernel_rfl) (fun _ _ _ h => h) (Or.inl ⟨by rfl, fun wh hSw => ?_⟩) hHeld ?_
            · (dsimp only at hSw; go_simp)
            try simp only [Act.put, List.setIfInBounds_toArray, List.set_cons_zero, List.set_cons_succ]
            refine wpAnyH_take (i := 20) (oi := { dst := some 30, op := .pick (.tmp 19) (.tmp 29) (.const (.bool false)), type := _, pos := _, after := _, guard := some (6, false) }) (v := .bool true) rfl (by kernel_rfl) (by kernel_rfl) (by kernel_rfl) (fun _ _ _ h => h) (Or.inl ⟨by rfl, fun wh hSw => ?_⟩) hHeld ?_
            · (dsimp only at hSw; go_simp)
            try simp only [Act.put, List.setIfInBounds_toArray, List.set_cons_zero, List.set_cons_succ]
            refine wpAnyH_take (i := 21) (oi := { dst := some 31, op := .pick (.tmp 16) (.const (.bool true)) (.tmp 30), type := _, pos := _, after := _, guard := none }) (v := .bool true) rfl (by kernel_rfl) (by kernel_rfl) (by kernel_rfl) (fun _ _ _ h => h) (Or.inl ⟨by rfl, fun wh hSw => ?_⟩) hHeld ?_
            · (dsimp only at hSw; go_simp)
            try simp only [Act.put, List.setIfInBounds_toArray, List.set_cons_zero, List.set_cons_succ]
            refine wpAnyH_done (by kernel_rfl) ?_ _
            go_wp2
            go_ret
            exact reads_mk HR.out.symm
          | true =>
            have HO2 := Lib.hid (HO.out HW.out (fun _ => hbl))
            have hle : (Op.bytesLess y x) = true := hbl
            clear hbl
            go_wp2_with fail
            refine wp_region_held_drew (S := fun w' => w'.cell? ⟨b, o + k, none⟩ = some (.string ⟨x.toArray⟩) ∧ w'.cell? ⟨b, o + q, none⟩ = some (.string ⟨y.toArray⟩)) (by kernel_rfl) ⟨hc, hc2⟩ (fun hHeld => ?_)
            refine wpAnyH_take (i := 0) (oi := { dst := some 10, op := .move (.tmp 0), type := _, pos := _, after := _, guard := none }) (v := .slice (some ⟨b, o, none⟩) n ca) rfl (by kernel_rfl) (by kernel_rfl) (by kernel_rfl) (fun _ _ _ h => h) (Or.inl ⟨by rfl, fun wh hSw => ?_⟩) hHeld ?_
            · (dsimp only at hSw; go_simp)
            try simp only [Act.put, List.setIfInBounds_toArray, List.set_cons_zero, List.set_cons_succ]
            refine wpAnyH_take (i := 1) (oi := { dst := some 11, op := .move (.tmp 3), type := _, pos := _, after := _, guard := none }) (v := .int .i64 (k : Int)) rfl (by kernel_rfl) (by kernel_rfl) (by kernel_rfl) (fun _ _ _ h => h) (Or.inl ⟨by rfl, fun wh hSw => ?_⟩) hHeld ?_
            · (dsimp only at hSw; go_simp)
            try simp only [Act.put, List.setIfInBounds_toArray, List.set_cons_zero, List.set_cons_succ]
            refine wpAnyH_take (i := 2) (oi := { dst := some 12, op := .indexAddr 35 (.tmp 10) (.tmp 11), type := _, pos := _, after := _, guard := none }) (v := .pointer (some ⟨b, o + k, none⟩)) rfl (by kernel_rfl) (by kernel_rfl) (by kernel_rfl) (fun _ _ _ h => h) (Or.inl ⟨by rfl, fun wh hSw => ?_⟩) hHeld ?_
            · (dsimp only at hSw; go_simp)
            try simp only [Act.put, List.setIfInBounds_toArray, List.set_cons_zero, List.set_cons_succ]
            refine wpAnyH_take (i := 3) (oi := { dst := some 13, op := .load 9 (.tmp 12), type := _, pos := _, after := _, guard := none }) (v := .string ⟨x.toArray⟩) rfl (by kernel_rfl) (by kernel_rfl) (by kernel_rfl) (fun _ _ _ h => h) (Or.inl ⟨by rfl, fun wh hSw => ?_⟩) hHeld ?_
            · (dsimp only at hSw; go_simp)
            try simp only [Act.put, List.setIfInBounds_toArray, List.set_cons_zero, List.set_cons_succ]
            refine wpAnyH_ready (rs := [4]) (by kernel_rfl) (by simp) ?_
            refine AllReadyH.cons (o := { dst := some 14, op := .call { callee := .value (.func 114), args := #[.tmp 13], argTypes := #[9] }, type := _, pos := _, after := _, guard := none }) rfl (fun K hK => ?_) AllReadyH.nil
            go_simp
            refine (HV.out _).mono ?_
            rintro e w' ⟨rfl, rfl⟩
            refine hK.out _ _ ?_ (fun hHeld => ?_)
            · exact hHeld
            clear hK K
            try simp only [Act.put, List.setIfInBounds_toArray, List.set_cons_zero, List.set_cons_succ]
            refine wpAnyH_take (i := 5) (oi := { dst := some 15, op := .unOp .not 4 (.tmp 14), type := _, pos := _, after := _, guard := none }) (v := .bool false) rfl (by kernel_rfl) (by kernel_rfl) (by kernel_rfl) (fun _ _ _ h => h) (Or.inl ⟨by rfl, fun wh hSw => ?_⟩) hHeld ?_
            · (dsimp only at hSw; go_simp)
            try simp only [Act.put, List.setIfInBounds_toArray, List.set_cons_zero, List.set_cons_succ]
            refine wpAnyH_take (i := 6) (oi := { dst := some 16, op := .move (.tmp 15), type := _, pos := _, after := _, guard := none }) (v := .bool false) rfl (by kernel_rfl) (by kernel_rfl) (by kernel_rfl) (fun _ _ _ h => h) (Or.inl ⟨by rfl, fun wh hSw => ?_⟩) hHeld ?_
            · (dsimp only at hSw; go_simp)
            try simp only [Act.put, List.setIfInBounds_toArray, List.set_cons_zero, List.set_cons_succ]
            refine wpAnyH_take (i := 7) (oi := { dst := some 17, op := .move (.tmp 3), type := _, pos := _, after := _, guard := some (6, false) }) (v := .int .i64 (k : Int)) rfl (by kernel_rfl) (by kernel_rfl) (by kernel_rfl) (fun _ _ _ h => h) (Or.inl ⟨by rfl, fun wh hSw => ?_⟩) hHeld ?_
            · (dsimp only at hSw; go_simp)
            try simp only [Act.put, List.setIfInBounds_toArray, List.set_cons_zero, List.set_cons_succ]
            refine wpAnyH_take (i := 8) (oi := { dst := some 18, op := .binOp .gtr 3 (.tmp 17) (.const (.int .i64 0)) 3, type := _, pos := _, after := _, guard := some (6, false) }) (v := .bool true) rfl (by kernel_rfl) (by kernel_rfl) (by kernel_rfl) (fun _ _ _ h => h) (Or.inl ⟨by rfl, fun wh hSw => ?_⟩) hHeld ?_
            · (dsimp only at hSw; go_simp)
            try simp only [Act.put, List.setIfInBounds_toArray, List.set_cons_zero, List.set_cons_succ]
            refine wpAnyH_take (i := 9) (oi := { dst := some 19, op := .move (.tmp 18), type := _, pos := _, after := _, guard := some (6, false) }) (v := .bool true) rfl (by kernel_rfl) (by kernel_rfl) (by kernel_rfl) (fun _ _ _ h => h) (Or.inl ⟨by rfl, fun wh hSw => ?_⟩) hHeld ?_
            · (dsimp only at hSw; go_simp)
            try simp only [Act.put, List.setIfInBounds_toArray, List.set_cons_zero, List.set_cons_succ]
            refine wpAnyH_take (i := 10) (oi := { dst := some 20, op := .move (.tmp 0), type := _, pos := _, after := _, guard := some (9, true) }) (v := .slice (some ⟨b, o, none⟩) n ca) rfl (by kernel_rfl) (by kernel_rfl) (by kernel_rfl) (fun _ _ _ h => h) (Or.inl ⟨by rfl, fun wh hSw => ?_⟩) hHeld ?_
            · (dsimp only at hSw; go_simp)
            try simp only [Act.put, List.setIfInBounds_toArray, List.set_cons_zero, List.set_cons_succ]
            refine wpAnyH_take (i := 11) (oi := { dst := some 21, op := .move (.tmp 3), type := _, pos := _, after := _, guard := some (9, true) }) (v := .int .i64 (k : Int)) rfl (by kernel_rfl) (by kernel_rfl) (by kernel_rfl) (fun _ _ _ h => h) (Or.inl ⟨by rfl, fun wh hSw => ?_⟩) hHeld ?_
            · (dsimp only at hSw; go_simp)
            try simp only [Act.put, List.setIfInBounds_toArray, List.set_cons_zero, List.set_cons_succ]
            refine wpAnyH_take (i := 12) (oi := { dst := some 22, op := .binOp .sub 3 (.tmp 21) (.const (.int .i64 1)) 3, type := _, pos := _, after := _, guard := some (9, true) }) (v := .int .i64 (q : Int)) rfl (by kernel_rfl) (by kernel_rfl) (by kernel_rfl) (fun _ _ _ h => h) (Or.inl ⟨by rfl, fun wh hSw => ?_⟩) hHeld ?_
            · (dsimp only at hSw; go_simp; rw [IntKind.wrap_i64]; omega)
            try simp only [Act.put, List.setIfInBounds_toArray, List.set_cons_zero, List.set_cons_succ]
            refine wpAnyH_take (i := 13) (oi := { dst := some 23, op := .indexAddr 35 (.tmp 20) (.tmp 22), type := _, pos := _, after := _, guard := some (9, true) }) (v := .pointer (some ⟨b, o + q, none⟩)) rfl (by kernel_rfl) (by kernel_rfl) (by kernel_rfl) (fun _ _ _ h => h) (Or.inl ⟨by rfl, fun wh hSw => ?_⟩) hHeld ?_
            · (dsimp only at hSw; go_simp)
            try simp only [Act.put, List.setIfInBounds_toArray, List.set_cons_zero, List.set_cons_succ]
            refine wpAnyH_take (i := 14) (oi := { dst := some 24, op := .load 9 (.tmp 23), type := _, pos := _, after := _, guard := some (9, true) }) (v := .string ⟨y.toArray⟩) rfl (by kernel_rfl) (by kernel_rfl) (by kernel_rfl) (fun _ _ _ h => h) (Or.inl ⟨by rfl, fun wh hSw => ?_⟩) hHeld ?_
            · (dsimp only at hSw; go_simp)
            try simp only [Act.put, List.setIfInBounds_toArray, List.set_cons_zero, List.set_cons_succ]
            refine wpAnyH_take (i := 15) (oi := { dst := some 25, op := .move (.tmp 0), type := _, pos := _, after := _, guard := some (9, true) }) (v := .slice (some ⟨b, o, none⟩) n ca) rfl (by kernel_rfl) (by kernel_rfl) (by kernel_rfl) (fun _ _ _ h => h) (Or.inl ⟨by rfl, fun wh hSw => ?_⟩) hHeld ?_
            · (dsimp only at hSw; go_simp)
            try simp only [Act.put, List.setIfInBounds_toArray, List.set_cons_zero, List.set_cons_succ]
            refine wpAnyH_take (i := 16) (oi := { dst := some 26, op := .move (.tmp 3), type := _, pos := _, after := _, guard := some (9, true) }) (v := .int .i64 (k : Int)) rfl (by kernel_rfl) (by kernel_rfl) (by kernel_rfl) (fun _ _ _ h => h) (Or.inl ⟨by rfl, fun wh hSw => ?_⟩) hHeld ?_
            · (dsimp only at hSw; go_simp)
            try simp only [Act.put, List.setIfInBounds_toArray, List.set_cons_zero, List.set_cons_succ]
            refine wpAnyH_take (i := 17) (oi := { dst := some 27, op := .indexAddr 35 (.tmp 25) (.tmp 26), type := _, pos := _, after := _, guard := some (9, true) }) (v := .pointer (some ⟨b, o + k, none⟩)) rfl (by kernel_rfl) (by kernel_rfl) (by kernel_rfl) (fun _ _ _ h => h) (Or.inl ⟨by rfl, fun wh hSw => ?_⟩) hHeld ?_
            · (dsimp only at hSw; go_simp)
            try simp only [Act.put, List.setIfInBounds_toArray, List.set_cons_zero, List.set_cons_succ]
            refine wpAnyH_take (i := 18) (oi := { dst := some 28, op := .load 9 (.tmp 27), type := _, pos := _, after := _, guard := some (9, true) }) (v := .string ⟨x.toArray⟩) rfl (by kernel_rfl) (by kernel_rfl) (by kernel_rfl) (fun _ _ _ h => h) (Or.inl ⟨by rfl, fun wh hSw => ?_⟩) hHeld ?_
            · (dsimp only at hSw; go_simp)
            try simp only [Act.put, List.setIfInBounds_toArray, List.set_cons_zero, List.set_cons_succ]
            refine wpAnyH_take (i := 19) (oi := { dst := some 29, op := .binOp .geq 9 (.tmp 24) (.tmp 28) 9, type := _, pos := _, after := _, guard := some (9, true) }) (v := .bool false) rfl (by kernel_rfl) (by kernel_rfl) (by kernel_rfl) (fun _ _ _ h => h) (Or.inl ⟨by rfl, fun wh hSw => ?_⟩) hHeld ?_
            · (dsimp only at hSw; go_simp)
            try simp only [Act.put, List.setIfInBounds_toArray, List.set_cons_zero, List.set_cons_succ]
            refine wpAnyH_take (i := 20) (oi := { dst := some 30, op := .pick (.tmp 19) (.tmp 29) (.const (.bool false)), type := _, pos := _, after := _, guard := some (6, false) }) (v := .bool false) rfl (by kernel_rfl) (by kernel_rfl) (by kernel_rfl) (fun _ _ _ h => h) (Or.inl ⟨by rfl, fun wh hSw => ?_⟩) hHeld ?_
            · (dsimp only at hSw; go_simp)
            try simp only [Act.put, List.setIfInBounds_toArray, List.set_cons_zero, List.set_cons_succ]
            refine wpAnyH_take (i := 21) (oi := { dst := some 31, op := .pick (.tmp 16) (.const (.bool true)) (.tmp 30), type := _, pos := _, after := _, guard := none }) (v := .bool false) rfl (by kernel_rfl) (by kernel_rfl) (by kernel_rfl) (fun _ _ _ h => h) (Or.inl ⟨by rfl, fun wh hSw => ?_⟩) hHeld ?_
            · (dsimp only at hSw; go_simp)
            try simp only [Act.put, List.setIfInBounds_toArray, List.set_cons_zero, List.set_cons_succ]
            refine wpAnyH_done (by kernel_rfl) ?_ _
            go_wp2
            go_roundw
            case rel => exact ⟨k + 1, _, by omega, by go_num, HO2, rfl⟩
            case measure => simp [intOf]; omega
    · go_wp2
      go_ret
      have e : k = n := by omega
      refine reads_mk ?_
      rw [rvs, rokTo_all HT.out (by rw [e]; exact HN.out), ← HN.out, Bool.true_and, decide_eq_decide]
      omega
end Go.Proofs.YtcmmlgdfhkcmoaaGreat
namespace Go.Proofs.YtcmmlgdfhkcmoaaGreat
open Go.ChangeShapes Go.WideShapes Go.ChangeAt Go.RowKit
set_option linter.unusedVariables false
set_option maxRecDepth 100000
theorem any_take_all {xs : List Bs} {f : Bs → Bool} {k : Nat} (h : (xs.take k).any f = false) (hk : k = xs.length) : xs.any f = false := by rw [take_all hk] at h; exact h
theorem any_take_succ {xs : List Bs} {f : Bs → Bool} {k : Nat} (h : (xs.take k).any f = false) (hk : k < xs.length) (hf : f (xs.getD k []) = false) : (xs.take (k + 1)).any f = false := by
  rw [take_snoc_getD xs k [] hk, List.any_append, h]; simpa using hf
theorem any_at {xs : List Bs} {f : Bs → Bool} {k : Nat} (hk : k < xs.length) (hf : f (xs.getD k []) = true) : xs.any f = true := by
  rw [List.any_eq_true]
  exact ⟨_, by rw [getD_lt hk]; exact List.getElem_mem hk, hf⟩
theorem sMay0_any (w : World) (v : Value) (xs : List Bs) (g : Bs) (h : Strs w v xs) (hs : Short xs) (hg : g.length ≤ 2000000) :
    Calls Tryz.prog 189 #[v, .string ⟨g.toArray⟩] w (Says (may0 xs g) w) := by
  obtain ⟨a, ca, rfl, hla, hma, hxa⟩ := h
  unfold maxLen at hma
  obtain ⟨n, hN⟩ : ∃ n, n = xs.length := ⟨_, rfl⟩
  rw [← hN] at hla hxa ⊢
  have HN := Lib.hid hN
  have HS := Lib.hid hs
  have HX := Lib.hid hxa
  clear hN hs hxa
  go_enter Tryz.func189, Tryz.ntmps189
  go_wp2
  go_loop [5] (fun i => ∃ k : Nat, k ≤ n ∧ i = .int .i64 k ∧ Hid ((xs.take k).any (fun x => cov x g) = false)) (fun i => n - (intOf i).toNat)
  case atStart => exact ⟨0, Nat.zero_le _, rfl, Lib.hid (by simp)⟩
  case round =>
    obtain ⟨k, hk, rfl, HT⟩ := hrel
    by_cases hlt : k < n
    · have hlt' : (k : Int) < (n : Int) := by omega
      have hkx : k < xs.length := by rw [← HN.out]; exact hlt
      obtain ⟨b, o, rfl, hc⟩ := HX.out k hlt
      have HC := Lib.hid (sCovers_any w (xs.getD k []) g (HS.out.at k) hg)
      have HY := Lib.hid (fun h => any_at (f := fun x => cov x g) hkx h)
      have HO := Lib.hid (fun h => any_take_succ (f := fun x => cov x g) HT.out hkx h)
      generalize xs.getD k [] = x at hc HC HY HO
      clear hkx
      cases hv : cov x g with
      | true =>
        have HR := Lib.hid (HY.out hv)
        rw [hv] at HC
        clear hv
        go_wp2_with fail
        refine HC.out.mono ?_
        rintro e w1 ⟨rfl, rfl⟩
        go_wp2_with fail
        go_ret
        exact says_mk HR.out.symm
      | false =>
        have HR := Lib.hid (HO.out hv)
        rw [hv] at HC
        clear hv
        go_wp2_with fail
        refine HC.out.mono ?_
        rintro e w1 ⟨rfl, rfl⟩
        go_wp2_with fail
        go_round
        case rel => exact ⟨k + 1, by omega, by go_num, HR⟩
        case measure => simp [intOf]; omega
    · go_wp2
      go_ret
      have e : k = n := by omega
      exact says_mk (any_take_all HT.out (by rw [e]; exact HN.out)).symm
theorem Strs.grown {w w' : World} {v : Value} {xs : List Bs} {row : Option Nat} (h : Strs w v xs) (hg : w.grownBy w' row) (hne : ∀ b o n c, v = .slice (some ⟨b, o, none⟩) n c → row ≠ some b) : Strs w' v xs := by
  obtain ⟨a, cap, rfl, h1, h2, h3⟩ := h
  refine ⟨a, cap, rfl, h1, h2, fun i hi => ?_⟩
  obtain ⟨b, o, rfl, hc⟩ := h3 i hi
  exact ⟨b, o, rfl, (World.cell?_of_block (hg.block b (cell_lt hc) (fun e => hne b o _ _ rfl e.symm))).trans hc⟩
theorem Strs.take {w : World} {b o n c : Nat} {xs : List Bs} (h : Strs w (.slice (some ⟨b, o, none⟩) n c) xs) {k : Nat} (hk : k ≤ xs.length) : Strs w (.slice (some ⟨b, o, none⟩) k c) (xs.take k) := by
  obtain ⟨a', cap, e, h1, h2, h3⟩ := h
  injection e with e1 e2 e3
  subst e1; subst e3
  refine ⟨_, c, by rw [List.length_take, Nat.min_eq_left hk], by rw [List.length_take]; omega, h2, fun i hi => ?_⟩
  rw [List.length_take] at hi
  obtain ⟨b', o', e, hc⟩ := h3 i (by omega)
  cases e
  refine ⟨b, o, rfl, ?_⟩
  rw [hc, getD_lt (show i < xs.length by omega), getD_lt (show i < (xs.take k).length by rw [List.length_take]; omega), List.getElem_take]
theorem Strs.drop {w : World} {b o n c : Nat} {xs : List Bs} (h : Strs w (.slice (some ⟨b, o, none⟩) n c) xs) {k : Nat} (hk : k ≤ xs.length) : Strs w (.slice (some ⟨b, o + k, none⟩) (n - k) (c - k)) (xs.drop k) := by
  obtain ⟨a', cap, e, h1, h2, h3⟩ := h
  injection e with e1 e2 e3
  subst e1; subst e3
  refine ⟨_, c - k, by rw [List.length_drop, e2], by rw [List.length_drop]; omega, by omega, fun i hi => ?_⟩
  rw [List.length_drop] at hi
  obtain ⟨b', o', e, hc⟩ := h3 (k + i) (by omega)
  cases e
  refine ⟨b, o + k, rfl, ?_⟩
  rw [Nat.add_assoc, hc, getD_lt (show k + i < xs.length by omega), getD_lt (show i < (xs.drop k).length by rw [List.length_drop]; omega), List.getElem_drop]
end Go.Proofs.YtcmmlgdfhkcmoaaGreat
namespace Go.Proofs.YtcmmlgdfhkcmoaaGreat
open Go.ChangeShapes Go.WideShapes Go.ChangeAt Go.RowKit
set_option linter.unusedVariables false
set_option maxRecDepth 100000
theorem ivInfo : (Tryz.prog.info? 46).map (fun i => (i.zero, i.size, i.bytes)) = some (some (.agg #[.int .i64 0, .string ⟨#[]⟩, .int .i64 0]), 3, 32) := by kernel_rfl
def isC (xs : List IV) : List Value := xs.flatMap ivC
theorem isC_len (xs : List IV) : (isC xs).length = xs.length * 3 := by
  induction xs with
  | nil => rfl
  | cons x xs ih => simp only [isC, List.flatMap_cons, List.length_append] at ih ⊢; rw [ih]; simp [ivC]; omega
theorem isC_get (xs : List IV) {i j : Nat} (hi : i < xs.length) (hj : j < 3) : (isC xs)[i * 3 + j]? = (ivC (xs.getD i iz))[j]? := by
  have e : xs = xs.take i ++ ([xs.getD i iz] ++ xs.drop (i + 1)) := by
    rw [← List.append_assoc, ← take_snoc_getD xs i iz hi, List.take_append_drop]
  have h1 : (isC (xs.take i)).length = i * 3 := by rw [isC_len, List.length_take]; omega
  have h2 : isC xs = isC (xs.take i) ++ (ivC (xs.getD i iz) ++ isC (xs.drop (i + 1))) := by
    conv => lhs; rw [e]
    simp [isC]
  rw [h2, List.getElem?_append_right (by omega), h1, Nat.add_sub_cancel_left, List.getElem?_append_left (by simp [ivC]; omega)]
theorem isC_one (xs : List IV) : ∀ u ∈ isC xs, u.oneCell' = true := by
  intro u hu
  obtain ⟨x, _, hx⟩ := List.mem_flatMap.1 hu
  simp only [ivC, List.mem_cons, List.not_mem_nil, or_false] at hx
  rcases hx with rfl | rfl | rfl <;> rfl
theorem is_cells {w : World} {b o : Nat} {xs : List IV} (h : ∀ i, i < xs.length → Tri w b (o + i * 3) (xs.getD i iz)) : ∀ j u, (isC xs)[j]? = some u → w.cell? ⟨b, o + j, none⟩ = some u := by
  intro j u hj
  have hjl : j < xs.length * 3 := by
    have := (List.getElem?_eq_some_iff.1 hj).1
    rwa [isC_len] at this
  have hi : j / 3 < xs.length := by omega
  have hq : j % 3 < 3 := by omega
  have e : j = j / 3 * 3 + j % 3 := by omega
  have hg := isC_get xs hi hq
  rw [← e, hj] at hg
  have ht := h _ hi
  have e2 : o + j = o + j / 3 * 3 + j % 3 := by omega
  rw [e2]
  obtain h0 | h0 | h0 : j % 3 = 0 ∨ j % 3 = 1 ∨ j % 3 = 2 := by omega
  · rw [h0] at hg ⊢; cases hg; exact ht.c0
  · rw [h0] at hg ⊢; cases hg; exact ht.c1
  · rw [h0] at hg ⊢; cases hg; exact ht.c2
end Go.Proofs.YtcmmlgdfhkcmoaaGreat
namespace Go.Proofs.YtcmmlgdfhkcmoaaGreat
open Go.ChangeShapes Go.WideShapes Go.ChangeAt Go.RowKit
set_option linter.unusedVariables false
set_option maxRecDepth 100000
def BRes (b : Bool) (w : World) (e : Ending) (w' : World) : Prop := e = .returned (.bool b) ∧ Below w.heap.size w w'
set_option maxRecDepth 100000 in
theorem eqInfo_any (w : World) (x y : IV) : Calls Tryz.prog 157 #[ivV x, ivV y] w (BRes (decide (x = y)) w) := by
  obtain ⟨xk, xg, xr⟩ := x
  obtain ⟨yk, yg, yr⟩ := y
  have HB : Hid (Below w.heap.size w ((w.alloc (.cells #[.int .i64 xk, .string ⟨xg.toArray⟩, .int .i64 xr] 46)).alloc (.cells #[.int .i64 yk, .string ⟨yg.toArray⟩, .int .i64 yr] 46))) := Lib.hid (((Below.refl _ _).alloc (Nat.le_refl _) _).alloc (by simp) _)
  obtain ⟨r, hr⟩ : ∃ r, r = decide ((⟨xk, xg, xr⟩ : IV) = ⟨yk, yg, yr⟩) := ⟨_, rfl⟩
  rw [← hr]
  by_cases h0 : xk = yk
  · by_cases h1 : xg = yg
    · by_cases h2 : xr = yr
      · have HR : Hid (r = true) := Lib.hid (by rw [hr]; exact decide_eq_true (iv_ext.2 ⟨h0, h1, h2⟩))
        have e0 : (xk != yk) = false := by simpa using h0
        have e1 : (xg == yg) = true := by simpa using h1
        have e2 : (xr != yr) = false := by simpa using h2
        clear h0 h1 h2 hr
        go_enter Tryz.func157, Tryz.ntmps157
        go_wp2
        go_ret
        exact ⟨by rw [HR.out]; rfl, HB.out⟩
      · have HR : Hid (r = false) := Lib.hid (by rw [hr]; exact decide_eq_false (fun hh => h2 (iv_ext.1 hh).2.2))
        have e0 : (xk != yk) = false := by simpa using h0
        have e1 : (xg == yg) = true := by simpa using h1
        have e2 : (xr != yr) = true := by simpa using h2
        clear h0 h1 h2 hr
        go_enter Tryz.func157, Tryz.ntmps157
        go_wp2
        go_ret
        exact ⟨by rw [HR.out]; rfl, HB.out⟩
    · have HR : Hid (r = false) := Lib.hid (by rw [hr]; exact decide_eq_false (fun hh => h1 (iv_ext.1 hh).2.1))
      have e0 : (xk != yk) = false := by simpa using h0
      have e1 : (xg == yg) = false := by simpa using h1
      clear h0 h1 hr
      go_enter Tryz.func157, Tryz.ntmps157
      go_wp2
      go_ret
      exact ⟨by rw [HR.out]; rfl, HB.out⟩
  · have HR : Hid (r = false) := Lib.hid (by rw [hr]; exact decide_eq_false (fun hh => h0 (iv_ext.1 hh).1))
    have e0 : (xk != yk) = true := by simpa using h0
    clear h0 hr
    go_enter Tryz.func157, Tryz.ntmps157
    go_wp2
    go_ret
    exact ⟨by rw [HR.out]; rfl, HB.out⟩
set_option maxRecDepth 100000 in
theorem eqInfoS_any (w : World) (v u : Value) (xs ys : List IV) (h : Is w v xs) (k : Is w u ys) : Calls Tryz.prog 101 #[v, u] w (BRes (decide (xs = ys)) w) := by
  obtain ⟨a, ca, rfl, ha1, ha2, ha3⟩ := h
  obtain ⟨b, cb, rfl, hb1, hb2, hb3⟩ := k
  unfold maxLen at ha2 hb2
  obtain ⟨r, hr⟩ : ∃ r, r = decide (xs = ys) := ⟨_, rfl⟩
  rw [← hr]
  have HR := Lib.hid hr
  have HA := Lib.hid ha3
  have HBs := Lib.hid hb3
  obtain ⟨m, hm⟩ : ∃ m, m = xs.length := ⟨_, rfl⟩
  obtain ⟨n, hn⟩ : ∃ n, n = ys.length := ⟨_, rfl⟩
  have HM := Lib.hid hm
  have HN := Lib.hid hn
  rw [← hm] at ha1 ⊢
  rw [← hn] at hb1 ⊢
  clear hm hn hr ha3 hb3
  by_cases hl : m = n
  · subst hl
    have hl' : ((m : Int) != (m : Int)) = false := by simp
    go_enter Tryz.func101, Tryz.ntmps101
    go_wp2
    go_loopw [5] (fun i wr => ∃ k : Nat, k ≤ m ∧ i = .int .i64 k ∧ Hid (Below w.heap.size w wr) ∧ Hid (xs.take k = ys.take k)) (fun i _ => m - (intOf i).toNat)
    case atStart => exact ⟨0, Nat.zero_le _, rfl, Lib.hid (Below.refl _ _), Lib.hid rfl⟩
    case round =>
      obtain ⟨k, hk, rfl, HBW, HTK⟩ := hrel
      by_cases hlt : k < m
      · obtain ⟨ba, oa, rfl, hfa⟩ := HA.out k (by have := HM.out; omega)
        obtain ⟨bb, ob, rfl, hfb⟩ := HBs.out k (by have := HN.out; omega)
        have hba := block_lt_of_cell hfa.c0
        have hbb := block_lt_of_cell hfb.c0
        obtain ⟨x, hx⟩ : ∃ x, x = xs.getD k iz := ⟨_, rfl⟩
        obtain ⟨y, hy⟩ : ∃ y, y = ys.getD k iz := ⟨_, rfl⟩
        rw [← hx] at hfa
        rw [← hy] at hfb
        have HFA := Lib.hid hfa
        have HFB := Lib.hid hfb
        have HX := Lib.hid hx
        have HY := Lib.hid hy
        have FA : Hid (Tri wr.drew ba (oa + k * 3) x) := Lib.hid (hfa.below HBW.out.drew hba)
        have FB : Hid (Tri wr.drew bb (ob + k * 3) y) := Lib.hid (hfb.below HBW.out.drew hbb)
        have HC1 := Lib.hid (eqInfo_any wr.drew x y)
        have hlt' : (k : Int) < (m : Int) := by omega
        clear hx hy hfa hfb
        by_cases he : x = y
        · rw [decide_eq_true he] at HC1
          have HT2 : Hid (xs.take (k + 1) = ys.take (k + 1)) := Lib.hid (take_eq_succ (d := iz) (by rw [← HM.out, ← HN.out]) (by have := HM.out; omega) HTK.out (by rw [← HX.out, ← HY.out]; exact he))
          clear he
          go_wp2_with fail
          refine wp_region_held_drew (S := fun w' => Tri w' ba (oa + k * 3) x ∧ Tri w' bb (ob + k * 3) y) (by kernel_rfl) ⟨FA.out, FB.out⟩ (fun hHeld => ?_)
          refine wpAnyH_take (i := 0) (oi := { dst := some 17, op := .move (.tmp 0), type := _, pos := _, after := _, guard := none }) (v := .slice (some ⟨ba, oa, none⟩) m ca) rfl (by kernel_rfl) (by kernel_rfl) (by kernel_rfl) (fun _ _ _ h => h) (Or.inl ⟨by rfl, fun wh hSw => ?_⟩) hHeld ?_
          · (obtain ⟨⟨s0, s1, s2⟩, t0, t1, t2⟩ := hSw; go_simp)
          try simp only [Act.put, List.setIfInBounds_toArray, List.set_cons_zero, List.set_cons_succ]
          refine wpAnyH_take (i := 1) (oi := { dst := some 18, op := .move (.tmp 5), type := _, pos := _, after := _, guard := none }) (v := .int .i64 (k : Int)) rfl (by kernel_rfl) (by kernel_rfl) (by kernel_rfl) (fun _ _ _ h => h) (Or.inl ⟨by rfl, fun wh hSw => ?_⟩) hHeld ?_
          · (obtain ⟨⟨s0, s1, s2⟩, t0, t1, t2⟩ := hSw; go_simp)
          try simp only [Act.put, List.setIfInBounds_toArray, List.set_cons_zero, List.set_cons_succ]
          refine wpAnyH_take (i := 2) (oi := { dst := some 19, op := .indexAddr 26 (.tmp 17) (.tmp 18), type := _, pos := _, after := _, guard := none }) (v := .pointer (some ⟨ba, oa + k * 3, none⟩)) rfl (by kernel_rfl) (by kernel_rfl) (by kernel_rfl) (fun _ _ _ h => h) (Or.inl ⟨by rfl, fun wh hSw => ?_⟩) hHeld ?_
          · (obtain ⟨⟨s0, s1, s2⟩, t0, t1, t2⟩ := hSw; go_simp)
          try simp only [Act.put, List.setIfInBounds_toArray, List.set_cons_zero, List.set_cons_succ]
          refine wpAnyH_take (i := 3) (oi := { dst := some 20, op := .load 46 (.tmp 19), type := _, pos := _, after := _, guard := none }) (v := ivV x) rfl (by kernel_rfl) (by kernel_rfl) (by kernel_rfl) (fun _ _ _ h => h) (Or.inl ⟨by rfl, fun wh hSw => ?_⟩) hHeld ?_
          · (obtain ⟨⟨s0, s1, s2⟩, t0, t1, t2⟩ := hSw; go_simp)
          try simp only [Act.put, List.setIfInBounds_toArray, List.set_cons_zero, List.set_cons_succ]
          refine wpAnyH_take (i := 4) (oi := { dst := some 21, op := .move (.tmp 1), type := _, pos := _, after := _, guard := none }) (v := .slice (some ⟨bb, ob, none⟩) m cb) rfl (by kernel_rfl) (by kernel_rfl) (by kernel_rfl) (fun _ _ _ h => h) (Or.inl ⟨by rfl, fun wh hSw => ?_⟩) hHeld ?_
          · (obtain ⟨⟨s0, s1, s2⟩, t0, t1, t2⟩ := hSw; go_simp)
          try simp only [Act.put, List.setIfInBounds_toArray, List.set_cons_zero, List.set_cons_succ]
          refine wpAnyH_take (i := 5) (oi := { dst := some 22, op := .move (.tmp 5), type := _, pos := _, after := _, guard := none }) (v := .int .i64 (k : Int)) rfl (by kernel_rfl) (by kernel_rfl) (by kernel_rfl) (fun _ _ _ h => h) (Or.inl ⟨by rfl, fun wh hSw => ?_⟩) hHeld ?_
          · (obtain ⟨⟨s0, s1, s2⟩, t0, t1, t2⟩ := hSw; go_simp)
          try simp only [Act.put, List.setIfInBounds_toArray, List.set_cons_zero, List.set_cons_succ]
          refine wpAnyH_take (i := 6) (oi := { dst := some 23, op := .indexAddr 26 (.tmp 21) (.tmp 22), type := _, pos := _, after := _, guard := none }) (v := .pointer (some ⟨bb, ob + k * 3, none⟩)) rfl (by kernel_rfl) (by kernel_rfl) (by kernel_rfl) (fun _ _ _ h => h) (Or.inl ⟨by rfl, fun wh hSw => ?_⟩) hHeld ?_
          · (obtain ⟨⟨s0, s1, s2⟩, t0, t1, t2⟩ := hSw; go_simp)
          try simp only [Act.put, List.setIfInBounds_toArray, List.set_cons_zero, List.set_cons_succ]
          refine wpAnyH_take (i := 7) (oi := { dst := some 24, op := .load 46 (.tmp 23), type := _, pos := _, after := _, guard := none }) (v := ivV y) rfl (by kernel_rfl) (by kernel_rfl) (by kernel_rfl) (fun _ _ _ h => h) (Or.inl ⟨by rfl, fun wh hSw => ?_⟩) hHeld ?_
          · (obtain ⟨⟨s0, s1, s2⟩, t0, t1, t2⟩ := hSw; go_simp)
          try simp only [Act.put, List.setIfInBounds_toArray, List.set_cons_zero, List.set_cons_succ]
          refine wpAnyH_ready (rs := [8]) (by kernel_rfl) (by simp) ?_
          refine AllReadyH.cons (o := { dst := some 25, op := .call { callee := .value (.func 157), args := #[.tmp 20, .tmp 24], argTypes := #[46, 46] }, type := _, pos := _, after := _, guard := none }) rfl (fun K hK => ?_) AllReadyH.nil
          go_simp
          refine HC1.out.mono ?_
          rintro e w1 ⟨rfl, hb1⟩
          have HB1 := Lib.hid ((HBW.out.drew).trans (hb1.mono HBW.out.size))
          clear hb1
          try go_simp
          refine hK.out _ _ ?_ (fun hHeld => ?_)
          · exact ⟨HFA.out.below HB1.out hba, HFB.out.below HB1.out hbb⟩
          clear hK K
          try simp only [Act.put, List.setIfInBounds_toArray, List.set_cons_zero, List.set_cons_succ]
          refine wpAnyH_take (i := 9) (oi := { dst := some 26, op := .unOp .not 4 (.tmp 25), type := _, pos := _, after := _, guard := none }) (v := .bool false) rfl (by kernel_rfl) (by kernel_rfl) (by kernel_rfl) (fun _ _ _ h => h) (Or.inl ⟨by rfl, fun wh hSw => ?_⟩) hHeld ?_
          · (obtain ⟨⟨s0, s1, s2⟩, t0, t1, t2⟩ := hSw; go_simp)
          try simp only [Act.put, List.setIfInBounds_toArray, List.set_cons_zero, List.set_cons_succ]
          refine wpAnyH_done (by kernel_rfl) ?_ _
          go_wp2
          go_roundw
          case rel => exact ⟨k + 1, by omega, by go_num, HB1, HT2⟩
          case measure => simp [intOf]; omega
        · rw [decide_eq_false he] at HC1
          have HF : Hid (r = false) := Lib.hid (by rw [HR.out]; exact decide_eq_false (fun hh => he (by rw [HX.out, HY.out, hh])))
          clear he
          go_wp2_with fail
          refine wp_region_held_drew (S := fun w' => Tri w' ba (oa + k * 3) x ∧ Tri w' bb (ob + k * 3) y) (by kernel_rfl) ⟨FA.out, FB.out⟩ (fun hHeld => ?_)
          refine wpAnyH_take (i := 0) (oi := { dst := some 17, op := .move (.tmp 0), type := _, pos := _, after := _, guard := none }) (v := .slice (some ⟨ba, oa, none⟩) m ca) rfl (by kernel_rfl) (by kernel_rfl) (by kernel_rfl) (fun _ _ _ h => h) (Or.inl ⟨by rfl, fun wh hSw => ?_⟩) hHeld ?_
          · (obtain ⟨⟨s0, s1, s2⟩, t0, t1, t2⟩ := hSw; go_simp)
          try simp only [Act.put, List.setIfInBounds_toArray, List.set_cons_zero, List.set_cons_succ]
          refine wpAnyH_take (i := 1) (oi := { dst := some 18, op := .move (.tmp 5), type := _, pos := _, after := _, guard := none }) (v := .int .i64 (k : Int)) rfl (by kernel_rfl) (by kernel_rfl) (by kernel_rfl) (fun _ _ _ h => h) (Or.inl ⟨by rfl, fun wh hSw => ?_⟩) hHeld ?_
          · (obtain ⟨⟨s0, s1, s2⟩, t0, t1, t2⟩ := hSw; go_simp)
          try simp only [Act.put, List.setIfInBounds_toArray, List.set_cons_zero, List.set_cons_succ]
          refine wpAnyH_take (i := 2) (oi := { dst := some 19, op := .indexAddr 26 (.tmp 17) (.tmp 18), type := _, pos := _, after := _, guard := none }) (v := .pointer (some ⟨ba, oa + k * 3, none⟩)) rfl (by kernel_rfl) (by kernel_rfl) (by kernel_rfl) (fun _ _ _ h => h) (Or.inl ⟨by rfl, fun wh hSw => ?_⟩) hHeld ?_
          · (obtain ⟨⟨s0, s1, s2⟩, t0, t1, t2⟩ := hSw; go_simp)
          try simp only [Act.put, List.setIfInBounds_toArray, List.set_cons_zero, List.set_cons_succ]
          refine wpAnyH_take (i := 3) (oi := { dst := some 20, op := .load 46 (.tmp 19), type := _, pos := _, after := _, guard := none }) (v := ivV x) rfl (by kernel_rfl) (by kernel_rfl) (by kernel_rfl) (fun _ _ _ h => h) (Or.inl ⟨by rfl, fun wh hSw => ?_⟩) hHeld ?_
          · (obtain ⟨⟨s0, s1, s2⟩, t0, t1, t2⟩ := hSw; go_simp)
          try simp only [Act.put, List.setIfInBounds_toArray, List.set_cons_zero, List.set_cons_succ]
          refine wpAnyH_take (i := 4) (oi := { dst := some 21, op := .move (.tmp 1), type := _, pos := _, after := _, guard := none }) (v := .slice (some ⟨bb, ob, none⟩) m cb) rfl (by kernel_rfl) (by kernel_rfl) (by kernel_rfl) (fun _ _ _ h => h) (Or.inl ⟨by rfl, fun wh hSw => ?_⟩) hHeld ?_
          · (obtain ⟨⟨s0, s1, s2⟩, t0, t1, t2⟩ := hSw; go_simp)
          try simp only [Act.put, List.setIfInBounds_toArray, List.set_cons_zero, List.set_cons_succ]
          refine wpAnyH_take (i := 5) (oi := { dst := some 22, op := .move (.tmp 5), type := _, pos := _, after := _, guard := none }) (v := .int .i64 (k : Int)) rfl (by kernel_rfl) (by kernel_rfl) (by kernel_rfl) (fun _ _ _ h => h) (Or.inl ⟨by rfl, fun wh hSw => ?_⟩) hHeld ?_
          · (obtain ⟨⟨s0, s1, s2⟩, t0, t1, t2⟩ := hSw; go_simp)
          try simp only [Act.put, List.setIfInBounds_toArray, List.set_cons_zero, List.set_cons_succ]
          refine wpAnyH_take (i := 6) (oi := { dst := some 23, op := .indexAddr 26 (.tmp 21) (.tmp 22), type := _, pos := _, after := _, guard := none }) (v := .pointer (some ⟨bb, ob + k * 3, none⟩)) rfl (by kernel_rfl) (by kernel_rfl) (by kernel_rfl) (fun _ _ _ h => h) (Or.inl ⟨by rfl, fun wh hSw => ?_⟩) hHeld ?_
          · (obtain ⟨⟨s0, s1, s2⟩, t0, t1, t2⟩ := hSw; go_simp)
          try simp only [Act.put, List.setIfInBounds_toArray, List.set_cons_zero, List.set_cons_succ]
          refine wpAnyH_take (i := 7) (oi := { dst := some 24, op := .load 46 (.tmp 23), type := _, pos := _, after := _, guard := none }) (v := ivV y) rfl (by kernel_rfl) (by kernel_rfl) (by kernel_rfl) (fun _ _ _ h => h) (Or.inl ⟨by rfl, fun wh hSw => ?_⟩) hHeld ?_
          · (obtain ⟨⟨s0, s1, s2⟩, t0, t1, t2⟩ := hSw; go_simp)
          try simp only [Act.put, List.setIfInBounds_toArray, List.set_cons_zero, List.set_cons_succ]
          refine wpAnyH_ready (rs := [8]) (by kernel_rfl) (by simp) ?_
          refine AllReadyH.cons (o := { dst := some 25, op := .call { callee := .value (.func 157), args := #[.tmp 20, .tmp 24], argTypes := #[46, 46] }, type := _, pos := _, after := _, guard := none }) rfl (fun K hK => ?_) AllReadyH.nil
          go_simp
          refine HC1.out.mono ?_
          rintro e w1 ⟨rfl, hb1⟩
          have HB1 := Lib.hid ((HBW.out.drew).trans (hb1.mono HBW.out.size))
          clear hb1
          try go_simp
          refine hK.out _ _ ?_ (fun hHeld => ?_)
          · exact ⟨HFA.out.below HB1.out hba, HFB.out.below HB1.out hbb⟩
          clear hK K
          try simp only [Act.put, List.setIfInBounds_toArray, List.set_cons_zero, List.set_cons_succ]
          refine wpAnyH_take (i := 9) (oi := { dst := some 26, op := .unOp .not 4 (.tmp 25), type := _, pos := _, after := _, guard := none }) (v := .bool true) rfl (by kernel_rfl) (by kernel_rfl) (by kernel_rfl) (fun _ _ _ h => h) (Or.inl ⟨by rfl, fun wh hSw => ?_⟩) hHeld ?_
          · (obtain ⟨⟨s0, s1, s2⟩, t0, t1, t2⟩ := hSw; go_simp)
          try simp only [Act.put, List.setIfInBounds_toArray, List.set_cons_zero, List.set_cons_succ]
          refine wpAnyH_done (by kernel_rfl) ?_ _
          go_wp2
          go_ret
          exact ⟨by rw [HF.out]; rfl, HB1.out⟩
      · have ek : k = m := by omega
        subst ek
        have HF : Hid (r = true) := Lib.hid (by rw [HR.out]; exact decide_eq_true (eq_of_take (by rw [← HM.out, ← HN.out]) HM.out HTK.out))
        go_wp2
        go_ret
        exact ⟨by rw [HF.out]; rfl, HBW.out⟩
  · have hl' : ((m : Int) != (n : Int)) = true := by simp; omega
    have HF : Hid (r = false) := Lib.hid (by rw [HR.out]; exact decide_eq_false (fun hh => hl (by rw [HM.out, HN.out, hh])))
    go_enter Tryz.func101, Tryz.ntmps101
    go_wp2
    go_ret
    exact ⟨by rw [HF.out]; rfl, Below.refl _ _⟩
end Go.Proofs.YtcmmlgdfhkcmoaaGreat
namespace Go.Proofs.YtcmmlgdfhkcmoaaGreat
open Go.ChangeShapes Go.WideShapes Go.ChangeAt Go.RowKit
set_option linter.unusedVariables false
set_option maxRecDepth 100000
theorem l6In_any (w : World) (x lo hi : Int) : Calls Tryz.prog 127 #[.int .i64 x, .int .i64 lo, .int .i64 hi] w (Says (inR x lo hi) w) := by
  unfold inR
  by_cases h : lo ≤ x ∧ x ≤ hi
  · rw [decide_eq_true h]
    obtain ⟨h1, h2⟩ := h
    go_enter Tryz.func127, Tryz.ntmps127
    go_wp2
    go_ret
    exact says_mk rfl
  · rw [decide_eq_false h]
    by_cases h1 : lo ≤ x
    · have h2 : decide (x ≤ hi) = false := by simp; omega
      clear h
      go_enter Tryz.func127, Tryz.ntmps127
      go_wp2
      go_ret
      exact says_mk rfl
    · have h2 : decide (lo ≤ x) = false := by simpa using h1
      clear h
      go_enter Tryz.func127, Tryz.ntmps127
      go_wp2
      go_ret
      exact says_mk rfl
set_option maxRecDepth 100000 in
theorem l12Info_any (w : World) (x : IV) (hx : x.g.length ≤ 2000000) : Calls Tryz.prog 124 #[ivV x] w (BRes (iok x) w) := by
  obtain ⟨xk, xg, xr⟩ := x
  have HB : Hid (Below w.heap.size w (w.alloc (.cells #[.int .i64 xk, .string ⟨xg.toArray⟩, .int .i64 xr] 46))) := Lib.hid ((Below.refl _ _).alloc (Nat.le_refl _) _)
  obtain ⟨r, hr⟩ : ∃ r, r = iok ⟨xk, xg, xr⟩ := ⟨_, rfl⟩
  rw [← hr]
  by_cases hk : xk = 0
  · subst hk
    have HR : Hid (r = decide ((⟨0, xg, xr⟩ : IV) = iz)) := Lib.hid (by rw [hr]; unfold iok; rw [if_pos rfl])
    clear hr
    by_cases hg : xg = []
    · subst hg
      by_cases hz : xr = 0
      · subst hz
        have HR2 : Hid (r = true) := Lib.hid (by rw [HR.out]; exact decide_eq_true rfl)
        clear HR
        go_enter Tryz.func124, Tryz.ntmps124
        go_wp2_with fail
        go_ret
        exact ⟨by rw [HR2.out]; rfl, HB.out⟩
      · have HR2 : Hid (r = false) := Lib.hid (by rw [HR.out]; exact decide_eq_false (fun hh => hz (iv_ext.1 hh).2.2))
        have e1 : (xr == 0) = false := by simpa using hz
        clear HR
        go_enter Tryz.func124, Tryz.ntmps124
        go_wp2_with fail
        go_ret
        exact ⟨by rw [HR2.out]; rfl, HB.out⟩
    · have HR2 : Hid (r = false) := Lib.hid (by rw [HR.out]; exact decide_eq_false (fun hh => hg (iv_ext.1 hh).2.1))
      have e1 : (xg == []) = false := by simpa using hg
      clear HR
      go_enter Tryz.func124, Tryz.ntmps124
      go_wp2_with fail
      go_ret
      exact ⟨by rw [HR2.out]; rfl, HB.out⟩
  · have hk' : (xk == 0) = false := by simpa using hk
    have HR : Hid (r = (inR xk 1 3 && (rv xg && inR xr 0 50))) := Lib.hid (by rw [hr]; unfold iok; rw [if_neg hk])
    have HI1 := Lib.hid (fun w => l6In_any w xk 1 3)
    have HI2 := Lib.hid (fun w => l6In_any w xr 0 50)
    have HV := Lib.hid (fun w => sRightValid_any w xg hx)
    clear hr hk
    go_enter Tryz.func124, Tryz.ntmps124
    go_wp2_with fail
    refine (HI1.out _).mono ?_
    rintro e w' ⟨rfl, rfl⟩
    cases h1 : inR xk 1 3 with
    | false =>
      rw [h1] at HR
      clear h1
      go_wp2_with fail
      go_ret
      exact ⟨by rw [HR.out]; rfl, HB.out⟩
    | true =>
      rw [h1] at HR
      clear h1
      go_wp2_with fail
      refine (HV.out _).mono ?_
      rintro e w' ⟨rfl, rfl⟩
      cases h2 : rv xg with
      | false =>
        rw [h2] at HR
        clear h2
        go_wp2_with fail
        go_ret
        exact ⟨by rw [HR.out]; rfl, HB.out⟩
      | true =>
        rw [h2] at HR
        clear h2
        go_wp2_with fail
        refine (HI2.out _).mono ?_
        rintro e w' ⟨rfl, rfl⟩
        go_wp2_with fail
        go_ret
        exact ⟨by rw [HR.out]; rfl, HB.out⟩
def ShortI (xs : List IV) : Prop := ∀ x ∈ xs, x.g.length ≤ 2000000
theorem ShortI.at {xs : List IV} (h : ShortI xs) (i : Nat) : (xs.getD i iz).g.length ≤ 2000000 := by
  by_cases hi : i < xs.length
  · rw [getD_lt hi]; exact h _ (List.getElem_mem hi)
  · rw [List.getD, List.getElem?_eq_none (Nat.le_of_not_lt hi)]; exact Nat.zero_le _
set_option maxRecDepth 100000 in
theorem infosValid_any (w : World) (v : Value) (xs : List IV) (h : Is w v xs) (hs : ShortI xs) : Calls Tryz.prog 65 #[v] w (BRes (isok xs) w) := by
  obtain ⟨a, ca, rfl, hla, hma, hxa⟩ := h
  unfold maxLen at hma
  obtain ⟨n, hN⟩ : ∃ n, n = xs.length := ⟨_, rfl⟩
  rw [← hN] at hla ⊢
  have HN := Lib.hid hN
  have HX := Lib.hid hxa
  have HS := Lib.hid hs
  clear hN hxa hs
  obtain ⟨r, hr⟩ : ∃ r, r = isok xs := ⟨_, rfl⟩
  rw [← hr]
  have HR := Lib.hid hr
  clear hr
  go_enter Tryz.func65, Tryz.ntmps65
  go_wp2
  go_loopw [3] (fun i wr => ∃ k : Nat, k ≤ n ∧ i = .int .i64 k ∧ Hid (Below w.heap.size w wr) ∧ Hid (∀ i, i < k → iok (xs.getD i iz) = true)) (fun i _ => n - (intOf i).toNat)
  case atStart => exact ⟨0, Nat.zero_le _, rfl, Lib.hid (Below.refl _ _), Lib.hid (fun i hi => by omega)⟩
  case round =>
    obtain ⟨k, hk, rfl, HB, HT⟩ := hrel
    by_cases hlt : k < n
    · have hlt' : (k : Int) < (n : Int) := by omega
      have hkx : k < xs.length := by have := HN.out; omega
      obtain ⟨b, o, rfl, hc⟩ := HX.out k hkx
      have HC := Lib.hid (hc.below HB.out hc.lt)
      have HCD := Lib.hid (hc.below HB.out.drew hc.lt)
      have HV := Lib.hid (fun w => l12Info_any w (xs.getD k iz) (HS.out.at k))
      have HBAD : Hid (iok (xs.getD k iz) = false → r = false) := Lib.hid (fun hb => by
        rw [HR.out, Bool.eq_false_iff]
        intro hh
        rw [isok_at hh hkx] at hb
        cases hb)
      have HGOOD : Hid (iok (xs.getD k iz) = true → ∀ i, i < k + 1 → iok (xs.getD i iz) = true) := Lib.hid (fun hb i hi => by
        by_cases hik : i < k
        · exact HT.out i hik
        · obtain rfl : i = k := by omega
          exact hb)
      generalize xs.getD k iz = x at HC HCD HV HBAD HGOOD hc
      obtain ⟨c0, c1, c2⟩ := HC.out
      clear hc hkx
      cases hv : iok x with
      | false =>
        rw [hv] at HV
        have HF := Lib.hid (HBAD.out hv)
        clear hv
        go_wp2_with fail
        refine (HV.out wr).mono ?_
        rintro e w1 ⟨rfl, hb1⟩
        have B1 := Lib.hid (HB.out.trans (hb1.mono HB.out.size))
        clear hb1
        go_wp2_with fail
        go_ret
        exact ⟨by rw [HF.out]; rfl, B1.out⟩
      | true =>
        rw [hv] at HV
        have HG := Lib.hid (HGOOD.out hv)
        clear hv
        go_wp2_with fail
        refine (HV.out wr).mono ?_
        rintro e w1 ⟨rfl, hb1⟩
        have B1 := Lib.hid (HB.out.trans (hb1.mono HB.out.size))
        clear hb1
        go_wp2
        go_roundw
        case rel => exact ⟨k + 1, by omega, by go_num, B1, HG⟩
        case measure => simp [intOf]; omega
    · have e : k = n := by omega
      have HF : Hid (r = ((n : Int) == 12)) := Lib.hid (by
        rw [HR.out, isok, decide_eq_true (fun i hi => HT.out i (by have := HN.out; omega)), Bool.true_and]
        have := HN.out
        rw [Bool.eq_iff_iff, decide_eq_true_eq, beq_iff_eq]
        omega)
      go_wp2
      go_ret
      exact ⟨by rw [HF.out]; rfl, HB.out⟩
end Go.Proofs.YtcmmlgdfhkcmoaaGreat
namespace Go.Proofs.YtcmmlgdfhkcmoaaGreat
open Go.ChangeShapes Go.WideShapes Go.ChangeAt Go.RowKit
set_option linter.unusedVariables false
set_option maxRecDepth 100000
theorem IsW.place {w : World} {B0 B1 : Nat} {v : Value} {xs : List IV} {k : Nat} (h : IsW w B0 B1 v xs) (hk : k < xs.length) : ∃ g p cap, v = .slice (some ⟨g, p, none⟩) xs.length cap ∧ B0 ≤ g ∧ g < B1 ∧ TriW w g (p + k * 3) (xs.getD k iz) := by
  obtain ⟨a, cap, rfl, h1, h2, h3⟩ := h
  obtain ⟨g, p, rfl, hg0, hg1, ht⟩ := h3 k hk
  exact ⟨g, p, cap, rfl, hg0, hg1, ht⟩
end Go.Proofs.YtcmmlgdfhkcmoaaGreat
namespace Go.Proofs.YtcmmlgdfhkcmoaaGreat
open Go.ChangeShapes Go.WideShapes Go.ChangeAt Go.RowKit
set_option linter.unusedVariables false
set_option maxRecDepth 100000
theorem results_one_mid {P : Program} {fn : Func} {p : Tmp} {ty : TypeId} (h : fn.results = #[.cell p ty]) (tmps : Array Value) (w : World) (b o : Nat) (cs : List Value) (d : TypeDesc)
    (hp : tmps.getD p undef = .pointer (some ⟨b, o, none⟩)) (hc : w.rangeAt b o cs) (hu : P.underlying ty = some d) (hd : d.isRow = true) (hi : (P.info? ty).map (·.size) = some cs.length) :
    (results fn tmps).run P w = .ok (.agg cs.toArray) w := by
  have hp' : tmps[p]?.getD undef = .pointer (some ⟨b, o, none⟩) := by simpa using hp
  simp [results, h, hp', asAddr, run_loadVar_mid w b o ty cs d hc hu hd hi]
end Go.Proofs.YtcmmlgdfhkcmoaaGreat
namespace Go.Proofs.YtcmmlgdfhkcmoaaGreat
open Go.ChangeShapes Go.WideShapes Go.ChangeAt Go.RowKit
set_option linter.unusedVariables false
set_option maxRecDepth 100000
theorem l13Table_any (w : World) (k : Int) : Calls Tryz.prog 129 #[.int .i64 k] w (Says (isTab k) w) := by
  by_cases h2 : k = 2
  · subst h2
    go_enter Tryz.func129, Tryz.ntmps129
    go_wp2
    go_ret
    exact says_mk rfl
  · have e2 : (k == 2) = false := by simpa using h2
    by_cases h3 : k = 3
    · subst h3
      go_enter Tryz.func129, Tryz.ntmps129
      go_wp2
      go_ret
      exact says_mk rfl
    · have e3 : (k == 3) = false := by simpa using h3
      have HR : Hid (isTab k = false) := Lib.hid (decide_eq_false (by omega))
      rw [HR.out]
      clear h2 h3
      go_enter Tryz.func129, Tryz.ntmps129
      go_wp2
      go_ret
      exact says_mk rfl
set_option maxHeartbeats 1000000 in
theorem l13Entry_any (w : World) (vl vr : Value) (ys : List IV) (rs : List Bs) (f x k : Int) (hl : Is w vl ys) (hn : ys.length = 12) (hs : ShortI ys) (hr : Strs w vr rs) (hrs : Short rs) (hx : 0 ≤ x ∧ x ≤ 9999) (hk : isTab k = true) :
    Calls Tryz.prog 190 #[vl, .int .i64 f, .int .i64 x, .int .i64 k, vr] w (Says (tent ys f x k rs) w) := by
  have hk2 := isTab_iff.1 hk
  have hw : IntKind.i64.wrap (k - 1) = k - 1 := by rw [IntKind.wrap_i64]; omega
  clear hk hk2
  unfold tent
  by_cases hg : goodB x
  · rw [if_pos hg]
    have hfr := good_frame hg
    have HE := Lib.hid (fun w => eS_yes x w hg)
    obtain ⟨a, ca, rfl, h1, h2, h3⟩ := hl
    unfold maxLen at h2
    obtain ⟨j, hj⟩ : ∃ j : Nat, x / 4 = (j : Int) := ⟨(x / 4).toNat, by omega⟩
    have hjf : fr x = j := by unfold fr; omega
    obtain ⟨b, o, rfl, hc⟩ := h3 j (by omega)
    have HG : Hid ((ys.getD j iz).g.length ≤ 2000000) := Lib.hid (hs.at j)
    rw [hjf, hj]
    rw [hj] at HE
    obtain ⟨y, hy⟩ : ∃ y, y = ys.getD j iz := ⟨_, rfl⟩
    rw [← hy] at hc HG ⊢
    have HM := Lib.hid (fun hg => sMay0_any w vr rs y.g hr hrs hg)
    obtain ⟨c0, c1, c2⟩ := hc
    obtain ⟨n, hnn⟩ : ∃ n, n = ys.length := ⟨_, rfl⟩
    rw [← hnn] at h1 hn ⊢
    have hjn : j < n := by omega
    have hjn' : (j : Int) < (n : Int) := by omega
    have hj0 : (0 : Int) ≤ (j : Int) := by omega
    obtain ⟨wr, hwr⟩ : ∃ wr, wr = decide (x % 4 = 3) := ⟨_, rfl⟩
    rw [← hwr] at HE
    clear hwr hy h3 hg hfr hj hnn hr hn hx hs hrs hjf
    by_cases hf : (j : Int) = f
    · have hf' : ((j : Int) != f) = false := by simpa using hf
      have HR : Hid ((!decide ((j : Int) = f) && (decide (y.k = k - 1) && may0 rs y.g)) = false) := Lib.hid (by rw [decide_eq_true hf]; rfl)
      rw [HR.out]
      clear hf HR
      go_enter Tryz.func190, Tryz.ntmps190
      go_wp2_with fail
      refine (HE.out w).mono ?_
      rintro e w' ⟨rfl, rfl⟩
      go_wp2_with fail
      go_ret
      exact says_mk rfl
    · have hf' : ((j : Int) != f) = true := by simpa using hf
      by_cases hk1 : y.k = k - 1
      · have hk1' : (y.k == k - 1) = true := by simpa using hk1
        have HR : Hid ((!decide ((j : Int) = f) && (decide (y.k = k - 1) && may0 rs y.g)) = may0 rs y.g) := Lib.hid (by rw [decide_eq_false hf, decide_eq_true hk1]; rfl)
        rw [HR.out]
        have HM2 := Lib.hid (HM.out HG.out)
        generalize may0 rs y.g = r at HM2
        clear hf hk1 HR HM
        go_enter Tryz.func190, Tryz.ntmps190
        go_wp2_with fail
        refine (HE.out w).mono ?_
        rintro e w' ⟨rfl, rfl⟩
        go_wp2_with fail
        refine HM2.out.mono ?_
        rintro e w' ⟨rfl, rfl⟩
        go_wp2_with fail
        go_ret
        exact says_mk rfl
      · have hk1' : (y.k == k - 1) = false := by simpa using hk1
        have HR : Hid ((!decide ((j : Int) = f) && (decide (y.k = k - 1) && may0 rs y.g)) = false) := Lib.hid (by rw [decide_eq_false hk1, Bool.false_and, Bool.and_false])
        rw [HR.out]
        clear hf hk1 HR
        go_enter Tryz.func190, Tryz.ntmps190
        go_wp2_with fail
        refine (HE.out w).mono ?_
        rintro e w' ⟨rfl, rfl⟩
        go_wp2_with fail
        go_ret
        exact says_mk rfl
  · rw [if_neg hg]
    have HE := Lib.hid (fun w => eS_no x w hg (by omega) (by omega))
    have HR : Hid (decide (x = 0) = (x == 0)) := Lib.hid (by rw [Bool.eq_iff_iff]; simp)
    clear hg hl hr hs hrs hx hn
    go_enter Tryz.func190, Tryz.ntmps190
    go_wp2_with fail
    refine (HE.out w).mono ?_
    rintro e w' ⟨rfl, rfl⟩
    go_wp2_with fail
    go_ret
    exact says_mk (by rw [HR.out])
end Go.Proofs.YtcmmlgdfhkcmoaaGreat
namespace Go.Proofs.YtcmmlgdfhkcmoaaGreat
open Go.ChangeShapes Go.WideShapes Go.ChangeAt Go.RowKit
set_option linter.unusedVariables false
set_option maxRecDepth 100000
def IntsW (w : World) (B0 B1 : Nat) (v : Value) (xs : List Int) : Prop :=
  ∃ (a : Option Addr) (cap : Nat), v = .slice a xs.length cap ∧ xs.length ≤ cap ∧ cap ≤ maxLen ∧
    ∀ i, i < xs.length → ∃ g p, a = some ⟨g, p, none⟩ ∧ B0 ≤ g ∧ g < B1 ∧ w.cell? ⟨g, p + i, none⟩ = some (.int .i64 (xs.getD i 0)) ∧ w.frozen? ⟨g, p + i, none⟩ = false
theorem IntsW.ints {w : World} {B0 B1 : Nat} {v : Value} {xs : List Int} (h : IntsW w B0 B1 v xs) : Ints w v xs := by
  obtain ⟨a, cap, rfl, h1, h2, h3⟩ := h
  refine ⟨a, cap, rfl, h1, h2, fun i hi => ?_⟩
  obtain ⟨g, p, e, _, _, hc, _⟩ := h3 i hi
  exact ⟨g, p, e, hc⟩
theorem IntsW.chg {lo hi B0 B1 : Nat} {w w' : World} {v : Value} {xs : List Int} (h : IntsW w B0 B1 v xs) (c : Chg lo hi w w') (hB : B1 ≤ w.heap.size) (hh : B1 ≤ lo ∨ hi ≤ B0) : IntsW w' B0 B1 v xs := by
  obtain ⟨a, cap, rfl, h1, h2, h3⟩ := h
  refine ⟨a, cap, rfl, h1, h2, fun i hi => ?_⟩
  obtain ⟨g, p, e, hg0, hg1, hc, hf⟩ := h3 i hi
  have hb := c.block g (by omega) (by omega)
  exact ⟨g, p, e, hg0, hg1, (World.cell?_of_block hb).trans hc, (World.frozen?_of_block hb).trans hf⟩
theorem IntsW.of_own {w w' : World} {v : Value} {ys : List Int} (h : OwnI w v ys w') : IntsW w' w.heap.size w'.heap.size v ys := by
  rcases h.own.2 with ⟨e, _⟩ | ⟨g, cap, cur, rfl, hb, hbl, hnc, hcm, hcs, htk⟩
  · exact absurd e h.nn
  · refine ⟨some ⟨g, 0, none⟩, cap, rfl, hnc, hcm, fun i hi => ⟨g, 0, rfl, hb, (Array.getElem?_eq_some_iff.1 hbl).1, ?_, ?_⟩⟩
    · have := h.own.cells (g := g) rfl i (.int .i64 (ys.getD i 0)) (by rw [getD_lt hi]; simp)
      rw [add0] at this
      rw [Nat.zero_add]; exact this
    · simp [World.frozen?, hbl]
def NewR (ys : List Int) (w : World) (e : Ending) (w' : World) : Prop := ∃ v, e = .returned v ∧ IntsW w' w.heap.size w'.heap.size v ys ∧ Below w.heap.size w w'
end Go.Proofs.YtcmmlgdfhkcmoaaGreat
namespace Go.Proofs.YtcmmlgdfhkcmoaaGreat
open Go.ChangeShapes Go.WideShapes Go.ChangeAt Go.RowKit
set_option linter.unusedVariables false
set_option maxRecDepth 100000
set_option maxHeartbeats 1000000 in
theorem l13Ok_any (w : World) (vm vl vr : Value) (xss : List (List Int)) (ys : List IV) (rs : List Bs) (f k : Int) (h : Rows2 w vm xss) (hm : memOk xss = true) (hl : Is w vl ys) (hn : ys.length = 12) (hs : ShortI ys) (hr : Strs w vr rs) (hrs : Short rs) (hf : 0 ≤ f ∧ f ≤ 11) (hk : isTab k = true) :
    Calls Tryz.prog 130 #[vm, vl, .int .i64 f, .int .i64 k, vr] w (Says (tgood xss ys f k rs) w) := by
  obtain ⟨j, rfl⟩ : ∃ j : Nat, f = (j : Int) := ⟨f.toNat, by omega⟩
  have hj12 : j < 12 := by omega
  have HW := Lib.hid (fun i (hi : i < 4) => h.word hm (i := j) (j := i) hj12 hi)
  have HB := Lib.hid (fun i (hi : i < 4) => wd_bounds hm (i := j) (j := i) hj12 hi)
  have HE := Lib.hid (fun x hx => l13Entry_any w vl vr ys rs (j : Int) x k hl hn hs hr hrs hx hk)
  obtain ⟨r, hr⟩ : ∃ r, r = tgood xss ys (j : Int) k rs := ⟨_, rfl⟩
  rw [← hr]
  have HT : Hid (∀ i, i < 4 → tent ys (j : Int) (wd xss j i) k rs = false → r = false) := Lib.hid (fun i hi hb => by
    rw [hr, Bool.eq_false_iff]
    intro hh
    have := tgood_iff.1 hh i hi
    rw [Int.toNat_natCast, hb] at this
    cases this)
  have HT2 : Hid ((∀ i, i < 4 → tent ys (j : Int) (wd xss j i) k rs = true) → r = true) := Lib.hid (fun hb => by
    rw [hr]
    exact tgood_iff.2 (fun i hi => by rw [Int.toNat_natCast]; exact hb i hi))
  have hj0 : (0 : Int) ≤ (j : Int) := by omega
  have hjn : (j : Int) < 12 := by omega
  clear h hm hl hn hs hrs hf hk hr
  go_enter Tryz.func130, Tryz.ntmps130
  go_wp2
  go_loop [11] (fun i => ∃ n : Nat, n ≤ 4 ∧ i = .int .i64 n ∧ Hid (∀ t, t < n → tent ys (j : Int) (wd xss j t) k rs = true)) (fun i => 4 - (intOf i).toNat)
  case atStart => exact ⟨0, Nat.zero_le _, rfl, Lib.hid (fun t ht => by omega)⟩
  case round =>
    obtain ⟨n, hn4, rfl, HP⟩ := hrel
    by_cases hlt : n < 4
    · have hlt' : (n : Int) < 4 := by omega
      have hn0 : (0 : Int) ≤ (n : Int) := by omega
      obtain ⟨b, o, c, g, p, d, rfl, hc, hx⟩ := HW.out n hlt
      have hbd := HB.out n hlt
      have HN := Lib.hid (HT.out n hlt)
      unfold wd at hbd HN
      have HX := Lib.hid (HE.out _ hbd)
      have HP2 : Hid (tent ys (j : Int) ((xss.getD j []).getD n 0) k rs = true → ∀ t, t < n + 1 → tent ys (j : Int) (wd xss j t) k rs = true) := Lib.hid (fun hb t ht => by
        by_cases e : t = n
        · subst e; exact hb
        · exact HP.out t (by omega))
      obtain ⟨x, hxx⟩ : ∃ x, x = (xss.getD j []).getD n 0 := ⟨_, rfl⟩
      rw [← hxx] at hx HN HX HP2
      clear hbd hxx
      obtain ⟨q, hq⟩ : ∃ q, q = tent ys (j : Int) x k rs := ⟨_, rfl⟩
      rw [← hq] at HN HX HP2
      clear hq
      cases q with
      | false =>
        go_wp2_with fail
        refine HX.out.mono ?_
        rintro e w' ⟨rfl, rfl⟩
        go_wp2_with fail
        go_ret
        exact says_mk (HN.out (by trivial)).symm
      | true =>
        go_wp2_with fail
        refine HX.out.mono ?_
        rintro e w' ⟨rfl, rfl⟩
        go_wp2_with fail
        go_round
        case rel => exact ⟨n + 1, by omega, by go_num, Lib.hid (HP2.out (by trivial))⟩
        case measure => simp [intOf]; omega
    · have e : n = 4 := by omega
      subst e
      go_wp2
      go_ret
      exact says_mk (HT2.out HP.out).symm
end Go.Proofs.YtcmmlgdfhkcmoaaGreat
namespace Go.Proofs.YtcmmlgdfhkcmoaaGreat
open Go.ChangeShapes Go.WideShapes Go.ChangeAt Go.RowKit
set_option linter.unusedVariables false
set_option maxRecDepth 100000
theorem count_take_le (fs : List Int) (t : Nat) (j : Int) : (fs.take t).count j ≤ fs.length := by
  have h1 := List.count_le_length (a := j) (l := fs.take t)
  rw [List.length_take] at h1
  omega
theorem setCell_chg (w : World) (g o : Nat) (v : Value) : Chg g (g + 1) w (w.setCell ⟨g, o, none⟩ v) :=
  ⟨rfl, rfl, rfl, by simp [World.setCell], fun b _ hb => Below.heap_setCell w ⟨g, o, none⟩ _ b (by show b ≠ g; omega)⟩
theorem size_setCell (w : World) (g o : Nat) (v : Value) : (w.setCell ⟨g, o, none⟩ v).heap.size = w.heap.size := by simp [World.setCell]
theorem chg_drew (w : World) : Chg 0 0 w w.drew := ⟨rfl, rfl, rfl, Nat.le_refl _, fun _ _ _ => rfl⟩
end Go.Proofs.YtcmmlgdfhkcmoaaGreat
namespace Go.Proofs.YtcmmlgdfhkcmoaaGreat
open Go.ChangeShapes Go.WideShapes Go.ChangeAt Go.RowKit
set_option linter.unusedVariables false
set_option maxRecDepth 100000
def cl (F : Nat → Nat) : List Int := (List.range 12).map (fun j => (F j : Int))
theorem cl_len (F : Nat → Nat) : (cl F).length = 12 := by simp [cl]
theorem cl_get (F : Nat → Nat) {j : Nat} (hj : j < 12) : (cl F).getD j 0 = (F j : Int) := by
  unfold cl
  rw [getD_lt (by simpa using hj)]
  simp
theorem IntsW.set {w : World} {B0 B1 : Nat} {v : Value} {xs : List Int} (h : IntsW w B0 B1 v xs) {j : Nat} (hj : j < xs.length) (x : Int) :
    ∃ g p c, v = .slice (some ⟨g, p, none⟩) xs.length c ∧ B0 ≤ g ∧ g < B1 ∧ w.cell? ⟨g, p + j, none⟩ = some (.int .i64 (xs.getD j 0)) ∧ w.frozen? ⟨g, p + j, none⟩ = false ∧ IntsW (w.setCell ⟨g, p + j, none⟩ (.int .i64 x)) B0 B1 v (xs.set j x) := by
  obtain ⟨a, cap, rfl, h1, h2, h3⟩ := h
  obtain ⟨g, p, rfl, hg0, hg1, hc, hf⟩ := h3 j hj
  refine ⟨g, p, cap, rfl, hg0, hg1, hc, hf, _, cap, by rw [List.length_set], by rw [List.length_set]; exact h1, h2, fun i hi => ?_⟩
  rw [List.length_set] at hi
  obtain ⟨g', p', e, _, _, hc', hf'⟩ := h3 i hi
  cases e
  refine ⟨g, p, rfl, hg0, hg1, ?_, (frozen_set _).trans hf'⟩
  by_cases hij : i = j
  · subst hij
    rw [getD_lt (by rw [List.length_set]; exact hi), List.getElem_set_self]
    exact cell_set_same hc'
  · rw [getD_lt (by rw [List.length_set]; exact hi), List.getElem_set_ne (by omega), ← getD_lt (d := 0) hi]
    exact (cell_set_other (.inr (by omega))).trans hc'
theorem cl_set (F : Nat → Nat) {j : Nat} (hj : j < 12) : (cl F).set j ((F j : Int) + 1) = cl (fun i => F i + if i = j then 1 else 0) := by
  refine List.ext_getElem (by simp [cl]) fun i h1 h2 => ?_
  rw [List.getElem_set]
  simp only [cl, List.getElem_map, List.getElem_range]
  by_cases e : j = i
  · subst e; simp
  · rw [if_neg e, if_neg (by omega)]; simp
theorem cntN_le {xss : List (List Int)} {ys : List IV} (hm : memOk xss = true) (j : Nat) : ∀ n, n ≤ 12 → cntN xss ys j n ≤ 4 * n
  | 0, _ => by simp [cntN]
  | n + 1, h => by
    have ih := cntN_le (ys := ys) hm j n (by omega)
    have h1 : cnt1 (xss.getD n []) j ≤ 4 := by
      have a := List.count_le_length (a := (j : Int)) (l := named (xss.getD n []))
      have b := named_len (xss.getD n [])
      have c := mem_row hm (show n < 12 by omega)
      unfold cnt1; omega
    unfold cntN
    split <;> omega
structure CntRel (w : World) (C : Nat) (vo : Value) (F : Nat → Nat) (wr : World) : Prop where
  out : IntsW wr w.heap.size C vo (cl F)
  bel : Below w.heap.size w wr
  lo : w.heap.size ≤ C
  hi : C ≤ wr.heap.size
theorem CntRel.below {w : World} {C : Nat} {vo : Value} {F : Nat → Nat} {wr w' : World} (h : CntRel w C vo F wr) (hb : Below wr.heap.size wr w') : CntRel w C vo F w' :=
  ⟨h.out.chg (Chg.of_below hb) h.hi (.inr (Nat.zero_le _)), h.bel.trans (hb.mono h.bel.size), h.lo, Nat.le_trans h.hi hb.size⟩
theorem CntRel.drew {w : World} {C : Nat} {vo : Value} {F : Nat → Nat} {wr : World} (h : CntRel w C vo F wr) : CntRel w C vo F wr.drew := h.below (Below.refl _ _).drew
theorem CntRel.up {w : World} {C : Nat} {vo : Value} {F : Nat → Nat} {wr : World} (h : CntRel w C vo F wr) {j : Nat} (hj : j < 12) :
    ∃ g p c, vo = .slice (some ⟨g, p, none⟩) 12 c ∧ g < C ∧ wr.cell? ⟨g, p + j, none⟩ = some (.int .i64 (F j)) ∧ wr.frozen? ⟨g, p + j, none⟩ = false ∧ CntRel w C vo (fun i => F i + if i = j then 1 else 0) (wr.setCell ⟨g, p + j, none⟩ (.int .i64 ((F j : Int) + 1))) := by
  obtain ⟨g, p, c, e, hg0, hg1, hc, hf, hs⟩ := h.out.set (j := j) (by rw [cl_len]; exact hj) ((F j : Int) + 1)
  rw [cl_len] at e
  rw [cl_get F hj] at hc
  rw [cl_set F hj] at hs
  exact ⟨g, p, c, e, hg1, hc, hf, hs, h.bel.setCell (p := ⟨g, p + j, none⟩) hg0 _, h.lo, by rw [size_setCell]; exact h.hi⟩
theorem cnt_made (w : World) : CntRel w (w.heap.size + 1) (.slice (some ⟨w.heap.size, 0, none⟩) 12 12) (fun _ => 0) (w.alloc (.cells (madeCells #[.int .i64 0] 12) 3)) := by
  have e := fun j => cell_of_row (w.alloc (.cells (madeCells #[.int .i64 0] 12) 3)) w.heap.size j _ _ (0, 0) (heap_alloc_new w _)
  have ef := fun j => frozen_of_row (w.alloc (.cells (madeCells #[.int .i64 0] 12) 3)) w.heap.size j _ _ (heap_alloc_new w _)
  refine ⟨⟨_, 12, by rw [cl_len], by rw [cl_len]; exact Nat.le_refl _, by unfold maxLen; omega, fun i hi => ⟨_, 0, rfl, Nat.le_refl _, Nat.lt_succ_self _, ?_, ef _⟩⟩, (Below.refl _ _).alloc (Nat.le_refl _) _, by omega, by simp⟩
  rw [cl_len] at hi
  rw [cl_get _ hi, Nat.zero_add, e i]
  rcases (by omega : i = 0 ∨ i = 1 ∨ i = 2 ∨ i = 3 ∨ i = 4 ∨ i = 5 ∨ i = 6 ∨ i = 7 ∨ i = 8 ∨ i = 9 ∨ i = 10 ∨ i = 11) with rfl | rfl | rfl | rfl | rfl | rfl | rfl | rfl | rfl | rfl | rfl | rfl <;> first | kernel_rfl | simp [madeCells]
theorem cnt_take_snoc (fs : List Int) (F : Nat → Nat) {t i : Nat} (ht : t < fs.length) (hx : fs.getD t 0 = (i : Int)) (j : Nat) : F j + (fs.take (t + 1)).count (j : Int) = (F j + (fs.take t).count (j : Int)) + if j = i then 1 else 0 := by
  rw [take_snoc_getD fs t 0 ht, List.count_append, hx, Nat.add_assoc]
  congr 2
  by_cases e : j = i
  · subst e; simp
  · have : ¬ (i : Int) = (j : Int) := by omega
    simp [this, e]
set_option maxRecDepth 100000 in
set_option maxHeartbeats 2000000 in
theorem l13Count_any (w : World) (vm vl : Value) (xss : List (List Int)) (ys : List IV) (h : Rows2 w vm xss) (hm : memOk xss = true) (hl : Is w vl ys) (hn : ys.length = 12) :
    Calls Tryz.prog 131 #[vm, vl] w (NewR (cl (fun j => cntN xss ys j 12)) w) := by
  have hmk : (Instr.makeSlice 42 (.int .i64 12) (.int .i64 12)).run Tryz.prog w = .ok (.slice (some ⟨w.heap.size, 0, none⟩) 12 12) (w.alloc (.cells (madeCells #[.int .i64 0] 12) 3)) := run_make_row' (P := Tryz.prog) 42 3 (.int .i64 0) 8 Tryz.underlying42 intInfo rfl .i64 .i64 12 (by omega) (by omega) w
  have hlm := mem_len hm
  obtain ⟨a, c, rfl, q1, q2, q3⟩ := h
  obtain ⟨a0, c0, rfl, l1, l2, l3⟩ := hl
  rw [hlm] at q1 ⊢
  rw [hn] at l1 ⊢
  unfold maxLen at q2 l2
  have HQ := Lib.hid q3
  have HL := Lib.hid l3
  have HM := Lib.hid hm
  have HN := Lib.hid hn
  have HLM := Lib.hid hlm
  have HCM := Lib.hid (cnt_made w)
  obtain ⟨w0, hw0⟩ : ∃ w0, w0 = w.alloc (.cells (madeCells #[.int .i64 0] 12) 3) := ⟨_, rfl⟩
  rw [← hw0] at hmk HCM
  obtain ⟨vo, hvo⟩ : ∃ vo, vo = Value.slice (some ⟨w.heap.size, 0, none⟩) 12 12 := ⟨_, rfl⟩
  rw [← hvo] at hmk HCM
  obtain ⟨C, hC⟩ : ∃ C, C = w.heap.size + 1 := ⟨_, rfl⟩
  rw [← hC] at HCM
  clear q3 l3 hm hn hlm hw0 hvo hC
  go_enter Tryz.func131, Tryz.ntmps131
  go_wp2
  go_loopw [6] (fun i wr => ∃ f : Nat, f ≤ 12 ∧ i = .int .i64 f ∧ Hid (CntRel w C vo (fun j => cntN xss ys j f) wr)) (fun i _ => 12 - (intOf i).toNat)
  case atStart => exact ⟨0, Nat.zero_le _, rfl, HCM⟩
  case round =>
    obtain ⟨f, hf, rfl, HR⟩ := hrel
    by_cases hlt : f < 12
    · have hlt' : (f : Int) < 12 := by omega
      have hf0 : (0 : Int) ≤ (f : Int) := by omega
      obtain ⟨b, o, u, rfl, hc, hu⟩ := HQ.out f (by have := HLM.out; omega)
      obtain ⟨bl, ol, rfl, ht⟩ := HL.out f (by have := HN.out; omega)
      have hbd : ∀ i, i < (xss.getD f []).length → 0 ≤ (xss.getD f []).getD i 0 ∧ (xss.getD f []).getD i 0 ≤ 9999 := fun i hi => wd_bounds HM.out hlt (by have := mem_row HM.out hlt; omega)
      have hr4 := mem_row HM.out hlt
      have hcr := (HR.out.bel.cell (p := ⟨b, o + f, none⟩) (cell_lt hc)).trans hc
      have HUN := Lib.hid (l3Named_any wr u (xss.getD f []) (hu.below (B := 0) HR.out.bel) (by omega) hbd)
      have HCN : Hid (∀ j, cntN xss ys j (f + 1) = cntN xss ys j f + (if isTab (ys.getD f iz).k = true then (named (xss.getD f [])).count (j : Int) else 0)) := Lib.hid (fun j => rfl)
      have hfs4 := named_len (xss.getD f [])
      rw [hr4] at hfs4
      have HIN : Hid (∀ x ∈ named (xss.getD f []), 0 ≤ x ∧ x < 12) := Lib.hid (fun x hx => named_in hx)
      obtain ⟨fs, hfs⟩ : ∃ fs, fs = named (xss.getD f []) := ⟨_, rfl⟩
      rw [← hfs] at HUN HCN hfs4 HIN
      obtain ⟨F, hF⟩ : ∃ F : Nat → Nat, F = fun j => cntN xss ys j f := ⟨_, rfl⟩
      rw [← hF] at HR
      have HCN2 : Hid (∀ j, cntN xss ys j (f + 1) = F j + (if isTab (ys.getD f iz).k = true then fs.count (j : Int) else 0)) := Lib.hid (fun j => by rw [HCN.out, hF])
      have hFb : ∀ j, F j ≤ 4 * f := fun j => by rw [hF]; exact cntN_le HM.out j f (by omega)
      have HFB := Lib.hid hFb
      have HT := Lib.hid ht
      obtain ⟨y, hy⟩ : ∃ y, y = ys.getD f iz := ⟨_, rfl⟩
      rw [← hy] at HT HCN2
      have HY := Lib.hid hy
      clear hc hu hbd hr4 hfs hF HCN hFb ht hy
      go_wp2_with fail
      refine HUN.out.mono ?_
      rintro e w2 ⟨vn, rfl, hown2⟩
      have HN2 := Lib.hid (IntsW.of_own hown2)
      have HR2 := Lib.hid (HR.out.below hown2.bel)
      obtain ⟨D0, hD0⟩ : ∃ D0, D0 = wr.heap.size := ⟨_, rfl⟩
      obtain ⟨D1, hD1⟩ : ∃ D1, D1 = w2.heap.size := ⟨_, rfl⟩
      have HC0 : Hid (C ≤ D0) := Lib.hid (by rw [hD0]; exact HR.out.hi)
      have HBD : Hid (Below w.heap.size w w2) := Lib.hid HR2.out.bel
      rw [← hD0, ← hD1] at HN2
      have HD1 := Lib.hid hD1
      clear hown2 hD0 hD1 HR HUN hcr
      obtain ⟨a2, c2, rfl, p1, p2, -⟩ := HN2.out
      unfold maxLen at p2
      obtain ⟨m, hm⟩ : ∃ m, m = fs.length := ⟨_, rfl⟩
      rw [← hm] at p1 HN2 hfs4 ⊢
      have HMM := Lib.hid hm
      clear hm
      have HTB := Lib.hid (fun w => l13Table_any w y.k)
      obtain ⟨bt, hbt⟩ : ∃ bt, bt = isTab y.k := ⟨_, rfl⟩
      rw [← hbt] at HTB HCN2
      clear hbt
      cases bt with
      | false =>
        have HFIN : Hid (CntRel w C vo (fun j => cntN xss ys j (f + 1)) w2) := Lib.hid (by
          have e : (fun j => cntN xss ys j (f + 1)) = F := funext (fun j => by rw [HCN2.out j]; simp)
          rw [e]; exact HR2.out)
        go_wp2_with fail
        go_loopw [8] (fun i wr => i = .int .i64 0 ∧ wr = w2) (fun i _ => 0)
        case atStart => exact ⟨rfl, rfl⟩
        case round =>
          obtain ⟨rfl, rfl⟩ := hrel
          by_cases hm0 : 0 < m
          · have hm0' : (0 : Int) < (m : Int) := by omega
            have hc0 := (HT.out.below HBD.out HT.out.lt).c0
            go_wp2_with fail
            refine (HTB.out _).mono ?_
            rintro e w' ⟨rfl, rfl⟩
            go_wp2_with fail
            go_roundw
            case rel => exact ⟨f + 1, by omega, by go_num, HFIN⟩
            case measure => simp [intOf]; omega
          · have hm0' : m = 0 := by omega
            go_wp2_with fail
            go_roundw
            case rel => exact ⟨f + 1, by omega, by go_num, HFIN⟩
            case measure => simp [intOf]; omega
      | true =>
        have HFIN : Hid (∀ wr', CntRel w C vo (fun j => F j + fs.count (j : Int)) wr' → CntRel w C vo (fun j => cntN xss ys j (f + 1)) wr') := Lib.hid (fun wr' h => by
          have e : (fun j => cntN xss ys j (f + 1)) = fun j => F j + fs.count (j : Int) := funext (fun j => by rw [HCN2.out j]; simp)
          rw [e]; exact h)
        have HR3 : Hid (CntRel w C vo (fun j => F j + (fs.take 0).count (j : Int)) w2) := Lib.hid (by
          have e : (fun j => F j + (fs.take 0).count (j : Int)) = F := funext (fun j => by simp)
          rw [e]; exact HR2.out)
        go_wp2_with fail
        go_loopw [8] (fun i wr => ∃ t : Nat, t ≤ m ∧ i = .int .i64 t ∧ Hid (CntRel w C vo (fun j => F j + (fs.take t).count (j : Int)) wr) ∧ Hid (IntsW wr D0 D1 (.slice a2 m c2) fs) ∧ Hid (wr.heap.size = D1)) (fun i _ => m - (intOf i).toNat)
        case atStart => exact ⟨0, Nat.zero_le _, rfl, HR3, HN2, Lib.hid HD1.out.symm⟩
        case round =>
          obtain ⟨t, ht, rfl, HRA, HNA, HSZ⟩ := hrel
          by_cases hm0 : t < m
          · have hm0' : (t : Int) < (m : Int) := by omega
            have ht0 : (0 : Int) ≤ (t : Int) := by omega
            have hc0 := (HT.out.below HRA.out.bel HT.out.lt).c0
            have htf : t < fs.length := by have := HMM.out; omega
            have hfin := HIN.out _ (List.getElem_mem htf)
            obtain ⟨a3, c3, e3, _, _, p3⟩ := HNA.out
            injection e3 with e31 e32 e33
            subst e31
            clear e32 e33
            obtain ⟨g2, p, rfl, hg2C, -, hcf, -⟩ := p3 t htf
            rw [getD_lt htf] at hcf
            obtain ⟨x, hx⟩ : ∃ x, x = fs[t] := ⟨_, rfl⟩
            have hxg : fs.getD t 0 = x := by rw [getD_lt htf, hx]
            rw [← hx] at hfin hcf
            obtain ⟨i, rfl⟩ : ∃ i : Nat, x = (i : Int) := ⟨x.toNat, by omega⟩
            have hi12' : i < 12 := by omega
            obtain ⟨g, p0, cc, hvo, hgC, hcg, hfg, hup⟩ := HRA.out.up hi12'
            have HUP : Hid (CntRel w C vo (fun j => F j + (fs.take (t + 1)).count (j : Int)) (wr.setCell ⟨g, p0 + i, none⟩ (.int .i64 (((F i + (fs.take t).count (i : Int) : Nat) : Int) + 1)))) := Lib.hid (by
              have e : (fun j => F j + (fs.take (t + 1)).count (j : Int)) = fun j => (F j + (fs.take t).count (j : Int)) + if j = i then 1 else 0 := funext (fun j => cnt_take_snoc fs F htf hxg j)
              rw [e]; exact hup)
            have hzb : F i + (fs.take t).count (i : Int) ≤ 60 := by
              have h1 := count_take_le fs t (i : Int)
              have h2 := HFB.out i
              have := HMM.out
              omega
            obtain ⟨z, hz⟩ : ∃ z, z = F i + (fs.take t).count (i : Int) := ⟨_, rfl⟩
            rw [← hz] at hcg HUP hzb
            have hgg : g2 ≠ g := by have := HC0.out; omega
            have HNU : Hid (IntsW (wr.setCell ⟨g, p0 + i, none⟩ (.int .i64 ((z : Int) + 1))).drew D0 D1 (.slice (some ⟨g2, p, none⟩) m c2) fs) := Lib.hid ((HNA.out.chg (setCell_chg wr g (p0 + i) (.int .i64 ((z : Int) + 1))) (by have := HSZ.out; omega) (.inr (by have := HC0.out; omega))).chg (chg_drew _) (by rw [size_setCell]; have := HSZ.out; omega) (.inr (Nat.zero_le _)))
            have HSU : Hid ((wr.setCell ⟨g, p0 + i, none⟩ (.int .i64 ((z : Int) + 1))).drew.heap.size = D1) := Lib.hid (by
              show (wr.setCell ⟨g, p0 + i, none⟩ (.int .i64 ((z : Int) + 1))).heap.size = D1
              rw [size_setCell]; exact HSZ.out)
            have hi0 : (0 : Int) ≤ (i : Int) := by omega
            have hi12 : (i : Int) < 12 := by omega
            have hwr : IntKind.i64.wrap ((z : Int) + 1) = (z : Int) + 1 := by rw [IntKind.wrap_i64]; omega
            have hzb' : (z : Int) ≤ 60 := by omega
            subst hvo
            clear hfin p3 hx hxg hz hup htf hzb
            go_wp2_with fail
            refine (HTB.out _).mono ?_
            rintro e w' ⟨rfl, rfl⟩
            go_wp2_with fail
            refine wp_region_held_drew (S := fun w' => w'.cell? ⟨g2, p + t, none⟩ = some (.int .i64 (i : Int))) (by kernel_rfl) hcf (fun hHeld => ?_)
            refine wpAnyH_take (i := 0) (oi := { dst := some 33, op := .move (.tmp 5), type := _, pos := _, after := _, guard := none }) (v := .slice (some ⟨g, p0, none⟩) 12 cc) rfl (by kernel_rfl) (by kernel_rfl) (by kernel_rfl) (fun _ _ _ h => h) (Or.inl ⟨by rfl, fun wh hSw => ?_⟩) hHeld ?_
            · (dsimp only at hSw; go_simp)
            try simp only [Act.put, List.setIfInBounds_toArray, List.set_cons_zero, List.set_cons_succ]
            refine wpAnyH_take (i := 1) (oi := { dst := some 34, op := .move (.tmp 7), type := _, pos := _, after := _, guard := none }) (v := .slice (some ⟨g2, p, none⟩) m c2) rfl (by kernel_rfl) (by kernel_rfl) (by kernel_rfl) (fun _ _ _ h => h) (Or.inl ⟨by rfl, fun wh hSw => ?_⟩) hHeld ?_
            · (dsimp only at hSw; go_simp)
            try simp only [Act.put, List.setIfInBounds_toArray, List.set_cons_zero, List.set_cons_succ]
            refine wpAnyH_take (i := 2) (oi := { dst := some 35, op := .move (.tmp 8), type := _, pos := _, after := _, guard := none }) (v := .int .i64 (t : Int)) rfl (by kernel_rfl) (by kernel_rfl) (by kernel_rfl) (fun _ _ _ h => h) (Or.inl ⟨by rfl, fun wh hSw => ?_⟩) hHeld ?_
            · (dsimp only at hSw; go_simp)
            try simp only [Act.put, List.setIfInBounds_toArray, List.set_cons_zero, List.set_cons_succ]
            refine wpAnyH_take (i := 3) (oi := { dst := some 36, op := .indexAddr 42 (.tmp 34) (.tmp 35), type := _, pos := _, after := _, guard := none }) (v := .pointer (some ⟨g2, p + t, none⟩)) rfl (by kernel_rfl) (by kernel_rfl) (by kernel_rfl) (fun _ _ _ h => h) (Or.inl ⟨by rfl, fun wh hSw => ?_⟩) hHeld ?_
            · (dsimp only at hSw; go_simp)
            try simp only [Act.put, List.setIfInBounds_toArray, List.set_cons_zero, List.set_cons_succ]
            refine wpAnyH_take (i := 4) (oi := { dst := some 37, op := .load 3 (.tmp 36), type := _, pos := _, after := _, guard := none }) (v := .int .i64 (i : Int)) rfl (by kernel_rfl) (by kernel_rfl) (by kernel_rfl) (fun _ _ _ h => h) (Or.inl ⟨by rfl, fun wh hSw => ?_⟩) hHeld ?_
            · (dsimp only at hSw; go_simp)
            try simp only [Act.put, List.setIfInBounds_toArray, List.set_cons_zero, List.set_cons_succ]
            refine wpAnyH_take (i := 5) (oi := { dst := some 38, op := .move (.tmp 5), type := _, pos := _, after := _, guard := none }) (v := .slice (some ⟨g, p0, none⟩) 12 cc) rfl (by kernel_rfl) (by kernel_rfl) (by kernel_rfl) (fun _ _ _ h => h) (Or.inl ⟨by rfl, fun wh hSw => ?_⟩) hHeld ?_
            · (dsimp only at hSw; go_simp)
            try simp only [Act.put, List.setIfInBounds_toArray, List.set_cons_zero, List.set_cons_succ]
            refine wpAnyH_take (i := 6) (oi := { dst := some 39, op := .move (.tmp 7), type := _, pos := _, after := _, guard := none }) (v := .slice (some ⟨g2, p, none⟩) m c2) rfl (by kernel_rfl) (by kernel_rfl) (by kernel_rfl) (fun _ _ _ h => h) (Or.inl ⟨by rfl, fun wh hSw => ?_⟩) hHeld ?_
            · (dsimp only at hSw; go_simp)
            try simp only [Act.put, List.setIfInBounds_toArray, List.set_cons_zero, List.set_cons_succ]
            refine wpAnyH_take (i := 7) (oi := { dst := some 40, op := .move (.tmp 8), type := _, pos := _, after := _, guard := none }) (v := .int .i64 (t : Int)) rfl (by kernel_rfl) (by kernel_rfl) (by kernel_rfl) (fun _ _ _ h => h) (Or.inl ⟨by rfl, fun wh hSw => ?_⟩) hHeld ?_
            · (dsimp only at hSw; go_simp)
            try simp only [Act.put, List.setIfInBounds_toArray, List.set_cons_zero, List.set_cons_succ]
            refine wpAnyH_take (i := 8) (oi := { dst := some 41, op := .indexAddr 42 (.tmp 39) (.tmp 40), type := _, pos := _, after := _, guard := none }) (v := .pointer (some ⟨g2, p + t, none⟩)) rfl (by kernel_rfl) (by kernel_rfl) (by kernel_rfl) (fun _ _ _ h => h) (Or.inl ⟨by rfl, fun wh hSw => ?_⟩) hHeld ?_
            · (dsimp only at hSw; go_simp)
            try simp only [Act.put, List.setIfInBounds_toArray, List.set_cons_zero, List.set_cons_succ]
            refine wpAnyH_take (i := 9) (oi := { dst := some 42, op := .load 3 (.tmp 41), type := _, pos := _, after := _, guard := none }) (v := .int .i64 (i : Int)) rfl (by kernel_rfl) (by kernel_rfl) (by kernel_rfl) (fun _ _ _ h => h) (Or.inl ⟨by rfl, fun wh hSw => ?_⟩) hHeld ?_
            · (dsimp only at hSw; go_simp)
            try simp only [Act.put, List.setIfInBounds_toArray, List.set_cons_zero, List.set_cons_succ]
            refine wpAnyH_take (i := 10) (oi := { dst := some 43, op := .indexAddr 42 (.tmp 38) (.tmp 42), type := _, pos := _, after := _, guard := none }) (v := .pointer (some ⟨g, p0 + i, none⟩)) rfl (by kernel_rfl) (by kernel_rfl) (by kernel_rfl) (fun _ _ _ h => h) (Or.inl ⟨by rfl, fun wh hSw => ?_⟩) hHeld ?_
            · (dsimp only at hSw; go_simp)
            try simp only [Act.put, List.setIfInBounds_toArray, List.set_cons_zero, List.set_cons_succ]
            refine wpAnyH_ready (rs := [11]) (by kernel_rfl) (by simp) ?_
            refine AllReadyH.cons (o := { dst := some 44, op := .load 3 (.tmp 43), type := _, pos := _, after := _, guard := none }) rfl (fun K hK => ?_) AllReadyH.nil
            go_simp
            refine hK.out _ _ ?_ (fun hHeld => ?_)
            · exact hHeld
            clear hK K
            try simp only [Act.put, List.setIfInBounds_toArray, List.set_cons_zero, List.set_cons_succ]
            refine wpAnyH_take (i := 12) (oi := { dst := some 45, op := .binOp .add 3 (.tmp 44) (.const (.int .i64 1)) 3, type := _, pos := _, after := _, guard := none }) (v := .int .i64 ((z : Int) + 1)) rfl (by kernel_rfl) (by kernel_rfl) (by kernel_rfl) (fun _ _ _ h => h) (Or.inl ⟨by rfl, fun wh hSw => ?_⟩) hHeld ?_
            · (dsimp only at hSw; go_simp)
            try simp only [Act.put, List.setIfInBounds_toArray, List.set_cons_zero, List.set_cons_succ]
            refine wpAnyH_take (i := 13) (oi := { dst := some 46, op := .indexAddr 42 (.tmp 33) (.tmp 37), type := _, pos := _, after := _, guard := none }) (v := .pointer (some ⟨g, p0 + i, none⟩)) rfl (by kernel_rfl) (by kernel_rfl) (by kernel_rfl) (fun _ _ _ h => h) (Or.inl ⟨by rfl, fun wh hSw => ?_⟩) hHeld ?_
            · (dsimp only at hSw; go_simp)
            try simp only [Act.put, List.setIfInBounds_toArray, List.set_cons_zero, List.set_cons_succ]
            refine wpAnyH_ready (rs := [14]) (by kernel_rfl) (by simp) ?_
            refine AllReadyH.cons (o := { dst := none, op := .store 3 (.tmp 46) (.tmp 45), type := _, pos := _, after := _, guard := none }) rfl (fun K hK => ?_) AllReadyH.nil
            go_simp
            refine hK.out _ _ ?_ (fun hHeld => ?_)
            · exact (cell_set_other (.inl hgg)).trans hHeld
            clear hK K
            try simp only [Act.put, List.setIfInBounds_toArray, List.set_cons_zero, List.set_cons_succ]
            refine wpAnyH_done (by kernel_rfl) ?_ _
            go_wp2_with fail
            go_roundw
            case rel => exact ⟨t + 1, by omega, by go_num, Lib.hid HUP.out.drew, HNU, HSU⟩
            case measure => simp [intOf]; omega
          · have e : t = m := by omega
            have HFR : Hid (CntRel w C vo (fun j => cntN xss ys j (f + 1)) wr) := Lib.hid (HFIN.out wr (by
              have := HRA.out
              rw [take_all (by rw [e]; exact HMM.out)] at this
              exact this))
            subst e
            go_wp2_with fail
            go_roundw
            case rel => exact ⟨f + 1, by omega, by go_num, HFR⟩
            case measure => simp [intOf]; omega
    · have e : f = 12 := by omega
      subst e
      have HE : Hid (IntsW wr w.heap.size wr.heap.size vo (cl (fun j => cntN xss ys j 12)) ∧ Below w.heap.size w wr) := Lib.hid ⟨by
        obtain ⟨a, cp, e, h1, h2, h3⟩ := HR.out.out
        refine ⟨a, cp, e, h1, h2, fun i hi => ?_⟩
        obtain ⟨g, p, e, hg0, hg1, hc⟩ := h3 i hi
        exact ⟨g, p, e, hg0, Nat.lt_of_lt_of_le hg1 HR.out.hi, hc⟩, HR.out.bel⟩
      go_wp2
      go_ret
      exact ⟨_, rfl, HE.out.1, HE.out.2⟩
end Go.Proofs.YtcmmlgdfhkcmoaaGreat
namespace Go.Proofs.YtcmmlgdfhkcmoaaGreat
open Go.ChangeShapes Go.WideShapes Go.ChangeAt Go.RowKit
set_option linter.unusedVariables false
set_option maxRecDepth 100000
theorem OwnI.one (w : World) (r : Int) : OwnI w (.slice (some ⟨w.heap.size, 0, none⟩) 1 1) [r] (w.alloc (.cells #[.int .i64 r] 3)) :=
  ⟨⟨by simp, .inr ⟨w.heap.size, 1, #[.int .i64 r], rfl, Nat.le_refl _, heap_alloc_new w _, Nat.le_refl _, by unfold maxLen; omega, rfl, by simp⟩⟩, (Below.refl _ _).alloc (Nat.le_refl _) _, fun h => by cases h⟩
theorem l21Reach_any (w : World) (v : Value) (xss : List (List Int)) (r : Int) (h : Rows2 w v xss) (hm : memOk xss = true) (hr : -1 ≤ r ∧ r < 12) :
    Calls Tryz.prog 84 #[v, .int .i64 r] w (NewI (reach xss r) w) := by
  by_cases hr0 : r < 0
  · rw [show reach xss r = [] from by unfold reach; rw [if_pos hr0]]
    clear h hm
    go_enter Tryz.func84, Tryz.ntmps84
    go_wp2
    go_ret
    exact ⟨_, rfl, OwnI.start _⟩
  · rw [show reach xss r = srt ((r :: tabs xss r) ++ frs xss r) 12 from by unfold reach; rw [if_neg hr0]]
    have HT := Lib.hid (fun ob => l3Tables_any (w.alloc ob) v xss r (h.below ((Below.refl _ _).alloc (Nat.le_refl _) ob)) hm (by omega))
    have HF : Hid (∀ W, Below w.heap.size w W → Calls Tryz.prog 144 #[v, .int .i64 r] W (NewI (frs xss r) W)) := Lib.hid (fun W hW => l3Frames_any W v xss r (h.below hW) hm (by omega))
    clear h hm
    obtain ⟨i0, hi, hz0, hz1, hz2⟩ := info_parts intInfo
    have HI := Lib.hid hi
    have HZ0 := Lib.hid hz0
    have HZ1 := Lib.hid hz1
    have HZ2 := Lib.hid hz2
    clear hi hz0 hz1 hz2
    have HTL : Hid ((tabs xss r).length ≤ 12) := Lib.hid (srt_len _ _)
    have HFL : Hid ((frs xss r).length ≤ 12) := Lib.hid (srt_len _ _)
    have H1 := Lib.hid (OwnI.one w r)
    obtain ⟨ts, hts⟩ : ∃ ts, ts = tabs xss r := ⟨_, rfl⟩
    obtain ⟨fs, hfs⟩ : ∃ fs, fs = frs xss r := ⟨_, rfl⟩
    rw [← hts] at HT HTL ⊢
    rw [← hfs] at HF HFL ⊢
    clear hts hfs
    go_enter Tryz.func84, Tryz.ntmps84
    go_wp2_with fail
    refine (HT.out _).mono ?_
    rintro e w1 ⟨v1, rfl, h1⟩
    obtain ⟨g1, c1, rfl, hg0, hg1⟩ := h1.form
    have HO1 := Lib.hid (H1.out.go h1.bel)
    have HN1 : Hid (∀ j y, (ts.map (Value.int .i64))[j]? = some y → w1.cell? ((⟨g1, 0, none⟩ : Addr).add j) = some y) := Lib.hid (fun j y hy => h1.own.cells (g := g1) rfl j y hy)
    clear h1 HT
    go_wp2_with (first | (at_builtin; refine wpList_append_own_at _ rfl (.tmp 10) (.tmp 13) 42 rfl w.heap.size 3 i0 (.int .i64 0) 1 8 Tryz.underlying42 HI.out HZ0.out HZ1.out HZ2.out rfl (by decide) _ _ _ rfl HO1.out.own ⟨g1, 0, none⟩ ts.length c1 (ts.map (.int .i64)) rfl (by simp) HN1.out (ints_one ts) (by have := HTL.out; unfold maxLen; simp; omega) (by have := HTL.out; simp; omega) HO1.out.bel.size ?_; intro v2 w2 hown2 hgrow2 hnn2 hblk2) | fail)
    have HO2 : Hid (OwnI w v2 (r :: ts) w2) := Lib.hid (HO1.out.grow0 (zs := ts) rfl hown2 hgrow2 (fun e => (hnn2.1 e).1))
    clear hown2 hgrow2 hnn2 hblk2 HO1 HN1
    have HF2 := Lib.hid (HF.out w2 HO2.out.bel)
    clear HF
    refine HF2.out.mono ?_
    rintro e w3 ⟨v3, rfl, h3⟩
    obtain ⟨g3, c3, rfl, hg30, hg31⟩ := h3.form
    have HO3 := Lib.hid (HO2.out.go h3.bel)
    have HN3 : Hid (∀ j y, (fs.map (Value.int .i64))[j]? = some y → w3.cell? ((⟨g3, 0, none⟩ : Addr).add j) = some y) := Lib.hid (fun j y hy => h3.own.cells (g := g3) rfl j y hy)
    clear h3 HF2 HO2
    go_wp2_with (first | (at_builtin; refine wpList_append_own_at _ rfl (.tmp 15) (.tmp 18) 42 rfl w.heap.size 3 i0 (.int .i64 0) 1 8 Tryz.underlying42 HI.out HZ0.out HZ1.out HZ2.out rfl (by decide) _ _ _ rfl HO3.out.own ⟨g3, 0, none⟩ fs.length c3 (fs.map (.int .i64)) rfl (by simp) HN3.out (ints_one fs) (by have := HTL.out; have := HFL.out; unfold maxLen; simp; omega) (by have := HTL.out; have := HFL.out; simp; omega) HO3.out.bel.size ?_; intro v4 w4 hown4 hgrow4 hnn4 hblk4) | fail)
    have HO4 : Hid (OwnI w v4 ((r :: ts) ++ fs) w4) := Lib.hid (HO3.out.grow0 (zs := fs) rfl hown4 hgrow4 (fun e => (hnn4.1 e).1))
    clear hown4 hgrow4 hnn4 hblk4 HO3 HN3
    have HS := Lib.hid (l3Sorted_any w4 v4 _ HO4.out.ints)
    refine HS.out.mono ?_
    rintro e w5 ⟨v5, rfl, h5⟩
    have HO5 := Lib.hid (h5.from HO4.out.bel)
    clear h5 HS
    go_wp2_with fail
    go_ret
    exact ⟨_, rfl, HO5.out⟩
theorem l21Allowed_any (w : World) (vl vf vr : Value) (ys : List IV) (fs : List Int) (rs : List Bs) (hl : Is w vl ys) (hn : ys.length = 12) (hs : ShortI ys) (hf : Ints w vf fs) (hb : ∀ f ∈ fs, 0 ≤ f ∧ f < 12) (hr : Strs w vr rs) (hrs : Short rs) :
    Calls Tryz.prog 128 #[vl, vf, vr] w (Says (alw ys fs rs) w) := by
  obtain ⟨a, ca, rfl, h1, h2, h3⟩ := hf
  unfold maxLen at h2
  obtain ⟨n, hN⟩ : ∃ n, n = fs.length := ⟨_, rfl⟩
  rw [← hN] at h1 h3 ⊢
  have HN := Lib.hid hN
  have HB := Lib.hid hb
  have HX := Lib.hid h3
  have HM : Hid (∀ g, g.length ≤ 2000000 → Calls Tryz.prog 189 #[vr, .string ⟨g.toArray⟩] w (Says (may0 rs g) w)) := Lib.hid (fun g hg => sMay0_any w vr rs g hr hrs hg)
  obtain ⟨a0, c0, rfl, l1, l2, l3⟩ := hl
  unfold maxLen at l2
  rw [hn] at l1 ⊢
  have HL := Lib.hid l3
  have HYN := Lib.hid hn
  have HSH := Lib.hid hs
  clear hN hb h3 l3 hn hs hr hrs
  go_enter Tryz.func128, Tryz.ntmps128
  have HAI : Hid (∀ k, k < n → 0 ≤ fs.getD k 0 ∧ fs.getD k 0 < 12) := Lib.hid (fun k hk => HB.out _ (by rw [getD_lt (by have := HN.out; omega)]; exact List.getElem_mem _))
  have HNO : Hid (∀ k, k < n → may0 rs (ys.getD (fs.getD k 0).toNat iz).g = false → alw ys fs rs = false) := Lib.hid (fun k hk hb => by
    rw [Bool.eq_false_iff]
    intro hh
    have := List.all_eq_true.1 hh (fs.getD k 0) (by rw [getD_lt (by have := HN.out; omega)]; exact List.getElem_mem _)
    rw [hb] at this
    cases this)
  have HYES : Hid ((∀ k, k < n → may0 rs (ys.getD (fs.getD k 0).toNat iz).g = true) → alw ys fs rs = true) := Lib.hid (fun hb => by
    unfold alw
    rw [List.all_eq_true]
    intro f hf
    obtain ⟨k, hk, rfl⟩ := List.getElem_of_mem hf
    have := hb k (by have := HN.out; omega)
    rwa [getD_lt hk] at this)
  generalize alw ys fs rs = r at HNO HYES
  go_wp2
  go_loop [7] (fun i => ∃ k : Nat, k ≤ n ∧ i = .int .i64 k ∧ Hid (∀ t, t < k → may0 rs (ys.getD (fs.getD t 0).toNat iz).g = true)) (fun i => n - (intOf i).toNat)
  case atStart => exact ⟨0, Nat.zero_le _, rfl, Lib.hid (fun t ht => by omega)⟩
  case round =>
    obtain ⟨k, hk, rfl, HP⟩ := hrel
    by_cases hlt : k < n
    · have hlt' : (k : Int) < (n : Int) := by omega
      obtain ⟨b, o, rfl, hc⟩ := HX.out k hlt
      have hf := HAI.out k hlt
      have hno := HNO.out k hlt
      have hp : may0 rs (ys.getD (fs.getD k 0).toNat iz).g = true → ∀ t, t < k + 1 → may0 rs (ys.getD (fs.getD t 0).toNat iz).g = true := fun hb t ht => by
        by_cases e : t = k
        · subst e; exact hb
        · exact HP.out t (by omega)
      have HNX := Lib.hid hno
      have HPX := Lib.hid hp
      clear hno hp
      obtain ⟨f, hff⟩ : ∃ f, f = fs.getD k 0 := ⟨_, rfl⟩
      rw [← hff] at hc hf HNX HPX
      obtain ⟨j, rfl⟩ : ∃ j : Nat, f = (j : Int) := ⟨f.toNat, by omega⟩
      obtain ⟨b0, o0, rfl, ht⟩ := HL.out j (by have := HYN.out; omega)
      have HG := Lib.hid (HSH.out.at j)
      rw [Int.toNat_natCast] at HNX HPX
      obtain ⟨y, hy⟩ : ∃ y, y = ys.getD j iz := ⟨_, rfl⟩
      rw [← hy] at ht HG HNX HPX
      have c1 := ht.c1
      have HMM := Lib.hid (HM.out y.g HG.out)
      generalize may0 rs y.g = q at HMM HNX HPX
      have hj1 : (j : Int) < 12 := hf.2
      have hj2 : j < 12 := by omega
      have hj0 : (0 : Int) ≤ (j : Int) := by omega
      clear hff hy ht hf
      cases q with
      | false =>
        go_wp2_with fail
        refine HMM.out.mono ?_
        rintro e w' ⟨rfl, rfl⟩
        go_wp2_with fail
        go_ret
        exact says_mk (HNX.out (by trivial)).symm
      | true =>
        go_wp2_with fail
        refine HMM.out.mono ?_
        rintro e w' ⟨rfl, rfl⟩
        go_wp2_with fail
        go_round
        case rel => exact ⟨k + 1, by omega, by go_num, Lib.hid (HPX.out (by trivial))⟩
        case measure => simp [intOf]; omega
    · have e : k = n := by omega
      subst e
      go_wp2
      go_ret
      exact says_mk (HYES.out HP.out).symm
end Go.Proofs.YtcmmlgdfhkcmoaaGreat
namespace Go.Proofs.YtcmmlgdfhkcmoaaGreat
open Go.ChangeShapes Go.WideShapes Go.ChangeAt Go.RowKit
set_option linter.unusedVariables false
set_option maxRecDepth 100000
theorem l3Walk_any (w : World) (v : Value) (xss : List (List Int)) (r a : Int) (h : Rows2 w v xss) (hk : wOk xss r a) :
    Calls Tryz.prog 91 #[v, .int .i64 r, .int .i64 a] w (WalkRes w (walkF xss r a)) := by
  by_cases ht : goodB (top xss r a)
  · by_cases hl : goodB (low xss r a)
    · rw [show walkF xss r a = ⟨low xss r a / 4, a % 4, decide (top xss r a % 4 = 3) && decide (low xss r a % 4 = 3), 0⟩ from by unfold walkF; rw [if_pos hk, if_pos ht, if_pos hl]]
      exact l3Walk_done w v xss r a h hk ht hl
    · rw [show walkF xss r a = ⟨0, 0, false, 2⟩ from by unfold walkF; rw [if_pos hk, if_pos ht, if_neg hl]]
      exact l3Walk_low w v xss r a h hk ht hl
  · rw [show walkF xss r a = ⟨0, 0, false, 1⟩ from by unfold walkF; rw [if_pos hk, if_neg ht]]
    exact l3Walk_top w v xss r a h hk ht
end Go.Proofs.YtcmmlgdfhkcmoaaGreat
namespace Go.Proofs.YtcmmlgdfhkcmoaaGreat
open Go.ChangeShapes Go.WideShapes Go.ChangeAt Go.RowKit
set_option linter.unusedVariables false
set_option maxRecDepth 100000
structure KP (w W : World) (vm vi ve vc : Value) : Prop where
  bel : Below w.heap.size w W
  sz : w.heap.size < W.heap.size
  c0 : W.cell? ⟨w.heap.size, 0, none⟩ = some vm
  c1 : W.cell? ⟨w.heap.size, 1, none⟩ = some vi
  c2 : W.cell? ⟨w.heap.size, 2, none⟩ = some ve
  c3 : W.cell? ⟨w.heap.size, 3, none⟩ = some vc
theorem KP.start (w : World) (vm vi ve vc : Value) (t : TypeId) : KP w (w.alloc (.cells #[vm, vi, ve, vc] t)) vm vi ve vc :=
  ⟨(Below.refl _ _).alloc (Nat.le_refl _) _, by simp, new_cell rfl, new_cell rfl, new_cell rfl, new_cell rfl⟩
theorem KP.go {w W W' : World} {vm vi ve vc : Value} (h : KP w W vm vi ve vc) (hb : Below W.heap.size W W') : KP w W' vm vi ve vc :=
  ⟨h.bel.trans (hb.mono h.bel.size), Nat.lt_of_lt_of_le h.sz hb.size, (hb.cell (p := ⟨w.heap.size, 0, none⟩) h.sz).trans h.c0, (hb.cell (p := ⟨w.heap.size, 1, none⟩) h.sz).trans h.c1, (hb.cell (p := ⟨w.heap.size, 2, none⟩) h.sz).trans h.c2, (hb.cell (p := ⟨w.heap.size, 3, none⟩) h.sz).trans h.c3⟩
theorem KP.cells {w W : World} {vm vi ve vc : Value} (h : KP w W vm vi ve vc) : W.cell? ⟨w.heap.size, 0, none⟩ = some vm ∧ W.cell? ⟨w.heap.size, 1, none⟩ = some vi ∧ W.cell? ⟨w.heap.size, 2, none⟩ = some ve ∧ W.cell? ⟨w.heap.size, 3, none⟩ = some vc := ⟨h.c0, h.c1, h.c2, h.c3⟩
theorem KP.drew {w W : World} {vm vi ve vc : Value} (h : KP w W vm vi ve vc) : KP w W.drew vm vi ve vc := h.go (Below.refl _ _).drew
theorem KP.alloc {w W : World} {vm vi ve vc : Value} (h : KP w W vm vi ve vc) (o : Obj) : KP w (W.alloc o) vm vi ve vc := h.go ((Below.refl _ _).alloc (Nat.le_refl _) o)
theorem strs_mt (w : World) (t : TypeId) : Strs (w.alloc (.cells #[.string ⟨#[]⟩] t)) (.slice (some ⟨w.heap.size, 0, none⟩) 1 1) [[]] :=
  ⟨some ⟨w.heap.size, 0, none⟩, 1, rfl, Nat.le_refl _, by unfold maxLen; omega, fun i hi => ⟨w.heap.size, 0, rfl, by
    obtain rfl : i = 0 := by simpa using hi
    exact new_cell rfl⟩⟩
theorem short_mt : Short [[]] := fun x hx => by simp at hx; subst hx; simp
theorem tabsOk_no {xss : List (List Int)} {ys : List IV} {f : Nat} (hf : f < 12) (hk : isTab (ys.getD f iz).k = true) (hg : tgood xss ys (f : Int) (ys.getD f iz).k [[]] = false) : tabsOk xss ys = false := by
  rw [Bool.eq_false_iff]
  intro hh
  unfold tabsOk at hh
  have := List.all_eq_true.1 hh f (List.mem_range.2 hf)
  rw [hk, hg] at this
  cases this
theorem tabsOk_yes {xss : List (List Int)} {ys : List IV} (h : ∀ f, f < 12 → isTab (ys.getD f iz).k = false ∨ tgood xss ys (f : Int) (ys.getD f iz).k [[]] = true) : tabsOk xss ys = true := by
  unfold tabsOk
  rw [List.all_eq_true]
  intro f hf
  rcases h f (List.mem_range.1 hf) with h | h
  · rw [h]; rfl
  · rw [h, Bool.or_true]
set_option maxHeartbeats 2000000 in
theorem l21Tables_any (w : World) (vm vi ve vc : Value) (K : KV) (h : Ks w vm vi ve vc K) (hm : memOk K.m = true) (hn : K.i.length = 12) (hs : ShortI K.i) :
    Calls Tryz.prog 68 #[kV vm vi ve vc] w (BRes (tabsOk K.m K.i) w) := by
  obtain ⟨M, I, E, C⟩ := K
  have HL3 := Lib.hid (fun w k => l13Table_any w k)
  have HO3 : Hid (∀ (W : World) (vr : Value) (f k : Int), Below w.heap.size w W → Strs W vr [[]] → 0 ≤ f ∧ f ≤ 11 → isTab k = true → Calls Tryz.prog 130 #[vm, vi, .int .i64 f, .int .i64 k, vr] W (Says (tgood M I f k [[]]) W)) := Lib.hid (fun W vr f k hW hr hf hk => l13Ok_any W vm vi vr M I [[]] f k (h.m.below hW) hm (h.i.below hW) hn hs hr short_mt hf hk)
  have HKP := Lib.hid (fun t => KP.start w vm vi ve vc t)
  have HNO : Hid (∀ f, f < 12 → isTab (I.getD f iz).k = true → tgood M I (f : Int) (I.getD f iz).k [[]] = false → tabsOk M I = false) := Lib.hid (fun f hf hk hg => tabsOk_no hf hk hg)
  have HYES : Hid ((∀ f, f < 12 → isTab (I.getD f iz).k = false ∨ tgood M I (f : Int) (I.getD f iz).k [[]] = true) → tabsOk M I = true) := Lib.hid tabsOk_yes
  dsimp only at hn ⊢
  generalize tabsOk M I = r at HNO HYES
  obtain ⟨a0, c0, rfl, l1, l2, l3⟩ := h.i
  unfold maxLen at l2
  dsimp only at l1 l3
  rw [hn] at l1 HO3 HKP ⊢
  have HYN := Lib.hid hn
  have HX := Lib.hid l3
  clear h hm hn hs l3
  go_enter Tryz.func68, Tryz.ntmps68
  go_wp2
  go_loopw [3] (fun i wr => ∃ f : Nat, f ≤ 12 ∧ i = .int .i64 f ∧ Hid (KP w wr vm (.slice a0 12 c0) ve vc) ∧ Hid (∀ t, t < f → isTab (I.getD t iz).k = false ∨ tgood M I (t : Int) (I.getD t iz).k [[]] = true)) (fun i _ => 12 - (intOf i).toNat)
  case atStart => exact ⟨0, Nat.zero_le _, rfl, Lib.hid (HKP.out _), Lib.hid (fun t ht => by omega)⟩
  case round =>
    obtain ⟨f, hf, rfl, HP, HG⟩ := hrel
    by_cases hlt : f < 12
    · have hlt' : (f : Int) < 12 := by omega
      have hf0 : (0 : Int) ≤ (f : Int) := by omega
      obtain ⟨b0, o0, rfl, ht⟩ := HX.out f (by have := HYN.out; omega)
      have hno := HNO.out f hlt
      have hgo : isTab (I.getD f iz).k = false ∨ tgood M I (f : Int) (I.getD f iz).k [[]] = true → ∀ t, t < f + 1 → isTab (I.getD t iz).k = false ∨ tgood M I (t : Int) (I.getD t iz).k [[]] = true := fun hb t ht => by
        by_cases e : t = f
        · subst e; exact hb
        · exact HG.out t (by omega)
      have HO4 := Lib.hid (fun W vr hW hr hk => HO3.out W vr (f : Int) (I.getD f iz).k hW hr (by omega) hk)
      obtain ⟨y, hy⟩ : ∃ y, y = I.getD f iz := ⟨_, rfl⟩
      rw [← hy] at ht hno hgo HO4
      have HNX := Lib.hid hno
      have HGX := Lib.hid hgo
      have FS : Hid (∀ W, Below wr.heap.size wr W → W.cell? ⟨w.heap.size, 0, none⟩ = some vm ∧ W.cell? ⟨w.heap.size, 1, none⟩ = some (.slice (some ⟨b0, o0, none⟩) 12 c0) ∧ W.cell? ⟨b0, o0 + f * 3, none⟩ = some (.int .i64 y.k)) := Lib.hid (fun W hW => by
        have h1 := HP.out.go hW
        exact ⟨h1.c0, h1.c1, (ht.below h1.bel ht.lt).c0⟩)
      clear hno hgo ht hy
      have HTB := Lib.hid (fun w => HL3.out w y.k)
      generalize tgood M I (f : Int) y.k [[]] = g at HO4 HNX HGX
      obtain ⟨b, hb⟩ : ∃ b, b = isTab y.k := ⟨_, rfl⟩
      rw [← hb] at HTB HO4 HNX HGX
      clear hb
      cases b with
      | false =>
        have HR : Hid (KP w wr.drew vm (.slice (some ⟨b0, o0, none⟩) 12 c0) ve vc) := Lib.hid HP.out.drew
        go_wp2_with fail
        refine wp_region_held_drew (S := fun w' => w'.cell? ⟨w.heap.size, 0, none⟩ = some vm ∧ w'.cell? ⟨w.heap.size, 1, none⟩ = some (.slice (some ⟨b0, o0, none⟩) 12 c0) ∧ w'.cell? ⟨b0, o0 + f * 3, none⟩ = some (.int .i64 y.k)) (by kernel_rfl) (FS.out _ (Below.refl _ _).drew) (fun hHeld => ?_)
        refine wpAnyH_take (i := 0) (oi := { dst := some 8, op := .fieldAddr 30 (.tmp 1) 1, type := _, pos := _, after := _, guard := none }) (v := .pointer (some ⟨w.heap.size, 0 + 1, none⟩)) rfl (by kernel_rfl) (by kernel_rfl) (by kernel_rfl) (fun _ _ _ h => h) (Or.inl ⟨by rfl, fun wh hSw => ?_⟩) hHeld ?_
        · (obtain ⟨s0, s1, s2⟩ := hSw; go_simp)
        try simp only [Act.put, List.setIfInBounds_toArray, List.set_cons_zero, List.set_cons_succ]
        refine wpAnyH_take (i := 1) (oi := { dst := some 9, op := .load 26 (.tmp 8), type := _, pos := _, after := _, guard := none }) (v := .slice (some ⟨b0, o0, none⟩) 12 c0) rfl (by kernel_rfl) (by kernel_rfl) (by kernel_rfl) (fun _ _ _ h => h) (Or.inl ⟨by rfl, fun wh hSw => ?_⟩) hHeld ?_
        · (obtain ⟨s0, s1, s2⟩ := hSw; go_simp)
        try simp only [Act.put, List.setIfInBounds_toArray, List.set_cons_zero, List.set_cons_succ]
        refine wpAnyH_take (i := 2) (oi := { dst := some 10, op := .move (.tmp 3), type := _, pos := _, after := _, guard := none }) (v := .int .i64 (f : Int)) rfl (by kernel_rfl) (by kernel_rfl) (by kernel_rfl) (fun _ _ _ h => h) (Or.inl ⟨by rfl, fun wh hSw => ?_⟩) hHeld ?_
        · (obtain ⟨s0, s1, s2⟩ := hSw; go_simp)
        try simp only [Act.put, List.setIfInBounds_toArray, List.set_cons_zero, List.set_cons_succ]
        refine wpAnyH_take (i := 3) (oi := { dst := some 11, op := .indexAddr 26 (.tmp 9) (.tmp 10), type := _, pos := _, after := _, guard := none }) (v := .pointer (some ⟨b0, o0 + f * 3, none⟩)) rfl (by kernel_rfl) (by kernel_rfl) (by kernel_rfl) (fun _ _ _ h => h) (Or.inl ⟨by rfl, fun wh hSw => ?_⟩) hHeld ?_
        · (obtain ⟨s0, s1, s2⟩ := hSw; go_simp)
        try simp only [Act.put, List.setIfInBounds_toArray, List.set_cons_zero, List.set_cons_succ]
        refine wpAnyH_take (i := 4) (oi := { dst := some 12, op := .fieldAddr 46 (.tmp 11) 0, type := _, pos := _, after := _, guard := none }) (v := .pointer (some ⟨b0, o0 + f * 3, none⟩)) rfl (by kernel_rfl) (by kernel_rfl) (by kernel_rfl) (fun _ _ _ h => h) (Or.inl ⟨by rfl, fun wh hSw => ?_⟩) hHeld ?_
        · (obtain ⟨s0, s1, s2⟩ := hSw; go_simp)
        try simp only [Act.put, List.setIfInBounds_toArray, List.set_cons_zero, List.set_cons_succ]
        refine wpAnyH_take (i := 5) (oi := { dst := some 13, op := .load 3 (.tmp 12), type := _, pos := _, after := _, guard := none }) (v := .int .i64 y.k) rfl (by kernel_rfl) (by kernel_rfl) (by kernel_rfl) (fun _ _ _ h => h) (Or.inl ⟨by rfl, fun wh hSw => ?_⟩) hHeld ?_
        · (obtain ⟨s0, s1, s2⟩ := hSw; go_simp)
        try simp only [Act.put, List.setIfInBounds_toArray, List.set_cons_zero, List.set_cons_succ]
        refine wpAnyH_ready (rs := [6]) (by kernel_rfl) (by simp) ?_
        refine AllReadyH.cons (o := { dst := some 14, op := .call { callee := .value (.func 129), args := #[.tmp 13], argTypes := #[3] }, type := _, pos := _, after := _, guard := none }) rfl (fun K hK => ?_) AllReadyH.nil
        go_simp
        refine (HTB.out _).mono ?_
        rintro e w' ⟨rfl, rfl⟩
        try go_simp
        refine hK.out _ _ ?_ (fun hHeld => ?_)
        · exact hHeld
        clear hK K
        try simp only [Act.put, List.setIfInBounds_toArray, List.set_cons_zero, List.set_cons_succ]
        refine wpAnyH_take (i := 7) (oi := { dst := some 15, op := .move (.tmp 14), type := _, pos := _, after := _, guard := none }) (v := .bool false) rfl (by kernel_rfl) (by kernel_rfl) (by kernel_rfl) (fun _ _ _ h => h) (Or.inl ⟨by rfl, fun wh hSw => ?_⟩) hHeld ?_
        · (obtain ⟨s0, s1, s2⟩ := hSw; go_simp)
        try simp only [Act.put, List.setIfInBounds_toArray, List.set_cons_zero, List.set_cons_succ]
        refine wpAnyH_take (i := 8) (oi := { dst := some 16, op := .fieldAddr 30 (.tmp 1) 0, type := _, pos := _, after := _, guard := some (7, true) }) (v := undef) rfl (by kernel_rfl) (by kernel_rfl) (by kernel_rfl) (fun _ _ _ h => h) (Or.inr ⟨by rfl, rfl⟩) hHeld ?_
        try simp only [Act.put, List.setIfInBounds_toArray, List.set_cons_zero, List.set_cons_succ]
        refine wpAnyH_take (i := 9) (oi := { dst := some 17, op := .load 25 (.tmp 16), type := _, pos := _, after := _, guard := some (7, true) }) (v := undef) rfl (by kernel_rfl) (by kernel_rfl) (by kernel_rfl) (fun _ _ _ h => h) (Or.inr ⟨by rfl, rfl⟩) hHeld ?_
        try simp only [Act.put, List.setIfInBounds_toArray, List.set_cons_zero, List.set_cons_succ]
        refine wpAnyH_take (i := 10) (oi := { dst := some 18, op := .fieldAddr 30 (.tmp 1) 1, type := _, pos := _, after := _, guard := some (7, true) }) (v := undef) rfl (by kernel_rfl) (by kernel_rfl) (by kernel_rfl) (fun _ _ _ h => h) (Or.inr ⟨by rfl, rfl⟩) hHeld ?_
        try simp only [Act.put, List.setIfInBounds_toArray, List.set_cons_zero, List.set_cons_succ]
        refine wpAnyH_take (i := 11) (oi := { dst := some 19, op := .load 26 (.tmp 18), type := _, pos := _, after := _, guard := some (7, true) }) (v := undef) rfl (by kernel_rfl) (by kernel_rfl) (by kernel_rfl) (fun _ _ _ h => h) (Or.inr ⟨by rfl, rfl⟩) hHeld ?_
        try simp only [Act.put, List.setIfInBounds_toArray, List.set_cons_zero, List.set_cons_succ]
        refine wpAnyH_take (i := 12) (oi := { dst := some 20, op := .move (.tmp 3), type := _, pos := _, after := _, guard := some (7, true) }) (v := undef) rfl (by kernel_rfl) (by kernel_rfl) (by kernel_rfl) (fun _ _ _ h => h) (Or.inr ⟨by rfl, rfl⟩) hHeld ?_
        try simp only [Act.put, List.setIfInBounds_toArray, List.set_cons_zero, List.set_cons_succ]
        refine wpAnyH_take (i := 13) (oi := { dst := some 21, op := .fieldAddr 30 (.tmp 1) 1, type := _, pos := _, after := _, guard := some (7, true) }) (v := undef) rfl (by kernel_rfl) (by kernel_rfl) (by kernel_rfl) (fun _ _ _ h => h) (Or.inr ⟨by rfl, rfl⟩) hHeld ?_
        try simp only [Act.put, List.setIfInBounds_toArray, List.set_cons_zero, List.set_cons_succ]
        refine wpAnyH_take (i := 14) (oi := { dst := some 22, op := .load 26 (.tmp 21), type := _, pos := _, after := _, guard := some (7, true) }) (v := undef) rfl (by kernel_rfl) (by kernel_rfl) (by kernel_rfl) (fun _ _ _ h => h) (Or.inr ⟨by rfl, rfl⟩) hHeld ?_
        try simp only [Act.put, List.setIfInBounds_toArray, List.set_cons_zero, List.set_cons_succ]
        refine wpAnyH_take (i := 15) (oi := { dst := some 23, op := .move (.tmp 3), type := _, pos := _, after := _, guard := some (7, true) }) (v := undef) rfl (by kernel_rfl) (by kernel_rfl) (by kernel_rfl) (fun _ _ _ h => h) (Or.inr ⟨by rfl, rfl⟩) hHeld ?_
        try simp only [Act.put, List.setIfInBounds_toArray, List.set_cons_zero, List.set_cons_succ]
        refine wpAnyH_take (i := 16) (oi := { dst := some 24, op := .indexAddr 26 (.tmp 22) (.tmp 23), type := _, pos := _, after := _, guard := some (7, true) }) (v := undef) rfl (by kernel_rfl) (by kernel_rfl) (by kernel_rfl) (fun _ _ _ h => h) (Or.inr ⟨by rfl, rfl⟩) hHeld ?_
        try simp only [Act.put, List.setIfInBounds_toArray, List.set_cons_zero, List.set_cons_succ]
        refine wpAnyH_take (i := 17) (oi := { dst := some 25, op := .fieldAddr 46 (.tmp 24) 0, type := _, pos := _, after := _, guard := some (7, true) }) (v := undef) rfl (by kernel_rfl) (by kernel_rfl) (by kernel_rfl) (fun _ _ _ h => h) (Or.inr ⟨by rfl, rfl⟩) hHeld ?_
        try simp only [Act.put, List.setIfInBounds_toArray, List.set_cons_zero, List.set_cons_succ]
        refine wpAnyH_take (i := 18) (oi := { dst := some 26, op := .load 3 (.tmp 25), type := _, pos := _, after := _, guard := some (7, true) }) (v := undef) rfl (by kernel_rfl) (by kernel_rfl) (by kernel_rfl) (fun _ _ _ h => h) (Or.inr ⟨by rfl, rfl⟩) hHeld ?_
        try simp only [Act.put, List.setIfInBounds_toArray, List.set_cons_zero, List.set_cons_succ]
        refine wpAnyH_take (i := 19) (oi := { dst := some 27, op := .buildSlice 35 1 #[(0, .const (.string { data := #[] }))], type := _, pos := _, after := _, guard := some (7, true) }) (v := undef) rfl (by kernel_rfl) (by kernel_rfl) (by kernel_rfl) (fun _ _ _ h => h) (Or.inr ⟨by rfl, rfl⟩) hHeld ?_
        try simp only [Act.put, List.setIfInBounds_toArray, List.set_cons_zero, List.set_cons_succ]
        refine wpAnyH_take (i := 20) (oi := { dst := some 28, op := .call { callee := .value (.func 130), args := #[.tmp 17, .tmp 19, .tmp 20, .tmp 26, .tmp 27], argTypes := #[25, 26, 3, 3, 35] }, type := _, pos := _, after := _, guard := some (7, true) }) (v := undef) rfl (by kernel_rfl) (by kernel_rfl) (by kernel_rfl) (fun _ _ _ h => h) (Or.inr ⟨by rfl, rfl⟩) hHeld ?_
        try simp only [Act.put, List.setIfInBounds_toArray, List.set_cons_zero, List.set_cons_succ]
        refine wpAnyH_take (i := 21) (oi := { dst := some 29, op := .unOp .not 4 (.tmp 28), type := _, pos := _, after := _, guard := some (7, true) }) (v := undef) rfl (by kernel_rfl) (by kernel_rfl) (by kernel_rfl) (fun _ _ _ h => h) (Or.inr ⟨by rfl, rfl⟩) hHeld ?_
        try simp only [Act.put, List.setIfInBounds_toArray, List.set_cons_zero, List.set_cons_succ]
        refine wpAnyH_take (i := 22) (oi := { dst := some 30, op := .pick (.tmp 15) (.tmp 29) (.const (.bool false)), type := _, pos := _, after := _, guard := none }) (v := .bool false) rfl (by kernel_rfl) (by kernel_rfl) (by kernel_rfl) (fun _ _ _ h => h) (Or.inl ⟨by rfl, fun wh hSw => ?_⟩) hHeld ?_
        · (obtain ⟨s0, s1, s2⟩ := hSw; go_simp)
        try simp only [Act.put, List.setIfInBounds_toArray, List.set_cons_zero, List.set_cons_succ]
        refine wpAnyH_done (by kernel_rfl) ?_ _
        go_wp2_with fail
        go_roundw
        case rel => exact ⟨f + 1, by omega, by go_num, HR, Lib.hid (HGX.out (.inl (by trivial)))⟩
        case measure => simp [intOf]; omega
      | true =>
        have HB : Hid (Below wr.heap.size wr (wr.drew.alloc (.cells #[.string ⟨#[]⟩] 9))) := Lib.hid ((Below.refl _ _).drew.alloc (Nat.le_refl _) _)
        have HR : Hid (KP w (wr.drew.alloc (.cells #[.string ⟨#[]⟩] 9)) vm (.slice (some ⟨b0, o0, none⟩) 12 c0) ve vc) := Lib.hid (HP.out.go HB.out)
        have HCO := Lib.hid (HO4.out _ _ HR.out.bel (strs_mt wr.drew 9) (by trivial))
        clear HO4
        cases g with
        | false =>
          go_wp2_with fail
          refine wp_region_held_drew (S := fun w' => w'.cell? ⟨w.heap.size, 0, none⟩ = some vm ∧ w'.cell? ⟨w.heap.size, 1, none⟩ = some (.slice (some ⟨b0, o0, none⟩) 12 c0) ∧ w'.cell? ⟨b0, o0 + f * 3, none⟩ = some (.int .i64 y.k)) (by kernel_rfl) (FS.out _ (Below.refl _ _).drew) (fun hHeld => ?_)
          refine wpAnyH_take (i := 0) (oi := { dst := some 8, op := .fieldAddr 30 (.tmp 1) 1, type := _, pos := _, after := _, guard := none }) (v := .pointer (some ⟨w.heap.size, 0 + 1, none⟩)) rfl (by kernel_rfl) (by kernel_rfl) (by kernel_rfl) (fun _ _ _ h => h) (Or.inl ⟨by rfl, fun wh hSw => ?_⟩) hHeld ?_
          · (obtain ⟨s0, s1, s2⟩ := hSw; go_simp)
          try simp only [Act.put, List.setIfInBounds_toArray, List.set_cons_zero, List.set_cons_succ]
          refine wpAnyH_take (i := 1) (oi := { dst := some 9, op := .load 26 (.tmp 8), type := _, pos := _, after := _, guard := none }) (v := .slice (some ⟨b0, o0, none⟩) 12 c0) rfl (by kernel_rfl) (by kernel_rfl) (by kernel_rfl) (fun _ _ _ h => h) (Or.inl ⟨by rfl, fun wh hSw => ?_⟩) hHeld ?_
          · (obtain ⟨s0, s1, s2⟩ := hSw; go_simp)
          try simp only [Act.put, List.setIfInBounds_toArray, List.set_cons_zero, List.set_cons_succ]
          refine wpAnyH_take (i := 2) (oi := { dst := some 10, op := .move (.tmp 3), type := _, pos := _, after := _, guard := none }) (v := .int .i64 (f : Int)) rfl (by kernel_rfl) (by kernel_rfl) (by kernel_rfl) (fun _ _ _ h => h) (Or.inl ⟨by rfl, fun wh hSw => ?_⟩) hHeld ?_
          · (obtain ⟨s0, s1, s2⟩ := hSw; go_simp)
          try simp only [Act.put, List.setIfInBounds_toArray, List.set_cons_zero, List.set_cons_succ]
          refine wpAnyH_take (i := 3) (oi := { dst := some 11, op := .indexAddr 26 (.tmp 9) (.tmp 10), type := _, pos := _, after := _, guard := none }) (v := .pointer (some ⟨b0, o0 + f * 3, none⟩)) rfl (by kernel_rfl) (by kernel_rfl) (by kernel_rfl) (fun _ _ _ h => h) (Or.inl ⟨by rfl, fun wh hSw => ?_⟩) hHeld ?_
          · (obtain ⟨s0, s1, s2⟩ := hSw; go_simp)
          try simp only [Act.put, List.setIfInBounds_toArray, List.set_cons_zero, List.set_cons_succ]
          refine wpAnyH_take (i := 4) (oi := { dst := some 12, op := .fieldAddr 46 (.tmp 11) 0, type := _, pos := _, after := _, guard := none }) (v := .pointer (some ⟨b0, o0 + f * 3, none⟩)) rfl (by kernel_rfl) (by kernel_rfl) (by kernel_rfl) (fun _ _ _ h => h) (Or.inl ⟨by rfl, fun wh hSw => ?_⟩) hHeld ?_
          · (obtain ⟨s0, s1, s2⟩ := hSw; go_simp)
          try simp only [Act.put, List.setIfInBounds_toArray, List.set_cons_zero, List.set_cons_succ]
          refine wpAnyH_take (i := 5) (oi := { dst := some 13, op := .load 3 (.tmp 12), type := _, pos := _, after := _, guard := none }) (v := .int .i64 y.k) rfl (by kernel_rfl) (by kernel_rfl) (by kernel_rfl) (fun _ _ _ h => h) (Or.inl ⟨by rfl, fun wh hSw => ?_⟩) hHeld ?_
          · (obtain ⟨s0, s1, s2⟩ := hSw; go_simp)
          try simp only [Act.put, List.setIfInBounds_toArray, List.set_cons_zero, List.set_cons_succ]
          refine wpAnyH_ready (rs := [6]) (by kernel_rfl) (by simp) ?_
          refine AllReadyH.cons (o := { dst := some 14, op := .call { callee := .value (.func 129), args := #[.tmp 13], argTypes := #[3] }, type := _, pos := _, after := _, guard := none }) rfl (fun K hK => ?_) AllReadyH.nil
          go_simp
          refine (HTB.out _).mono ?_
          rintro e w' ⟨rfl, rfl⟩
          try go_simp
          refine hK.out _ _ ?_ (fun hHeld => ?_)
          · exact hHeld
          clear hK K
          try simp only [Act.put, List.setIfInBounds_toArray, List.set_cons_zero, List.set_cons_succ]
          refine wpAnyH_take (i := 7) (oi := { dst := some 15, op := .move (.tmp 14), type := _, pos := _, after := _, guard := none }) (v := .bool true) rfl (by kernel_rfl) (by kernel_rfl) (by kernel_rfl) (fun _ _ _ h => h) (Or.inl ⟨by rfl, fun wh hSw => ?_⟩) hHeld ?_
          · (obtain ⟨s0, s1, s2⟩ := hSw; go_simp)
          try simp only [Act.put, List.setIfInBounds_toArray, List.set_cons_zero, List.set_cons_succ]
          refine wpAnyH_take (i := 8) (oi := { dst := some 16, op := .fieldAddr 30 (.tmp 1) 0, type := _, pos := _, after := _, guard := some (7, true) }) (v := .pointer (some ⟨w.heap.size, 0, none⟩)) rfl (by kernel_rfl) (by kernel_rfl) (by kernel_rfl) (fun _ _ _ h => h) (Or.inl ⟨by rfl, fun wh hSw => ?_⟩) hHeld ?_
          · (obtain ⟨s0, s1, s2⟩ := hSw; go_simp)
          try simp only [Act.put, List.setIfInBounds_toArray, List.set_cons_zero, List.set_cons_succ]
          refine wpAnyH_take (i := 9) (oi := { dst := some 17, op := .load 25 (.tmp 16), type := _, pos := _, after := _, guard := some (7, true) }) (v := vm) rfl (by kernel_rfl) (by kernel_rfl) (by kernel_rfl) (fun _ _ _ h => h) (Or.inl ⟨by rfl, fun wh hSw => ?_⟩) hHeld ?_
          · (obtain ⟨s0, s1, s2⟩ := hSw; go_simp)
          try simp only [Act.put, List.setIfInBounds_toArray, List.set_cons_zero, List.set_cons_succ]
          refine wpAnyH_take (i := 10) (oi := { dst := some 18, op := .fieldAddr 30 (.tmp 1) 1, type := _, pos := _, after := _, guard := some (7, true) }) (v := .pointer (some ⟨w.heap.size, 0 + 1, none⟩)) rfl (by kernel_rfl) (by kernel_rfl) (by kernel_rfl) (fun _ _ _ h => h) (Or.inl ⟨by rfl, fun wh hSw => ?_⟩) hHeld ?_
          · (obtain ⟨s0, s1, s2⟩ := hSw; go_simp)
          try simp only [Act.put, List.setIfInBounds_toArray, List.set_cons_zero, List.set_cons_succ]
          refine wpAnyH_take (i := 11) (oi := { dst := some 19, op := .load 26 (.tmp 18), type := _, pos := _, after := _, guard := some (7, true) }) (v := .slice (some ⟨b0, o0, none⟩) 12 c0) rfl (by kernel_rfl) (by kernel_rfl) (by kernel_rfl) (fun _ _ _ h => h) (Or.inl ⟨by rfl, fun wh hSw => ?_⟩) hHeld ?_
          · (obtain ⟨s0, s1, s2⟩ := hSw; go_simp)
          try simp only [Act.put, List.setIfInBounds_toArray, List.set_cons_zero, List.set_cons_succ]
          refine wpAnyH_take (i := 12) (oi := { dst := some 20, op := .move (.tmp 3), type := _, pos := _, after := _, guard := some (7, true) }) (v := .int .i64 (f : Int)) rfl (by kernel_rfl) (by kernel_rfl) (by kernel_rfl) (fun _ _ _ h => h) (Or.inl ⟨by rfl, fun wh hSw => ?_⟩) hHeld ?_
          · (obtain ⟨s0, s1, s2⟩ := hSw; go_simp)
          try simp only [Act.put, List.setIfInBounds_toArray, List.set_cons_zero, List.set_cons_succ]
          refine wpAnyH_take (i := 13) (oi := { dst := some 21, op := .fieldAddr 30 (.tmp 1) 1, type := _, pos := _, after := _, guard := some (7, true) }) (v := .pointer (some ⟨w.heap.size, 0 + 1, none⟩)) rfl (by kernel_rfl) (by kernel_rfl) (by kernel_rfl) (fun _ _ _ h => h) (Or.inl ⟨by rfl, fun wh hSw => ?_⟩) hHeld ?_
          · (obtain ⟨s0, s1, s2⟩ := hSw; go_simp)
          try simp only [Act.put, List.setIfInBounds_toArray, List.set_cons_zero, List.set_cons_succ]
          refine wpAnyH_take (i := 14) (oi := { dst := some 22, op := .load 26 (.tmp 21), type := _, pos := _, after := _, guard := some (7, true) }) (v := .slice (some ⟨b0, o0, none⟩) 12 c0) rfl (by kernel_rfl) (by kernel_rfl) (by kernel_rfl) (fun _ _ _ h => h) (Or.inl ⟨by rfl, fun wh hSw => ?_⟩) hHeld ?_
          · (obtain ⟨s0, s1, s2⟩ := hSw; go_simp)
          try simp only [Act.put, List.setIfInBounds_toArray, List.set_cons_zero, List.set_cons_succ]
          refine wpAnyH_take (i := 15) (oi := { dst := some 23, op := .move (.tmp 3), type := _, pos := _, after := _, guard := some (7, true) }) (v := .int .i64 (f : Int)) rfl (by kernel_rfl) (by kernel_rfl) (by kernel_rfl) (fun _ _ _ h => h) (Or.inl ⟨by rfl, fun wh hSw => ?_⟩) hHeld ?_
          · (obtain ⟨s0, s1, s2⟩ := hSw; go_simp)
          try simp only [Act.put, List.setIfInBounds_toArray, List.set_cons_zero, List.set_cons_succ]
          refine wpAnyH_take (i := 16) (oi := { dst := some 24, op := .indexAddr 26 (.tmp 22) (.tmp 23), type := _, pos := _, after := _, guard := some (7, true) }) (v := .pointer (some ⟨b0, o0 + f * 3, none⟩)) rfl (by kernel_rfl) (by kernel_rfl) (by kernel_rfl) (fun _ _ _ h => h) (Or.inl ⟨by rfl, fun wh hSw => ?_⟩) hHeld ?_
          · (obtain ⟨s0, s1, s2⟩ := hSw; go_simp)
          try simp only [Act.put, List.setIfInBounds_toArray, List.set_cons_zero, List.set_cons_succ]
          refine wpAnyH_take (i := 17) (oi := { dst := some 25, op := .fieldAddr 46 (.tmp 24) 0, type := _, pos := _, after := _, guard := some (7, true) }) (v := .pointer (some ⟨b0, o0 + f * 3, none⟩)) rfl (by kernel_rfl) (by kernel_rfl) (by kernel_rfl) (fun _ _ _ h => h) (Or.inl ⟨by rfl, fun wh hSw => ?_⟩) hHeld ?_
          · (obtain ⟨s0, s1, s2⟩ := hSw; go_simp)
          try simp only [Act.put, List.setIfInBounds_toArray, List.set_cons_zero, List.set_cons_succ]
          refine wpAnyH_take (i := 18) (oi := { dst := some 26, op := .load 3 (.tmp 25), type := _, pos := _, after := _, guard := some (7, true) }) (v := .int .i64 y.k) rfl (by kernel_rfl) (by kernel_rfl) (by kernel_rfl) (fun _ _ _ h => h) (Or.inl ⟨by rfl, fun wh hSw => ?_⟩) hHeld ?_
          · (obtain ⟨s0, s1, s2⟩ := hSw; go_simp)
          try simp only [Act.put, List.setIfInBounds_toArray, List.set_cons_zero, List.set_cons_succ]
          refine wpAnyH_ready (rs := [19]) (by kernel_rfl) (by simp) ?_
          refine AllReadyH.cons (o := { dst := some 27, op := .buildSlice 35 1 #[(0, .const (.string { data := #[] }))], type := _, pos := _, after := _, guard := some (7, true) }) rfl (fun K hK => ?_) AllReadyH.nil
          go_simp
          refine hK.out _ _ ?_ (fun hHeld => ?_)
          · exact FS.out _ HB.out
          clear hK K
          try simp only [Act.put, List.setIfInBounds_toArray, List.set_cons_zero, List.set_cons_succ]
          refine wpAnyH_ready (rs := [20]) (by kernel_rfl) (by simp) ?_
          refine AllReadyH.cons (o := { dst := some 28, op := .call { callee := .value (.func 130), args := #[.tmp 17, .tmp 19, .tmp 20, .tmp 26, .tmp 27], argTypes := #[25, 26, 3, 3, 35] }, type := _, pos := _, after := _, guard := some (7, true) }) rfl (fun K hK => ?_) AllReadyH.nil
          go_simp
          refine HCO.out.mono ?_
          rintro e w' ⟨rfl, rfl⟩
          try go_simp
          refine hK.out _ _ ?_ (fun hHeld => ?_)
          · exact hHeld
          clear hK K
          try simp only [Act.put, List.setIfInBounds_toArray, List.set_cons_zero, List.set_cons_succ]
          refine wpAnyH_take (i := 21) (oi := { dst := some 29, op := .unOp .not 4 (.tmp 28), type := _, pos := _, after := _, guard := some (7, true) }) (v := .bool true) rfl (by kernel_rfl) (by kernel_rfl) (by kernel_rfl) (fun _ _ _ h => h) (Or.inl ⟨by rfl, fun wh hSw => ?_⟩) hHeld ?_
          · (obtain ⟨s0, s1, s2⟩ := hSw; go_simp)
          try simp only [Act.put, List.setIfInBounds_toArray, List.set_cons_zero, List.set_cons_succ]
          refine wpAnyH_take (i := 22) (oi := { dst := some 30, op := .pick (.tmp 15) (.tmp 29) (.const (.bool false)), type := _, pos := _, after := _, guard := none }) (v := .bool true) rfl (by kernel_rfl) (by kernel_rfl) (by kernel_rfl) (fun _ _ _ h => h) (Or.inl ⟨by rfl, fun wh hSw => ?_⟩) hHeld ?_
          · (obtain ⟨s0, s1, s2⟩ := hSw; go_simp)
          try simp only [Act.put, List.setIfInBounds_toArray, List.set_cons_zero, List.set_cons_succ]
          refine wpAnyH_done (by kernel_rfl) ?_ _
          go_wp2_with fail
          go_ret
          exact ⟨by rw [HNX.out (by trivial) (by trivial)]; rfl, HR.out.bel⟩
        | true =>
          go_wp2_with fail
          refine wp_region_held_drew (S := fun w' => w'.cell? ⟨w.heap.size, 0, none⟩ = some vm ∧ w'.cell? ⟨w.heap.size, 1, none⟩ = some (.slice (some ⟨b0, o0, none⟩) 12 c0) ∧ w'.cell? ⟨b0, o0 + f * 3, none⟩ = some (.int .i64 y.k)) (by kernel_rfl) (FS.out _ (Below.refl _ _).drew) (fun hHeld => ?_)
          refine wpAnyH_take (i := 0) (oi := { dst := some 8, op := .fieldAddr 30 (.tmp 1) 1, type := _, pos := _, after := _, guard := none }) (v := .pointer (some ⟨w.heap.size, 0 + 1, none⟩)) rfl (by kernel_rfl) (by kernel_rfl) (by kernel_rfl) (fun _ _ _ h => h) (Or.inl ⟨by rfl, fun wh hSw => ?_⟩) hHeld ?_
          · (obtain ⟨s0, s1, s2⟩ := hSw; go_simp)
          try simp only [Act.put, List.setIfInBounds_toArray, List.set_cons_zero, List.set_cons_succ]
          refine wpAnyH_take (i := 1) (oi := { dst := some 9, op := .load 26 (.tmp 8), type := _, pos := _, after := _, guard := none }) (v := .slice (some ⟨b0, o0, none⟩) 12 c0) rfl (by kernel_rfl) (by kernel_rfl) (by kernel_rfl) (fun _ _ _ h => h) (Or.inl ⟨by rfl, fun wh hSw => ?_⟩) hHeld ?_
          · (obtain ⟨s0, s1, s2⟩ := hSw; go_simp)
          try simp only [Act.put, List.setIfInBounds_toArray, List.set_cons_zero, List.set_cons_succ]
          refine wpAnyH_take (i := 2) (oi := { dst := some 10, op := .move (.tmp 3), type := _, pos := _, after := _, guard := none }) (v := .int .i64 (f : Int)) rfl (by kernel_rfl) (by kernel_rfl) (by kernel_rfl) (fun _ _ _ h => h) (Or.inl ⟨by rfl, fun wh hSw => ?_⟩) hHeld ?_
          · (obtain ⟨s0, s1, s2⟩ := hSw; go_simp)
          try simp only [Act.put, List.setIfInBounds_toArray, List.set_cons_zero, List.set_cons_succ]
          refine wpAnyH_take (i := 3) (oi := { dst := some 11, op := .indexAddr 26 (.tmp 9) (.tmp 10), type := _, pos := _, after := _, guard := none }) (v := .pointer (some ⟨b0, o0 + f * 3, none⟩)) rfl (by kernel_rfl) (by kernel_rfl) (by kernel_rfl) (fun _ _ _ h => h) (Or.inl ⟨by rfl, fun wh hSw => ?_⟩) hHeld ?_
          · (obtain ⟨s0, s1, s2⟩ := hSw; go_simp)
          try simp only [Act.put, List.setIfInBounds_toArray, List.set_cons_zero, List.set_cons_succ]
          refine wpAnyH_take (i := 4) (oi := { dst := some 12, op := .fieldAddr 46 (.tmp 11) 0, type := _, pos := _, after := _, guard := none }) (v := .pointer (some ⟨b0, o0 + f * 3, none⟩)) rfl (by kernel_rfl) (by kernel_rfl) (by kernel_rfl) (fun _ _ _ h => h) (Or.inl ⟨by rfl, fun wh hSw => ?_⟩) hHeld ?_
          · (obtain ⟨s0, s1, s2⟩ := hSw; go_simp)
          try simp only [Act.put, List.setIfInBounds_toArray, List.set_cons_zero, List.set_cons_succ]
          refine wpAnyH_take (i := 5) (oi := { dst := some 13, op := .load 3 (.tmp 12), type := _, pos := _, after := _, guard := none }) (v := .int .i64 y.k) rfl (by kernel_rfl) (by kernel_rfl) (by kernel_rfl) (fun _ _ _ h => h) (Or.inl ⟨by rfl, fun wh hSw => ?_⟩) hHeld ?_
          · (obtain ⟨s0, s1, s2⟩ := hSw; go_simp)
          try simp only [Act.put, List.setIfInBounds_toArray, List.set_cons_zero, List.set_cons_succ]
          refine wpAnyH_ready (rs := [6]) (by kernel_rfl) (by simp) ?_
          refine AllReadyH.cons (o := { dst := some 14, op := .call { callee := .value (.func 129), args := #[.tmp 13], argTypes := #[3] }, type := _, pos := _, after := _, guard := none }) rfl (fun K hK => ?_) AllReadyH.nil
          go_simp
          refine (HTB.out _).mono ?_
          rintro e w' ⟨rfl, rfl⟩
          try go_simp
          refine hK.out _ _ ?_ (fun hHeld => ?_)
          · exact hHeld
          clear hK K
          try simp only [Act.put, List.setIfInBounds_toArray, List.set_cons_zero, List.set_cons_succ]
          refine wpAnyH_take (i := 7) (oi := { dst := some 15, op := .move (.tmp 14), type := _, pos := _, after := _, guard := none }) (v := .bool true) rfl (by kernel_rfl) (by kernel_rfl) (by kernel_rfl) (fun _ _ _ h => h) (Or.inl ⟨by rfl, fun wh hSw => ?_⟩) hHeld ?_
          · (obtain ⟨s0, s1, s2⟩ := hSw; go_simp)
          try simp only [Act.put, List.setIfInBounds_toArray, List.set_cons_zero, List.set_cons_succ]
          refine wpAnyH_take (i := 8) (oi := { dst := some 16, op := .fieldAddr 30 (.tmp 1) 0, type := _, pos := _, after := _, guard := some (7, true) }) (v := .pointer (some ⟨w.heap.size, 0, none⟩)) rfl (by kernel_rfl) (by kernel_rfl) (by kernel_rfl) (fun _ _ _ h => h) (Or.inl ⟨by rfl, fun wh hSw => ?_⟩) hHeld ?_
          · (obtain ⟨s0, s1, s2⟩ := hSw; go_simp)
          try simp only [Act.put, List.setIfInBounds_toArray, List.set_cons_zero, List.set_cons_succ]
          refine wpAnyH_take (i := 9) (oi := { dst := some 17, op := .load 25 (.tmp 16), type := _, pos := _, after := _, guard := some (7, true) }) (v := vm) rfl (by kernel_rfl) (by kernel_rfl) (by kernel_rfl) (fun _ _ _ h => h) (Or.inl ⟨by rfl, fun wh hSw => ?_⟩) hHeld ?_
          · (obtain ⟨s0, s1, s2⟩ := hSw; go_simp)
          try simp only [Act.put, List.setIfInBounds_toArray, List.set_cons_zero, List.set_cons_succ]
          refine wpAnyH_take (i := 10) (oi := { dst := some 18, op := .fieldAddr 30 (.tmp 1) 1, type := _, pos := _, after := _, guard := some (7, true) }) (v := .pointer (some ⟨w.heap.size, 0 + 1, none⟩)) rfl (by kernel_rfl) (by kernel_rfl) (by kernel_rfl) (fun _ _ _ h => h) (Or.inl ⟨by rfl, fun wh hSw => ?_⟩) hHeld ?_
          · (obtain ⟨s0, s1, s2⟩ := hSw; go_simp)
          try simp only [Act.put, List.setIfInBounds_toArray, List.set_cons_zero, List.set_cons_succ]
          refine wpAnyH_take (i := 11) (oi := { dst := some 19, op := .load 26 (.tmp 18), type := _, pos := _, after := _, guard := some (7, true) }) (v := .slice (some ⟨b0, o0, none⟩) 12 c0) rfl (by kernel_rfl) (by kernel_rfl) (by kernel_rfl) (fun _ _ _ h => h) (Or.inl ⟨by rfl, fun wh hSw => ?_⟩) hHeld ?_
          · (obtain ⟨s0, s1, s2⟩ := hSw; go_simp)
          try simp only [Act.put, List.setIfInBounds_toArray, List.set_cons_zero, List.set_cons_succ]
          refine wpAnyH_take (i := 12) (oi := { dst := some 20, op := .move (.tmp 3), type := _, pos := _, after := _, guard := some (7, true) }) (v := .int .i64 (f : Int)) rfl (by kernel_rfl) (by kernel_rfl) (by kernel_rfl) (fun _ _ _ h => h) (Or.inl ⟨by rfl, fun wh hSw => ?_⟩) hHeld ?_
          · (obtain ⟨s0, s1, s2⟩ := hSw; go_simp)
          try simp only [Act.put, List.setIfInBounds_toArray, List.set_cons_zero, List.set_cons_succ]
          refine wpAnyH_take (i := 13) (oi := { dst := some 21, op := .fieldAddr 30 (.tmp 1) 1, type := _, pos := _, after := _, guard := some (7, true) }) (v := .pointer (some ⟨w.heap.size, 0 + 1, none⟩)) rfl (by kernel_rfl) (by kernel_rfl) (by kernel_rfl) (fun _ _ _ h => h) (Or.inl ⟨by rfl, fun wh hSw => ?_⟩) hHeld ?_
          · (obtain ⟨s0, s1, s2⟩ := hSw; go_simp)
          try simp only [Act.put, List.setIfInBounds_toArray, List.set_cons_zero, List.set_cons_succ]
          refine wpAnyH_take (i := 14) (oi := { dst := some 22, op := .load 26 (.tmp 21), type := _, pos := _, after := _, guard := some (7, true) }) (v := .slice (some ⟨b0, o0, none⟩) 12 c0) rfl (by kernel_rfl) (by kernel_rfl) (by kernel_rfl) (fun _ _ _ h => h) (Or.inl ⟨by rfl, fun wh hSw => ?_⟩) hHeld ?_
          · (obtain ⟨s0, s1, s2⟩ := hSw; go_simp)
          try simp only [Act.put, List.setIfInBounds_toArray, List.set_cons_zero, List.set_cons_succ]
          refine wpAnyH_take (i := 15) (oi := { dst := some 23, op := .move (.tmp 3), type := _, pos := _, after := _, guard := some (7, true) }) (v := .int .i64 (f : Int)) rfl (by kernel_rfl) (by kernel_rfl) (by kernel_rfl) (fun _ _ _ h => h) (Or.inl ⟨by rfl, fun wh hSw => ?_⟩) hHeld ?_
          · (obtain ⟨s0, s1, s2⟩ := hSw; go_simp)
          try simp only [Act.put, List.setIfInBounds_toArray, List.set_cons_zero, List.set_cons_succ]
          refine wpAnyH_take (i := 16) (oi := { dst := some 24, op := .indexAddr 26 (.tmp 22) (.tmp 23), type := _, pos := _, after := _, guard := some (7, true) }) (v := .pointer (some ⟨b0, o0 + f * 3, none⟩)) rfl (by kernel_rfl) (by kernel_rfl) (by kernel_rfl) (fun _ _ _ h => h) (Or.inl ⟨by rfl, fun wh hSw => ?_⟩) hHeld ?_
          · (obtain ⟨s0, s1, s2⟩ := hSw; go_simp)
          try simp only [Act.put, List.setIfInBounds_toArray, List.set_cons_zero, List.set_cons_succ]
          refine wpAnyH_take (i := 17) (oi := { dst := some 25, op := .fieldAddr 46 (.tmp 24) 0, type := _, pos := _, after := _, guard := some (7, true) }) (v := .pointer (some ⟨b0, o0 + f * 3, none⟩)) rfl (by kernel_rfl) (by kernel_rfl) (by kernel_rfl) (fun _ _ _ h => h) (Or.inl ⟨by rfl, fun wh hSw => ?_⟩) hHeld ?_
          · (obtain ⟨s0, s1, s2⟩ := hSw; go_simp)
          try simp only [Act.put, List.setIfInBounds_toArray, List.set_cons_zero, List.set_cons_succ]
          refine wpAnyH_take (i := 18) (oi := { dst := some 26, op := .load 3 (.tmp 25), type := _, pos := _, after := _, guard := some (7, true) }) (v := .int .i64 y.k) rfl (by kernel_rfl) (by kernel_rfl) (by kernel_rfl) (fun _ _ _ h => h) (Or.inl ⟨by rfl, fun wh hSw => ?_⟩) hHeld ?_
          · (obtain ⟨s0, s1, s2⟩ := hSw; go_simp)
          try simp only [Act.put, List.setIfInBounds_toArray, List.set_cons_zero, List.set_cons_succ]
          refine wpAnyH_ready (rs := [19]) (by kernel_rfl) (by simp) ?_
          refine AllReadyH.cons (o := { dst := some 27, op := .buildSlice 35 1 #[(0, .const (.string { data := #[] }))], type := _, pos := _, after := _, guard := some (7, true) }) rfl (fun K hK => ?_) AllReadyH.nil
          go_simp
          refine hK.out _ _ ?_ (fun hHeld => ?_)
          · exact FS.out _ HB.out
          clear hK K
          try simp only [Act.put, List.setIfInBounds_toArray, List.set_cons_zero, List.set_cons_succ]
          refine wpAnyH_ready (rs := [20]) (by kernel_rfl) (by simp) ?_
          refine AllReadyH.cons (o := { dst := some 28, op := .call { callee := .value (.func 130), args := #[.tmp 17, .tmp 19, .tmp 20, .tmp 26, .tmp 27], argTypes := #[25, 26, 3, 3, 35] }, type := _, pos := _, after := _, guard := some (7, true) }) rfl (fun K hK => ?_) AllReadyH.nil
          go_simp
          refine HCO.out.mono ?_
          rintro e w' ⟨rfl, rfl⟩
          try go_simp
          refine hK.out _ _ ?_ (fun hHeld => ?_)
          · exact hHeld
          clear hK K
          try simp only [Act.put, List.setIfInBounds_toArray, List.set_cons_zero, List.set_cons_succ]
          refine wpAnyH_take (i := 21) (oi := { dst := some 29, op := .unOp .not 4 (.tmp 28), type := _, pos := _, after := _, guard := some (7, true) }) (v := .bool false) rfl (by kernel_rfl) (by kernel_rfl) (by kernel_rfl) (fun _ _ _ h => h) (Or.inl ⟨by rfl, fun wh hSw => ?_⟩) hHeld ?_
          · (obtain ⟨s0, s1, s2⟩ := hSw; go_simp)
          try simp only [Act.put, List.setIfInBounds_toArray, List.set_cons_zero, List.set_cons_succ]
          refine wpAnyH_take (i := 22) (oi := { dst := some 30, op := .pick (.tmp 15) (.tmp 29) (.const (.bool false)), type := _, pos := _, after := _, guard := none }) (v := .bool false) rfl (by kernel_rfl) (by kernel_rfl) (by kernel_rfl) (fun _ _ _ h => h) (Or.inl ⟨by rfl, fun wh hSw => ?_⟩) hHeld ?_
          · (obtain ⟨s0, s1, s2⟩ := hSw; go_simp)
          try simp only [Act.put, List.setIfInBounds_toArray, List.set_cons_zero, List.set_cons_succ]
          refine wpAnyH_done (by kernel_rfl) ?_ _
          go_wp2_with fail
          go_roundw
          case rel => exact ⟨f + 1, by omega, by go_num, HR, Lib.hid (HGX.out (.inr (by trivial)))⟩
          case measure => simp [intOf]; omega
    · have e : f = 12 := by omega
      subst e
      go_wp2
      go_ret
      exact ⟨by rw [HYES.out HG.out]; rfl, HP.out.bel⟩
end Go.Proofs.YtcmmlgdfhkcmoaaGreat
namespace Go.Proofs.YtcmmlgdfhkcmoaaGreat
open Go.ChangeShapes Go.WideShapes Go.ChangeAt Go.RowKit
set_option linter.unusedVariables false
set_option maxRecDepth 100000
def Short3 (es : List EV) : Prop := ∀ x ∈ es, Short x.r
theorem Short3.at {es : List EV} (h : Short3 es) (i : Nat) : Short (es.getD i ez).r := by
  by_cases hi : i < es.length
  · rw [getD_lt hi]; exact h _ (List.getElem_mem hi)
  · rw [List.getD, List.getElem?_eq_none (Nat.le_of_not_lt hi)]; exact fun x hx => by cases hx
theorem reach_bd {xss : List (List Int)} {t : Int} : ∀ f ∈ reach xss t, 0 ≤ f ∧ f < 12 := fun f hf => reach_in hf
end Go.Proofs.YtcmmlgdfhkcmoaaGreat
