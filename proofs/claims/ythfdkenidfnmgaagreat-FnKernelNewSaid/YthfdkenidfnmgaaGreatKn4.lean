/- What the proofs stand on, part 4. -/
import Derived.Test.YthfdkenidfnmgaaGreatRows
import Derived.Test.YthfdkenidfnmgaaGreatKn3
set_option linter.unusedSimpArgs false
set_option linter.unusedVariables false
namespace Go.Proofs.YthfdkenidfnmgaaGreat
open Go.ChangeShapes Go.WideShapes Go.ChangeAt Go.RowKit Go.Shelf
set_option linter.unusedVariables false
set_option maxRecDepth 100000
set_option maxRecDepth 100000 in
set_option maxHeartbeats 1000000 in
theorem mw_low (w : World) (cs : List Value) (hs : cs.length = 48) (ho : cs.toArray.all (·.oneCell') = true) (r i j f : Nat) (t x y : Int) (hr : r < 12) (hi : i < 4) (hx : cs[r * 4 + i]? = some (.int .i64 x)) (hb0 : 0 ≤ x) (hb1 : x ≤ 9999) (hg : goodB x) (hj : j < 4) (hf : x / 4 = (f : Int)) (hf12 : f < 12) (hy : cs[f * 4 + j]? = some (.int .i64 y)) (hy0 : 0 ≤ y) (hy1 : y ≤ 9999) (hgy : ¬ goodB y) :
    Calls Tryz.prog 94 #[.agg cs.toArray, .int .i64 r, .int .i64 i, .int .i64 j, .int .i64 t] w (WalkRes w ⟨0, 0, false, 2⟩) := by
  have hix := run_indexAt_arr (P := Tryz.prog) 56 12 54 4 Tryz.underlying56 size_words (by omega) w.heap.size r hr
  have hjx := fun W => run_indexAt_part (P := Tryz.prog) 54 4 _ Tryz.underlying54 (fun w => Tryz.sizeOf3 w) (by omega) w.heap.size (r * 4) i hi W
  have HC : ∀ ob, ((w.alloc (.cells cs.toArray 56)).alloc ob).cell? ⟨w.heap.size, r * 4 + i, none⟩ = some (.int .i64 x) := fun ob => by
    have h1 : (w.alloc (.cells cs.toArray 56)).cell? ⟨w.heap.size, r * 4 + i, none⟩ = some (.int .i64 x) := by
      rw [cell_of_row _ _ _ _ _ _ (heap_alloc_new w _)]
      simpa using hx
    exact (World.cell?_alloc_lt _ ob _ (cell_lt h1)).trans h1
  have hix2 := run_indexAt_arr (P := Tryz.prog) 56 12 54 4 Tryz.underlying56 size_words (by omega) w.heap.size f hf12
  have hjx2 := fun W => run_indexAt_part (P := Tryz.prog) 54 4 _ Tryz.underlying54 (fun w => Tryz.sizeOf3 w) (by omega) w.heap.size (f * 4) j hj W
  have HC2 : ∀ ob, ((w.alloc (.cells cs.toArray 56)).alloc ob).cell? ⟨w.heap.size, f * 4 + j, none⟩ = some (.int .i64 y) := fun ob => by
    have h1 : (w.alloc (.cells cs.toArray 56)).cell? ⟨w.heap.size, f * 4 + j, none⟩ = some (.int .i64 y) := by
      rw [cell_of_row _ _ _ _ _ _ (heap_alloc_new w _)]
      simpa using hy
    exact (World.cell?_alloc_lt _ ob _ (cell_lt h1)).trans h1
  have HN := Lib.hid (fun w => names_yes w x hg)
  have HFR := Lib.hid (fun w => frame_of w x hb0 hb1)
  rw [hf] at HFR
  have HN2 := Lib.hid (fun w => names_no w y hgy hy0 hy1)
  have HO := Lib.hid ho
  obtain ⟨R, HRR⟩ : ∃ R : Ending → World → Prop, Hid (R = WalkRes w ⟨0, 0, false, 2⟩) := ⟨_, Lib.hid rfl⟩
  rw [← HRR.out]
  have HB : Hid (∀ o1 o2, Below w.heap.size w ((w.alloc o1).alloc o2)) := Lib.hid (fun o1 o2 => ((Below.refl _ _).alloc (Nat.le_refl _) o1).alloc (by simp) o2)
  clear hx hg hb0 hb1 ho hf hy hy0 hy1 hgy
  go_enter Tryz.func94, Tryz.ntmps94
  go_wp2_with (first | ((with_reducible refine box_is 56 (.tmp 0) ?_); refine box_arr 56 (.tmp 0) cs.toArray rfl ?_) | (go_at_call 99; refine (HN.out _).mono ?_; clear HN; rintro e w' ⟨rfl, rfl⟩) | (go_at_call 99; refine (HN2.out _).mono ?_; rintro e w' ⟨rfl, rfl⟩) | (go_at_call 92; refine (HFR.out _).mono ?_; rintro e w' ⟨rfl, rfl⟩))
  refine bodyPost_ret (results_cell_mid rfl _ _ (w.heap.size + 1) 0 [.int .i64 (0), .int .i64 (0), .bool false] _ rfl (range_row (heap2 w _)) Tryz.underlying145 rfl (by kernel_rfl)) rfl ?_
  rw [HRR.out]
  exact ⟨rfl, HB.out _ _⟩
set_option maxRecDepth 100000 in
set_option maxHeartbeats 1000000 in
theorem mw_done (w : World) (cs : List Value) (hs : cs.length = 48) (ho : cs.toArray.all (·.oneCell') = true) (r i j f : Nat) (t x y : Int) (hr : r < 12) (hi : i < 4) (hx : cs[r * 4 + i]? = some (.int .i64 x)) (hb0 : 0 ≤ x) (hb1 : x ≤ 9999) (hg : goodB x) (hj : j < 4) (hf : x / 4 = (f : Int)) (hf12 : f < 12) (hy : cs[f * 4 + j]? = some (.int .i64 y)) (hy0 : 0 ≤ y) (hy1 : y ≤ 9999) (hgy : goodB y) :
    Calls Tryz.prog 94 #[.agg cs.toArray, .int .i64 r, .int .i64 i, .int .i64 j, .int .i64 t] w (WalkRes w ⟨y / 4, t, decide (x % 4 = 3) && decide (y % 4 = 3), 0⟩) := by
  have hix := run_indexAt_arr (P := Tryz.prog) 56 12 54 4 Tryz.underlying56 size_words (by omega) w.heap.size r hr
  have hjx := fun W => run_indexAt_part (P := Tryz.prog) 54 4 _ Tryz.underlying54 (fun w => Tryz.sizeOf3 w) (by omega) w.heap.size (r * 4) i hi W
  have HC : ∀ ob, ((w.alloc (.cells cs.toArray 56)).alloc ob).cell? ⟨w.heap.size, r * 4 + i, none⟩ = some (.int .i64 x) := fun ob => by
    have h1 : (w.alloc (.cells cs.toArray 56)).cell? ⟨w.heap.size, r * 4 + i, none⟩ = some (.int .i64 x) := by
      rw [cell_of_row _ _ _ _ _ _ (heap_alloc_new w _)]
      simpa using hx
    exact (World.cell?_alloc_lt _ ob _ (cell_lt h1)).trans h1
  have hix2 := run_indexAt_arr (P := Tryz.prog) 56 12 54 4 Tryz.underlying56 size_words (by omega) w.heap.size f hf12
  have hjx2 := fun W => run_indexAt_part (P := Tryz.prog) 54 4 _ Tryz.underlying54 (fun w => Tryz.sizeOf3 w) (by omega) w.heap.size (f * 4) j hj W
  have HC2 : ∀ ob, ((w.alloc (.cells cs.toArray 56)).alloc ob).cell? ⟨w.heap.size, f * 4 + j, none⟩ = some (.int .i64 y) := fun ob => by
    have h1 : (w.alloc (.cells cs.toArray 56)).cell? ⟨w.heap.size, f * 4 + j, none⟩ = some (.int .i64 y) := by
      rw [cell_of_row _ _ _ _ _ _ (heap_alloc_new w _)]
      simpa using hy
    exact (World.cell?_alloc_lt _ ob _ (cell_lt h1)).trans h1
  have HN := Lib.hid (fun w => names_yes w x hg)
  have HFR := Lib.hid (fun w => frame_of w x hb0 hb1)
  rw [hf] at HFR
  have HN2 := Lib.hid (fun w => names_yes w y hgy)
  have HFR2 := Lib.hid (fun w => frame_of w y hy0 hy1)
  have HW1 := Lib.hid (fun w => write_of w x hg)
  have HW2 := Lib.hid (fun w => write_of w y hgy)
  obtain ⟨z, hz⟩ : ∃ z, z = y / 4 := ⟨_, rfl⟩
  obtain ⟨b1, hb1'⟩ : ∃ b1, b1 = decide (x % 4 = 3) := ⟨_, rfl⟩
  obtain ⟨b2, hb2'⟩ : ∃ b2, b2 = decide (y % 4 = 3) := ⟨_, rfl⟩
  rw [← hz] at HFR2 ⊢
  rw [← hb1'] at HW1 ⊢
  rw [← hb2'] at HW2 ⊢
  clear hz hb1' hb2'
  have HO := Lib.hid ho
  obtain ⟨R, HRR⟩ : ∃ R : Ending → World → Prop, Hid (R = WalkRes w ⟨z, t, b1 && b2, 0⟩) := ⟨_, Lib.hid rfl⟩
  rw [← HRR.out]
  have HB : Hid (∀ o1 o2, Below w.heap.size w ((w.alloc o1).alloc o2)) := Lib.hid (fun o1 o2 => ((Below.refl _ _).alloc (Nat.le_refl _) o1).alloc (by simp) o2)
  clear hx hg hb0 hb1 ho hf hy hy0 hy1 hgy
  cases b1 <;> cases b2 <;> skip
  all_goals
    go_enter Tryz.func94, Tryz.ntmps94
    go_wp2_with (first | ((with_reducible refine box_is 56 (.tmp 0) ?_); refine box_arr 56 (.tmp 0) cs.toArray rfl ?_) | (go_at_call 99; refine (HN.out _).mono ?_; clear HN; rintro e w' ⟨rfl, rfl⟩) | (go_at_call 99; refine (HN2.out _).mono ?_; rintro e w' ⟨rfl, rfl⟩) | (go_at_call 92; refine (HFR.out _).mono ?_; clear HFR; rintro e w' ⟨rfl, rfl⟩) | (go_at_call 92; refine (HFR2.out _).mono ?_; rintro e w' ⟨rfl, rfl⟩) | (go_at_call 104; refine (HW1.out _).mono ?_; clear HW1; rintro e w' ⟨rfl, rfl⟩) | (go_at_call 104; refine (HW2.out _).mono ?_; rintro e w' ⟨rfl, rfl⟩))
    refine bodyPost_ret (results_cell_mid rfl _ _ (w.heap.size + 1) 0 [.int .i64 z, .int .i64 t, .bool _] _ rfl (range_row (heap2 w _)) Tryz.underlying145 rfl (by kernel_rfl)) rfl ?_
    rw [HRR.out]
    exact ⟨rfl, HB.out _ _⟩
end Go.Proofs.YthfdkenidfnmgaaGreat
namespace Go.Proofs.YthfdkenidfnmgaaGreat
open Go.ChangeShapes Go.WideShapes Go.ChangeAt Go.RowKit Go.Shelf
set_option linter.unusedVariables false
set_option maxRecDepth 100000
theorem mw_any (w : World) (xss : List (List Int)) (r a : Int) (h : wOk xss r a) :
    Calls Tryz.prog 94 #[.agg (flatL xss).toArray, .int .i64 r, .int .i64 (a / 16), .int .i64 (a / 4 % 4), .int .i64 (a % 4)] w (WalkRes w (walkF xss r a)) := by
  have hk := h
  obtain ⟨hm, ⟨hr0, hr1⟩, ha0, ha1⟩ := h
  have hs : (flatL xss).length = 48 := flat_len hm
  have ho : (flatL xss).toArray.all (·.oneCell') = true := flat_one xss
  obtain ⟨n, rfl⟩ := Int.eq_ofNat_of_zero_le hr0
  obtain ⟨i, hi⟩ := Int.eq_ofNat_of_zero_le (show 0 ≤ a / 16 by omega)
  obtain ⟨j, hj⟩ := Int.eq_ofNat_of_zero_le (show 0 ≤ a / 4 % 4 by omega)
  have hfg : ∀ i j, i < 12 → j < 4 → (flatL xss)[i * 4 + j]? = some (.int .i64 (wd xss i j)) := fun i j hi hj => flat_get xss (fun i hi => mem_row hm (by have := mem_len hm; omega)) (by have := mem_len hm; omega) hj
  have hxe : wd xss n i = top xss n a := by unfold top; rw [hi]; simp
  have hx := hfg n i (by omega) (by omega)
  have hxb := wd_bounds hm (i := n) (j := i) (by omega) (by omega)
  rw [hxe] at hx hxb
  by_cases hg : goodB (top xss n a)
  · obtain ⟨f, hf⟩ := Int.eq_ofNat_of_zero_le (good_frame hg).1
    have hf12 := (good_frame hg).2
    have hye : wd xss f j = low xss n a := by unfold low; rw [hf, hj]; simp
    have hy := hfg f j (by omega) (by omega)
    have hyb := wd_bounds hm (i := f) (j := j) (by omega) (by omega)
    rw [hye] at hy hyb
    by_cases hl : goodB (low xss n a)
    · have e : walkF xss n a = ⟨low xss n a / 4, a % 4, decide (top xss n a % 4 = 3) && decide (low xss n a % 4 = 3), 0⟩ := by unfold walkF; rw [if_pos hk, if_pos hg, if_pos hl]
      rw [e, hi, hj]
      exact mw_done w _ hs ho n i j f _ _ _ (by omega) (by omega) hx hxb.1 hxb.2 hg (by omega) hf (by omega) hy hyb.1 hyb.2 hl
    · have e : walkF xss n a = ⟨0, 0, false, 2⟩ := by unfold walkF; rw [if_pos hk, if_pos hg, if_neg hl]
      rw [e, hi, hj]
      exact mw_low w _ hs ho n i j f _ _ _ (by omega) (by omega) hx hxb.1 hxb.2 hg (by omega) hf (by omega) hy hyb.1 hyb.2 hl
  · have e : walkF xss n a = ⟨0, 0, false, 1⟩ := by unfold walkF; rw [if_pos hk, if_neg hg]
    rw [e, hi]
    exact mw_top w _ hs ho n i _ _ _ (by omega) (by omega) hx hxb.1 hxb.2 hg
theorem walk_bad {xss : List (List Int)} {r a : Int} (h : ¬ wOk xss r a) : walkF xss r a = ⟨0, 0, false, 3⟩ := by unfold walkF; rw [if_neg h]
theorem info_place : (Tryz.prog.info? 145).map (·.size) = some 3 := by kernel_rfl
end Go.Proofs.YthfdkenidfnmgaaGreat
namespace Go.Proofs.YthfdkenidfnmgaaGreat
open Go.ChangeShapes Go.WideShapes Go.ChangeAt Go.RowKit
set_option linter.unusedVariables false
set_option maxRecDepth 100000
set_option linter.unusedSimpArgs false
def kept (l : List CV) (p : CV → Bool) : List CV := l.filter (fun y => !p y)
theorem rput_room {l : List CV} {x : CV} (h : l.length < 4) : rput l x = l ++ [x] := by unfold rput; rw [if_neg (by omega)]
theorem RL.zero {w : World} {b : Nat} (h : Ring w b A0 0 0) : RL w b [] := ⟨A0, 0, 0, h, by omega, by omega, rfl⟩
theorem RL.block {w w' : World} {b : Nat} {l : List CV} (h : RL w b l) (e : w'.heap[b]? = w.heap[b]?) : RL w' b l := by
  obtain ⟨A, f, c, h, hf, hc, hl⟩ := h
  exact ⟨A, f, c, h.block e, hf, hc, hl⟩
theorem RL.lt {w : World} {b : Nat} {l : List CV} (h : RL w b l) : b < w.heap.size := by
  obtain ⟨A, f, c, h, _⟩ := h
  exact h.lt
theorem RL.len {w : World} {b : Nat} {l : List CV} (h : RL w b l) : l.length ≤ 4 := by
  obtain ⟨A, f, c, h, _, hc, hl⟩ := h
  rw [← hl, rlist_len]
  exact hc
end Go.Proofs.YthfdkenidfnmgaaGreat
namespace Go.Proofs.YthfdkenidfnmgaaGreat
open Go.ChangeShapes Go.WideShapes Go.ChangeAt Go.RowKit
set_option linter.unusedVariables false
set_option maxRecDepth 100000
set_option linter.unusedSimpArgs false
theorem findL_b (l : List CV) (e p : Int) : (findL l e p).b = true ↔ ∃ y ∈ l, y.e = e ∧ y.p = p := by
  unfold findL
  rcases fnd_spec l e p with ⟨h3, h4⟩ | ⟨k, hk, h3, h4, h5⟩
  · rw [h3, if_neg (by omega)]
    constructor
    · intro h; cases h
    · rintro ⟨y, hy, hh⟩
      have := h4 y hy
      rw [same_not] at this
      exact absurd hh this
  · rw [h3, if_pos (by omega)]
    rw [getD_lt hk, same_iff] at h4
    exact ⟨fun _ => ⟨_, List.getElem_mem _, h4⟩, fun _ => rfl⟩
theorem cOk_take {xs : List CV} (h : cOk xs = true) (k : Nat) : cOk (xs.take k) = true := by
  obtain ⟨h1, h2, hl⟩ := (cOk_iff xs).1 h
  rw [cOk_iff]
  have hs : (xs.take k).Sublist xs := List.take_sublist k xs
  exact ⟨fun x hx => h1 x (hs.subset hx), List.Pairwise.sublist hs h2, Nat.le_trans hs.length_le hl⟩
theorem cOk_snoc_twice {l : List CV} {x : CV} (h : (findL l x.e x.p).b = true) : cOk (l ++ [x]) = false := by
  rw [Bool.eq_false_iff]
  intro hc
  obtain ⟨_, h2, _⟩ := (cOk_iff _).1 hc
  obtain ⟨y, hy, hh⟩ := (findL_b _ _ _).1 h
  unfold Dst at h2
  rw [List.pairwise_append] at h2
  exact h2.2.2 y hy x (List.mem_singleton.2 rfl) hh
theorem cOk_snoc_bad {l : List CV} {x : CV} (h : cvOk x = false) : cOk (l ++ [x]) = false := by
  rw [Bool.eq_false_iff]
  intro hc
  obtain ⟨h1, _, _⟩ := (cOk_iff _).1 hc
  have := h1 x (List.mem_append_right _ (List.mem_singleton.2 rfl))
  rw [this] at h
  cases h
theorem cOk_snoc_good {l : List CV} {x : CV} (h : cOk l = true) (h1 : (findL l x.e x.p).b = false) (h2 : cvOk x = true) (h3 : l.length < 4) : cOk (l ++ [x]) = true := by
  obtain ⟨g1, g2, g3⟩ := (cOk_iff l).1 h
  rw [cOk_iff]
  refine ⟨fun y hy => ?_, ?_, by rw [List.length_append]; simp; omega⟩
  · rw [List.mem_append, List.mem_singleton] at hy
    rcases hy with hy | rfl
    · exact g1 y hy
    · exact h2
  · unfold Dst
    rw [List.pairwise_append]
    refine ⟨g2, List.pairwise_singleton _ _, fun y hy z hz hh => ?_⟩
    rw [List.mem_singleton] at hz
    subst hz
    have := (findL_b l z.e z.p).2 ⟨y, hy, hh⟩
    rw [this] at h1
    cases h1
theorem cOk_not_take {xs : List CV} {k : Nat} (h : cOk (xs.take k) = false) : cOk xs = false := by
  rw [Bool.eq_false_iff]
  intro hc
  rw [cOk_take hc k] at h
  cases h
def OfR (w : World) (xs : List CV) (b : Bool) (e : Ending) (w' : World) : Prop := ∃ u, e = .returned (.tuple #[u, .bool b]) ∧ RV u (bif b then xs else []) ∧ Below w.heap.size w w'
theorem build_zero {P : Program} {ops : Array Oper} {rest : List Oper} {a : Act} {w : World} {Q : Exit → Act → World → Prop} {dst : Option Nat} {tt : TypeId} {pos : String} {after : Array Edge} (t : TypeId)
    (z : Array Value) (hz : ∀ w, (Instr.build t #[]).run P w = .ok (.agg z) w)
    (h : wpList P ops Q rest (a.put dst (.agg z)) w) : wpList P ops Q ({ dst := dst, op := .build t #[], type := tt, pos := pos, after := after, guard := none } :: rest) a w :=
  wpList_plain rfl fun _ hK => by
    unfold Oper.wp execOp
    simp only [List.map_toArray, List.map_nil, Sem.run_bind, Sem.run_pure, Result.andThen_ok, hz]
    exact hK _ _ h
theorem build_ring (w : World) : (Instr.build 65 #[]).run Tryz.prog w = .ok (.agg (ringC A0 0 0).toArray) w := by
  rw [ringC_zero]
  unfold Instr.build
  go_simp
set_option maxRecDepth 100000 in
set_option maxHeartbeats 2000000 in
theorem cacheOf_any (w : World) (v : Value) (xs : List CV) (h : Cs w v xs) :
    Calls Tryz.prog 36 #[v] w (OfR w xs (cOk xs)) := by
  obtain ⟨a, cap, rfl, h1, h2, h3⟩ := h
  unfold maxLen at h2
  obtain ⟨R, HR⟩ : ∃ R, Hid (R = OfR w xs (cOk xs)) := ⟨_, Lib.hid rfl⟩
  rw [← HR.out]
  have H3 := Lib.hid h3
  obtain ⟨m, hm⟩ : ∃ m, m = xs.length := ⟨_, rfl⟩
  have HM := Lib.hid hm
  rw [← hm] at h1 ⊢
  clear hm h3
  have HBX := Lib.hid (Ring.boxed · A0 0 0 65)
  have HRV := Lib.hid RV.zero
  obtain ⟨Z, hZ⟩ : ∃ Z, Z = ringC A0 0 0 := ⟨_, rfl⟩
  have HAL : Hid (∀ w, (zeroValue 65).run Tryz.prog w = .ok (.agg Z.toArray) w) := Lib.hid (by rw [hZ]; exact Tryz.zeroValue65)
  have HBU : Hid (∀ w, (Instr.build 65 #[]).run Tryz.prog w = .ok (.agg Z.toArray) w) := Lib.hid (by rw [hZ]; exact build_ring)
  have HZL : Hid (Z.length = 18) := Lib.hid (by rw [hZ]; rfl)
  have HZS : Hid (Z.toArray.size = 18) := Lib.hid (by rw [hZ]; rfl)
  have HZO := Lib.hid (ringC_one A0 0 0)
  unfold ringV at HRV
  rw [← hZ] at HZO HBX HRV
  clear hZ
  have HB0 := Lib.hid ((Below.refl w.heap.size w).alloc (Nat.le_refl _) (.cells Z.toArray 65))
  by_cases h4 : 4 < m
  · have h4' : (4 : Int) < (m : Int) := by omega
    have HN : Hid (cOk xs = false) := Lib.hid (by
      rw [Bool.eq_false_iff]
      intro hc
      have := cOk_len hc
      have := HM.out
      omega)
    have HT := Lib.hid (HBX.out w).there
    go_enter Tryz.func36, Tryz.ntmps36
    go_wp2_with (first | ((with_reducible refine alloc_is 65 ?_); refine alloc_arr 65 Z.toArray HAL.out ?_) | ((with_reducible refine build_is 65 ?_); refine build_zero 65 Z.toArray HBU.out ?_) | ((with_reducible refine store_is 65 (.tmp 2) (.tmp 12) ?_); refine store_arr 65 (.tmp 2) (.tmp 12) w.heap.size 0 Z.toArray rfl rfl (by rw [HZS.out]; exact HT.out) (by rw [HZS.out, ← HZL.out]; exact ring_info HZL.out) HZO.out ?_) | fail)
    refine bodyPost_ret (results_cell_mid rfl _ _ w.heap.size 0 Z _ rfl (World.rangeAt_setCells_same _ _ _ _ (by rw [HZL.out]; exact HT.out)) Tryz.underlying65 rfl (ring_info HZL.out)) rfl ?_
    rw [HR.out, HN.out]
    exact ⟨_, rfl, HRV.out, Below.setCells HB0.out _ (Nat.le_refl _) _ _ _ HB0.out⟩
  · have h4' : decide ((4 : Int) < (m : Int)) = false := by simp; omega
    go_enter Tryz.func36, Tryz.ntmps36
    go_wp2_with (first | ((with_reducible refine alloc_is 65 ?_); refine alloc_arr 65 Z.toArray HAL.out ?_) | fail)
    obtain ⟨X, hX⟩ : ∃ X, w.heap.size = X := ⟨_, rfl⟩
    obtain ⟨w0, hw0⟩ : ∃ w0, (w.alloc (.cells Z.toArray 65)).alloc (.cells Z.toArray 65) = w0 := ⟨_, rfl⟩
    have HRS : Hid (Ring w0 X A0 0 0) := Lib.hid (by rw [← hw0, ← hX]; exact (HBX.out w).block (heap_alloc_old _ _ (by simp)))
    have HRL : Hid (RL w0 (X + 1) (xs.take 0)) := Lib.hid (by
      have h := HBX.out (w.alloc (.cells Z.toArray 65))
      rw [World.size_alloc] at h
      rw [← hw0, ← hX]
      exact RL.zero h)
    have HB : Hid (Below X w w0) := Lib.hid (by rw [← hw0, ← hX]; exact ((Below.refl _ _).alloc (Nat.le_refl _) _).alloc (by simp) _)
    have HXW := Lib.hid hX
    simp only [hX, hw0]
    clear hw0 HB0 hX
    go_loopw [15] (fun i wr => ∃ k : Nat, k ≤ m ∧ i = .int .i64 k ∧ Hid (Ring wr X A0 0 0) ∧ Hid (RL wr (X + 1) (xs.take k)) ∧ Hid (cOk (xs.take k) = true) ∧ Hid (Below X w wr)) (fun i _ => m - (intOf i).toNat)
    case atStart => exact ⟨0, Nat.zero_le _, rfl, HRS, HRL, Lib.hid cOk_nil, HB⟩
    case round =>
      obtain ⟨k, hk, rfl, HRS, HRL, HOK, HB⟩ := hrel
      by_cases hlt : k < m
      · have hlt' : (k : Int) < (m : Int) := by omega
        obtain ⟨b, o, rfl, hf0⟩ := H3.out k (by have := HM.out; omega)
        obtain ⟨x, hx⟩ : ∃ x, x = xs.getD k c0 := ⟨_, rfl⟩
        rw [← hx] at hf0
        have HTK : Hid (xs.take (k + 1) = xs.take k ++ [x]) := Lib.hid (by rw [hx]; exact take_snoc_getD xs k c0 (by have := HM.out; omega))
        have HTL : Hid ((xs.take k).length < 4) := Lib.hid (by rw [List.length_take]; omega)
        obtain ⟨g0, g1, g2, g3⟩ := hf0.below HB.out (by have h1 : b < w.heap.size := block_lt_of_cell hf0.c0; have := HXW.out; omega)
        clear hx hf0
        obtain ⟨A, f, c, hring, hf, hc, hl⟩ := HRL.out
        obtain ⟨r, hr⟩ : ∃ r, r = findL (xs.take k) x.e x.p := ⟨_, rfl⟩
        have HFI := Lib.hid (fun w => ringFind_any w A f c x.e x.p hf hc)
        rw [hl, ← hr] at HFI
        unfold ringV at HFI
        obtain ⟨L, hL⟩ : ∃ L, L = ringC A f c := ⟨_, rfl⟩
        have HLL : Hid (L.length = 18) := Lib.hid (by rw [hL]; rfl)
        rw [← hL] at HFI
        have HL := Lib.hid hL
        have HRF := Lib.hid hr
        have HRI := Lib.hid hring
        obtain ⟨⟨re, rp, rf, rb⟩, rt⟩ := r
        obtain ⟨Y, hY⟩ : ∃ Y, wr.heap.size = Y := ⟨_, rfl⟩
        obtain ⟨w1, hw1⟩ : ∃ w1, wr.alloc (.cells #[.int .i64 x.e, .int .i64 x.p, .int .i64 x.f, .bool x.b] 62) = w1 := ⟨_, rfl⟩
        have HB1 : Hid (Below Y wr w1) := Lib.hid (by rw [← hw1, ← hY]; exact (Below.refl _ _).alloc (Nat.le_refl _) _)
        have HF1 : Hid (FourW w1 Y 0 x ∧ Y < w1.heap.size) := Lib.hid (by
          rw [← hw1, ← hY]
          exact ⟨fourW_row (heap_alloc_new wr (.cells #[.int .i64 x.e, .int .i64 x.p, .int .i64 x.f, .bool x.b] 62)), by simp⟩)
        have HXY : Hid (X + 1 < Y) := Lib.hid (by rw [← hY]; exact HRL.out.lt)
        have HYE := Lib.hid hY
        clear hl hring hr hL
        have HW1 := Lib.hid hw1
        clear hw1 hY
        go_wp2_with (first | ((with_reducible refine load_is 65 (.tmp 4) ?_); rw [HYE.out, HW1.out]; refine load_arr 65 (.tmp 4) (X + 1) 0 L _ rfl (by rw [HL.out]; exact (HRI.out.block (HB1.out.block (X + 1) HXY.out)).range) Tryz.underlying65 rfl (ring_info HLL.out) ?_; obtain ⟨q0, q1, q2, q3⟩ := HF1.out.1.at4; rw [Nat.zero_add] at q1 q2 q3) | fail)
        refine (HFI.out w1).mono ?_
        rintro en w2 ⟨rfl, hb2⟩
        unfold cvV
        dsimp only
        obtain ⟨wA, hA⟩ : ∃ wA, w2.alloc (.cells #[.int .i64 re, .int .i64 rp, .int .i64 rf, .bool rb] 62) = wA := ⟨_, rfl⟩
        have HBA : Hid (Below Y wr wA) := Lib.hid (by
          rw [← hA]
          have h2 := hb2.mono (Nat.le_of_lt HF1.out.2)
          exact (HB1.out.trans h2).alloc (Nat.le_trans (Nat.le_of_lt HF1.out.2) hb2.size) _)
        have HFA : Hid (FourW wA Y 0 x) := Lib.hid (by
          rw [← hA]
          exact (HF1.out.1.block (hb2.block _ HF1.out.2)).block (heap_alloc_old _ _ (Nat.lt_of_lt_of_le HF1.out.2 hb2.size)))
        have HF2 : Hid (FourW w2 Y 0 x ∧ Y < w2.heap.size) := Lib.hid ⟨HF1.out.1.block (hb2.block _ HF1.out.2), Nat.lt_of_lt_of_le HF1.out.2 hb2.size⟩
        have HAE := Lib.hid hA
        have HXX : Hid (X < Y) := Lib.hid (by have := HXY.out; omega)
        have HRSA : Hid (Ring wA X A0 0 0) := Lib.hid (HRS.out.block (HBA.out.block X HXX.out))
        have HRLA : Hid (RL wA (X + 1) (xs.take k)) := Lib.hid (HRL.out.block (HBA.out.block (X + 1) HXY.out))
        have HBBA : Hid (Below X w wA) := Lib.hid (HB.out.trans (HBA.out.mono (Nat.le_of_lt HXX.out)))
        have HT := Lib.hid HRSA.out.there
        clear hb2 hA q0 q1 q2 q3
        cases rt
        · have HVA := Lib.hid (fun w => valid_anyC w x)
          obtain ⟨vb, hvb⟩ : ∃ vb, vb = cvOk x := ⟨_, rfl⟩
          have HVB := Lib.hid hvb
          rw [← hvb] at HVA
          clear hvb
          obtain ⟨q0, q1, q2, q3⟩ := HF2.out.1.at4
          have hYw := HF2.out.2
          rw [Nat.zero_add] at q1 q2 q3
          go_wp2_with fail
          rw [HAE.out]
          refine (HVA.out wA).mono ?_
          rintro en w3 ⟨rfl, hb3⟩
          have HB3 : Hid (Below Y wr w3) := Lib.hid (HBA.out.trans (hb3.mono HBA.out.size |> (fun z => HYE.out ▸ z)))
          have HF3 : Hid (FourW w3 Y 0 x) := Lib.hid (HFA.out.block (hb3.block _ (block_lt_of_cell HFA.out.at4.c0)))
          have HRS3 : Hid (Ring w3 X A0 0 0) := Lib.hid (HRSA.out.block (hb3.block _ HRSA.out.lt))
          have HRL3 : Hid (RL w3 (X + 1) (xs.take k)) := Lib.hid (HRLA.out.block (hb3.block _ HRLA.out.lt))
          have HBB3 : Hid (Below X w w3) := Lib.hid (HBBA.out.trans (hb3.mono (Nat.le_of_lt HRSA.out.lt)))
          have HT3 := Lib.hid HRS3.out.there
          clear hb3 q0 q1 q2 q3
          cases vb
          · have HN : Hid (cOk xs = false) := Lib.hid (cOk_not_take (k := k + 1) (by rw [HTK.out]; exact cOk_snoc_bad HVB.out.symm))
            go_wp2_with (first | ((with_reducible refine build_is 65 ?_); refine build_zero 65 Z.toArray HBU.out ?_) | ((with_reducible refine store_is 65 (.tmp 2) (.tmp 34) ?_); refine store_arr 65 (.tmp 2) (.tmp 34) X 0 Z.toArray rfl rfl (by rw [List.size_toArray, HZL.out]; exact HT3.out) (by rw [List.size_toArray]; exact ring_info HZL.out) HZO.out ?_) | fail)
            refine bodyPost_ret (results_cell_mid rfl _ _ X 0 Z _ rfl (World.rangeAt_setCells_same _ _ _ _ (by rw [HZL.out]; exact HT3.out)) Tryz.underlying65 rfl (ring_info HZL.out)) rfl ?_
            rw [HR.out, HN.out]
            exact ⟨_, rfl, HRV.out, by rw [HXW.out]; exact Below.setCells HBB3.out _ (Nat.le_refl _) _ _ _ HBB3.out⟩
          · have HGO : Hid (cOk (xs.take (k + 1)) = true) := Lib.hid (by rw [HTK.out]; exact cOk_snoc_good HOK.out (by rw [← HRF.out]) HVB.out.symm HTL.out)
            obtain ⟨q0, q1, q2, q3⟩ := HF3.out.at4
            rw [Nat.zero_add] at q1 q2 q3
            go_wp2_with fail
            refine (push_any w3 (X + 1) _ x HRL3.out).mono ?_
            rintro en w4 ⟨rfl, hrl4, hch4⟩
            have HRL4 : Hid (RL w4 (X + 1) (xs.take (k + 1))) := Lib.hid (by rw [HTK.out, ← rput_room HTL.out]; exact hrl4)
            have HRS4 : Hid (Ring w4 X A0 0 0) := Lib.hid (HRS3.out.block (hch4.block _ HRS3.out.lt (by omega)))
            have HBB4 : Hid (Below X w w4) := Lib.hid (Below.chg HBB3.out hch4 (Nat.le_of_lt HRS3.out.lt) (by omega))
            clear hrl4 hch4 q0 q1 q2 q3
            go_wp2
            go_roundw
            case rel => exact ⟨k + 1, by omega, by go_num, HRS4, HRL4, HGO, HBB4⟩
            case measure => simp [intOf]; omega
        · have HN : Hid (cOk xs = false) := Lib.hid (cOk_not_take (k := k + 1) (by rw [HTK.out]; exact cOk_snoc_twice (by rw [← HRF.out])))
          go_wp2_with (first | ((with_reducible refine alloc_is 65 ?_); refine alloc_arr 65 Z.toArray HAL.out ?_) | ((with_reducible refine build_is 65 ?_); refine build_zero 65 Z.toArray HBU.out ?_) | ((with_reducible refine store_is 65 (.tmp 2) (.tmp 34) ?_); rw [HAE.out]; refine store_arr 65 (.tmp 2) (.tmp 34) X 0 Z.toArray rfl rfl (by rw [HZS.out]; exact HT.out) (by rw [HZS.out, ← HZL.out]; exact ring_info HZL.out) HZO.out ?_) | fail)
          refine bodyPost_ret (results_cell_mid rfl _ _ X 0 Z _ rfl (World.rangeAt_setCells_same _ _ _ _ (by rw [HZL.out]; exact HT.out)) Tryz.underlying65 rfl (ring_info HZL.out)) rfl ?_
          rw [HR.out, HN.out]
          exact ⟨_, rfl, HRV.out, by rw [HXW.out]; exact Below.setCells HBBA.out _ (Nat.le_refl _) _ _ _ HBBA.out⟩
      · have ek : k = m := by omega
        subst ek
        obtain ⟨A, f, c, hring, hf, hc, hl⟩ := HRL.out
        have HRI := Lib.hid hring
        obtain ⟨L, hL⟩ : ∃ L, L = ringC A f c := ⟨_, rfl⟩
        have HLL : Hid (L.length = 18) := Lib.hid (by rw [hL]; rfl)
        have HL := Lib.hid hL
        have HT := Lib.hid HRS.out.there
        have HO := Lib.hid (ringC_one A f c)
        rw [← hL] at HO
        have hxk : xs.take k = xs := take_all HM.out
        have HOK2 : Hid (cOk xs = true) := Lib.hid (by have := HOK.out; rwa [hxk] at this)
        have HRV2 : Hid (RV (.agg L.toArray) xs) := Lib.hid ⟨A, f, c, by rw [hL], hf, hc, by rw [hl, hxk]⟩
        clear hring hL hf hc hl hxk
        go_wp2_with (first | ((with_reducible refine load_is 65 (.tmp 4) ?_); refine load_arr 65 (.tmp 4) (X + 1) 0 L _ rfl (by rw [HL.out]; exact HRI.out.range) Tryz.underlying65 rfl (ring_info HLL.out) ?_) | ((with_reducible refine store_is 65 (.tmp 2) (.tmp 38) ?_); refine store_arr 65 (.tmp 2) (.tmp 38) X 0 L.toArray rfl rfl (by rw [List.size_toArray, HLL.out]; exact HT.out) (by rw [List.size_toArray]; exact ring_info HLL.out) HO.out ?_) | fail)
        refine bodyPost_ret (results_cell_mid rfl _ _ X 0 L _ rfl (World.rangeAt_setCells_same _ _ _ _ (by rw [HLL.out]; exact HT.out)) Tryz.underlying65 rfl (ring_info HLL.out)) rfl ?_
        rw [HR.out, HOK2.out]
        exact ⟨_, rfl, HRV2.out, by rw [HXW.out]; exact Below.setCells HB.out _ (Nat.le_refl _) _ _ _ HB.out⟩
end Go.Proofs.YthfdkenidfnmgaaGreat
namespace Go.Proofs.YthfdkenidfnmgaaGreat
open Go.ChangeShapes Go.WideShapes Go.ChangeAt Go.RowKit Go.Maps
set_option linter.unusedVariables false
set_option linter.unusedSimpArgs false
set_option maxRecDepth 100000
def mapC (M : Nat → Option Nat) (T : Nat → Int) : List Value := [.map (M 0), .int .i64 (T 0), .map (M 1), .int .i64 (T 1), .map (M 2), .int .i64 (T 2)]
def kC (xss : List (List Int)) (ys : List IV) (M : Nat → Option Nat) (T : Nat → Int) (R : List Value) : List Value := flatL xss ++ (isC ys ++ (mapC M T ++ R))
theorem mapC_get (M : Nat → Option Nat) (T : Nat → Int) {j : Nat} (hj : j < 3) : (mapC M T)[j * 2]? = some (.map (M j)) ∧ (mapC M T)[j * 2 + 1]? = some (.int .i64 (T j)) := by
  rcases (by omega : j = 0 ∨ j = 1 ∨ j = 2) with rfl | rfl | rfl <;> exact ⟨rfl, rfl⟩
theorem mapC_one (M : Nat → Option Nat) (T : Nat → Int) : ∀ v ∈ mapC M T, v.oneCell' = true := fun v hv => by
  simp only [mapC, List.mem_cons, List.not_mem_nil, or_false] at hv
  rcases hv with rfl | rfl | rfl | rfl | rfl | rfl <;> rfl
theorem isok_short {ys : List IV} (h : isok ys = true) : ShortI ys := fun x hx => by
  obtain ⟨i, hi, rfl⟩ := List.getElem_of_mem hx
  have hr := isok_right h i
  rw [getD_lt hi] at hr
  have := rv_len hr
  omega
structure KL (W : World) (M : List (List Int)) (I : List IV) (E : List EV) (bs : Nat → Nat) (R L : List Value) : Prop where
  m : memOk M = true
  i : isok I = true
  n : E.length = 3
  L : L = kC M I (fun j => some (bs j)) (fun j => (E.getD j ez).t) R
  r : R.length = 18
  ro : R.toArray.all (·.oneCell') = true
  set : ∀ j, j < 3 → SetAt W (bs j) (E.getD j ez).r
theorem KL.below {W W' : World} {M : List (List Int)} {I : List IV} {E : List EV} {bs : Nat → Nat} {R L : List Value} (h : KL W M I E bs R L) (hb : Below W.heap.size W W') : KL W' M I E bs R L :=
  ⟨h.m, h.i, h.n, h.L, h.r, h.ro, fun j hj => (h.set j hj).below hb⟩
theorem KL.len {W : World} {M : List (List Int)} {I : List IV} {E : List EV} {bs : Nat → Nat} {R L : List Value} (h : KL W M I E bs R L) : L.length = 108 := by
  rw [h.L]; unfold kC
  rw [List.length_append, List.length_append, List.length_append, flat_len h.m, isC_36 (isok_len h.i), h.r]; rfl
theorem KL.one {W : World} {M : List (List Int)} {I : List IV} {E : List EV} {bs : Nat → Nat} {R L : List Value} (h : KL W M I E bs R L) : L.toArray.all (·.oneCell') = true := all_oneCell_toArray (fun v hv => by
  have h2 := h.ro
  rw [List.all_toArray, List.all_eq_true] at h2
  have h1 := flat_one M
  rw [List.all_toArray, List.all_eq_true] at h1
  rw [h.L] at hv; unfold kC at hv
  rcases List.mem_append.1 hv with hv | hv
  · exact h1 v hv
  · rcases List.mem_append.1 hv with hv | hv
    · exact isC_one I v hv
    · rcases List.mem_append.1 hv with hv | hv
      · exact mapC_one _ _ v hv
      · exact h2 v hv)
structure KC (W : World) (X : Nat) (M : List (List Int)) (I : List IV) (E : List EV) (bs : Nat → Nat) (R L : List Value) : Prop where
  l : KL W M I E bs R L
  at0 : W.rangeAt X 0 L
theorem KC.lt {W : World} {X : Nat} {M : List (List Int)} {I : List IV} {E : List EV} {bs : Nat → Nat} {R L : List Value} (h : KC W X M I E bs R L) : X < W.heap.size := by
  have h0 : 0 < L.length := by rw [h.l.len]; omega
  exact block_lt_of_cell (h.at0 0 L[0] (List.getElem?_eq_getElem h0))
theorem KC.below {W W' : World} {X : Nat} {M : List (List Int)} {I : List IV} {E : List EV} {bs : Nat → Nat} {R L : List Value} (h : KC W X M I E bs R L) (hb : Below W.heap.size W W') : KC W' X M I E bs R L :=
  ⟨h.l.below hb, range_blocks h.at0 (hb.block _ h.lt)⟩
theorem KC.drew {W : World} {X : Nat} {M : List (List Int)} {I : List IV} {E : List EV} {bs : Nat → Nat} {R L : List Value} (h : KC W X M I E bs R L) : KC W.drew X M I E bs R L := h.below (Below.refl _ _).drew
theorem KL.box {W : World} {M : List (List Int)} {I : List IV} {E : List EV} {bs : Nat → Nat} {R L : List Value} (h : KL W M I E bs R L) (t : TypeId) : KC (W.alloc (.cells L.toArray t)) W.heap.size M I E bs R L :=
  ⟨h.below ((Below.refl _ _).alloc (Nat.le_refl _) _), range_row (heap_alloc_new W _)⟩
theorem KC.mem {W : World} {X : Nat} {M : List (List Int)} {I : List IV} {E : List EV} {bs : Nat → Nat} {R L : List Value} (h : KC W X M I E bs R L) : W.rangeAt X 0 (flatL M) := by
  have := h.at0
  rw [h.l.L] at this
  exact range_left this
theorem KC.inf {W : World} {X : Nat} {M : List (List Int)} {I : List IV} {E : List EV} {bs : Nat → Nat} {R L : List Value} (h : KC W X M I E bs R L) : W.rangeAt X 48 (isC I) := by
  have := h.at0
  rw [h.l.L] at this
  exact range_left (range_right (o2 := 48) this (by rw [flat_len h.l.m]))
theorem KC.env {W : World} {X : Nat} {M : List (List Int)} {I : List IV} {E : List EV} {bs : Nat → Nat} {R L : List Value} (h : KC W X M I E bs R L) : W.rangeAt X 84 (mapC (fun j => some (bs j)) (fun j => (E.getD j ez).t)) := by
  have := h.at0
  rw [h.l.L] at this
  exact range_left (range_right (o2 := 84) (range_right (o2 := 48) this (by rw [flat_len h.l.m])) (by rw [isC_36 (isok_len h.l.i)]))
theorem KC.ring {W : World} {X : Nat} {M : List (List Int)} {I : List IV} {E : List EV} {bs : Nat → Nat} {R L : List Value} (h : KC W X M I E bs R L) : W.rangeAt X 90 R := by
  have := h.at0
  rw [h.l.L] at this
  exact range_right (o2 := 90) (range_right (o2 := 84) (range_right (o2 := 48) this (by rw [flat_len h.l.m])) (by rw [isC_36 (isok_len h.l.i)])) rfl
theorem KC.root {W : World} {X : Nat} {M : List (List Int)} {I : List IV} {E : List EV} {bs : Nat → Nat} {R L : List Value} (h : KC W X M I E bs R L) {j : Nat} (hj : j < 3) : W.cell? ⟨X, 84 + j * 2 + 1, none⟩ = some (.int .i64 (E.getD j ez).t) := by
  have := h.env _ _ (mapC_get (fun j => some (bs j)) (fun j => (E.getD j ez).t) hj).2
  rwa [← Nat.add_assoc] at this
theorem KC.map {W : World} {X : Nat} {M : List (List Int)} {I : List IV} {E : List EV} {bs : Nat → Nat} {R L : List Value} (h : KC W X M I E bs R L) {j : Nat} (hj : j < 3) : W.cell? ⟨X, 84 + j * 2, none⟩ = some (.map (some (bs j))) :=
  h.env _ _ (mapC_get (fun j => some (bs j)) (fun j => (E.getD j ez).t) hj).1
theorem KC.tri {W : World} {X : Nat} {M : List (List Int)} {I : List IV} {E : List EV} {bs : Nat → Nat} {R L : List Value} (h : KC W X M I E bs R L) {f : Nat} (hf : f < 12) : Tri W X (48 + f * 3) (I.getD f iz) := by
  have hl := isok_len h.l.i
  have hc : ∀ j v, j < 3 → (ivC (I.getD f iz))[j]? = some v → W.cell? ⟨X, 48 + f * 3 + j, none⟩ = some v := fun j v hj hv => by
    have := h.inf (f * 3 + j) v (by rw [isC_get I (by omega) hj]; exact hv)
    rwa [← Nat.add_assoc] at this
  exact ⟨hc 0 _ (by omega) rfl, hc 1 _ (by omega) rfl, hc 2 _ (by omega) rfl⟩
theorem KC.word {W : World} {X : Nat} {M : List (List Int)} {I : List IV} {E : List EV} {bs : Nat → Nat} {R L : List Value} (h : KC W X M I E bs R L) {f i : Nat} (hf : f < 12) (hi : i < 4) : W.cell? ⟨X, f * 4 + i, none⟩ = some (.int .i64 (wd M f i)) := by
  have := h.mem (f * 4 + i) _ (flat_get M (fun i hi => mem_row h.l.m (by have := mem_len h.l.m; omega)) (by have := mem_len h.l.m; omega) hi)
  rwa [Nat.zero_add] at this
theorem size_env (w : World) : (sizeOf 48).run Tryz.prog w = .ok 2 w := Tryz.sizeOf48 w
theorem info_kernel {n : Nat} (h : n = 108) : (Tryz.prog.info? 67).map (·.size) = some n := by subst h; kernel_rfl
theorem info_ring {n : Nat} (h : n = 18) : (Tryz.prog.info? 65).map (·.size) = some n := by subst h; kernel_rfl
theorem info_envs {n : Nat} (h : n = 6) : (Tryz.prog.info? 50).map (·.size) = some n := by subst h; kernel_rfl
def rootB (I : List IV) (t : Int) : Bool := decide (t = -1) || (inR t 0 11 && decide ((I.getD t.toNat iz).k = 3))
set_option maxHeartbeats 1000000 in
theorem rooted_any (W : World) (X : Nat) (M : List (List Int)) (I : List IV) (E : List EV) (bs : Nat → Nat) (R L : List Value) (h : KC W X M I E bs R L) (j : Nat) (hj : j < 3) :
    Calls Tryz.prog 51 #[.int .i64 j, .pointer (some ⟨X, 0, none⟩)] W (Says (rootB I (E.getD j ez).t) W) := by
  have hc := h.root hj
  have HIX := run_indexAt_off (P := Tryz.prog) 50 3 48 2 Tryz.underlying50 size_env (by omega) X 84 j hj
  have HT : Hid (∀ f, f < 12 → W.cell? ⟨X, 48 + f * 3, none⟩ = some (.int .i64 (I.getD f iz).k)) := Lib.hid (fun f hf => (h.tri hf).c0)
  have HBL := Lib.hid (fun w t => ibelow_any w t 12)
  have hj0 : (0 : Int) ≤ (j : Int) := by omega
  have hj3 : (j : Int) < 3 := by omega
  obtain ⟨t, ht⟩ : ∃ t, t = (E.getD j ez).t := ⟨_, rfl⟩
  rw [← ht] at hc ⊢
  unfold rootB
  clear ht h hj
  by_cases h1 : t = -1
  · subst h1
    go_enter Tryz.func51, Tryz.ntmps51
    go_wp2_with fail
    go_ret
    exact ⟨by simp, rfl⟩
  · have h1' : (t == -1) = false := by simpa using h1
    rw [decide_eq_false h1, Bool.false_or]
    have HB := Lib.hid (fun w => HBL.out w t)
    rw [show (12 : Int) - 1 = 11 from rfl] at HB
    obtain ⟨b, hb⟩ : ∃ b, b = inR t 0 11 := ⟨_, rfl⟩
    rw [← hb] at HB ⊢
    have HBB := Lib.hid hb
    clear hb h1
    cases b with
    | false =>
      go_enter Tryz.func51, Tryz.ntmps51
      go_wp2_with fail
      refine (HB.out _).mono ?_
      rintro e w' ⟨rfl, rfl⟩
      go_wp2_with fail
      go_ret
      exact ⟨by simp, rfl⟩
    | true =>
      obtain ⟨t0, t11⟩ := inR_iff.1 HBB.out.symm
      obtain ⟨f, rfl⟩ := Int.eq_ofNat_of_zero_le t0
      have hf12 : f < 12 := by omega
      have hk := HT.out f hf12
      have HIF := run_indexAt_off (P := Tryz.prog) 60 12 58 3 Tryz.underlying60 size_info (by omega) X 48 f hf12
      rw [Int.toNat_natCast]
      obtain ⟨kd, hkd⟩ : ∃ kd, kd = (I.getD f iz).k := ⟨_, rfl⟩
      rw [← hkd] at hk ⊢
      have hf12' : (f : Int) < 12 := by omega
      clear hkd HT t11
      have HE : Hid ((kd == 3) = decide (kd = 3)) := Lib.hid rfl
      go_enter Tryz.func51, Tryz.ntmps51
      go_wp2_with fail
      refine (HB.out _).mono ?_
      rintro e w' ⟨rfl, rfl⟩
      go_wp2_with fail
      go_ret
      exact ⟨by rw [← HE.out]; simp, rfl⟩
end Go.Proofs.YthfdkenidfnmgaaGreat
namespace Go.Proofs.YthfdkenidfnmgaaGreat
open Go.ChangeShapes Go.WideShapes Go.ChangeAt Go.RowKit Go.Maps
set_option linter.unusedVariables false
set_option linter.unusedSimpArgs false
set_option maxRecDepth 100000
theorem agg_env (w : World) : (isAgg 48).run Tryz.prog w = .ok true w := Tryz.isAgg48 w
theorem index_envs (M : Nat → Option Nat) (T : Nat → Int) {k : Nat} (hk : k < 3) (W : World) : (Instr.index 50 (.agg (mapC M T).toArray) (.int .i64 k)).run Tryz.prog W = .ok (.agg #[.map (M k), .int .i64 (T k)]) W := by
  rw [run_index_arr (P := Tryz.prog) 50 3 48 2 Tryz.underlying50 agg_env size_env _ k hk W]
  rcases (by omega : k = 0 ∨ k = 1 ∨ k = 2) with rfl | rfl | rfl <;> rfl
def SaysI (n : Int) (w : World) (e : Ending) (w' : World) : Prop := e = .returned (.int .i64 n) ∧ Below w.heap.size w w'
set_option maxHeartbeats 1000000 in
theorem rootedAt_any (w : World) (M : List (List Int)) (I : List IV) (E : List EV) (bs : Nat → Nat) (R L : List Value) (h : KL w M I E bs R L) (f : Nat) :
    Calls Tryz.prog 61 #[.agg L.toArray, .int .i64 f] w (SaysI (cntE E 3 f) w) := by
  have HKC := Lib.hid (h.box 67)
  have HXE := Lib.hid (fun k hk W => index_envs (fun j => some (bs j)) (fun j => (E.getD j ez).t) (k := k) hk W)
  have HST : Hid (∀ k, k < 3 → ∀ j, cntE E (k + 1) j = cntE E k j + if (E.getD k ez).t = (j : Int) then 1 else 0) := Lib.hid (fun k hk j => cntE_step (es := E) (k := k) (by have := h.n; omega) j)
  have HLE := Lib.hid (fun k => cntE_le E k f)
  have HN := Lib.hid h.n
  obtain ⟨Y, hY⟩ : ∃ Y, Y = mapC (fun j => some (bs j)) (fun j => (E.getD j ez).t) := ⟨_, rfl⟩
  obtain ⟨W0, hW0⟩ : ∃ W0, W0 = w.alloc (.cells L.toArray 67) := ⟨_, rfl⟩
  have HYR : Hid (W0.rangeAt w.heap.size 84 Y) := Lib.hid (by rw [hY, hW0]; exact HKC.out.env)
  have HYL : Hid (Y.length = 6) := Lib.hid (by rw [hY]; rfl)
  have HB0 : Hid (Below w.heap.size w W0) := Lib.hid (by rw [hW0]; exact (Below.refl _ _).alloc (Nat.le_refl _) _)
  rw [← hY] at HXE
  have HW0 := Lib.hid hW0
  clear hY hW0 h HKC
  go_enter Tryz.func61, Tryz.ntmps61
  go_wp2_with (first | ((with_reducible refine box_is 67 (.tmp 0) ?_); refine box_arr 67 (.tmp 0) L.toArray rfl ?_; rw [← HW0.out]) | ((with_reducible refine load_is 50 (.tmp 8) ?_); refine load_arr 50 (.tmp 8) w.heap.size 84 Y _ rfl HYR.out Tryz.underlying50 rfl (info_envs HYL.out) ?_) | fail)
  go_loopw [5, 10] (fun q i wr => ∃ k : Nat, k ≤ 3 ∧ i = .int .i64 k ∧ q = .int .i64 (cntE E k f : Nat) ∧ Hid (Below w.heap.size w wr)) (fun _ i _ => 3 - (intOf i).toNat)
  case atStart => exact ⟨0, Nat.zero_le _, rfl, rfl, HB0⟩
  case round =>
    obtain ⟨k, hk, rfl, rfl, HB⟩ := hrel
    by_cases hlt : k < 3
    · have hlt' : (k : Int) < 3 := by omega
      have hk0 : (0 : Int) ≤ (k : Int) := by omega
      have HIX := HXE.out k hlt
      have hst := HST.out k hlt f
      obtain ⟨t, ht⟩ : ∃ t, t = (E.getD k ez).t := ⟨_, rfl⟩
      rw [← ht] at HIX hst
      obtain ⟨q, hq⟩ : ∃ q, q = cntE E k f := ⟨_, rfl⟩
      have hqb : q ≤ 3 := by rw [hq]; have h1 := HLE.out k; have h2 := HN.out; omega
      rw [← hq] at hst ⊢
      have HQ := Lib.hid hst
      have HB1 : Hid (∀ o, Below w.heap.size w (wr.alloc o)) := Lib.hid (fun o => HB.out.alloc HB.out.size o)
      have hqb' : (q : Int) ≤ 3 := by omega
      clear ht hq hst
      by_cases he : t = (f : Int)
      · subst he
        go_wp2_with fail
        go_roundw
        case rel => exact ⟨k + 1, by omega, by go_num, by rw [HQ.out, if_pos rfl]; go_num, Lib.hid (HB1.out _)⟩
        case measure => simp [intOf]; omega
      · have he' : (t == (f : Int)) = false := by simpa using he
        have HQ2 : Hid (cntE E (k + 1) f = q) := Lib.hid (by rw [HQ.out, if_neg he]; rfl)
        clear he
        go_wp2_with fail
        go_roundw
        case rel => exact ⟨k + 1, by omega, by go_num, by rw [HQ2.out], Lib.hid (HB1.out _)⟩
        case measure => simp [intOf]; omega
    · have e : k = 3 := by omega
      subst e
      go_wp2_with fail
      go_ret
      exact ⟨rfl, HB.out⟩
set_option maxHeartbeats 1000000 in
theorem counted_any (W : World) (X U : Nat) (M : List (List Int)) (I : List IV) (E : List EV) (bs : Nat → Nat) (R L : List Value) (h : KC W X M I E bs R L) (hu : Us W U (cu M I 12)) (f : Nat) (hf : f < 12) :
    Calls Tryz.prog 60 #[.int .i64 f, .pointer (some ⟨X, 0, none⟩), .pointer (some ⟨U, 0, none⟩)] W (BRes (decide ((I.getD f iz).r = ((cntN M I f 12 + cntE E 3 f : Nat) : Int))) W) := by
  have hr := (h.tri hf).c2
  have hc : W.cell? ⟨U, f, none⟩ = some (.int .i64 ((cntN M I f 12 : Nat) : Int)) := (hu f hf).1
  have HR := Lib.hid (rootedAt_any W.drew M I E bs R L (h.l.below (Below.refl _ _).drew) f)
  have HRG := Lib.hid h.at0
  have HLL := Lib.hid h.l.len
  have HB1 : Hid (cntN M I f 12 ≤ 48) := Lib.hid (cntN_le h.l.m f 12 (Nat.le_refl _))
  have HB2 : Hid (cntE E 3 f ≤ 3) := Lib.hid (by have := cntE_le E 3 f; have := h.l.n; omega)
  have HIF := run_indexAt_off (P := Tryz.prog) 60 12 58 3 Tryz.underlying60 size_info (by omega) X 48 f hf
  have HIU := fun W => run_indexAt_part (P := Tryz.prog) 114 12 _ Tryz.underlying114 (fun w => Tryz.sizeOf3 w) (by omega) U 0 f hf W
  simp only [Nat.zero_add] at HIU
  have hf0 : (0 : Int) ≤ (f : Int) := by omega
  have hf12 : (f : Int) < 12 := by omega
  obtain ⟨y, hy⟩ : ∃ y, y = (I.getD f iz).r := ⟨_, rfl⟩
  obtain ⟨a, ha⟩ : ∃ a, a = cntN M I f 12 := ⟨_, rfl⟩
  obtain ⟨b, hb⟩ : ∃ b, b = cntE E 3 f := ⟨_, rfl⟩
  rw [← hy] at hr ⊢
  rw [← ha] at hc HB1 ⊢
  rw [← hb] at HR HB2 ⊢
  have ha48 : (a : Int) ≤ 48 := by have := HB1.out; omega
  have hb3 : (b : Int) ≤ 3 := by have := HB2.out; omega
  have hwr : IntKind.i64.wrap ((a : Int) + (b : Int)) = (a : Int) + (b : Int) := by rw [IntKind.wrap_i64]; omega
  have FS : Hid (∀ W', Below W.heap.size W W' → W'.rangeAt X 0 L ∧ W'.cell? ⟨X, 48 + f * 3 + 2, none⟩ = some (.int .i64 y) ∧ W'.cell? ⟨U, f, none⟩ = some (.int .i64 (a : Int))) := Lib.hid (fun W' hb => ⟨(h.below hb).at0, (hb.cell (p := ⟨X, 48 + f * 3 + 2, none⟩) (cell_lt hr)).trans hr, (hb.cell (p := ⟨U, f, none⟩) (cell_lt hc)).trans hc⟩)
  have HIX : Hid (∀ W' : World, W'.rangeAt X 0 L → (do let l ← Instr.loadAt 67 (.pointer (some ⟨X, 0, none⟩)); pure (Next.value l) : Sem Next).run Tryz.prog W' = .ok (.value (.agg L.toArray)) W') := Lib.hid (fun W' hh => load_run 67 X 0 L _ hh Tryz.underlying67 rfl (info_kernel HLL.out))
  clear hu h hy ha hb hf HB1 HB2 HRG
  have HE : Hid (decide (y = ((a + b : Nat) : Int)) = (y == (a : Int) + (b : Int))) := Lib.hid (by rw [Int.natCast_add]; rfl)
  rw [HE.out]
  go_enter Tryz.func60, Tryz.ntmps60
  go_wp2_with fail
  refine wp_region_held_drew (S := fun w' => w'.rangeAt X 0 L ∧ w'.cell? ⟨X, 48 + f * 3 + 2, none⟩ = some (.int .i64 y) ∧ w'.cell? ⟨U, f, none⟩ = some (.int .i64 (a : Int))) (by kernel_rfl) (FS.out _ (Below.refl _ _).drew) (fun hHeld => ?_)
  refine wpAnyH_take (i := 0) (oi := { dst := some 5, op := .move (.tmp 0), type := _, pos := _, after := _, guard := none }) (v := .int .i64 (f : Int)) rfl (by kernel_rfl) (by kernel_rfl) (by kernel_rfl) (fun _ _ _ h => h) (Or.inl ⟨by rfl, fun wh hSw => ?_⟩) hHeld ?_
  · (obtain ⟨s0, s1, s2⟩ := hSw; go_simp)
  try simp only [Act.put, List.setIfInBounds_toArray, List.set_cons_zero, List.set_cons_succ]
  refine wpAnyH_take (i := 1) (oi := { dst := some 6, op := .fieldAddr 67 (.tmp 1) 1, type := _, pos := _, after := _, guard := none }) (v := .pointer (some ⟨X, 48, none⟩)) rfl (by kernel_rfl) (by kernel_rfl) (by kernel_rfl) (fun _ _ _ h => h) (Or.inl ⟨by rfl, fun wh hSw => ?_⟩) hHeld ?_
  · (obtain ⟨s0, s1, s2⟩ := hSw; go_simp)
  try simp only [Act.put, List.setIfInBounds_toArray, List.set_cons_zero, List.set_cons_succ]
  refine wpAnyH_take (i := 2) (oi := { dst := some 7, op := .indexAddr 60 (.tmp 6) (.tmp 5), type := _, pos := _, after := _, guard := none }) (v := .pointer (some ⟨X, 48 + f * 3, none⟩)) rfl (by kernel_rfl) (by kernel_rfl) (by kernel_rfl) (fun _ _ _ h => h) (Or.inl ⟨by rfl, fun wh hSw => ?_⟩) hHeld ?_
  · (obtain ⟨s0, s1, s2⟩ := hSw; go_simp)
  try simp only [Act.put, List.setIfInBounds_toArray, List.set_cons_zero, List.set_cons_succ]
  refine wpAnyH_take (i := 3) (oi := { dst := some 8, op := .fieldAddr 58 (.tmp 7) 2, type := _, pos := _, after := _, guard := none }) (v := .pointer (some ⟨X, 48 + f * 3 + 2, none⟩)) rfl (by kernel_rfl) (by kernel_rfl) (by kernel_rfl) (fun _ _ _ h => h) (Or.inl ⟨by rfl, fun wh hSw => ?_⟩) hHeld ?_
  · (obtain ⟨s0, s1, s2⟩ := hSw; go_simp)
  try simp only [Act.put, List.setIfInBounds_toArray, List.set_cons_zero, List.set_cons_succ]
  refine wpAnyH_take (i := 4) (oi := { dst := some 9, op := .load 3 (.tmp 8), type := _, pos := _, after := _, guard := none }) (v := .int .i64 y) rfl (by kernel_rfl) (by kernel_rfl) (by kernel_rfl) (fun _ _ _ h => h) (Or.inl ⟨by rfl, fun wh hSw => ?_⟩) hHeld ?_
  · (obtain ⟨s0, s1, s2⟩ := hSw; go_simp)
  try simp only [Act.put, List.setIfInBounds_toArray, List.set_cons_zero, List.set_cons_succ]
  refine wpAnyH_take (i := 5) (oi := { dst := some 10, op := .move (.tmp 0), type := _, pos := _, after := _, guard := none }) (v := .int .i64 (f : Int)) rfl (by kernel_rfl) (by kernel_rfl) (by kernel_rfl) (fun _ _ _ h => h) (Or.inl ⟨by rfl, fun wh hSw => ?_⟩) hHeld ?_
  · (obtain ⟨s0, s1, s2⟩ := hSw; go_simp)
  try simp only [Act.put, List.setIfInBounds_toArray, List.set_cons_zero, List.set_cons_succ]
  refine wpAnyH_take (i := 6) (oi := { dst := some 11, op := .indexAddr 114 (.tmp 2) (.tmp 10), type := _, pos := _, after := _, guard := none }) (v := .pointer (some ⟨U, f, none⟩)) rfl (by kernel_rfl) (by kernel_rfl) (by kernel_rfl) (fun _ _ _ h => h) (Or.inl ⟨by rfl, fun wh hSw => ?_⟩) hHeld ?_
  · (obtain ⟨s0, s1, s2⟩ := hSw; go_simp)
  try simp only [Act.put, List.setIfInBounds_toArray, List.set_cons_zero, List.set_cons_succ]
  refine wpAnyH_take (i := 7) (oi := { dst := some 12, op := .load 3 (.tmp 11), type := _, pos := _, after := _, guard := none }) (v := .int .i64 (a : Int)) rfl (by kernel_rfl) (by kernel_rfl) (by kernel_rfl) (fun _ _ _ h => h) (Or.inl ⟨by rfl, fun wh hSw => ?_⟩) hHeld ?_
  · (obtain ⟨s0, s1, s2⟩ := hSw; go_simp)
  try simp only [Act.put, List.setIfInBounds_toArray, List.set_cons_zero, List.set_cons_succ]
  refine wpAnyH_take (i := 8) (oi := { dst := some 13, op := .load 67 (.tmp 1), type := _, pos := _, after := _, guard := none }) (v := .agg L.toArray) rfl (by kernel_rfl) (by kernel_rfl) (by kernel_rfl) (fun _ _ _ h => h) (Or.inl ⟨by rfl, fun wh hSw => ?_⟩) hHeld ?_
  · (simp only [execOp]; exact HIX.out _ hSw.1)
  try simp only [Act.put, List.setIfInBounds_toArray, List.set_cons_zero, List.set_cons_succ]
  refine wpAnyH_take (i := 9) (oi := { dst := some 14, op := .move (.tmp 0), type := _, pos := _, after := _, guard := none }) (v := .int .i64 (f : Int)) rfl (by kernel_rfl) (by kernel_rfl) (by kernel_rfl) (fun _ _ _ h => h) (Or.inl ⟨by rfl, fun wh hSw => ?_⟩) hHeld ?_
  · (obtain ⟨s0, s1, s2⟩ := hSw; go_simp)
  try simp only [Act.put, List.setIfInBounds_toArray, List.set_cons_zero, List.set_cons_succ]
  refine wpAnyH_ready (rs := [10]) (by kernel_rfl) (by simp) ?_
  refine AllReadyH.cons (o := { dst := some 15, op := .call { callee := .value (.func 61), args := #[.tmp 13, .tmp 14], argTypes := #[67, 3] }, type := _, pos := _, after := _, guard := none }) rfl (fun K hK => ?_) AllReadyH.nil
  go_simp
  refine HR.out.mono ?_
  rintro _ w1 ⟨rfl, hb1⟩
  have HBE : Hid (Below W.heap.size W w1) := Lib.hid ((Below.refl W.heap.size W).drew.trans (hb1.mono (Nat.le_refl _)))
  clear hb1
  try go_simp
  refine hK.out _ _ ?_ (fun hHeld => ?_)
  · exact FS.out _ HBE.out
  clear hK K
  try simp only [Act.put, List.setIfInBounds_toArray, List.set_cons_zero, List.set_cons_succ]
  refine wpAnyH_take (i := 11) (oi := { dst := some 16, op := .binOp .add 3 (.tmp 12) (.tmp 15) 3, type := _, pos := _, after := _, guard := none }) (v := .int .i64 ((a : Int) + (b : Int))) rfl (by kernel_rfl) (by kernel_rfl) (by kernel_rfl) (fun _ _ _ h => h) (Or.inl ⟨by rfl, fun wh hSw => ?_⟩) hHeld ?_
  · (obtain ⟨s0, s1, s2⟩ := hSw; go_simp)
  try simp only [Act.put, List.setIfInBounds_toArray, List.set_cons_zero, List.set_cons_succ]
  refine wpAnyH_take (i := 12) (oi := { dst := some 17, op := .binOp .eql 3 (.tmp 9) (.tmp 16) 3, type := _, pos := _, after := _, guard := none }) (v := .bool (y == (a : Int) + (b : Int))) rfl (by kernel_rfl) (by kernel_rfl) (by kernel_rfl) (fun _ _ _ h => h) (Or.inl ⟨by rfl, fun wh hSw => ?_⟩) hHeld ?_
  · (obtain ⟨s0, s1, s2⟩ := hSw; go_simp)
  try simp only [Act.put, List.setIfInBounds_toArray, List.set_cons_zero, List.set_cons_succ]
  refine wpAnyH_take (i := 13) (oi := { dst := some 4, op := .assign (.tmp 17), type := _, pos := _, after := _, guard := none }) (v := .bool (y == (a : Int) + (b : Int))) rfl (by kernel_rfl) (by kernel_rfl) (by kernel_rfl) (fun _ _ _ h => h) (Or.inl ⟨by rfl, fun wh hSw => ?_⟩) hHeld ?_
  · (obtain ⟨s0, s1, s2⟩ := hSw; go_simp)
  try simp only [Act.put, List.setIfInBounds_toArray, List.set_cons_zero, List.set_cons_succ]
  refine wpAnyH_done (by kernel_rfl) ?_ _
  go_wp2_with fail
  go_ret
  exact ⟨rfl, HBE.out⟩
end Go.Proofs.YthfdkenidfnmgaaGreat
namespace Go.Proofs.YthfdkenidfnmgaaGreat
open Go.ChangeShapes Go.WideShapes Go.ChangeAt Go.RowKit Go.Maps
set_option linter.unusedVariables false
set_option linter.unusedSimpArgs false
set_option maxRecDepth 100000
set_option maxHeartbeats 2000000 in
theorem place_any (w : World) (M : List (List Int)) (I : List IV) (E : List EV) (bs : Nat → Nat) (R L : List Value) (h : KL w M I E bs R L) (j : Nat) (hj : j < 3) (a : Int) (hb : -1 ≤ (E.getD j ez).t ∧ (E.getD j ez).t ≤ 11) :
    Calls Tryz.prog 79 #[.agg L.toArray, .int .i64 j, .int .i64 a] w (WalkRes w (walkF M (E.getD j ez).t a)) := by
  have HKC := Lib.hid (h.box 67)
  have HW : Hid (∀ (W : World) (t : Int), 0 ≤ t ∧ t < 12 → 0 ≤ a ∧ a < 64 → Calls Tryz.prog 94 #[.agg (flatL M).toArray, .int .i64 t, .int .i64 (a / 16), .int .i64 (a / 4 % 4), .int .i64 (a % 4)] W (WalkRes W (walkF M t a))) := Lib.hid (fun W t ht ha => mw_any W M t a ⟨h.m, ht, ha⟩)
  have HFL : Hid ((flatL M).length = 48) := Lib.hid (flat_len h.m)
  obtain ⟨F, hF⟩ : ∃ F, F = flatL M := ⟨_, rfl⟩
  rw [← hF] at HW HFL
  obtain ⟨W0, hW0⟩ : ∃ W0, W0 = w.alloc (.cells L.toArray 67) := ⟨_, rfl⟩
  rw [← hW0] at HKC
  have HB0 : Hid (Below w.heap.size w W0) := Lib.hid (by rw [hW0]; exact (Below.refl _ _).alloc (Nat.le_refl _) _)
  have hz0 : w.heap.size < W0.heap.size := HKC.out.lt
  have hrt := HKC.out.root hj
  have HME : Hid (∀ W, Below W0.heap.size W0 W → W.rangeAt w.heap.size 0 F) := Lib.hid (fun W hW => by rw [hF]; exact (HKC.out.below hW).mem)
  have HIX := run_indexAt_off (P := Tryz.prog) 50 3 48 2 Tryz.underlying50 size_env (by omega) w.heap.size 84 j hj
  obtain ⟨t, ht⟩ : ∃ t, t = (E.getD j ez).t := ⟨_, rfl⟩
  rw [← ht] at hrt hb ⊢
  have HW0 := Lib.hid hW0
  have hj0 : (0 : Int) ≤ (j : Int) := by omega
  have hj3 : (j : Int) < 3 := by omega
  clear hF hW0 h ht hj HKC
  obtain ⟨p, hp⟩ : ∃ p, p = walkF M t a := ⟨_, rfl⟩
  rw [← hp]
  have HP := Lib.hid hp
  clear hp
  obtain ⟨W1, hW1⟩ : ∃ W1, W1 = W0.alloc (.cells #[.int .i64 0, .int .i64 0, .bool false] 145) := ⟨_, rfl⟩
  have HB1 : Hid (Below W0.heap.size W0 W1) := Lib.hid (by rw [hW1]; exact (Below.refl _ _).alloc (Nat.le_refl _) _)
  have HT1 : Hid (W1.there W0.heap.size 0 3) := Lib.hid (by rw [hW1]; exact there_row (heap_alloc_new W0 _) (Nat.le_refl _))
  have HS1 : Hid (W0.heap.size < W1.heap.size) := Lib.hid (by rw [hW1]; simp)
  have HEND : Hid (∀ W (x y : Int) (b : Bool), Below W1.heap.size W1 W → Below w.heap.size w (W.setCells W0.heap.size 0 [.int .i64 x, .int .i64 y, .bool b]) ∧ (W.setCells W0.heap.size 0 [.int .i64 x, .int .i64 y, .bool b]).rangeAt W0.heap.size 0 [.int .i64 x, .int .i64 y, .bool b]) := Lib.hid (fun W x y b hW => ⟨Below.setCells (Below.refl _ _) _ (by have := HB0.out.size; omega) _ _ _ ((HB0.out.trans (HB1.out.mono HB0.out.size)).trans (hW.mono (by have := HB0.out.size; have := HS1.out; omega))), World.rangeAt_setCells_same _ _ _ _ (there_blocks HT1.out (hW.block _ HS1.out))⟩)
  have HTW : Hid (∀ W, Below W1.heap.size W1 W → W.there W0.heap.size 0 3) := Lib.hid (fun W hW => there_blocks HT1.out (hW.block _ HS1.out))
  have HW1 := Lib.hid hW1
  have hrt1 := (HB1.out.cell (p := ⟨w.heap.size, 84 + j * 2 + 1, none⟩) hz0).trans hrt
  clear hW1 HT1
  have HNONE : ∀ (x : WV), x = ⟨0, 0, false, 3⟩ → x.f = 0 ∧ x.t = 0 ∧ x.b = false ∧ x.c = 3 := fun x hx => by subst hx; exact ⟨rfl, rfl, rfl, rfl⟩
  by_cases ha : 0 ≤ a ∧ a < 64
  · have HA := Lib.hid (fun w => aI_yes a w ha.1 ha.2)
    by_cases h1 : t = -1
    · subst h1
      have HPE : Hid (p = ⟨0, 0, false, 3⟩) := Lib.hid (by rw [HP.out]; exact walk_bad (fun hh => by have := hh.2.1.1; omega))
      clear ha hb HNONE
      go_enter Tryz.func79, Tryz.ntmps79
      go_wp2_with (first | ((with_reducible refine box_is 67 (.tmp 0) ?_); refine box_arr 67 (.tmp 0) L.toArray rfl ?_; rw [← HW0.out]) | ((with_reducible refine alloc_is 145 ?_); refine alloc_arr 145 #[.int .i64 0, .int .i64 0, .bool false] (fun w => Tryz.zeroValue145 w) ?_; rw [← HW1.out]) | fail)
      refine (HA.out _).mono ?_
      rintro e w' ⟨rfl, rfl⟩
      go_wp2_with (first | ((with_reducible refine store_is 145 (.tmp 6) (.tmp 31) ?_); refine store_arr 145 (.tmp 6) (.tmp 31) W0.heap.size 0 #[.int .i64 0, .int .i64 0, .bool false] rfl rfl (HTW.out _ (Below.refl _ _)) info_place (by simp [Value.oneCell']) ?_) | fail)
      refine bodyPost_ret (results_cell_mid rfl _ _ W0.heap.size 0 [.int .i64 0, .int .i64 0, .bool false] _ rfl (HEND.out _ 0 0 false (Below.refl _ _)).2 Tryz.underlying145 rfl (by kernel_rfl)) rfl ?_
      rw [HPE.out]
      exact ⟨rfl, (HEND.out _ 0 0 false (Below.refl _ _)).1⟩
    · have h1' : (t == -1) = false := by simpa using h1
      have HWK := Lib.hid (fun W => HW.out W t (by omega) ha)
      rw [← HP.out] at HWK
      obtain ⟨pf, pt, pb, pc⟩ := p
      unfold WalkRes plV at HWK
      dsimp only at HWK
      have HME1 := Lib.hid (HME.out W1 HB1.out)
      clear ha hb h1 HNONE
      go_enter Tryz.func79, Tryz.ntmps79
      go_wp2_with (first | ((with_reducible refine box_is 67 (.tmp 0) ?_); refine box_arr 67 (.tmp 0) L.toArray rfl ?_; rw [← HW0.out]) | ((with_reducible refine alloc_is 145 ?_); refine alloc_arr 145 #[.int .i64 0, .int .i64 0, .bool false] (fun w => Tryz.zeroValue145 w) ?_; rw [← HW1.out]) | fail)
      refine (HA.out _).mono ?_
      rintro e w' ⟨rfl, rfl⟩
      go_wp2_with (first | ((with_reducible refine load_is 56 (.tmp 32) ?_); refine load_arr 56 (.tmp 32) w.heap.size 0 F _ rfl HME1.out Tryz.underlying56 rfl (info_mem HFL.out) ?_) | fail)
      refine (HWK.out _).mono ?_
      rintro e W2 ⟨rfl, hb2⟩
      have HB2 := Lib.hid hb2
      clear hb2
      go_wp2_with (first | ((with_reducible refine store_is 145 (.tmp 6) (.tmp 39) ?_); refine store_arr 145 (.tmp 6) (.tmp 39) W0.heap.size 0 #[.int .i64 pf, .int .i64 pt, .bool pb] rfl rfl (HTW.out _ HB2.out) info_place (by simp [Value.oneCell']) ?_) | fail)
      refine bodyPost_ret (results_cell_mid rfl _ _ W0.heap.size 0 [.int .i64 pf, .int .i64 pt, .bool pb] _ rfl (HEND.out _ pf pt pb HB2.out).2 Tryz.underlying145 rfl (by kernel_rfl)) rfl ?_
      exact ⟨rfl, (HEND.out _ pf pt pb HB2.out).1⟩
  · have HA := Lib.hid (fun w => aI_no a w (by omega))
    have HPE : Hid (p = ⟨0, 0, false, 3⟩) := Lib.hid (by rw [HP.out]; exact walk_bad (fun hh => ha ⟨hh.2.2.1, hh.2.2.2⟩))
    have HD : Hid ((t == -1) = decide (t = -1)) := Lib.hid rfl
    obtain ⟨q, hq⟩ : ∃ q, q = (t == -1) := ⟨_, rfl⟩
    have hq' := hq.symm
    clear ha hb HNONE hq HD
    cases q
    all_goals
      go_enter Tryz.func79, Tryz.ntmps79
      go_wp2_with (first | ((with_reducible refine box_is 67 (.tmp 0) ?_); refine box_arr 67 (.tmp 0) L.toArray rfl ?_; rw [← HW0.out]) | ((with_reducible refine alloc_is 145 ?_); refine alloc_arr 145 #[.int .i64 0, .int .i64 0, .bool false] (fun w => Tryz.zeroValue145 w) ?_; rw [← HW1.out]) | fail)
      refine (HA.out _).mono ?_
      rintro e w' ⟨rfl, rfl⟩
      go_wp2_with (first | ((with_reducible refine store_is 145 (.tmp 6) (.tmp 31) ?_); refine store_arr 145 (.tmp 6) (.tmp 31) W0.heap.size 0 #[.int .i64 0, .int .i64 0, .bool false] rfl rfl (HTW.out _ (Below.refl _ _)) info_place (by simp [Value.oneCell']) ?_) | fail)
      refine bodyPost_ret (results_cell_mid rfl _ _ W0.heap.size 0 [.int .i64 0, .int .i64 0, .bool false] _ rfl (HEND.out _ 0 0 false (Below.refl _ _)).2 Tryz.underlying145 rfl (by kernel_rfl)) rfl ?_
      rw [HPE.out]
      exact ⟨rfl, (HEND.out _ 0 0 false (Below.refl _ _)).1⟩
end Go.Proofs.YthfdkenidfnmgaaGreat
namespace Go.Proofs.YthfdkenidfnmgaaGreat
open Go.ChangeShapes Go.WideShapes Go.ChangeAt Go.RowKit Go.Shelf
attribute [local go_sem] Oper.semAt_some
set_option linter.unusedVariables false
set_option linter.unusedSimpArgs false
set_option maxRecDepth 100000
structure BelX (n : Nat) (r : Option Nat) (w w' : World) : Prop where
  os : w'.os = w.os
  tape : w'.tape = w.tape
  output : w'.output = w.output
  size : w.heap.size ≤ w'.heap.size
  block : ∀ k, k < n → some k ≠ r → w'.heap[k]? = w.heap[k]?
theorem BelX.refl (n : Nat) (r : Option Nat) (w : World) : BelX n r w w := ⟨rfl, rfl, rfl, Nat.le_refl _, fun _ _ _ => rfl⟩
theorem BelX.trans {n : Nat} {r : Option Nat} {a b c : World} (h : BelX n r a b) (k : BelX n r b c) : BelX n r a c :=
  ⟨k.os.trans h.os, k.tape.trans h.tape, k.output.trans h.output, Nat.le_trans h.size k.size, fun i hi hr => (k.block i hi hr).trans (h.block i hi hr)⟩
theorem BelX.of_below {n : Nat} {r : Option Nat} {w w' : World} (h : Below n w w') : BelX n r w w' := ⟨h.os, h.tape, h.output, h.size, fun k hk _ => h.block k hk⟩
theorem BelX.grown {n : Nat} {r row : Option Nat} {w a b : World} (h : BelX n r w a) (hg : a.grownBy b row) (hn : n ≤ a.heap.size) (hr : ∀ k, row = some k → n ≤ k ∨ some k = r) : BelX n r w b :=
  ⟨hg.os.trans h.os, hg.tape.trans h.tape, hg.output.trans h.output, Nat.le_trans h.size hg.size, fun k hk hkr => (hg.block k (by omega) (fun e => by
    rcases hr k e.symm with h1 | h1
    · omega
    · exact hkr h1)).trans (h.block k hk hkr)⟩
theorem belX_t {n : Nat} {r : Option Nat} {A B C : World} (h : BelX n r A B) (k : BelX n r B C) : BelX n r A C := h.trans k
theorem belX_b {n : Nat} {r : Option Nat} {w : World} (hn : n ≤ w.heap.size) (W : World) (l : Nat) (o o' : Obj) (hl : w.heap.size ≤ l) (h : W.heap[l]? = some o) (h1 : o.isCells = false) (h2 : o.isWalk = false) : BelX n r W (W.putObj l o') := BelX.of_below (belowK_b hn W l o o' hl h h1 h2)
theorem ownFrom_belX {β : Type} {n B : Nat} {r : Option Nat} {w₀ : World} (hn : n ≤ w₀.heap.size) (hB : n ≤ B) : OwnFrom B (fun (_ : β) W => BelX n r w₀ W) :=
  fun _ _ _ _ hs hg hr => hs.grown hg (Nat.le_trans hn hs.size) (fun k e => .inl (Nat.le_trans hB (hr k e).1))
set_option maxRecDepth 100000 in
set_option maxHeartbeats 2000000 in
theorem named_stopsX {Kp : World → World → Prop} (n Bw : Nat) (row : List Int) (h4 : row.length = 4) (hb : ∀ i, i < 4 → 0 ≤ row.getD i 0 ∧ row.getD i 0 ≤ 9999) (w : World) (hB : Bw < w.heap.size) (hc : w.heap[Bw]? = some (.cells (rowC row) 54 (0, 0))) :
    SeqStopsK Fence.wide n Tryz.prog 98 #[.pointer (some ⟨Bw, 0, none⟩)] (fun k : Fin 12 => #[.int .i64 (k.val : Int)]) Kp (fun xs => finI xs = named row) (fun _ => True) 4 w := by
  intro l J Jx W hW hJ hJx hY h0
  have hcW := (hW.block Bw (by omega)).trans hc
  obtain ⟨x0, x1, x2, x3, rfl⟩ : ∃ x0 x1 x2 x3, row = [x0, x1, x2, x3] := by
    match row, h4 with
    | [x0, x1, x2, x3], _ => exact ⟨x0, x1, x2, x3, rfl⟩
  have k0 : W.cell? ⟨Bw, 0, none⟩ = some (.int .i64 x0) := by rw [cell_of_row W Bw 0 _ _ _ hcW]; rfl
  have k1 : W.cell? ⟨Bw, 1, none⟩ = some (.int .i64 x1) := by rw [cell_of_row W Bw 1 _ _ _ hcW]; rfl
  have k2 : W.cell? ⟨Bw, 2, none⟩ = some (.int .i64 x2) := by rw [cell_of_row W Bw 2 _ _ _ hcW]; rfl
  have k3 : W.cell? ⟨Bw, 3, none⟩ = some (.int .i64 x3) := by rw [cell_of_row W Bw 3 _ _ _ hcW]; rfl
  have HB := Lib.hid hb
  have HY := Lib.hid hY
  clear hcW hc hb hY
  refine callsIn_of_wp Tryz.func98 rfl trivial ?_ rfl
  simp only [Tryz.ntmps98, List.size_toArray, List.length_cons, List.length_nil, Nat.reduceAdd, Nat.reduceSub, Array.replicate_succ, Array.replicate_zero, List.push_toArray, List.append_toArray, List.nil_append, List.cons_append]
  gi_wp2
  gi_loopw [7] (fun p wr => ∃ k : Nat, k ≤ 4 ∧ p = .int .i64 (k : Int) ∧ ∃ pre, finI pre = named ([x0, x1, x2, x3].take k) ∧ J pre wr) (fun p wr => 4 - (intOf p).toNat)
  case atStart => exact ⟨0, by omega, rfl, [], rfl, h0⟩
  case round =>
    obtain ⟨k, hk, rfl, pre, hpre, hJk⟩ := hrel
    by_cases hk4 : k = 4
    · subst hk4
      gi_wp2
      go_end0
      exact ⟨⟨_, rfl⟩, .inl ⟨pre, hpre, hJk⟩⟩
    · have hkl : k < 4 := by omega
      obtain ⟨x, hxd⟩ : ∃ x, [x0, x1, x2, x3].getD k 0 = x := ⟨_, rfl⟩
      have hb := HB.out k hkl
      rw [hxd] at hb
      have hsn := named_snoc [x0, x1, x2, x3] k hkl
      rw [hxd] at hsn
      have hpl : pre.length < 4 := by
        have := named_len ([x0, x1, x2, x3].take k)
        rw [List.length_take, ← hpre] at this
        simp only [finI, List.length_map] at this
        omega
      have hix : ∀ W : World, (Instr.index 54 (.agg #[.int .i64 x0, .int .i64 x1, .int .i64 x2, .int .i64 x3]) (.int .i64 (k : Int))).run Tryz.prog W = .ok (.int .i64 x) W := by
        obtain rfl | rfl | rfl | rfl : k = 0 ∨ k = 1 ∨ k = 2 ∨ k = 3 := by omega
        · subst hxd; exact fun _ => by kernel_rfl
        · subst hxd; exact fun _ => by kernel_rfl
        · subst hxd; exact fun _ => by kernel_rfl
        · subst hxd; exact fun _ => by kernel_rfl
      by_cases hg : goodB x
      · rw [if_pos hg] at hsn
        obtain ⟨fn, tmps, assign, body, hy, hR⟩ := HY.out pre (frF hg) wr hJk hpl
        rw [frF_val hg] at hy
        gi_wp2_with (first
          | (refine ⟨trivial, (fun h => by cases h), ?_⟩; gi_at_call 99; refine (callsIn_wide.2 (names_yes _ _ hg)).mono ?_; rintro e w' ⟨rfl, rfl⟩)
          | (refine ⟨trivial, (fun h => by cases h), ?_⟩; gi_at_call 92; refine (callsIn_wide.2 (frame_of _ _ hb.1 hb.2)).mono ?_; rintro e w' ⟨rfl, rfl⟩))
        refine ⟨(fun h => by cases h), ?_⟩
        refine hR.mono ?_
        rintro e W' (⟨rfl, hJ', hk'⟩ | ⟨rfl, hJx'⟩)
        · gi_wp2
          go_roundw
          case rel => exact ⟨k + 1, by omega, by simp, pre ++ [frF hg], by rw [finI_snoc, hsn, hpre, frF_val hg], hJ'⟩
          case measure => simp [intOf]; omega
        · gi_wp2
          refine bodyPost_ret (results_none rfl _ _ _) rfl ?_
          exact ⟨⟨_, rfl⟩, .inr ⟨_, trivial, hJx'⟩⟩
      · rw [if_neg hg, List.append_nil] at hsn
        gi_wp2_with (first
          | (refine ⟨trivial, (fun h => by cases h), ?_⟩; gi_at_call 99; refine (callsIn_wide.2 (names_no _ _ hg hb.1 hb.2)).mono ?_; rintro e w' ⟨rfl, rfl⟩)
          | ((with_reducible refine And.intro ?_ ?_); (exact trivial)))
        refine ⟨(fun _ h => by cases h), ?_⟩
        gi_wp2
        go_roundw
        case rel => exact ⟨k + 1, by omega, by simp, pre, by rw [hpre, hsn], hJk⟩
        case measure => simp [intOf]; omega
set_option maxRecDepth 100000 in
set_option maxHeartbeats 2000000 in
theorem all_stopsX (r : Option Nat) (n Bt Bm Bw : Nat) (xss : List (List Int)) (hm : memOk xss = true) (row : List Int) (h4 : row.length = 4) (hrb : ∀ i, i < 4 → 0 ≤ row.getD i 0 ∧ row.getD i 0 ≤ 9999) (w : World)
    (hBt : Bt < w.heap.size) (hBm : Bm < w.heap.size) (hrm : some Bm ≠ r) (hBw : Bw < w.heap.size)
    (hcw : w.heap[Bw]? = some (.cells (rowC row) 54 (0, 0)))
    (hct : w.cell? ⟨Bt, 0, none⟩ = some (.func (.func 98) #[] #[.pointer (some ⟨Bw, 0, none⟩)]))
    (hcm : w.rangeAt Bm 0 (flatL xss)) :
    SeqD 1 Fence.wide (n + 6) Tryz.prog 100 #[.pointer (some ⟨Bt, 0, none⟩), .pointer (some ⟨Bm, 0, none⟩)] (fun k : Fin 12 => #[.int .i64 (k.val : Int)]) (BelX w.heap.size r) (fun xs => finI xs = flat xss (named row)) 16 w := by
  intro l J W hW hJ hY h0
  have hctW := (hW.cell (p := ⟨Bt, 0, none⟩) hBt).trans hct
  have hcta := fun ob => (World.cell?_alloc_lt W ob ⟨Bt, 0, none⟩ (cell_lt hctW)).trans hctW
  have HM := Lib.hid hm
  have HY := Lib.hid hY
  have HJ := Lib.hid hJ
  have HCM : Hid (∀ i, i < 12 → w.rangeAt Bm (i * 4) ((xss.getD i []).map (Value.int .i64))) := Lib.hid (fun i hi j v hv => by
    have h4 := mem_row hm hi
    have hj : j < 4 := by
      have := (List.getElem?_eq_some_iff.1 hv).1
      rwa [List.length_map, h4] at this
    have h1 := flat_get xss (fun i hi => mem_row hm (by have := mem_len hm; omega)) (i := i) (j := j) (by have := mem_len hm; omega) hj
    have h2 := hcm (i * 4 + j) _ h1
    rw [Nat.zero_add] at h2
    rw [h2, ← hv, List.getElem?_map, List.getElem?_eq_getElem (by rw [h4]; exact hj), getD_lt (l := xss.getD i []) (i := j) (by rw [h4]; exact hj)]
    rfl)
  have HW := Lib.hid hW
  have HNS := Lib.hid (fun m => named_stopsX (Kp := BelX w.heap.size r) m Bw row h4 hrb w hBw hcw)
  have HNL : Hid ((named row).length ≤ 4) := Lib.hid (by have := named_len row; omega)
  clear hm hY hJ hcm hcw hct hrb hW
  refine callsIn_of_wp_marks Tryz.func100 rfl trivial ?_ rfl
  simp only [Tryz.ntmps100, List.size_toArray, List.length_cons, List.length_nil, Nat.reduceAdd, Nat.reduceSub, Array.replicate_succ, Array.replicate_zero, List.push_toArray, List.append_toArray, List.nil_append, List.cons_append]
  gi_wp2
  obtain ⟨y, hy⟩ : ∃ y : Value, y = .func (.yield l) #[] #[] := ⟨_, rfl⟩
  have hbx := Boxed.new W 118 y
  rw [hy] at hbx
  have hsz := HW.out.size
  obtain ⟨w1, hw1⟩ : ∃ w1, w1 = W.alloc (.cells #[.func (.yield l) #[] #[]] 118) := ⟨_, rfl⟩
  have hB1 : Below w.heap.size W w1 := by rw [hw1]; exact (Below.refl _ _).alloc hsz _
  have hs1 : w1.heap.size = W.heap.size + 1 := by rw [hw1]; simp
  have hJ1 : J [] w1 := by rw [hw1]; exact HJ.out.alloc _ h0
  rw [← hw1] at hbx ⊢
  clear hw1 h0 hy y
  refine range_slot 4 rfl (by omega) (gf := 98) (lb := #[.pointer (some ⟨Bw, 0, none⟩)]) rfl trivial (enters_of Tryz.func98 (by kernel_rfl) rfl)
    (HNS.out _) (fun W => BelX.refl _ _ W) belX_t (belX_b (by omega)) (HW.out.trans hB1) (by simp)
    (fun pre A => ((∃ out, finI out = flat xss (finI pre) ∧ J out A) ∧ Boxed A W.heap.size 118 (.func (.yield l) #[] #[])) ∧ BelX w.heap.size r W A) (fun _ _ _ => False)
    (OwnFrom.and (OwnFrom.and (fun s A B r hs hg hr => by
        obtain ⟨out, e, hj⟩ := hs
        exact ⟨out, e, HJ.out out A B r hj hg (fun k ek => ⟨by have := (hr k ek).1; omega, (hr k ek).2⟩)⟩) (Own.from (boxed_own _ _ _) _)) (ownFrom_belX hsz (by omega)))
    (fun _ _ _ _ _ hs _ _ => hs) ⟨⟨⟨[], rfl, hJ1⟩, hbx⟩, BelX.of_below hB1⟩ ?body ?done ?stop
  case body =>
    rintro l1 pre x W1 hl1 ⟨r1, hr1⟩ ⟨⟨⟨out, hout, hJ2⟩, hbox⟩, hB2⟩ hlt
    have hix : ∀ W : World, (Instr.indexAt 56 (.pointer (some ⟨Bm, 0, none⟩)) (.int .i64 (x.val : Int))).run Tryz.prog W = .ok (.pointer (some ⟨Bm, x.val * 4, none⟩)) W := fun W => run_indexAt_arr 56 12 54 4 Tryz.underlying56 size_words (by omega) _ x.val x.isLt W
    obtain ⟨row2, hrow2⟩ : ∃ row2, row2 = xss.getD x.val [] := ⟨_, rfl⟩
    have h42 : row2.length = 4 := by rw [hrow2]; exact mem_row HM.out x.isLt
    have hrb2 : ∀ i, i < 4 → 0 ≤ row2.getD i 0 ∧ row2.getD i 0 ≤ 9999 := by rw [hrow2]; exact fun i hi => wd_bounds HM.out x.isLt hi
    have HRW2 := Lib.hid hrow2
    clear hrow2
    have HROW2 : Hid (W1.rangeAt Bm (x.val * 4) (row2.map (Value.int .i64))) := Lib.hid (by
      rw [HRW2.out]
      exact range_blocks (HCM.out _ x.isLt) (((BelX.of_below HW.out).trans hB2).block _ hBm hrm))
    gi_wp2_with ((with_reducible refine load_isI 54 (.tmp 9) ?_); refine load_arrI 54 (.tmp 9) Bm (x.val * 4) (row2.map (Value.int .i64)) _ rfl HROW2.out Tryz.underlying54 rfl (by rw [List.length_map, h42]; exact info_words) ?_)
    refine ⟨trivial, (CallsIn.inRound l1 (callsIn_wide.2 (named_make W1 _ (by simp [h42]) (row_one row2)))).mono ?_⟩
    rintro e W3 ⟨rfl, hW3⟩
    have HW3 := Lib.hid hW3
    clear hW3
    gi_wp2_with fail
    have hsz3 : W3.heap.size = W1.heap.size + 1 := by rw [HW3.out]; simp
    have hsW := hB2.size
    have hsW' : w.heap.size ≤ W1.heap.size := by omega
    have hBW3 : Below w.heap.size W1 W3 := by rw [HW3.out]; exact (Below.refl _ _).alloc hsW' _
    have hKW3 : KeepsFrom w1.heap.size W1 W3 := by rw [HW3.out]; exact (KeepsOthers.alloc _ _).from _
    have hJ3 : J out W3 := by rw [HW3.out]; exact HJ.out.alloc _ hJ2
    have hbox3 : Boxed W3 W.heap.size 118 (.func (.yield l) #[] #[]) := by rw [HW3.out]; exact hbox.alloc _
    have hc3 : W3.heap[W1.heap.size]? = some (.cells (rowC row2) 54 (0, 0)) := by rw [HW3.out]; exact World.alloc_heap_new W1 _
    have hr3 : W3.heap[l1]? = some (.loop r1) := by rw [HW3.out]; exact (Below.heap_alloc W1 _ l1 (Array.getElem?_eq_some_iff.1 hr1).1).trans hr1
    have hol : out.length ≤ 4 * pre.length := by
      have h1 := flat_len3 xss HM.out (finI pre) (fin_rng pre)
      rw [← hout, fin_len, fin_len] at h1
      exact h1
    refine range_slotN (l₀ := l1) (r₀ := r1) 5 rfl hr3 (by omega) (gf := 98) (lb := #[.pointer (some ⟨W1.heap.size, 0, none⟩)]) rfl trivial (enters_of Tryz.func98 (by kernel_rfl) rfl)
      ((named_stopsX (Kp := BelX w.heap.size r) _ W1.heap.size row2 h42 hrb2 W3 (by omega) hc3).inRound l1) (fun W => BelX.refl _ _ W) belX_t (belX_b (by omega)) (Below.refl _ _) (by simp)
      (fun pre' A => ((∃ out', finI out' = flat xss (finI pre) ++ finI pre' ∧ J out' A) ∧ Boxed A W.heap.size 118 (.func (.yield l) #[] #[])) ∧ (BelX w.heap.size r W1 A ∧ KeepsFrom w1.heap.size W1 A)) (fun _ _ _ => False)
      (OwnFrom.and (OwnFrom.and (fun s A B r hs hg hr => by
          obtain ⟨out', e, hj⟩ := hs
          exact ⟨out', e, HJ.out out' A B r hj hg (fun k ek => ⟨by have := (hr k ek).1; omega, (hr k ek).2⟩)⟩) (Own.from (boxed_own _ _ _) _)) (OwnFrom.and (ownFrom_belX hsW' (by omega)) (ownFrom_keepsFrom (by omega))))
      (fun _ _ _ _ _ hs _ _ => hs) ⟨⟨⟨out, by rw [hout, show finI [] = [] from rfl, List.append_nil], hJ3⟩, hbox3⟩, BelX.of_below hBW3, hKW3⟩ ?body2 ?done2 ?stop2
    case body2 =>
      rintro l2 pre' y W4 hl2 _ ⟨⟨⟨out', hout', hJ4⟩, hbox4⟩, hB4, hK4⟩ hlt'
      have hc4 := hbox4.cell
      have hlo : out'.length < 16 := by
        have h1 := congrArg List.length hout'
        rw [List.length_append, fin_len, fin_len, ← hout, fin_len] at h1
        omega
      obtain ⟨fn, tmps, asg, bd, hy, hR⟩ := HY.out out' y W4 hJ4 hlo (by have := hbox4.lt; omega)
      have HR := Lib.hid hR
      have HB4 := Lib.hid hB4
      have HK4 := Lib.hid hK4
      have HBX := Lib.hid hbox4
      have HOUT := Lib.hid hout'
      clear hR hB4 hK4 hbox4 hout' hJ4
      gi_wp2
      refine (round_any _ HR.out).mono ?_
      rintro e W5 ⟨rfl, hJ5, hk5, hkf5, hli5⟩
      have HF := Lib.hid hkf5
      have HJ5 := Lib.hid hJ5
      have HK5 := Lib.hid hk5
      have HBX5 : Hid (Boxed W5 W.heap.size 118 (.func (.yield l) #[] #[])) := Lib.hid ((hli5 _ (Nat.le_refl _) (by omega)).trans HBX.out)
      clear hJ5 hk5 hkf5 hli5
      have hsub : ∀ {B : Nat}, W.heap.size ≤ B → KeepsFrom B W4 W5 := fun h => ⟨HF.out.size, fun k o hB => HF.out.same k o (by omega)⟩
      gi_wp2
      refine ⟨hsub (by omega), HK5.out, ⟨⟨out' ++ [y], ?_, HJ5.out⟩, HBX5.out⟩, HB4.out.trans HK5.out, HK4.out.trans (hsub (by omega))⟩
      rw [finI_snoc, finI_snoc, HOUT.out, List.append_assoc]
    case done2 =>
      rintro ys A hys ⟨⟨⟨out', hout', hJ4⟩, hbox4⟩, hB4, hK4⟩
      gi_wp2
      refine ⟨hK4, hB4, ⟨⟨out', ?_, hJ4⟩, hbox4⟩, hB2.trans hB4⟩
      have e : flat xss (finI (pre ++ [x])) = flat xss (finI pre) ++ named row2 := by rw [finI_snoc, flat_add, HRW2.out]
      rw [e, ← hys]
      exact hout'
    case stop2 =>
      rintro c pre' A _ h
      exact h.elim
  case done =>
    rintro D ys A hD hys ⟨⟨⟨out, hout, hJ5⟩, hbox⟩, hB⟩ hK
    have HJ5 := Lib.hid hJ5
    gi_wp2
    refine ⟨by simp, .inl ⟨_, _, rfl, run_takeDeferred hK, ?_⟩⟩
    refine ⟨_, results_none rfl _ _ _, ⟨_, rfl⟩, out, by rw [hout, hys], ?_⟩
    exact HJ.out.putObj _ HJ5.out (by omega) hK rfl
  case stop =>
    rintro D c pre A _ _ h _
    exact h.elim
end Go.Proofs.YthfdkenidfnmgaaGreat
namespace Go.Proofs.YthfdkenidfnmgaaGreat
open Go.ChangeShapes Go.WideShapes Go.ChangeAt Go.RowKit Go.Shelf
set_option linter.unusedVariables false
set_option linter.unusedSimpArgs false
set_option maxRecDepth 100000
attribute [local go_sem] Oper.semAt_some
theorem values_make (w : World) (a : Option Addr) (n c : Nat) : Calls Tryz.prog 89 #[.slice a n c] w fun e w' => e = .returned (.func (.func 103) #[] #[.pointer (some ⟨w.heap.size, 0, none⟩)]) ∧ w' = w.alloc (.cells #[.slice a n c] 92) := by
  go_enter Tryz.func89, Tryz.ntmps89
  go_wp2
  go_ret
  exact ⟨rfl, rfl⟩
set_option maxHeartbeats 2000000 in
theorem values_stops (n Bv : Nat) (ys : List Int) (hy : ∀ y ∈ ys, 0 ≤ y ∧ y < 12) (w : World) (a : Option Addr) (cap : Nat) (hv : Ints w (.slice a ys.length cap) ys) (hB : Bv < w.heap.size) (hc : w.cell? ⟨Bv, 0, none⟩ = some (.slice a ys.length cap)) :
    SeqStopsK Fence.wide n Tryz.prog 103 #[.pointer (some ⟨Bv, 0, none⟩)] (fun k : Fin 12 => #[.int .i64 (k.val : Int)]) (Below w.heap.size) (fun xs => finI xs = ys) (fun _ => True) ys.length w := by
  intro l J Jx W hW hJ hJx hY h0
  obtain ⟨a', cap', e', h1, h2, h3⟩ := hv
  injection e' with e1 e2 e3
  subst e1
  subst e3
  unfold maxLen at h2
  have hcW := (hW.cell (p := ⟨Bv, 0, none⟩) hB).trans hc
  have HY := Lib.hid hY
  have HX := Lib.hid h3
  have HYB := Lib.hid hy
  have HW := Lib.hid hW
  obtain ⟨m, hm⟩ : ∃ m, m = ys.length := ⟨_, rfl⟩
  rw [← hm] at h1 hcW HY
  have HM := Lib.hid hm
  clear hc hY h3 hy hW hm e2
  refine callsIn_of_wp Tryz.func103 rfl trivial ?_ rfl
  simp only [Tryz.ntmps103, List.size_toArray, List.length_cons, List.length_nil, Nat.reduceAdd, Nat.reduceSub, Array.replicate_succ, Array.replicate_zero, List.push_toArray, List.append_toArray, List.nil_append, List.cons_append]
  gi_wp2
  gi_loopw [7] (fun p wr => ∃ k : Nat, k ≤ m ∧ p = .int .i64 (k : Int) ∧ Hid (Below w.heap.size W wr) ∧ ∃ pre, finI pre = ys.take k ∧ J pre wr) (fun p wr => m - (intOf p).toNat)
  case atStart => exact ⟨0, by omega, rfl, Lib.hid (Below.refl _ _), [], rfl, h0⟩
  case round =>
    obtain ⟨k, hk, rfl, HBW, pre, hpre, hJk⟩ := hrel
    by_cases hk4 : k = m
    · subst hk4
      rw [take_all HM.out] at hpre
      gi_wp2
      go_end0
      exact ⟨⟨_, rfl⟩, .inl ⟨pre, hpre, hJk⟩⟩
    · have hkl : k < m := by omega
      have hkl' : (k : Int) < (m : Int) := by omega
      obtain ⟨g, o, rfl, hcx⟩ := HX.out k (by have := HM.out; omega)
      have hc := ((HW.out.trans HBW.out).cell (p := ⟨g, o + k, none⟩) (cell_lt hcx)).trans hcx
      have hyb := HYB.out (ys.getD k 0) (by rw [getD_lt (by have := HM.out; omega)]; exact List.getElem_mem _)
      have htk := take_snoc_getD ys k 0 (by have := HM.out; omega)
      obtain ⟨y, hyy⟩ : ∃ y, y = ys.getD k 0 := ⟨_, rfl⟩
      rw [← hyy] at hc hyb htk
      clear hcx hyy
      have hpl : pre.length < m := by
        have h5 := congrArg List.length hpre
        rw [List.length_take] at h5
        simp only [finI, List.length_map] at h5
        have := HM.out
        omega
      have hfv : ((⟨y.toNat, by omega⟩ : Fin 12).val : Int) = y := by show ((y.toNat : Nat) : Int) = y; omega
      obtain ⟨fn, tmps, assign, body, hy, hR⟩ := HY.out pre ⟨y.toNat, by omega⟩ wr hJk hpl
      rw [hfv] at hy
      have HTK := Lib.hid htk
      clear htk
      gi_wp2
      refine ⟨(fun h => by cases h), hR.mono ?_⟩
      rintro e W' (⟨rfl, hJ', hk'⟩ | ⟨rfl, hJx'⟩)
      · gi_wp2
        go_roundw
        case rel => exact ⟨k + 1, by omega, by simp, Lib.hid (HBW.out.trans hk'), pre ++ [⟨y.toNat, by omega⟩], by rw [finI_snoc, HTK.out, hpre, hfv], hJ'⟩
        case measure => simp [intOf]; omega
      · gi_wp2
        refine bodyPost_ret (results_none rfl _ _ _) rfl ?_
        exact ⟨⟨_, rfl⟩, .inr ⟨_, trivial, hJx'⟩⟩
theorem each_values (w : World) (Bv : Nat) (ys : List Int) (hy : ∀ y ∈ ys, 0 ≤ y ∧ y < 12) (hl : ys.length ≤ 1000) (a : Option Addr) (cap : Nat) (hv : Ints w (.slice a ys.length cap) ys) (hB : Bv < w.heap.size) (hc : w.cell? ⟨Bv, 0, none⟩ = some (.slice a ys.length cap)) :
    Calls Tryz.prog 88 #[.func (.func 103) #[] #[.pointer (some ⟨Bv, 0, none⟩)]] w (NewR (srt ys 12) w) := by
  refine (once_of_iter (d := 0) (N := ys.length) (S := fun xs => finI xs = ys) 20 hl (fun xs hx => ?_) w (enters_of Tryz.func103 (by kernel_rfl) rfl)
    (SeqD.of_stops (values_stops 20 Bv ys hy w a cap hv hB hc))).mono ?_
  · have h1 := congrArg List.length hx
    rw [fin_len] at h1
    omega
  · rintro e w' ⟨xs, v, rfl, hx, hi, hb⟩
    rw [hx] at hi
    exact ⟨v, rfl, hi, hb⟩
end Go.Proofs.YthfdkenidfnmgaaGreat
namespace Go.Proofs.YthfdkenidfnmgaaGreat
open Go.ChangeShapes Go.WideShapes Go.ChangeAt Go.RowKit Go.Shelf
set_option linter.unusedVariables false
set_option linter.unusedSimpArgs false
attribute [local go_sem] Oper.semAt_some
theorem boxed_appendedX {W w1 : World} {n0 n1 B M d b0 : Nat} {r : Option Nat} {t e : TypeId} {v v' : Value} {k m : Nat} {xs ys : List Value} {tmp : Obj}
    (hv : Boxed W B t v) (hte : t ≠ e) (hrow : W.ownsRow b0 e 1 v k xs) (hr : ∀ q, v.ownBlock = some q → some q = r ∨ n1 ≤ q) (h0 : n0 ≤ B) (hBM : B < M) (hM : M + d ≤ n1) (hn1 : n1 ≤ W.heap.size) (hrn : ∀ q, r = some q → q < n0)
    (hown' : w1.ownsRow b0 e 1 v' m ys) (hgrow : (W.alloc tmp).grownBy w1 v.ownBlock) :
    Boxed w1 B t v ∧ Boxed (w1.setCell ⟨B, 0, none⟩ v') B t v' ∧ (w1.setCell ⟨B, 0, none⟩ v').ownsRow b0 e 1 v' m ys ∧ KeepsOthers W (w1.setCell ⟨B, 0, none⟩ v') ∧ BelX n0 r W (w1.setCell ⟨B, 0, none⟩ v') ∧ Lies M d W (w1.setCell ⟨B, 0, none⟩ v') := by
  obtain ⟨h1, h2, h3, h4, h5⟩ := hv.appended hte (own_lower hrow (Nat.zero_le _)) (Nat.zero_le _) (Nat.zero_le _) (own_lower hown' (Nat.zero_le _)) hgrow
  have hB := hv.lt
  refine ⟨h1, h2, hown'.kept (grownBy_setCell' w1 B v') (.inr (h1.not_row hte hown').symm), h4, ⟨h5.os, h5.tape, h5.output, h5.size, fun k hk hkr => ?_⟩, fun k hk hkM => ?_⟩
  · rw [Below.heap_setCell _ _ _ k (by show k ≠ B; omega), hgrow.block k (by simp; omega) (fun e => ?_), Below.heap_alloc _ _ _ (by omega)]
    rcases hr k e.symm with h | h
    · exact hkr h
    · omega
  · by_cases hkW : k < W.heap.size
    · rw [Below.heap_setCell _ _ _ k (by show k ≠ B; omega), hgrow.block k (by simp; omega) (fun e => ?_), Below.heap_alloc _ _ _ hkW]
      rcases hr k e.symm with h | h
      · have := hrn k h.symm
        omega
      · omega
    · exact absurd hkM (by omega)
def GaveX (S : List (Fin 12) → Prop) (ps : List Int) (b0 : Nat) (r : Option Nat) (w : World) (e : Ending) (w' : World) : Prop := ∃ xs v, e = .returned v ∧ S xs ∧ xs.length ≤ 1000 ∧ w'.ownsRow b0 3 1 v (ps.length + (finI xs).length) ((ps ++ finI xs).map (.int .i64)) ∧ BelX w.heap.size r w w' ∧ (∀ q, v.ownBlock = some q → some q = r ∨ w.heap.size ≤ q)
set_option maxRecDepth 100000 in
set_option maxHeartbeats 2000000 in
theorem appendSeqX_in {d N g b0 : Nat} {lb : Array Value} (a0 : Option Addr) (n0 c0 : Nat) (ps : List Int) (hpl0 : ps.length ≤ 1000) {S : List (Fin 12) → Prop} (n : Nat) (hN : N ≤ 1000) (hS : ∀ xs, S xs → xs.length ≤ 1000) (w : World) (hown0 : w.ownsRow b0 3 1 (.slice a0 n0 c0) ps.length (ps.map (.int .i64))) (hb00 : b0 ≤ w.heap.size) (eg : ∀ args w, (callFunc g args).run Tryz.prog w = .ok (.enter g args) w)
    (hseq : SeqD d Fence.wide n Tryz.prog g lb (fun k : Fin 12 => #[.int .i64 (k.val : Int)]) (BelX w.heap.size (Value.slice a0 n0 c0).ownBlock) S N w) :
    CallsIn Fence.wide (n + 1) Tryz.prog 86 #[.slice a0 n0 c0, .func (.func g) #[] lb] w (GaveX S ps b0 (Value.slice a0 n0 c0).ownBlock w) := by
  obtain ⟨i0, hi, hz0, hz1, hz2⟩ := info_parts intInfo
  have HI := Lib.hid hi
  have HZ0 := Lib.hid hz0
  have HZ1 := Lib.hid hz1
  have HZ2 := Lib.hid hz2
  have HS := Lib.hid hS
  have HRL : Hid (∀ q, (Value.slice a0 n0 c0).ownBlock = some q → q < w.heap.size) := Lib.hid (fun q hq => (hown0.lt q hq).2)
  have HOW0 := Lib.hid hown0
  clear hown0
  obtain ⟨r, hr⟩ : ∃ r, r = (Value.slice a0 n0 c0).ownBlock := ⟨_, rfl⟩
  rw [← hr] at hseq HRL ⊢
  have HR := Lib.hid hr
  clear hr
  have HSEQ := Lib.hid hseq
  clear hi hz0 hz1 hz2 hS hseq
  refine callsIn_of_wp_marks Tryz.func86 rfl trivial ?_ rfl
  simp only [Tryz.ntmps86, List.size_toArray, List.length_cons, List.length_nil, Nat.reduceAdd, Nat.reduceSub, Array.replicate_succ, Array.replicate_zero, List.push_toArray, List.append_toArray, List.nil_append, List.cons_append]
  gi_wp2
  have bO := Boxed.new w 92 (.slice a0 n0 c0)
  have hB0 : Below w.heap.size w (w.alloc (.cells #[.slice a0 n0 c0] 92)) := (Below.refl _ w).alloc (Nat.le_refl _) _
  refine range_slotD (d := d) 5 rfl (by omega) (gf := g) (lb := lb) rfl trivial eg HSEQ.out belX_t (belX_b (by simp)) hB0 (by simp)
    (fun pre W => (∃ v, Boxed W w.heap.size 92 v ∧ W.ownsRow b0 3 1 v (ps.length + pre.length) ((ps ++ finI pre).map (.int .i64)) ∧ (∀ q, v.ownBlock = some q → some q = r ∨ w.heap.size + 3 + d ≤ q)) ∧ BelX w.heap.size r w W)
    (OwnFrom.and (Own.from (holdsRow_own b0 w.heap.size 92 3 1 (fun pre => ps.length + pre.length) (fun pre => (ps ++ finI pre).map (.int .i64)) (fun _ v => ∀ q, v.ownBlock = some q → some q = r ∨ w.heap.size + 3 + d ≤ q)) _) (ownFrom_belX (Nat.le_refl _) (by simp)))
    ⟨⟨_, bO, by rw [show finI [] = [] from rfl, List.append_nil]; exact HOW0.out.alloc _, fun q hq => .inl (by rw [HR.out]; exact hq.symm)⟩, BelX.of_below hB0⟩ ?body ?done
  case body =>
    rintro l pre x W hl _ ⟨⟨v, hv, hrow, hvr⟩, hB⟩ hlt hsz
    rw [World.size_alloc] at hsz
    have hc := hv.cell
    have HROW := Lib.hid hrow
    have HV := Lib.hid hv
    have HBB := Lib.hid hB
    have HVR := Lib.hid hvr
    have hpl : pre.length ≤ 1000 := by omega
    clear hrow hv hB hvr
    gi_wp2_with (gi_at_builtin; refine wpListIn_append_own_at _ rfl (.tmp 8) (.tmp 10) 92 rfl b0 3 i0 (.int .i64 0) 1 8 Tryz.underlying92 HI.out HZ0.out HZ1.out HZ2.out rfl (by decide) _ _ _ rfl (HROW.out.alloc _) ⟨W.heap.size, 0, none⟩ 1 1 [.int .i64 (x.val : Int)] rfl rfl (cell_one_new _ _ _) (by intro u hu; simp at hu; subst hu; rfl) (by unfold maxLen; omega) (by omega) (by have := HBB.out.size; simp; omega) ?_; intro v' w1 hown' hgrow _ hblk; obtain ⟨g', cap', rfl⟩ := ownsRow_succ hown'; obtain ⟨hv1, hv2, hr2, hk2, hb2, hl2⟩ := boxed_appendedX (n0 := w.heap.size) (M := w.heap.size + 3) (d := d) HV.out (by decide) HROW.out HVR.out (Nat.le_refl _) (by omega) (Nat.le_refl _) (by omega) HRL.out hown' hgrow; have hc1 := hv1.cell; have hf1 := hv1.frozen)
    exact ⟨hk2.from _, ⟨_, hv2, by have h9 := hr2; simp only [finI_snoc, List.map_append, List.append_assoc] at h9 ⊢; exact h9, fun q hq => by
      rcases hblk with hb | hb
      · exact HVR.out q (hb.symm.trans hq)
      · rw [hq] at hb
        injection hb with hb
        rw [World.size_alloc] at hb
        exact .inr (by omega)⟩, HBB.out.trans hb2⟩
  case done =>
    rintro D xs W hD hSx ⟨⟨v, hv, hrow, hvr⟩, hB⟩ hK
    have hc := hv.cell
    have HROW := Lib.hid hrow
    have HBB := Lib.hid hB
    have HKK := Lib.hid hK
    have HSX := Lib.hid hSx
    have HVR := Lib.hid hvr
    clear hrow hB hSx hv hvr
    gi_wp2
    refine ⟨by simp, .inl ⟨_, _, rfl, run_takeDeferred hK, ?_⟩⟩
    refine ⟨_, results_tmp rfl _ _ _, xs, v, rfl, HSX.out, HS.out _ HSX.out, by have h9 := ownsRow_putObj HROW.out (Obj.deferred none) HKK.out rfl; simp only [finI, List.length_map, List.map_append] at h9 ⊢; exact h9, HBB.out.trans (belX_b (w := w) (Nat.le_refl _) W D _ _ (by simp at hD; omega) HKK.out rfl rfl), fun q hq => by
      rcases HVR.out q hq with h | h
      · exact .inl h
      · exact .inr (by omega)⟩
end Go.Proofs.YthfdkenidfnmgaaGreat
namespace Go.Proofs.YthfdkenidfnmgaaGreat
open Go.ChangeShapes Go.WideShapes Go.ChangeAt Go.RowKit Go.Maps Go.Shelf
set_option linter.unusedVariables false
set_option linter.unusedSimpArgs false
set_option maxRecDepth 100000
theorem KC.row {W : World} {X : Nat} {M : List (List Int)} {I : List IV} {E : List EV} {bs : Nat → Nat} {R L : List Value} (h : KC W X M I E bs R L) {f : Nat} (hf : f < 12) : W.rangeAt X (f * 4) ((M.getD f []).map (Value.int .i64)) := fun j v hv => by
  have hl := mem_row h.l.m hf
  have hj : j < 4 := by
    have := (List.getElem?_eq_some_iff.1 hv).1
    rw [List.length_map] at this
    omega
  rw [h.word hf hj, ← hv, List.getElem?_map, List.getElem?_eq_getElem (by omega)]
  unfold wd
  rw [getD_lt (l := M.getD f []) (by omega)]
  rfl
theorem BelX.low {n : Nat} {r : Option Nat} {w w' : World} (h : BelX n r w w') {m : Nat} (hm : m ≤ n) (hr : ∀ q, r = some q → m ≤ q) : Below m w w' :=
  ⟨h.os, h.tape, h.output, h.size, fun k hk => h.block k (by omega) (fun e => by have := hr k e.symm; omega)⟩
theorem srt_congr {l l' : List Int} (h : ∀ x, x ∈ l ↔ x ∈ l') : srt l 12 = srt l' 12 := by
  unfold srt
  refine congrArg _ (List.filter_congr (fun f _ => ?_))
  simp only [h]
theorem reach_row {M : List (List Int)} {f : Nat} (hm : memOk M = true) : reach M (f : Int) = srt (([(f : Int)] ++ named (M.getD f [])) ++ flat M (named (M.getD f []))) 12 := by
  unfold reach
  rw [if_neg (by omega)]
  refine srt_congr (fun x => ?_)
  rw [frs_eq M f _ rfl, show tabs M (f : Int) = srt (named (M.getD f [])) 12 from by unfold tabs rw4; simp]
  simp only [List.cons_append, List.nil_append, List.mem_cons, List.mem_append]
  have h1 : ∀ {l : List Int}, (∀ y ∈ l, 0 ≤ y ∧ y < 12) → (x ∈ srt l 12 ↔ x ∈ l) := fun hl => ⟨fun h => (srt_mem h).2.2, fun h => mem_srt (hl x h).1 (hl x h).2 h⟩
  rw [h1 (fun y hy => named_rng hy), h1 (fun y hy => by
    unfold flat at hy
    obtain ⟨t, _, ht⟩ := List.mem_flatMap.1 hy
    exact named_rng ht)]
theorem flat_in {M : List (List Int)} {ts : List Int} : ∀ y ∈ flat M ts, 0 ≤ y ∧ y < 12 := fun y hy => by
  unfold flat at hy
  obtain ⟨t, _, ht⟩ := List.mem_flatMap.1 hy
  exact named_rng ht
theorem ownsRow_form {w : World} {B : Nat} {e : TypeId} {v : Value} {n : Nat} {x : List Value} (h : w.ownsRow B e 1 v n x) (hn : 0 < n) : ∃ g c, v = .slice (some ⟨g, 0, none⟩) n c ∧ v.ownBlock = some g ∧ B ≤ g ∧ g < w.heap.size := by
  rcases h.2 with ⟨_, hz⟩ | ⟨g, cap, cur, e, hb, hbl, _⟩
  · omega
  · exact ⟨g, cap, e, by rw [e]; rfl, hb, (Array.getElem?_eq_some_iff.1 hbl).1⟩
theorem own_after {w w' : World} {B : Nat} {e : TypeId} {v : Value} {n : Nat} {x : List Value} (h : w.ownsRow B e 1 v n x) (hb : Below w.heap.size w w') : w'.ownsRow B e 1 v n x := own_below h hb
set_option maxHeartbeats 4000000 in
theorem kreachFrom_any (w : World) (M : List (List Int)) (I : List IV) (E : List EV) (bs : Nat → Nat) (R L : List Value) (h : KL w M I E bs R L) (t : Int) (hb : -1 ≤ t ∧ t ≤ 11) :
    Calls Tryz.prog 73 #[.agg L.toArray, .int .i64 t] w (NewR (reach M t) w) := by
  have HKC := Lib.hid (h.box 67)
  have HM := Lib.hid h.m
  obtain ⟨W0, hW0⟩ : ∃ W0, W0 = w.alloc (.cells L.toArray 67) := ⟨_, rfl⟩
  rw [← hW0] at HKC
  have HB0 : Hid (Below w.heap.size w W0) := Lib.hid (by rw [hW0]; exact (Below.refl _ _).alloc (Nat.le_refl _) _)
  have HZ0 : Hid (w.heap.size < W0.heap.size) := Lib.hid HKC.out.lt
  have HW0 := Lib.hid hW0
  clear hW0 h
  by_cases h1 : t = -1
  · subst h1
    rw [show reach M (-1) = [] from rfl]
    clear hb
    go_enter Tryz.func73, Tryz.ntmps73
    go_wp2_with (first | ((with_reducible refine box_is 67 (.tmp 0) ?_); refine box_arr 67 (.tmp 0) L.toArray rfl ?_; rw [← HW0.out]) | fail)
    go_ret
    exact ⟨_, rfl, nil_intsW, HB0.out⟩
  · obtain ⟨f, rfl⟩ := Int.eq_ofNat_of_zero_le (show 0 ≤ t by omega)
    have hf12 : f < 12 := by omega
    have hf0 : (0 : Int) ≤ (f : Int) := by omega
    have hf12' : (f : Int) < 12 := by omega
    have hne : ((f : Int) == -1) = false := by simp
    have HXM := run_indexAt_arr (P := Tryz.prog) 56 12 54 4 Tryz.underlying56 size_words (by omega) w.heap.size f hf12
    have HRW := Lib.hid (HKC.out.row hf12)
    have HME : Hid (∀ Q : World, Q.heap[w.heap.size]? = W0.heap[w.heap.size]? → Q.rangeAt w.heap.size 0 (flatL M)) := Lib.hid (fun Q hQ => range_blocks HKC.out.mem hQ)
    have HFL : Hid ((flatL M).length = 48) := Lib.hid (flat_len HM.out)
    have HFO : Hid ((flatL M).toArray.all (·.oneCell') = true) := Lib.hid (flat_one M)
    have HR4 : Hid ((M.getD f []).length = 4) := Lib.hid (mem_row HM.out hf12)
    have HRB : Hid (∀ i, i < 4 → 0 ≤ (M.getD f []).getD i 0 ∧ (M.getD f []).getD i 0 ≤ 9999) := Lib.hid (fun i hi => mem_word HM.out hf12 hi)
    have HRE := Lib.hid (reach_row (M := M) (f := f) HM.out)
    obtain ⟨row, hrow⟩ : ∃ row, row = M.getD f [] := ⟨_, rfl⟩
    rw [← hrow] at HRW HR4 HRB HRE
    have HNB : Hid (∀ y ∈ named row, 0 ≤ y ∧ y < 12) := Lib.hid (fun y hy => named_rng hy)
    have HNL : Hid ((named row).length ≤ 4) := Lib.hid (by have := named_len row; have := HR4.out; omega)
    have HFB : Hid (∀ y ∈ flat M (named row), 0 ≤ y ∧ y < 12) := Lib.hid flat_in
    have HFN : Hid ((flat M (named row)).length ≤ 16) := Lib.hid (by have := flat_len3 M HM.out (named row) (fun t ht => named_rng ht); have := HNL.out; omega)
    have HC4 : Hid ((row.map (Value.int .i64)).length = 4) := Lib.hid (by rw [List.length_map]; exact HR4.out)
    have HMK := Lib.hid (fun W => named_make W (row.map (Value.int .i64)).toArray (by rw [List.size_toArray]; exact HC4.out) (row_one row))
    obtain ⟨RW, hRW⟩ : ∃ RW, RW = row.map (Value.int .i64) := ⟨_, rfl⟩
    have HAM := Lib.hid (fun W (lb : Array Value) => all_make W (flatL M).toArray 98 lb (by rw [List.size_toArray]; exact HFL.out) HFO.out)
    obtain ⟨FM, hFM⟩ : ∃ FM, FM = flatL M := ⟨_, rfl⟩
    have HFM := Lib.hid hFM
    rw [← hRW] at HRW HC4 HMK
    rw [← hFM] at HME HFL HFO HAM
    have HRWE := Lib.hid hRW
    have HIW : Hid ((Tryz.prog.info? 54).map (·.size) = some RW.length) := Lib.hid (by rw [HC4.out]; exact info_words)
    have HLM : Hid (∀ Q : World, Q.rangeAt w.heap.size 0 FM → (do let l ← Instr.loadAt 56 (.pointer (some ⟨w.heap.size, 0, none⟩)); pure (Next.value l) : Sem Next).run Tryz.prog Q = .ok (.value (.agg FM.toArray)) Q) := Lib.hid (fun Q hh => load_run 56 w.heap.size 0 FM _ hh Tryz.underlying56 rfl (info_mem HFL.out))
    clear hrow hRW hFM h1 hb HKC
    go_enter Tryz.func73, Tryz.ntmps73
    go_wp2_with (first | ((with_reducible refine box_is 67 (.tmp 0) ?_); refine box_arr 67 (.tmp 0) L.toArray rfl ?_; rw [← HW0.out]) | ((with_reducible refine load_is 54 (.tmp 11) ?_); refine load_arr 54 (.tmp 11) w.heap.size (f * 4) RW _ rfl HRW.out Tryz.underlying54 rfl HIW.out ?_) | fail)
    refine (HMK.out _).mono ?_
    rintro _ W1 ⟨rfl, hW1⟩
    have HB1 : Hid (Below W0.heap.size W0 W1) := Lib.hid (by rw [hW1]; exact (Below.refl _ _).alloc (Nat.le_refl _) _)
    have HCW : Hid (W1.heap[W0.heap.size]? = some (.cells (rowC row) 54 (0, 0))) := Lib.hid (by rw [hW1]; unfold rowC; rw [← HRWE.out]; exact heap_alloc_new W0 _)
    have HZ1 : Hid (W0.heap.size < W1.heap.size) := Lib.hid (by rw [hW1]; simp)
    have HMX1 : Hid (W1.heap[w.heap.size]? = W0.heap[w.heap.size]?) := Lib.hid (HB1.out.block _ HZ0.out)
    clear hW1
    go_wp2_with fail
    refine wp_region_held_drew (S := fun w' => w'.rangeAt w.heap.size 0 FM) (by kernel_rfl) (HME.out _ HMX1.out) (fun hHeld => ?_)
    refine anyH_gen _ (fun QA hgen => ?_)
    have HBA := Lib.hid (by rw [hgen]; exact (Below.refl W1.heap.size W1).drew : Below W1.heap.size W1 QA)
    rw [← hgen] at hHeld
    clear hgen
    refine wpAnyH_take (i := 0) (oi := { dst := some 14, op := .move (.tmp 1), type := _, pos := _, after := _, guard := none }) (v := .int .i64 (f : Int)) rfl (by kernel_rfl) (by kernel_rfl) (by kernel_rfl) (fun _ _ _ h => h) (Or.inl ⟨by rfl, fun wh hSw => ?_⟩) hHeld ?_
    · (go_simp)
    try simp only [Act.put, List.setIfInBounds_toArray, List.set_cons_zero, List.set_cons_succ]
    refine wpAnyH_take (i := 2) (oi := { dst := some 16, op := .move (.tmp 5), type := _, pos := _, after := _, guard := none }) (v := .func (.func 98) #[] #[.pointer (some ⟨W0.heap.size, 0, none⟩)]) rfl (by kernel_rfl) (by kernel_rfl) (by kernel_rfl) (fun _ _ _ h => h) (Or.inl ⟨by rfl, fun wh hSw => ?_⟩) hHeld ?_
    · (go_simp)
    try simp only [Act.put, List.setIfInBounds_toArray, List.set_cons_zero, List.set_cons_succ]
    refine wpAnyH_take (i := 4) (oi := { dst := some 18, op := .fieldAddr 67 (.tmp 2) 0, type := _, pos := _, after := _, guard := none }) (v := .pointer (some ⟨w.heap.size, 0, none⟩)) rfl (by kernel_rfl) (by kernel_rfl) (by kernel_rfl) (fun _ _ _ h => h) (Or.inl ⟨by rfl, fun wh hSw => ?_⟩) hHeld ?_
    · (go_simp)
    try simp only [Act.put, List.setIfInBounds_toArray, List.set_cons_zero, List.set_cons_succ]
    refine wpAnyH_take (i := 5) (oi := { dst := some 19, op := .load 56 (.tmp 18), type := _, pos := _, after := _, guard := none }) (v := .agg FM.toArray) rfl (by kernel_rfl) (by kernel_rfl) (by kernel_rfl) (fun _ _ _ h => h) (Or.inl ⟨by rfl, fun wh hSw => ?_⟩) hHeld ?_
    · (simp only [execOp]; exact HLM.out _ hSw)
    try simp only [Act.put, List.setIfInBounds_toArray, List.set_cons_zero, List.set_cons_succ]
    refine wpAnyH_take (i := 6) (oi := { dst := some 20, op := .move (.tmp 5), type := _, pos := _, after := _, guard := none }) (v := .func (.func 98) #[] #[.pointer (some ⟨W0.heap.size, 0, none⟩)]) rfl (by kernel_rfl) (by kernel_rfl) (by kernel_rfl) (fun _ _ _ h => h) (Or.inl ⟨by rfl, fun wh hSw => ?_⟩) hHeld ?_
    · (go_simp)
    try simp only [Act.put, List.setIfInBounds_toArray, List.set_cons_zero, List.set_cons_succ]
    refine wpAnyH_ready (rs := [1]) (by kernel_rfl) (by simp) ?_
    refine AllReadyH.cons (o := { dst := some 15, op := .buildSlice 92 1 #[(0, .tmp 14)], type := _, pos := _, after := _, guard := none }) rfl (fun K hK => ?_) AllReadyH.nil
    go_simp
    refine hK.out _ _ ?_ (fun hHeld => ?_)
    · exact HME.out _ ((HBA.out.alloc HBA.out.size _).block _ (by have := HZ0.out; have := HZ1.out; omega) |>.trans HMX1.out)
    clear hK K
    try simp only [Act.put, List.setIfInBounds_toArray, List.set_cons_zero, List.set_cons_succ]
    refine anyH_gen _ (fun Q1 hW => ?_)
    have HO1 : Hid (OwnI QA (.slice (some ⟨QA.heap.size, 0, none⟩) 1 1) [(f : Int)] Q1) := Lib.hid (by rw [hW]; exact OwnI.one QA f)
    have HBQ1 : Hid (Below W1.heap.size W1 Q1) := Lib.hid (by rw [hW]; exact HBA.out.alloc HBA.out.size _)
    have HCW1 : Hid (Q1.heap[W0.heap.size]? = some (.cells (rowC row) 54 (0, 0))) := Lib.hid ((HBQ1.out.block _ HZ1.out).trans HCW.out)
    have HMQ1 : Hid (Q1.heap[w.heap.size]? = W0.heap[w.heap.size]?) := Lib.hid ((HBQ1.out.block _ (by have := HZ0.out; have := HZ1.out; omega)).trans HMX1.out)
    have HZQ1 : Hid (QA.heap.size < Q1.heap.size) := Lib.hid (by rw [hW]; simp)
    rw [← hW] at hHeld
    clear hW
    refine wpAnyH_ready (rs := [3]) (by kernel_rfl) (by simp) ?_
    refine AllReadyH.cons (o := { dst := some 17, op := .call { callee := .value (.func 86), args := #[.tmp 15, .tmp 16], argTypes := #[92, 151] }, type := _, pos := _, after := _, guard := none }) rfl (fun K hK => ?_) AllReadyH.nil
    go_simp
    refine (callsIn_wide.1 (appendSeqX_in (d := 0) (N := 4) (b0 := w.heap.size) (S := fun xs => finI xs = named row) (some ⟨QA.heap.size, 0, none⟩) 1 1 [(f : Int)] (by simp) 20 (by omega) (fun xs hx => by have h7 := congrArg List.length hx; rw [fin_len] at h7; have := HNL.out; omega) Q1 (own_lower HO1.out.own (by have := HB0.out.size; have := HB1.out.size; have := HBA.out.size; omega)) (by have := HB0.out.size; have := HB1.out.size; have := HBQ1.out.size; omega) (enters_of Tryz.func98 (by kernel_rfl) rfl) (SeqD.of_stops (named_stopsX 20 W0.heap.size row HR4.out HRB.out Q1 (by have := HZ1.out; have := HBQ1.out.size; omega) HCW1.out)))).mono ?_
    rintro _ Q2 ⟨xs1, v1, rfl, hxs, hxl, ho1, hbx, hblk⟩
    rw [hxs] at ho1
    obtain ⟨g1, c1, rfl, hv1, hg10, hg11⟩ := ownsRow_form ho1 (by simp; omega)
    have HBX1 : Hid (BelX Q1.heap.size (some QA.heap.size) Q1 Q2) := Lib.hid hbx
    have HOW1 := Lib.hid ho1
    have HG1 : Hid (w.heap.size ≤ g1 ∧ g1 < Q2.heap.size) := Lib.hid ⟨hg10, hg11⟩
    have HBLK : Hid (g1 = QA.heap.size ∨ Q1.heap.size ≤ g1) := Lib.hid ((hblk g1 hv1).imp (fun h => Option.some.inj h) id)
    have HMNE : Hid (w.heap.size < g1) := Lib.hid (by have := HBLK.out; have := HZ0.out; have := HZ1.out; have := HBA.out.size; have := HBQ1.out.size; omega)
    have HCW2 : Hid (Q2.heap[W0.heap.size]? = some (.cells (rowC row) 54 (0, 0))) := Lib.hid ((HBX1.out.block _ (by have := HZ1.out; have := HBQ1.out.size; omega) (fun e => by injection e with e; have := HZ1.out; have := HBA.out.size; omega)).trans HCW1.out)
    have HMQ2 : Hid (Q2.heap[w.heap.size]? = W0.heap[w.heap.size]?) := Lib.hid ((HBX1.out.block _ (by have := HZ0.out; have := HZ1.out; have := HBQ1.out.size; omega) (fun e => by injection e with e; have := HZ0.out; have := HZ1.out; have := HBA.out.size; omega)).trans HMQ1.out)
    have HB2 : Hid (Below w.heap.size w Q2) := Lib.hid (((HB0.out.trans (HB1.out.mono HB0.out.size)).trans (HBQ1.out.mono (by have := HB0.out.size; have := HB1.out.size; omega))).trans (HBX1.out.low (by have := HB0.out.size; have := HB1.out.size; have := HBQ1.out.size; omega) (fun q hq => by injection hq with hq; have := HB0.out.size; have := HB1.out.size; have := HBA.out.size; omega)))
    clear hxs hxl ho1 hbx hblk hv1 hg10 hg11 hHeld
    try go_simp
    refine hK.out _ _ ?_ (fun hHeld => ?_)
    · exact HME.out _ HMQ2.out
    clear hK K
    try simp only [Act.put, List.setIfInBounds_toArray, List.set_cons_zero, List.set_cons_succ]
    refine wpAnyH_ready (rs := [7]) (by kernel_rfl) (by simp) ?_
    refine AllReadyH.cons (o := { dst := some 21, op := .call { callee := .value (.func 87), args := #[.tmp 19, .tmp 20], argTypes := #[56, 151] }, type := _, pos := _, after := _, guard := none }) rfl (fun K hK => ?_) AllReadyH.nil
    go_simp
    refine (HAM.out Q2 _).mono ?_
    rintro _ Q3 ⟨rfl, hQ3⟩
    have HBQ3 : Hid (Below Q2.heap.size Q2 Q3) := Lib.hid (by rw [hQ3]; exact ((Below.refl _ _).alloc (Nat.le_refl _) _).alloc (by simp) _)
    have HZ3 : Hid (Q3.heap.size = Q2.heap.size + 2) := Lib.hid (by rw [hQ3]; simp)
    have HCT3 : Hid (Q3.cell? ⟨Q2.heap.size + 1, 0, none⟩ = some (.func (.func 98) #[] #[.pointer (some ⟨W0.heap.size, 0, none⟩)])) := Lib.hid (by rw [hQ3]; have := new_cell (w := Q2.alloc (.cells FM.toArray 56)) (t := 151) (j := 0) (cs := #[.func (.func 98) #[] #[.pointer (some ⟨W0.heap.size, 0, none⟩)]]) (v := .func (.func 98) #[] #[.pointer (some ⟨W0.heap.size, 0, none⟩)]) rfl; rwa [World.size_alloc] at this)
    have HCM3 : Hid (Q3.rangeAt Q2.heap.size 0 (flatL M)) := Lib.hid (by rw [hQ3, ← HFM.out]; exact range_blocks (range_row (heap_alloc_new Q2 _)) (Below.heap_alloc _ _ _ (by simp)))
    have HCW3 : Hid (Q3.heap[W0.heap.size]? = some (.cells (rowC row) 54 (0, 0))) := Lib.hid ((HBQ3.out.block _ (Array.getElem?_eq_some_iff.1 HCW2.out).1).trans HCW2.out)
    have HMQ3 : Hid (Q3.heap[w.heap.size]? = W0.heap[w.heap.size]?) := Lib.hid ((HBQ3.out.block _ (by have := HB2.out.size; have := HG1.out; omega)).trans HMQ2.out)
    have HB3 : Hid (Below w.heap.size w Q3) := Lib.hid (HB2.out.trans (HBQ3.out.mono HB2.out.size))
    clear hQ3 hHeld
    try go_simp
    refine hK.out _ _ ?_ (fun hHeld => ?_)
    · exact HME.out _ HMQ3.out
    clear hK K
    try simp only [Act.put, List.setIfInBounds_toArray, List.set_cons_zero, List.set_cons_succ]
    refine wpAnyH_ready (rs := [8]) (by kernel_rfl) (by simp) ?_
    refine AllReadyH.cons (o := { dst := some 22, op := .call { callee := .value (.func 86), args := #[.tmp 17, .tmp 21], argTypes := #[92, 151] }, type := _, pos := _, after := _, guard := none }) rfl (fun K hK => ?_) AllReadyH.nil
    go_simp
    refine (callsIn_wide.1 (appendSeqX_in (d := 1) (N := 16) (b0 := w.heap.size) (S := fun xs => finI xs = flat M (named row)) (some ⟨g1, 0, none⟩) _ c1 ([(f : Int)] ++ named row) (by simp; have := HNL.out; omega) (20 + 6) (by omega) (fun xs hx => by have h7 := congrArg List.length hx; rw [fin_len] at h7; have := HFN.out; omega) Q3 (own_after (by simpa [Nat.add_comm] using HOW1.out) HBQ3.out) (by have := HB3.out.size; omega) (enters_of Tryz.func100 (by kernel_rfl) rfl) (all_stopsX (some g1) 20 (Q2.heap.size + 1) Q2.heap.size W0.heap.size M HM.out row HR4.out HRB.out Q3 (by have := HZ3.out; omega) (by have := HZ3.out; omega) (fun e => by injection e with e; have := HG1.out; omega) (by have := HZ1.out; have := HBQ1.out.size; have := HBX1.out.size; have := HZ3.out; omega) HCW3.out HCT3.out HCM3.out))).mono ?_
    rintro _ Q4 ⟨xs2, v2, rfl, hxs, hxl, ho2, hbx, hblk⟩
    rw [hxs] at ho2
    obtain ⟨g2, c2, rfl, hv2, hg20, hg21⟩ := ownsRow_form ho2 (by simp; omega)
    have HB4 : Hid (Below w.heap.size w Q4) := Lib.hid (HB3.out.trans (hbx.low (by have := HB3.out.size; omega) (fun q hq => by have hq2 : some g1 = some q := hq; injection hq2 with hq2; have := HG1.out; omega)))
    have HMQ4 : Hid (Q4.heap[w.heap.size]? = W0.heap[w.heap.size]?) := Lib.hid ((hbx.block _ (by have := HB2.out.size; have := HG1.out; have := HZ3.out; omega) (fun e => by have hq2 : some w.heap.size = some g1 := e; injection hq2 with hq2; have := HMNE.out; omega)).trans HMQ3.out)
    obtain ⟨n2, hn2⟩ : ∃ n, n = ([(f : Int)] ++ named row).length + (flat M (named row)).length := ⟨_, rfl⟩
    have HI4 : Hid (Ints Q4 (.slice (some ⟨g2, 0, none⟩) n2 c2) (([(f : Int)] ++ named row) ++ flat M (named row))) := Lib.hid (by have h9 := ho2; rw [← @List.length_append _ ([(f : Int)] ++ named row) (flat M (named row))] at h9; rw [hn2, ← @List.length_append _ ([(f : Int)] ++ named row) (flat M (named row))]; exact ints_of_own h9)
    have HN2 : Hid (n2 = (([(f : Int)] ++ named row) ++ flat M (named row)).length) := Lib.hid (hn2.trans (@List.length_append _ ([(f : Int)] ++ named row) (flat M (named row))).symm)
    rw [← hn2]
    have HYB : Hid (∀ y ∈ ([(f : Int)] ++ named row) ++ flat M (named row), 0 ≤ y ∧ y < 12) := Lib.hid (fun y hy => (List.mem_append.1 hy).elim (fun hy => (List.mem_append.1 hy).elim (fun hy => by rw [List.mem_singleton.1 hy]; exact ⟨by omega, by omega⟩) (fun hy => HNB.out y hy)) (fun hy => HFB.out y hy))
    have HYL : Hid ((([(f : Int)] ++ named row) ++ flat M (named row)).length ≤ 1000) := Lib.hid (by simp only [List.length_append, List.length_singleton]; have := HNL.out; have := HFN.out; omega)
    clear hxs hxl ho2 hbx hblk hv2 hg20 hg21 hn2 hHeld
    try go_simp
    refine hK.out _ _ ?_ (fun hHeld => ?_)
    · exact HME.out _ HMQ4.out
    clear hK K
    try simp only [Act.put, List.setIfInBounds_toArray, List.set_cons_zero, List.set_cons_succ]
    refine wpAnyH_take (i := 9) (oi := { dst := some 6, op := .assign (.tmp 22), type := _, pos := _, after := _, guard := none }) (v := .slice (some ⟨g2, 0, none⟩) n2 c2) rfl (by kernel_rfl) (by kernel_rfl) (by kernel_rfl) (fun _ _ _ h => h) (Or.inl ⟨by rfl, fun wh hSw => ?_⟩) hHeld ?_
    · (go_simp)
    try simp only [Act.put, List.setIfInBounds_toArray, List.set_cons_zero, List.set_cons_succ]
    refine wpAnyH_done (by kernel_rfl) ?_ _
    have HS5 := Lib.hid (values_make Q4 (some ⟨g2, 0, none⟩) n2 c2)
    go_wp2_with fail
    refine HS5.out.mono ?_
    rintro _ Q5 ⟨rfl, hQ5⟩
    have HBQ5 : Hid (Below Q4.heap.size Q4 Q5) := Lib.hid (by rw [hQ5]; exact (Below.refl _ _).alloc (Nat.le_refl _) _)
    have HEV := Lib.hid (each_values Q5 Q4.heap.size _ HYB.out HYL.out (some ⟨g2, 0, none⟩) c2 (by have h9 := Ints.below (B := 0) HI4.out HBQ5.out; rwa [HN2.out] at h9) (by rw [hQ5]; simp) (by rw [hQ5, ← HN2.out]; exact new_cell rfl))
    rw [← HRE.out] at HEV
    have HB5 : Hid (Below w.heap.size w Q5) := Lib.hid (HB4.out.trans (HBQ5.out.mono HB4.out.size))
    clear hQ5
    go_wp2_with fail
    refine HEV.out.mono ?_
    rintro _ Q6 ⟨v6, rfl, hi6, hb6⟩
    have HI6 := Lib.hid hi6
    have HB6 := Lib.hid (HB5.out.trans (hb6.mono HB5.out.size))
    clear hi6 hb6
    go_wp2_with fail
    go_ret
    exact ⟨_, rfl, HI6.out.lower HB5.out.size, HB6.out⟩
set_option maxHeartbeats 1000000 in
theorem kreach_any (w : World) (M : List (List Int)) (I : List IV) (E : List EV) (bs : Nat → Nat) (R L : List Value) (h : KL w M I E bs R L) (j : Nat) (hj : j < 3) (hb : -1 ≤ (E.getD j ez).t ∧ (E.getD j ez).t ≤ 11) :
    Calls Tryz.prog 55 #[.agg L.toArray, .int .i64 j] w (NewR (reach M (E.getD j ez).t) w) := by
  have HKC := Lib.hid (h.box 67)
  have HLL := Lib.hid h.len
  obtain ⟨W0, hW0⟩ : ∃ W0, W0 = w.alloc (.cells L.toArray 67) := ⟨_, rfl⟩
  rw [← hW0] at HKC
  have HB0 : Hid (Below w.heap.size w W0) := Lib.hid (by rw [hW0]; exact (Below.refl _ _).alloc (Nat.le_refl _) _)
  have HAT := Lib.hid HKC.out.at0
  have HW0 := Lib.hid hW0
  have hrt := HKC.out.root hj
  have HIX := run_indexAt_off (P := Tryz.prog) 50 3 48 2 Tryz.underlying50 size_env (by omega) w.heap.size 84 j hj
  have HRF := Lib.hid (kreachFrom_any W0.drew M I E bs R L (HKC.out.below (Below.refl _ _).drew).l (E.getD j ez).t hb)
  obtain ⟨X, hX⟩ : ∃ X, X = w.heap.size := ⟨_, rfl⟩
  rw [← hX] at hrt HIX HAT
  have HXE := Lib.hid hX
  obtain ⟨t, ht⟩ : ∃ t, t = (E.getD j ez).t := ⟨_, rfl⟩
  rw [← ht] at hrt hb HRF ⊢
  have HRT := Lib.hid hrt
  have hj0 : (0 : Int) ≤ (j : Int) := by omega
  have hj3 : (j : Int) < 3 := by omega
  have HLK : Hid (∀ Q : World, Q.rangeAt X 0 L → (do let l ← Instr.loadAt 67 (.pointer (some ⟨X, 0, none⟩)); pure (Next.value l) : Sem Next).run Tryz.prog Q = .ok (.value (.agg L.toArray)) Q) := Lib.hid (fun Q hh => load_run 67 X 0 L _ hh Tryz.underlying67 rfl (info_kernel HLL.out))
  clear hW0 h ht hj hb HKC hX hrt
  go_enter Tryz.func55, Tryz.ntmps55
  go_wp2_with (first | ((with_reducible refine box_is 67 (.tmp 0) ?_); refine box_arr 67 (.tmp 0) L.toArray rfl ?_; rw [← HW0.out, ← HXE.out]) | fail)
  refine wp_region_held_drew (S := fun w' => w'.rangeAt X 0 L ∧ w'.cell? ⟨X, 84 + j * 2 + 1, none⟩ = some (.int .i64 t)) (by kernel_rfl) ⟨HAT.out, HRT.out⟩ (fun hHeld => ?_)
  refine wpAnyH_take (i := 0) (oi := { dst := some 5, op := .load 67 (.tmp 2), type := _, pos := _, after := _, guard := none }) (v := .agg L.toArray) rfl (by kernel_rfl) (by kernel_rfl) (by kernel_rfl) (fun _ _ _ h => h) (Or.inl ⟨by rfl, fun wh hSw => ?_⟩) hHeld ?_
  · (simp only [execOp]; exact HLK.out _ hSw.1)
  try simp only [Act.put, List.setIfInBounds_toArray, List.set_cons_zero, List.set_cons_succ]
  refine wpAnyH_take (i := 1) (oi := { dst := some 6, op := .move (.tmp 1), type := _, pos := _, after := _, guard := none }) (v := .int .i64 (j : Int)) rfl (by kernel_rfl) (by kernel_rfl) (by kernel_rfl) (fun _ _ _ h => h) (Or.inl ⟨by rfl, fun wh hSw => ?_⟩) hHeld ?_
  · (obtain ⟨s0, s1⟩ := hSw; go_simp)
  try simp only [Act.put, List.setIfInBounds_toArray, List.set_cons_zero, List.set_cons_succ]
  refine wpAnyH_take (i := 2) (oi := { dst := some 7, op := .fieldAddr 67 (.tmp 2) 2, type := _, pos := _, after := _, guard := none }) (v := .pointer (some ⟨X, 84, none⟩)) rfl (by kernel_rfl) (by kernel_rfl) (by kernel_rfl) (fun _ _ _ h => h) (Or.inl ⟨by rfl, fun wh hSw => ?_⟩) hHeld ?_
  · (obtain ⟨s0, s1⟩ := hSw; go_simp)
  try simp only [Act.put, List.setIfInBounds_toArray, List.set_cons_zero, List.set_cons_succ]
  refine wpAnyH_take (i := 3) (oi := { dst := some 8, op := .indexAddr 50 (.tmp 7) (.tmp 6), type := _, pos := _, after := _, guard := none }) (v := .pointer (some ⟨X, 84 + j * 2, none⟩)) rfl (by kernel_rfl) (by kernel_rfl) (by kernel_rfl) (fun _ _ _ h => h) (Or.inl ⟨by rfl, fun wh hSw => ?_⟩) hHeld ?_
  · (obtain ⟨s0, s1⟩ := hSw; go_simp)
  try simp only [Act.put, List.setIfInBounds_toArray, List.set_cons_zero, List.set_cons_succ]
  refine wpAnyH_take (i := 4) (oi := { dst := some 9, op := .fieldAddr 48 (.tmp 8) 1, type := _, pos := _, after := _, guard := none }) (v := .pointer (some ⟨X, 84 + j * 2 + 1, none⟩)) rfl (by kernel_rfl) (by kernel_rfl) (by kernel_rfl) (fun _ _ _ h => h) (Or.inl ⟨by rfl, fun wh hSw => ?_⟩) hHeld ?_
  · (obtain ⟨s0, s1⟩ := hSw; go_simp)
  try simp only [Act.put, List.setIfInBounds_toArray, List.set_cons_zero, List.set_cons_succ]
  refine wpAnyH_take (i := 5) (oi := { dst := some 10, op := .load 3 (.tmp 9), type := _, pos := _, after := _, guard := none }) (v := .int .i64 t) rfl (by kernel_rfl) (by kernel_rfl) (by kernel_rfl) (fun _ _ _ h => h) (Or.inl ⟨by rfl, fun wh hSw => ?_⟩) hHeld ?_
  · (obtain ⟨s0, s1⟩ := hSw; go_simp)
  try simp only [Act.put, List.setIfInBounds_toArray, List.set_cons_zero, List.set_cons_succ]
  refine wpAnyH_ready (rs := [6]) (by kernel_rfl) (by simp) ?_
  refine AllReadyH.cons (o := { dst := some 11, op := .call { callee := .value (.func 73), args := #[.tmp 5, .tmp 10], argTypes := #[67, 3] }, type := _, pos := _, after := _, guard := none }) rfl (fun K hK => ?_) AllReadyH.nil
  go_simp
  refine HRF.out.mono ?_
  rintro _ w' ⟨v, rfl, hi, hb⟩
  have HI := Lib.hid hi
  have HBB := Lib.hid (HB0.out.drew.trans (hb.mono HB0.out.size))
  have HXL := Lib.hid hb
  clear hi hb
  try go_simp
  refine hK.out _ _ ?_ (fun hHeld => ?_)
  · exact ⟨range_blocks HAT.out (HXL.out.block X (cell_lt HRT.out)), (HXL.out.cell (p := ⟨X, 84 + j * 2 + 1, none⟩) (cell_lt HRT.out)).trans HRT.out⟩
  clear hK K
  try simp only [Act.put, List.setIfInBounds_toArray, List.set_cons_zero, List.set_cons_succ]
  refine wpAnyH_take (i := 7) (oi := { dst := some 4, op := .assign (.tmp 11), type := _, pos := _, after := _, guard := none }) (v := v) rfl (by kernel_rfl) (by kernel_rfl) (by kernel_rfl) (fun _ _ _ h => h) (Or.inl ⟨by rfl, fun wh hSw => ?_⟩) hHeld ?_
  · (obtain ⟨s0, s1⟩ := hSw; go_simp)
  try simp only [Act.put, List.setIfInBounds_toArray, List.set_cons_zero, List.set_cons_succ]
  refine wpAnyH_done (by kernel_rfl) ?_ _
  go_wp2_with fail
  go_ret
  exact ⟨v, rfl, HI.out.lower HB0.out.size, HBB.out⟩
end Go.Proofs.YthfdkenidfnmgaaGreat
namespace Go.Proofs.YthfdkenidfnmgaaGreat
open Go.ChangeShapes Go.WideShapes Go.ChangeAt Go.RowKit Go.Maps Go.Shelf
set_option linter.unusedVariables false
set_option linter.unusedSimpArgs false
set_option maxRecDepth 100000
set_option maxHeartbeats 1000000 in
theorem all_any (gf : FuncId) (lb : Array Value) (p : Nat → Bool) (m : Nat) (hm : m ≤ 1000) (w : World)
    (hcf : ∀ (args : Array Value) (w : World), (callFunc gf args).run Tryz.prog w = .ok (.enter gf args) w)
    (hG : ∀ W, Below w.heap.size w W → ∀ k, k < m → Calls Tryz.prog gf (#[.int .i64 (k : Int)] ++ lb) W (BRes (p k) W)) :
    Calls Tryz.prog 64 #[.int .i64 (m : Int), .func (.func gf) #[] lb] w (BRes ((List.range m).all p) w) := by
  have HG := Lib.hid hG
  have HNO : Hid (∀ k, k < m → p k = false → (List.range m).all p = false) := Lib.hid (fun k hk hp => by
    rw [Bool.eq_false_iff]
    intro hh
    have := List.all_eq_true.1 hh k (List.mem_range.2 hk)
    rw [hp] at this
    cases this)
  have HYES : Hid ((∀ k, k < m → p k = true) → (List.range m).all p = true) := Lib.hid (fun hh => List.all_eq_true.2 (fun k hk => hh k (List.mem_range.1 hk)))
  generalize (List.range m).all p = r at HNO HYES ⊢
  have hm' : (m : Int) ≤ 1000 := by omega
  clear hG
  go_enter Tryz.func64, Tryz.ntmps64
  go_wp2_with fail
  go_loopw [7] (fun i wr => ∃ k : Nat, k ≤ m ∧ i = .int .i64 k ∧ Hid (Below w.heap.size w wr) ∧ Hid (∀ t, t < k → p t = true)) (fun i _ => m - (intOf i).toNat)
  case atStart => exact ⟨0, Nat.zero_le _, rfl, Lib.hid (Below.refl _ _), Lib.hid (fun t ht => by omega)⟩
  case round =>
    obtain ⟨k, hk, rfl, HB, HP⟩ := hrel
    by_cases hlt : k < m
    · have hlt' : (k : Int) < (m : Int) := by omega
      have HC := Lib.hid (HG.out wr HB.out k hlt)
      have HNX := Lib.hid (HNO.out k hlt)
      have HPX : Hid (p k = true → ∀ t, t < k + 1 → p t = true) := Lib.hid (fun hb t ht => by
        by_cases e : t = k
        · subst e; exact hb
        · exact HP.out t (by omega))
      generalize p k = q at HC HNX HPX
      go_wp2_with fail
      refine HC.out.mono ?_
      rintro _ w1 ⟨rfl, hb1⟩
      have HB1 := Lib.hid (HB.out.trans (hb1.mono HB.out.size))
      clear hb1
      cases q with
      | false =>
        go_wp2_with fail
        go_ret
        exact ⟨by rw [HNX.out (by trivial)]; rfl, HB1.out⟩
      | true =>
        go_wp2_with fail
        go_roundw
        case rel => exact ⟨k + 1, by omega, by go_num, HB1, Lib.hid (HPX.out (by trivial))⟩
        case measure => simp [intOf]; omega
    · have e : k = m := by omega
      subst e
      go_wp2_with fail
      go_ret
      exact ⟨by rw [HYES.out HP.out]; rfl, HB.out⟩
set_option maxHeartbeats 1000000 in
theorem indexFunc_any (gf : FuncId) (lb : Array Value) (p : Int → Bool) (w : World) (v : Value) (xs : List Int) (hv : Ints w v xs) (hl : xs.length ≤ 1000)
    (hcf : ∀ (args : Array Value) (w : World), (callFunc gf args).run Tryz.prog w = .ok (.enter gf args) w)
    (hG : ∀ W, Below w.heap.size w W → ∀ x, x ∈ xs → Calls Tryz.prog gf (#[.int .i64 x] ++ lb) W (BRes (p x) W)) :
    Calls Tryz.prog 84 #[v, .func (.func gf) #[] lb] w fun e w' => ∃ i : Int, e = .returned (.int .i64 i) ∧ (decide (0 ≤ i) = xs.any p) ∧ Below w.heap.size w w' := by
  obtain ⟨a, ca, rfl, h1, h2, h3⟩ := hv
  unfold maxLen at h2
  obtain ⟨m, hM⟩ : ∃ m, m = xs.length := ⟨_, rfl⟩
  rw [← hM] at h1 h3 hl ⊢
  have HM := Lib.hid hM
  have HX := Lib.hid h3
  have hmem : ∀ k, k < m → xs.getD k 0 ∈ xs := fun k hk => by
    rw [getD_lt (by omega)]
    exact List.getElem_mem _
  have HG : Hid (∀ W, Below w.heap.size w W → ∀ k, k < m → Calls Tryz.prog gf (#[.int .i64 (xs.getD k 0)] ++ lb) W (BRes (p (xs.getD k 0)) W)) := Lib.hid (fun W hW k hk => hG W hW (xs.getD k 0) (hmem k hk))
  have HYES : Hid (∀ k, k < m → p (xs.getD k 0) = true → xs.any p = true) := Lib.hid (fun k hk hp => List.any_eq_true.2 ⟨xs.getD k 0, hmem k hk, hp⟩)
  have HNO : Hid ((∀ k, k < m → p (xs.getD k 0) = false) → xs.any p = false) := Lib.hid (fun hh => by
    rw [Bool.eq_false_iff]
    intro ha
    obtain ⟨x, hx, hp⟩ := List.any_eq_true.1 ha
    obtain ⟨k, hk, rfl⟩ := List.getElem_of_mem hx
    have := hh k (by omega)
    rw [getD_lt hk, hp] at this
    cases this)
  generalize xs.any p = r at HNO HYES ⊢
  have hm' : (m : Int) ≤ 1000 := by omega
  clear hG h3 hM hmem
  go_enter Tryz.func84, Tryz.ntmps84
  go_wp2_with fail
  go_loopw [8] (fun i wr => ∃ k : Nat, k ≤ m ∧ i = .int .i64 k ∧ Hid (Below w.heap.size w wr) ∧ Hid (∀ t, t < k → p (xs.getD t 0) = false)) (fun i _ => m - (intOf i).toNat)
  case atStart => exact ⟨0, Nat.zero_le _, rfl, Lib.hid (Below.refl _ _), Lib.hid (fun t ht => by omega)⟩
  case round =>
    obtain ⟨k, hk, rfl, HB, HP⟩ := hrel
    by_cases hlt : k < m
    · have hlt' : (k : Int) < (m : Int) := by omega
      have hk0 : (0 : Int) ≤ (k : Int) := by omega
      obtain ⟨b, o, rfl, hc0⟩ := HX.out k hlt
      have hc := (HB.out.cell (p := ⟨b, o + k, none⟩) (cell_lt hc0)).trans hc0
      have HC := Lib.hid (HG.out wr HB.out k hlt)
      have HNX := Lib.hid (HYES.out k hlt)
      have HPX : Hid (p (xs.getD k 0) = false → ∀ t, t < k + 1 → p (xs.getD t 0) = false) := Lib.hid (fun hb t ht => by
        by_cases e : t = k
        · subst e; exact hb
        · exact HP.out t (by omega))
      obtain ⟨x, hx⟩ : ∃ x, x = xs.getD k 0 := ⟨_, rfl⟩
      rw [← hx] at hc HC HNX HPX
      generalize p x = q at HC HNX HPX
      clear hx hc0
      go_wp2_with fail
      refine HC.out.mono ?_
      rintro _ w1 ⟨rfl, hb1⟩
      have HB1 := Lib.hid (HB.out.trans (hb1.mono HB.out.size))
      clear hb1
      cases q with
      | true =>
        go_wp2_with fail
        go_ret
        exact ⟨(k : Int), rfl, by rw [HNX.out (by trivial)]; exact decide_eq_true hk0, HB1.out⟩
      | false =>
        go_wp2_with fail
        go_roundw
        case rel => exact ⟨k + 1, by omega, by go_num, HB1, Lib.hid (HPX.out (by trivial))⟩
        case measure => simp [intOf]; omega
    · have e : k = m := by omega
      subst e
      go_wp2_with fail
      go_ret
      exact ⟨-1, rfl, by rw [HNO.out HP.out]; rfl, HB.out⟩
theorem contains_any (gf : FuncId) (lb : Array Value) (p : Int → Bool) (w : World) (v : Value) (xs : List Int) (hv : Ints w v xs) (hl : xs.length ≤ 1000)
    (hcf : ∀ (args : Array Value) (w : World), (callFunc gf args).run Tryz.prog w = .ok (.enter gf args) w)
    (hG : ∀ W, Below w.heap.size w W → ∀ x, x ∈ xs → Calls Tryz.prog gf (#[.int .i64 x] ++ lb) W (BRes (p x) W)) :
    Calls Tryz.prog 70 #[v, .func (.func gf) #[] lb] w (BRes (xs.any p) w) := by
  have HI := Lib.hid (indexFunc_any gf lb p w v xs hv hl hcf hG)
  generalize xs.any p = r at HI ⊢
  obtain ⟨a, ca, rfl, -, -, -⟩ := hv
  clear hG hcf
  go_enter Tryz.func70, Tryz.ntmps70
  go_wp2_with fail
  refine HI.out.mono ?_
  rintro _ w1 ⟨i, rfl, hi, hb⟩
  have HB := Lib.hid hb
  have HD := Lib.hid hi
  clear hb hi
  go_wp2_with fail
  go_ret
  exact ⟨by rw [← HD.out]; rfl, HB.out⟩
end Go.Proofs.YthfdkenidfnmgaaGreat
namespace Go.Proofs.YthfdkenidfnmgaaGreat
open Go.ChangeShapes Go.WideShapes Go.ChangeAt Go.RowKit Go.Maps Go.Shelf
set_option linter.unusedVariables false
set_option linter.unusedSimpArgs false
set_option maxRecDepth 100000
set_option maxHeartbeats 1000000 in
theorem ktables_any (w : World) (M : List (List Int)) (I : List IV) (E : List EV) (bs : Nat → Nat) (R L : List Value) (h : KL w M I E bs R L) :
    Calls Tryz.prog 49 #[.agg L.toArray] w fun e w' => e = .returned (.agg (tC M I).toArray) ∧ Below w.heap.size w w' := by
  have HKC := Lib.hid (h.box 67)
  obtain ⟨W0, hW0⟩ : ∃ W0, W0 = w.alloc (.cells L.toArray 67) := ⟨_, rfl⟩
  rw [← hW0] at HKC
  have HB0 : Hid (Below w.heap.size w W0) := Lib.hid (by rw [hW0]; exact (Below.refl _ _).alloc (Nat.le_refl _) _)
  have HTC : Hid (tC M I = flatL M ++ isC I) := Lib.hid (by unfold tC; rw [mC_ok h.m])
  rw [HTC.out]
  have HAL : Hid ((flatL M).length = 48) := Lib.hid (flat_len h.m)
  have HBL : Hid ((isC I).length = 36) := Lib.hid (isC_36 (isok_len h.i))
  have HTO : Hid ((flatL M ++ isC I).toArray.all (·.oneCell') = true) := Lib.hid (by rw [← HTC.out]; exact tC_one M I)
  have HBT := Lib.hid (fun W => run_build_tables (flatL M) (isC I) HAL.out HBL.out W)
  have ZT := Lib.hid zero_tables
  have HZL := Lib.hid Z84_len
  obtain ⟨zt, hzt⟩ : ∃ z, z = Z84 := ⟨_, rfl⟩
  rw [← hzt] at ZT HZL
  obtain ⟨W1, hW1⟩ : ∃ W1, W1 = W0.alloc (.cells zt.toArray 96) := ⟨_, rfl⟩
  have HB1 : Hid (Below W0.heap.size W0 W1) := Lib.hid (by rw [hW1]; exact (Below.refl _ _).alloc (Nat.le_refl _) _)
  have HMA : Hid (W1.rangeAt w.heap.size 0 (flatL M)) := Lib.hid (HKC.out.below HB1.out).mem
  have HMB : Hid (W1.rangeAt w.heap.size 48 (isC I)) := Lib.hid (HKC.out.below HB1.out).inf
  obtain ⟨A, hA⟩ : ∃ A, A = flatL M := ⟨_, rfl⟩
  obtain ⟨B, hB⟩ : ∃ B, B = isC I := ⟨_, rfl⟩
  rw [← hA] at HAL HTO HBT HMA ⊢
  rw [← hB] at HBL HTO HBT HMB ⊢
  have HTZ : Hid ((A ++ B).toArray.size = 84) := Lib.hid (by rw [List.size_toArray, List.length_append, HAL.out, HBL.out])
  have HTH : Hid (W1.there W0.heap.size 0 (A ++ B).toArray.size) := Lib.hid (by rw [hW1, HTZ.out]; exact there_row (heap_alloc_new W0 _) (by rw [List.size_toArray, HZL.out]; exact Nat.le_refl _))
  obtain ⟨W2, hW2⟩ : ∃ W2, W2 = W1.setCells W0.heap.size 0 (A ++ B) := ⟨_, rfl⟩
  have HR2 : Hid (W2.rangeAt W0.heap.size 0 (A ++ B)) := Lib.hid (by rw [hW2]; exact World.rangeAt_setCells_same _ _ _ _ HTH.out)
  have HB2 : Hid (Below w.heap.size w W2) := Lib.hid (by rw [hW2]; exact Below.setCells (Below.refl _ _) _ HB0.out.size _ _ _ (HB0.out.trans (HB1.out.mono HB0.out.size)))
  have HTL : Hid ((A ++ B).length = 84) := Lib.hid (by rw [List.length_append, HAL.out, HBL.out])
  have HW0 := Lib.hid hW0
  have HW1 := Lib.hid hW1
  have HW2 := Lib.hid hW2
  clear hW0 hW1 hW2 hA hB hzt h HKC
  go_enter Tryz.func49, Tryz.ntmps49
  go_wp2_with (first | ((with_reducible refine box_is 67 (.tmp 0) ?_); refine box_arr 67 (.tmp 0) L.toArray rfl ?_; rw [← HW0.out]) | ((with_reducible refine alloc_is 96 ?_); refine alloc_arr 96 zt.toArray ZT.out ?_; rw [← HW1.out]) | ((with_reducible refine load_is 56 (.tmp 3) ?_); refine load_arr 56 (.tmp 3) w.heap.size 0 A _ rfl HMA.out Tryz.underlying56 rfl (info_mem HAL.out) ?_) | ((with_reducible refine load_is 60 (.tmp 5) ?_); refine load_arr 60 (.tmp 5) w.heap.size 48 B _ rfl HMB.out Tryz.underlying60 rfl (info_infos HBL.out) ?_) | ((with_reducible refine buildp_is 96 #[(0, .tmp 4), (1, .tmp 6)] ?_); refine build_run2 96 (.tmp 4) (.tmp 6) (.agg A.toArray) (.agg B.toArray) rfl rfl (A ++ B).toArray HBT.out ?_) | ((with_reducible refine store_is 96 (.tmp 2) (.tmp 7) ?_); refine store_arr 96 (.tmp 2) (.tmp 7) W0.heap.size 0 (A ++ B).toArray rfl rfl HTH.out (info_tables HTZ.out) HTO.out ?_; rw [show (A ++ B).toArray.toList = A ++ B from rfl, ← HW2.out]) | fail)
  refine bodyPost_ret (results_one_mid rfl _ _ W0.heap.size 0 (A ++ B) _ rfl HR2.out Tryz.underlying96 rfl (info_tables HTL.out)) rfl ?_
  exact ⟨rfl, HB2.out⟩
end Go.Proofs.YthfdkenidfnmgaaGreat
namespace Go.Proofs.YthfdkenidfnmgaaGreat
open Go.ChangeShapes Go.WideShapes Go.ChangeAt Go.RowKit Go.Maps
set_option linter.unusedVariables false
set_option linter.unusedSimpArgs false
set_option maxRecDepth 100000
theorem wp_alloc_mid {P : Program} {op : Oper} {a : Act} {w : World} {K : Act → World → Prop} {Q : Exit → Act → World → Prop} (t : TypeId) (ho : op.op = .alloc t)
    (z : Array Value) (hz : ∀ w, (zeroValue t).run P w = .ok (.agg z) w)
    (h : K (a.put op.dst (.pointer (some ⟨w.heap.size, 0, none⟩))) (w.alloc (.cells z t))) : op.wp P a w K Q := by
  unfold Oper.wp execOp
  simp only [ho, Instr.alloc, Sem.run_bind, Sem.run_pure, Result.andThen_ok, hz]
  exact h
theorem SetAt.ne_there {w : World} {b c n : Nat} {xs : List Bs} (h : SetAt w b xs) (ht : w.there c 0 n) (hn : 0 < n) : b ≠ c := by
  rintro rfl
  obtain ⟨m, D, hm, ho, hs⟩ := h
  obtain ⟨es, clock, hb, F, hz, hD⟩ := ho
  have h1 := (ht 0 hn).1
  unfold World.cell? at h1
  simp [hb] at h1
theorem SetAt.stored {w : World} {b c : Nat} {xs : List Bs} (h : SetAt w b xs) (hne : b ≠ c) (C : List Value) : SetAt (w.setCells c 0 C) b xs := by
  have hb := Below.setCells (Below.refl c w) c (Nat.le_refl _) C 0 w (Below.refl _ _)
  exact h.kept (row := some c) ⟨hb.os, hb.tape, hb.output, hb.size, fun i hi hne => (heap_setCells_other w c C 0 w i (fun e => hne (by rw [e])))⟩ (by intro e; injection e with e; exact hne e)
theorem SetAt.mt {w : World} {b : Nat} (h : SetAt w b []) : ∃ w', (Instr.mapUpdate 46 (.map (some b)) (.string { data := #[] }) (.bool true)).run Tryz.prog w = .ok () w' ∧ SetAt w' b [[]] ∧ w.grownBy w' (some b) := by
  obtain ⟨w', hr, hs, hg⟩ := h.put (by simp) [] (by simp)
  exact ⟨w', hr, by simpa using hs, hg⟩
def RuleK (I : List IV) (f k : Int) (w : World) (e : Ending) (w' : World) : Prop := ∃ b, e = .returned (.agg (rcC I f (tneeds k) (some b)).toArray) ∧ SetAt w' b [[]] ∧ Below w.heap.size w w'
set_option maxHeartbeats 4000000 in
theorem openRule_any (w : World) (M : List (List Int)) (I : List IV) (E : List EV) (bs : Nat → Nat) (R L : List Value) (h : KL w M I E bs R L) (f : Nat) (hf : f < 12) :
    Calls Tryz.prog 58 #[.agg L.toArray, .int .i64 (f : Int)] w (RuleK I (f : Int) (I.getD f iz).k w) := by
  have HKC := Lib.hid (h.box 67)
  have HLL := Lib.hid h.len
  have hil := isok_len h.i
  have ZR := Lib.hid zero_rule
  have ZRS := Lib.hid Z39_len
  obtain ⟨zr, hzr⟩ : ∃ z, z = Z39 := ⟨_, rfl⟩
  rw [← hzr] at ZR ZRS
  obtain ⟨W0, hW0⟩ : ∃ W0, W0 = (w.alloc (.cells L.toArray 67)).alloc (.cells zr.toArray 122) := ⟨_, rfl⟩
  obtain ⟨X, hX⟩ : ∃ X, X = w.heap.size := ⟨_, rfl⟩
  have HKC0 : Hid (KC W0 X M I E bs R L) := Lib.hid (by rw [hW0, hX]; exact HKC.out.below ((Below.refl _ _).alloc (Nat.le_refl _) _))
  have HB0 : Hid (Below w.heap.size w W0 ∧ X + 1 < W0.heap.size) := Lib.hid (by rw [hW0, hX]; exact ⟨((Below.refl _ _).alloc (Nat.le_refl _) _).alloc (by simp) _, by simp⟩)
  have HT0 : Hid (W0.there (X + 1) 0 39) := Lib.hid (by
    have e : X + 1 = (w.alloc (.cells L.toArray 67)).heap.size := by rw [hX]; simp
    rw [hW0, e]
    exact there_row (heap_alloc_new _ _) (by rw [List.size_toArray, ZRS.out]; omega))
  have HXE := Lib.hid hX
  have HW0 := Lib.hid hW0
  have hk := (HKC0.out.tri hf).c0
  obtain ⟨kd, hkd⟩ : ∃ kd, kd = (I.getD f iz).k := ⟨_, rfl⟩
  rw [← hkd] at hk ⊢
  have HTA : Hid (∀ Q, Below W0.heap.size W0 Q → Calls Tryz.prog 49 #[.agg L.toArray] Q fun e w' => e = .returned (.agg (tC M I).toArray) ∧ Below Q.heap.size Q w') := Lib.hid (fun Q hQ => ktables_any Q M I E bs R L (HKC0.out.below hQ).l)
  have HRU : Hid (∀ Q b, Calls Tryz.prog 75 #[.agg (tC M I).toArray, .int .i64 (f : Int), .int .i64 kd, .map (some b)] Q (RuleM I (f : Int) kd (some b) Q)) := Lib.hid (fun Q b => rule_any Q M I hil (f : Int) kd (some b))
  unfold RuleM at HRU
  have HCL : Hid (∀ b, (rcC I (f : Int) (tneeds kd) (some b)).length = 39) := Lib.hid (fun b => by unfold rcC; rw [List.length_append, isC_36 hil]; rfl)
  have HCO : Hid (∀ b, (rcC I (f : Int) (tneeds kd) (some b)).toArray.all (·.oneCell') = true) := Lib.hid (fun b => rcC_one I (f : Int) (tneeds kd) (some b))
  unfold RuleK
  obtain ⟨RC, hRC⟩ : ∃ RC : Nat → List Value, RC = fun b => rcC I (f : Int) (tneeds kd) (some b) := ⟨_, rfl⟩
  have hRC' : ∀ b, rcC I (f : Int) (tneeds kd) (some b) = RC b := fun b => by rw [hRC]
  simp only [hRC'] at HRU HCL HCO ⊢
  obtain ⟨T, hT⟩ : ∃ T, T = tC M I := ⟨_, rfl⟩
  rw [← hT] at HTA HRU
  have HLK : Hid (∀ Q : World, Q.rangeAt X 0 L → (do let l ← Instr.loadAt 67 (.pointer (some ⟨X, 0, none⟩)); pure (Next.value l) : Sem Next).run Tryz.prog Q = .ok (.value (.agg L.toArray)) Q) := Lib.hid (fun Q hh => load_run 67 X 0 L _ hh Tryz.underlying67 rfl (info_kernel HLL.out))
  have FS : Hid (∀ Q, Below W0.heap.size W0 Q → Q.rangeAt X 0 L ∧ Q.cell? ⟨X, 48 + f * 3, none⟩ = some (.int .i64 kd)) := Lib.hid (fun Q hQ => ⟨(HKC0.out.below hQ).at0, (hQ.cell (p := ⟨X, 48 + f * 3, none⟩) (cell_lt hk)).trans hk⟩)
  have HIF := run_indexAt_off (P := Tryz.prog) 60 12 58 3 Tryz.underlying60 size_info (by omega) X 48 f hf
  have hmm := @run_makeMap Tryz.prog
  have hf0 : (0 : Int) ≤ (f : Int) := by omega
  have hf12 : (f : Int) < 12 := by omega
  have FH : Hid (∀ Q, Below W0.heap.size W0 Q → Q.rangeAt X 0 L ∧ Q.cell? ⟨X, 48 + f * 3, none⟩ = some (.int .i64 kd)) := Lib.hid FS.out
  have HXZ : Hid ((w.alloc (.cells L.toArray 67)).heap.size = X + 1) := Lib.hid (by rw [hX]; simp)
  clear hzr hW0 hX hkd hT hRC hRC' h hil hf hk
  go_enter Tryz.func58, Tryz.ntmps58
  go_wp2_with (first | ((with_reducible refine box_is 67 (.tmp 0) ?_); refine box_arr 67 (.tmp 0) L.toArray rfl ?_) | ((with_reducible refine alloc_is 122 ?_); refine alloc_arr 122 zr.toArray ZR.out ?_; rw [HXZ.out, ← HXE.out, ← HW0.out]) | fail)
  refine wp_region_held_drew (S := fun w' => w'.rangeAt X 0 L ∧ w'.cell? ⟨X, 48 + f * 3, none⟩ = some (.int .i64 kd)) (by kernel_rfl) (FS.out _ (Below.refl _ _).drew) (fun hHeld => ?_)
  refine anyH_gen _ (fun QA hgen => ?_)
  have HBA := Lib.hid (by rw [hgen]; exact (Below.refl W0.heap.size W0).drew : Below W0.heap.size W0 QA)
  rw [← hgen] at hHeld
  clear hgen
  refine wpAnyH_take (i := 0) (oi := { dst := some 5, op := .load 67 (.tmp 2), type := _, pos := _, after := _, guard := none }) (v := .agg L.toArray) rfl (by kernel_rfl) (by kernel_rfl) (by kernel_rfl) (fun _ _ _ h => h) (Or.inl ⟨by rfl, fun wh hSw => ?_⟩) hHeld ?_
  · (simp only [execOp]; exact HLK.out _ hSw.1)
  try simp only [Act.put, List.setIfInBounds_toArray, List.set_cons_zero, List.set_cons_succ]
  refine wpAnyH_take (i := 2) (oi := { dst := some 7, op := .move (.tmp 1), type := _, pos := _, after := _, guard := none }) (v := .int .i64 (f : Int)) rfl (by kernel_rfl) (by kernel_rfl) (by kernel_rfl) (fun _ _ _ h => h) (Or.inl ⟨by rfl, fun wh hSw => ?_⟩) hHeld ?_
  · (obtain ⟨s0, s1⟩ := hSw; go_simp)
  try simp only [Act.put, List.setIfInBounds_toArray, List.set_cons_zero, List.set_cons_succ]
  refine wpAnyH_take (i := 3) (oi := { dst := some 8, op := .move (.tmp 1), type := _, pos := _, after := _, guard := none }) (v := .int .i64 (f : Int)) rfl (by kernel_rfl) (by kernel_rfl) (by kernel_rfl) (fun _ _ _ h => h) (Or.inl ⟨by rfl, fun wh hSw => ?_⟩) hHeld ?_
  · (obtain ⟨s0, s1⟩ := hSw; go_simp)
  try simp only [Act.put, List.setIfInBounds_toArray, List.set_cons_zero, List.set_cons_succ]
  refine wpAnyH_take (i := 4) (oi := { dst := some 9, op := .fieldAddr 67 (.tmp 2) 1, type := _, pos := _, after := _, guard := none }) (v := .pointer (some ⟨X, 48, none⟩)) rfl (by kernel_rfl) (by kernel_rfl) (by kernel_rfl) (fun _ _ _ h => h) (Or.inl ⟨by rfl, fun wh hSw => ?_⟩) hHeld ?_
  · (obtain ⟨s0, s1⟩ := hSw; go_simp)
  try simp only [Act.put, List.setIfInBounds_toArray, List.set_cons_zero, List.set_cons_succ]
  refine wpAnyH_take (i := 5) (oi := { dst := some 10, op := .indexAddr 60 (.tmp 9) (.tmp 8), type := _, pos := _, after := _, guard := none }) (v := .pointer (some ⟨X, 48 + f * 3, none⟩)) rfl (by kernel_rfl) (by kernel_rfl) (by kernel_rfl) (fun _ _ _ h => h) (Or.inl ⟨by rfl, fun wh hSw => ?_⟩) hHeld ?_
  · (obtain ⟨s0, s1⟩ := hSw; go_simp)
  try simp only [Act.put, List.setIfInBounds_toArray, List.set_cons_zero, List.set_cons_succ]
  refine wpAnyH_take (i := 6) (oi := { dst := some 11, op := .fieldAddr 58 (.tmp 10) 0, type := _, pos := _, after := _, guard := none }) (v := .pointer (some ⟨X, 48 + f * 3, none⟩)) rfl (by kernel_rfl) (by kernel_rfl) (by kernel_rfl) (fun _ _ _ h => h) (Or.inl ⟨by rfl, fun wh hSw => ?_⟩) hHeld ?_
  · (obtain ⟨s0, s1⟩ := hSw; go_simp)
  try simp only [Act.put, List.setIfInBounds_toArray, List.set_cons_zero, List.set_cons_succ]
  refine wpAnyH_take (i := 7) (oi := { dst := some 12, op := .load 3 (.tmp 11), type := _, pos := _, after := _, guard := none }) (v := .int .i64 kd) rfl (by kernel_rfl) (by kernel_rfl) (by kernel_rfl) (fun _ _ _ h => h) (Or.inl ⟨by rfl, fun wh hSw => ?_⟩) hHeld ?_
  · (obtain ⟨s0, s1⟩ := hSw; go_simp)
  try simp only [Act.put, List.setIfInBounds_toArray, List.set_cons_zero, List.set_cons_succ]
  refine wpAnyH_ready (rs := [1, 8]) (by kernel_rfl) (by simp) ?_
  refine AllReadyH.cons (o := { dst := some 6, op := .call { callee := .value (.func 49), args := #[.tmp 5], argTypes := #[67] }, type := _, pos := _, after := _, guard := none }) rfl (fun K hK => ?_) (AllReadyH.cons (o := { dst := some 13, op := .makeMap 46 none, type := _, pos := _, after := _, guard := none }) rfl (fun K hK => ?_) AllReadyH.nil)
  · go_simp
    refine (HTA.out QA HBA.out).mono ?_
    rintro _ Q1 ⟨rfl, hb⟩
    have HB1 : Hid (Below W0.heap.size W0 Q1) := Lib.hid (HBA.out.trans (hb.mono HBA.out.size))
    clear hb
    try go_simp
    refine hK.out _ _ ?_ (fun hHeld => ?_)
    · exact FS.out _ HB1.out
    clear hK K
    try simp only [Act.put, List.setIfInBounds_toArray, List.set_cons_zero, List.set_cons_succ]
    refine wpAnyH_ready (rs := [8]) (by kernel_rfl) (by simp) ?_
    refine AllReadyH.cons (o := { dst := some 13, op := .makeMap 46 none, type := _, pos := _, after := _, guard := none }) rfl (fun K hK => ?_) AllReadyH.nil
    go_simp
    refine hK.out _ _ ?_ (fun hHeld => ?_)
    · exact FS.out _ (HB1.out.alloc HB1.out.size _)
    clear hK K
    try simp only [Act.put, List.setIfInBounds_toArray, List.set_cons_zero, List.set_cons_succ]
    refine anyH_gen _ (fun Q2 hW => ?_)
    have HB2 : Hid (Below W0.heap.size W0 Q2) := Lib.hid (by rw [hW]; exact HB1.out.alloc HB1.out.size _)
    have HS2 : Hid (SetAt Q2 Q1.heap.size []) := Lib.hid (by rw [hW]; exact SetAt.made Q1)
    have HO2 : Hid (W0.heap.size ≤ Q1.heap.size) := Lib.hid HB1.out.size
    rw [← hW] at hHeld
    clear hW
    refine wpAnyH_ready (rs := [9]) (by kernel_rfl) (by simp) ?_
    refine AllReadyH.cons (o := { dst := none, op := .insert 46 (.tmp 13) (.const (.string { data := #[] })) (.const (.bool true)), type := _, pos := _, after := _, guard := none }) rfl (fun K hK => ?_) AllReadyH.nil
    obtain ⟨Q3, hrun, hset, hg⟩ := HS2.out.mt
    go_simp
    have HB3 : Hid (Below W0.heap.size W0 Q3) := Lib.hid (HB2.out.grown hg HB2.out.size (fun k e => by injection e with e; have := HO2.out; omega))
    have HS3 : Hid (SetAt Q3 (Q1.heap.size) [[]]) := Lib.hid hset
    have HO3 : Hid (W0.heap.size ≤ Q1.heap.size) := Lib.hid HO2.out
    clear hrun hset hg
    refine hK.out _ _ ?_ (fun hHeld => ?_)
    · exact FS.out _ HB3.out
    clear hK K
    try simp only [Act.put, List.setIfInBounds_toArray, List.set_cons_zero, List.set_cons_succ]
    refine wpAnyH_take (i := 10) (oi := { dst := some 14, op := .move (.tmp 13), type := _, pos := _, after := _, guard := none }) (v := .map (some Q1.heap.size)) rfl (by kernel_rfl) (by kernel_rfl) (by kernel_rfl) (fun _ _ _ h => h) (Or.inl ⟨by rfl, fun wh hSw => ?_⟩) hHeld ?_
    · (obtain ⟨s0, s1⟩ := hSw; go_simp)
    try simp only [Act.put, List.setIfInBounds_toArray, List.set_cons_zero, List.set_cons_succ]
    refine wpAnyH_ready (rs := [11]) (by kernel_rfl) (by simp) ?_
    refine AllReadyH.cons (o := { dst := some 15, op := .call { callee := .value (.func 75), args := #[.tmp 6, .tmp 7, .tmp 12, .tmp 14], argTypes := #[96, 3, 3, 46] }, type := _, pos := _, after := _, guard := none }) rfl (fun K hK => ?_) AllReadyH.nil
    go_simp
    refine (HRU.out Q3 (Q1.heap.size)).mono ?_
    rintro _ Q4 ⟨rfl, hb⟩
    have HB4 : Hid (Below W0.heap.size W0 Q4) := Lib.hid (HB3.out.trans (hb.mono HB3.out.size))
    have HS4 : Hid (SetAt Q4 Q1.heap.size [[]]) := Lib.hid (HS3.out.below hb)
    have HO4 : Hid (W0.heap.size ≤ Q1.heap.size) := Lib.hid HO3.out
    clear hb
    try go_simp
    refine hK.out _ _ ?_ (fun hHeld => ?_)
    · exact FS.out _ HB4.out
    clear hK K
    try simp only [Act.put, List.setIfInBounds_toArray, List.set_cons_zero, List.set_cons_succ]
    refine wpAnyH_ready (rs := [12]) (by kernel_rfl) (by simp) ?_
    refine AllReadyH.cons (o := { dst := none, op := .store 122 (.tmp 4) (.tmp 15), type := _, pos := _, after := _, guard := none }) rfl (fun K hK => ?_) AllReadyH.nil
    rw [if_pos (by rfl)]
    refine wp_store_mid 122 (.tmp 4) (.tmp 15) rfl (X + 1) 0 (RC (Q1.heap.size)).toArray rfl rfl (by rw [List.size_toArray, HCL.out]; exact there_blocks HT0.out (HB4.out.block _ HB0.out.2)) (info_rule (show (RC (Q1.heap.size)).toArray.size = 39 by rw [List.size_toArray, HCL.out])) (HCO.out _) ?_
    rw [show (RC (Q1.heap.size)).toArray.toList = RC (Q1.heap.size) from rfl]
    refine hK.out _ _ ?_ (fun hHeld => ?_)
    · exact ⟨range_blocks hHeld.1 (heap_setCells_other Q4 (X + 1) _ 0 Q4 X (by omega)), (World.cell?_of_block (heap_setCells_other Q4 (X + 1) _ 0 Q4 X (by omega))).trans hHeld.2⟩
    clear hK K
    try simp only [Act.put, List.setIfInBounds_toArray, List.set_cons_zero, List.set_cons_succ]
    refine wpAnyH_done (by kernel_rfl) ?_ _
    have HRF : Hid ((Q4.setCells (X + 1) 0 (RC (Q1.heap.size))).rangeAt (X + 1) 0 (RC (Q1.heap.size))) := Lib.hid (World.rangeAt_setCells_same _ _ _ _ (by rw [HCL.out]; exact there_blocks HT0.out (HB4.out.block _ HB0.out.2)))
    have HSF : Hid (SetAt (Q4.setCells (X + 1) 0 (RC (Q1.heap.size))) (Q1.heap.size) [[]]) := Lib.hid (HS4.out.stored (by have h1 := HO4.out; have h2 := HB0.out.2; omega) _)
    have HBF : Hid (Below w.heap.size w (Q4.setCells (X + 1) 0 (RC (Q1.heap.size)))) := Lib.hid (Below.setCells (Below.refl _ _) _ (by have := HXE.out; omega) _ _ _ (HB0.out.1.trans (HB4.out.mono HB0.out.1.size)))
    go_wp2_with fail
    refine bodyPost_ret (results_one_mid rfl _ _ (X + 1) 0 (RC (Q1.heap.size)) _ rfl HRF.out Tryz.underlying122 rfl (info_rule (HCL.out _))) rfl ?_
    exact ⟨_, rfl, HSF.out, HBF.out⟩
  · go_simp
    refine hK.out _ _ ?_ (fun hHeld => ?_)
    · exact FS.out _ (HBA.out.alloc HBA.out.size _)
    clear hK K
    try simp only [Act.put, List.setIfInBounds_toArray, List.set_cons_zero, List.set_cons_succ]
    refine anyH_gen _ (fun Q6 hW => ?_)
    have HB6 : Hid (Below W0.heap.size W0 Q6) := Lib.hid (by rw [hW]; exact HBA.out.alloc HBA.out.size _)
    have HS6 : Hid (SetAt Q6 QA.heap.size []) := Lib.hid (by rw [hW]; exact SetAt.made QA)
    have HO6 : Hid (W0.heap.size ≤ QA.heap.size) := Lib.hid HBA.out.size
    rw [← hW] at hHeld
    clear hW
    refine wpAnyH_ready (rs := [1, 9]) (by kernel_rfl) (by simp) ?_
    refine AllReadyH.cons (o := { dst := some 6, op := .call { callee := .value (.func 49), args := #[.tmp 5], argTypes := #[67] }, type := _, pos := _, after := _, guard := none }) rfl (fun K hK => ?_) (AllReadyH.cons (o := { dst := none, op := .insert 46 (.tmp 13) (.const (.string { data := #[] })) (.const (.bool true)), type := _, pos := _, after := _, guard := none }) rfl (fun K hK => ?_) AllReadyH.nil)
    · go_simp
      refine (HTA.out Q6 HB6.out).mono ?_
      rintro _ Q7 ⟨rfl, hb⟩
      have HB7 : Hid (Below W0.heap.size W0 Q7) := Lib.hid (HB6.out.trans (hb.mono HB6.out.size))
      have HS7 : Hid (SetAt Q7 QA.heap.size []) := Lib.hid (HS6.out.below hb)
      have HO7 : Hid (W0.heap.size ≤ QA.heap.size) := Lib.hid HO6.out
      clear hb
      try go_simp
      refine hK.out _ _ ?_ (fun hHeld => ?_)
      · exact FS.out _ HB7.out
      clear hK K
      try simp only [Act.put, List.setIfInBounds_toArray, List.set_cons_zero, List.set_cons_succ]
      refine wpAnyH_ready (rs := [9]) (by kernel_rfl) (by simp) ?_
      refine AllReadyH.cons (o := { dst := none, op := .insert 46 (.tmp 13) (.const (.string { data := #[] })) (.const (.bool true)), type := _, pos := _, after := _, guard := none }) rfl (fun K hK => ?_) AllReadyH.nil
      obtain ⟨Q8, hrun, hset, hg⟩ := HS7.out.mt
      go_simp
      have HB8 : Hid (Below W0.heap.size W0 Q8) := Lib.hid (HB7.out.grown hg HB7.out.size (fun k e => by injection e with e; have := HO7.out; omega))
      have HS8 : Hid (SetAt Q8 (QA.heap.size) [[]]) := Lib.hid hset
      have HO8 : Hid (W0.heap.size ≤ QA.heap.size) := Lib.hid HO7.out
      clear hrun hset hg
      refine hK.out _ _ ?_ (fun hHeld => ?_)
      · exact FS.out _ HB8.out
      clear hK K
      try simp only [Act.put, List.setIfInBounds_toArray, List.set_cons_zero, List.set_cons_succ]
      refine wpAnyH_take (i := 10) (oi := { dst := some 14, op := .move (.tmp 13), type := _, pos := _, after := _, guard := none }) (v := .map (some QA.heap.size)) rfl (by kernel_rfl) (by kernel_rfl) (by kernel_rfl) (fun _ _ _ h => h) (Or.inl ⟨by rfl, fun wh hSw => ?_⟩) hHeld ?_
      · (obtain ⟨s0, s1⟩ := hSw; go_simp)
      try simp only [Act.put, List.setIfInBounds_toArray, List.set_cons_zero, List.set_cons_succ]
      refine wpAnyH_ready (rs := [11]) (by kernel_rfl) (by simp) ?_
      refine AllReadyH.cons (o := { dst := some 15, op := .call { callee := .value (.func 75), args := #[.tmp 6, .tmp 7, .tmp 12, .tmp 14], argTypes := #[96, 3, 3, 46] }, type := _, pos := _, after := _, guard := none }) rfl (fun K hK => ?_) AllReadyH.nil
      go_simp
      refine (HRU.out Q8 (QA.heap.size)).mono ?_
      rintro _ Q9 ⟨rfl, hb⟩
      have HB9 : Hid (Below W0.heap.size W0 Q9) := Lib.hid (HB8.out.trans (hb.mono HB8.out.size))
      have HS9 : Hid (SetAt Q9 QA.heap.size [[]]) := Lib.hid (HS8.out.below hb)
      have HO9 : Hid (W0.heap.size ≤ QA.heap.size) := Lib.hid HO8.out
      clear hb
      try go_simp
      refine hK.out _ _ ?_ (fun hHeld => ?_)
      · exact FS.out _ HB9.out
      clear hK K
      try simp only [Act.put, List.setIfInBounds_toArray, List.set_cons_zero, List.set_cons_succ]
      refine wpAnyH_ready (rs := [12]) (by kernel_rfl) (by simp) ?_
      refine AllReadyH.cons (o := { dst := none, op := .store 122 (.tmp 4) (.tmp 15), type := _, pos := _, after := _, guard := none }) rfl (fun K hK => ?_) AllReadyH.nil
      rw [if_pos (by rfl)]
      refine wp_store_mid 122 (.tmp 4) (.tmp 15) rfl (X + 1) 0 (RC (QA.heap.size)).toArray rfl rfl (by rw [List.size_toArray, HCL.out]; exact there_blocks HT0.out (HB9.out.block _ HB0.out.2)) (info_rule (show (RC (QA.heap.size)).toArray.size = 39 by rw [List.size_toArray, HCL.out])) (HCO.out _) ?_
      rw [show (RC (QA.heap.size)).toArray.toList = RC (QA.heap.size) from rfl]
      refine hK.out _ _ ?_ (fun hHeld => ?_)
      · exact ⟨range_blocks hHeld.1 (heap_setCells_other Q9 (X + 1) _ 0 Q9 X (by omega)), (World.cell?_of_block (heap_setCells_other Q9 (X + 1) _ 0 Q9 X (by omega))).trans hHeld.2⟩
      clear hK K
      try simp only [Act.put, List.setIfInBounds_toArray, List.set_cons_zero, List.set_cons_succ]
      refine wpAnyH_done (by kernel_rfl) ?_ _
      have HRF : Hid ((Q9.setCells (X + 1) 0 (RC (QA.heap.size))).rangeAt (X + 1) 0 (RC (QA.heap.size))) := Lib.hid (World.rangeAt_setCells_same _ _ _ _ (by rw [HCL.out]; exact there_blocks HT0.out (HB9.out.block _ HB0.out.2)))
      have HSF : Hid (SetAt (Q9.setCells (X + 1) 0 (RC (QA.heap.size))) (QA.heap.size) [[]]) := Lib.hid (HS9.out.stored (by have h1 := HO9.out; have h2 := HB0.out.2; omega) _)
      have HBF : Hid (Below w.heap.size w (Q9.setCells (X + 1) 0 (RC (QA.heap.size)))) := Lib.hid (Below.setCells (Below.refl _ _) _ (by have := HXE.out; omega) _ _ _ (HB0.out.1.trans (HB9.out.mono HB0.out.1.size)))
      go_wp2_with fail
      refine bodyPost_ret (results_one_mid rfl _ _ (X + 1) 0 (RC (QA.heap.size)) _ rfl HRF.out Tryz.underlying122 rfl (info_rule (HCL.out _))) rfl ?_
      exact ⟨_, rfl, HSF.out, HBF.out⟩
    · obtain ⟨Q11, hrun, hset, hg⟩ := HS6.out.mt
      go_simp
      have HB11 : Hid (Below W0.heap.size W0 Q11) := Lib.hid (HB6.out.grown hg HB6.out.size (fun k e => by injection e with e; have := HO6.out; omega))
      have HS11 : Hid (SetAt Q11 (QA.heap.size) [[]]) := Lib.hid hset
      have HO11 : Hid (W0.heap.size ≤ QA.heap.size) := Lib.hid HO6.out
      clear hrun hset hg
      refine hK.out _ _ ?_ (fun hHeld => ?_)
      · exact FS.out _ HB11.out
      clear hK K
      try simp only [Act.put, List.setIfInBounds_toArray, List.set_cons_zero, List.set_cons_succ]
      refine wpAnyH_take (i := 10) (oi := { dst := some 14, op := .move (.tmp 13), type := _, pos := _, after := _, guard := none }) (v := .map (some QA.heap.size)) rfl (by kernel_rfl) (by kernel_rfl) (by kernel_rfl) (fun _ _ _ h => h) (Or.inl ⟨by rfl, fun wh hSw => ?_⟩) hHeld ?_
      · (obtain ⟨s0, s1⟩ := hSw; go_simp)
      try simp only [Act.put, List.setIfInBounds_toArray, List.set_cons_zero, List.set_cons_succ]
      refine wpAnyH_ready (rs := [1]) (by kernel_rfl) (by simp) ?_
      refine AllReadyH.cons (o := { dst := some 6, op := .call { callee := .value (.func 49), args := #[.tmp 5], argTypes := #[67] }, type := _, pos := _, after := _, guard := none }) rfl (fun K hK => ?_) AllReadyH.nil
      go_simp
      refine (HTA.out Q11 HB11.out).mono ?_
      rintro _ Q12 ⟨rfl, hb⟩
      have HB12 : Hid (Below W0.heap.size W0 Q12) := Lib.hid (HB11.out.trans (hb.mono HB11.out.size))
      have HS12 : Hid (SetAt Q12 QA.heap.size [[]]) := Lib.hid (HS11.out.below hb)
      have HO12 : Hid (W0.heap.size ≤ QA.heap.size) := Lib.hid HO11.out
      clear hb
      try go_simp
      refine hK.out _ _ ?_ (fun hHeld => ?_)
      · exact FS.out _ HB12.out
      clear hK K
      try simp only [Act.put, List.setIfInBounds_toArray, List.set_cons_zero, List.set_cons_succ]
      refine wpAnyH_ready (rs := [11]) (by kernel_rfl) (by simp) ?_
      refine AllReadyH.cons (o := { dst := some 15, op := .call { callee := .value (.func 75), args := #[.tmp 6, .tmp 7, .tmp 12, .tmp 14], argTypes := #[96, 3, 3, 46] }, type := _, pos := _, after := _, guard := none }) rfl (fun K hK => ?_) AllReadyH.nil
      go_simp
      refine (HRU.out Q12 (QA.heap.size)).mono ?_
      rintro _ Q13 ⟨rfl, hb⟩
      have HB13 : Hid (Below W0.heap.size W0 Q13) := Lib.hid (HB12.out.trans (hb.mono HB12.out.size))
      have HS13 : Hid (SetAt Q13 QA.heap.size [[]]) := Lib.hid (HS12.out.below hb)
      have HO13 : Hid (W0.heap.size ≤ QA.heap.size) := Lib.hid HO12.out
      clear hb
      try go_simp
      refine hK.out _ _ ?_ (fun hHeld => ?_)
      · exact FS.out _ HB13.out
      clear hK K
      try simp only [Act.put, List.setIfInBounds_toArray, List.set_cons_zero, List.set_cons_succ]
      refine wpAnyH_ready (rs := [12]) (by kernel_rfl) (by simp) ?_
      refine AllReadyH.cons (o := { dst := none, op := .store 122 (.tmp 4) (.tmp 15), type := _, pos := _, after := _, guard := none }) rfl (fun K hK => ?_) AllReadyH.nil
      rw [if_pos (by rfl)]
      refine wp_store_mid 122 (.tmp 4) (.tmp 15) rfl (X + 1) 0 (RC (QA.heap.size)).toArray rfl rfl (by rw [List.size_toArray, HCL.out]; exact there_blocks HT0.out (HB13.out.block _ HB0.out.2)) (info_rule (show (RC (QA.heap.size)).toArray.size = 39 by rw [List.size_toArray, HCL.out])) (HCO.out _) ?_
      rw [show (RC (QA.heap.size)).toArray.toList = RC (QA.heap.size) from rfl]
      refine hK.out _ _ ?_ (fun hHeld => ?_)
      · exact ⟨range_blocks hHeld.1 (heap_setCells_other Q13 (X + 1) _ 0 Q13 X (by omega)), (World.cell?_of_block (heap_setCells_other Q13 (X + 1) _ 0 Q13 X (by omega))).trans hHeld.2⟩
      clear hK K
      try simp only [Act.put, List.setIfInBounds_toArray, List.set_cons_zero, List.set_cons_succ]
      refine wpAnyH_done (by kernel_rfl) ?_ _
      have HRF : Hid ((Q13.setCells (X + 1) 0 (RC (QA.heap.size))).rangeAt (X + 1) 0 (RC (QA.heap.size))) := Lib.hid (World.rangeAt_setCells_same _ _ _ _ (by rw [HCL.out]; exact there_blocks HT0.out (HB13.out.block _ HB0.out.2)))
      have HSF : Hid (SetAt (Q13.setCells (X + 1) 0 (RC (QA.heap.size))) (QA.heap.size) [[]]) := Lib.hid (HS13.out.stored (by have h1 := HO13.out; have h2 := HB0.out.2; omega) _)
      have HBF : Hid (Below w.heap.size w (Q13.setCells (X + 1) 0 (RC (QA.heap.size)))) := Lib.hid (Below.setCells (Below.refl _ _) _ (by have := HXE.out; omega) _ _ _ (HB0.out.1.trans (HB13.out.mono HB0.out.1.size)))
      go_wp2_with fail
      refine bodyPost_ret (results_one_mid rfl _ _ (X + 1) 0 (RC (QA.heap.size)) _ rfl HRF.out Tryz.underlying122 rfl (info_rule (HCL.out _))) rfl ?_
      exact ⟨_, rfl, HSF.out, HBF.out⟩
end Go.Proofs.YthfdkenidfnmgaaGreat
namespace Go.Proofs.YthfdkenidfnmgaaGreat
open Go.ChangeShapes Go.WideShapes Go.ChangeAt Go.RowKit Go.Maps
set_option linter.unusedVariables false
set_option linter.unusedSimpArgs false
set_option maxRecDepth 100000
set_option maxHeartbeats 4000000 in
theorem good_any (W : World) (X : Nat) (M : List (List Int)) (I : List IV) (E : List EV) (bs : Nat → Nat) (R L : List Value) (h : KC W X M I E bs R L) (f : Nat) (hf : f < 12) :
    Calls Tryz.prog 56 #[.int .i64 f, .pointer (some ⟨X, 0, none⟩)] W (BRes (!isTab (I.getD f iz).k || tgood M I (f : Int) (I.getD f iz).k [[]]) W) := by
  have hil := isok_len h.l.i
  have hish := isok_short h.l.i
  have HLL := Lib.hid h.l.len
  have hk := (h.tri hf).c0
  have HOR : Hid (∀ Q, Below W.heap.size W Q → Calls Tryz.prog 58 #[.agg L.toArray, .int .i64 (f : Int)] Q (RuleK I (f : Int) (I.getD f iz).k Q)) := Lib.hid (fun Q hQ => openRule_any Q M I E bs R L (h.below hQ).l f hf)
  unfold RuleK at HOR
  obtain ⟨kd, hkd⟩ : ∃ kd, kd = (I.getD f iz).k := ⟨_, rfl⟩
  rw [← hkd] at hk HOR ⊢
  have HIT := Lib.hid (fun Q => isTable_any Q kd)
  have HAA : Hid (isTab kd = true → ∀ Q b, SetAt Q b [[]] → Calls Tryz.prog 59 #[.agg (rcC I (f : Int) (tneeds kd) (some b)).toArray, .agg ((M.getD f []).map (Value.int .i64)).toArray] Q (BRes (tgood M I (f : Int) kd [[]]) Q)) := Lib.hid (fun ht Q b hs => by
    rw [← rall_good (xss := M) (ys := I) (n := f) (rs := [[]]) ht]
    exact allowsAll_any Q I hil hish (f : Int) (tneeds kd) (M.getD f []) (mem_row h.l.m hf) (fun i hi => mem_word h.l.m hf hi) b [[]] hs)
  have HRW : Hid (∀ Q, Below W.heap.size W Q → Q.rangeAt X (f * 4) ((M.getD f []).map (Value.int .i64))) := Lib.hid (fun Q hQ => (h.below hQ).row hf)
  have HMLL : Hid (((M.getD f []).map (Value.int .i64)).length = 4) := Lib.hid (by rw [List.length_map]; exact mem_row h.l.m hf)
  obtain ⟨RW, hRW⟩ : ∃ RW, RW = (M.getD f []).map (Value.int .i64) := ⟨_, rfl⟩
  rw [← hRW] at HAA HRW HMLL
  obtain ⟨RC, hRC⟩ : ∃ RC : Nat → List Value, RC = fun b => rcC I (f : Int) (tneeds kd) (some b) := ⟨_, rfl⟩
  have hRC' : ∀ b, rcC I (f : Int) (tneeds kd) (some b) = RC b := fun b => by rw [hRC]
  simp only [hRC'] at HAA HOR
  obtain ⟨tg, htg⟩ : ∃ tg, tg = tgood M I (f : Int) kd [[]] := ⟨_, rfl⟩
  rw [← htg] at HAA ⊢
  have FS : Hid (∀ Q, Below W.heap.size W Q → Q.rangeAt X 0 L ∧ Q.cell? ⟨X, 48 + f * 3, none⟩ = some (.int .i64 kd) ∧ Q.rangeAt X (f * 4) RW) := Lib.hid (fun Q hQ => ⟨(h.below hQ).at0, (hQ.cell (p := ⟨X, 48 + f * 3, none⟩) (cell_lt hk)).trans hk, HRW.out Q hQ⟩)
  have HIF := run_indexAt_off (P := Tryz.prog) 60 12 58 3 Tryz.underlying60 size_info (by omega) X 48 f hf
  have HXM := run_indexAt_arr (P := Tryz.prog) 56 12 54 4 Tryz.underlying56 size_words (by omega) X f hf
  have HLK : Hid (∀ Q : World, Q.rangeAt X 0 L → (do let l ← Instr.loadAt 67 (.pointer (some ⟨X, 0, none⟩)); pure (Next.value l) : Sem Next).run Tryz.prog Q = .ok (.value (.agg L.toArray)) Q) := Lib.hid (fun Q hh => load_run 67 X 0 L _ hh Tryz.underlying67 rfl (info_kernel HLL.out))
  have HLW : Hid (∀ Q : World, Q.rangeAt X (f * 4) RW → (do let l ← Instr.loadAt 54 (.pointer (some ⟨X, f * 4, none⟩)); pure (Next.value l) : Sem Next).run Tryz.prog Q = .ok (.value (.agg RW.toArray)) Q) := Lib.hid (fun Q hh => load_run 54 X (f * 4) RW _ hh Tryz.underlying54 rfl (by rw [HMLL.out]; exact info_words))
  have hf0 : (0 : Int) ≤ (f : Int) := by omega
  have hf12 : (f : Int) < 12 := by omega
  clear hkd hRW htg h hil hish hf HRW hRC hRC' hk
  obtain ⟨tb, htb⟩ : ∃ tb, tb = isTab kd := ⟨_, rfl⟩
  rw [← htb] at HIT HAA ⊢
  clear htb
  cases tb with
  | false =>
    go_enter Tryz.func56, Tryz.ntmps56
    go_wp2_with fail
    refine wp_region_held_drew (S := fun w' => w'.rangeAt X 0 L ∧ w'.cell? ⟨X, 48 + f * 3, none⟩ = some (.int .i64 kd) ∧ w'.rangeAt X (f * 4) RW) (by kernel_rfl) (FS.out _ (Below.refl _ _).drew) (fun hHeld => ?_)
    refine anyH_gen _ (fun QA hgen => ?_)
    have HBA := Lib.hid (by rw [hgen]; exact (Below.refl W.heap.size W).drew : Below W.heap.size W QA)
    rw [← hgen] at hHeld
    clear hgen
    refine wpAnyH_take (i := 0) (oi := { dst := some 4, op := .move (.tmp 0), type := _, pos := _, after := _, guard := none }) (v := .int .i64 (f : Int)) rfl (by kernel_rfl) (by kernel_rfl) (by kernel_rfl) (fun _ _ _ h => h) (Or.inl ⟨by rfl, fun wh hSw => ?_⟩) hHeld ?_
    · (obtain ⟨s0, s1, s2⟩ := hSw; go_simp)
    try simp only [Act.put, List.setIfInBounds_toArray, List.set_cons_zero, List.set_cons_succ]
    refine wpAnyH_take (i := 1) (oi := { dst := some 5, op := .fieldAddr 67 (.tmp 1) 1, type := _, pos := _, after := _, guard := none }) (v := .pointer (some ⟨X, 48, none⟩)) rfl (by kernel_rfl) (by kernel_rfl) (by kernel_rfl) (fun _ _ _ h => h) (Or.inl ⟨by rfl, fun wh hSw => ?_⟩) hHeld ?_
    · (obtain ⟨s0, s1, s2⟩ := hSw; go_simp)
    try simp only [Act.put, List.setIfInBounds_toArray, List.set_cons_zero, List.set_cons_succ]
    refine wpAnyH_take (i := 2) (oi := { dst := some 6, op := .indexAddr 60 (.tmp 5) (.tmp 4), type := _, pos := _, after := _, guard := none }) (v := .pointer (some ⟨X, 48 + f * 3, none⟩)) rfl (by kernel_rfl) (by kernel_rfl) (by kernel_rfl) (fun _ _ _ h => h) (Or.inl ⟨by rfl, fun wh hSw => ?_⟩) hHeld ?_
    · (obtain ⟨s0, s1, s2⟩ := hSw; go_simp)
    try simp only [Act.put, List.setIfInBounds_toArray, List.set_cons_zero, List.set_cons_succ]
    refine wpAnyH_take (i := 3) (oi := { dst := some 7, op := .fieldAddr 58 (.tmp 6) 0, type := _, pos := _, after := _, guard := none }) (v := .pointer (some ⟨X, 48 + f * 3, none⟩)) rfl (by kernel_rfl) (by kernel_rfl) (by kernel_rfl) (fun _ _ _ h => h) (Or.inl ⟨by rfl, fun wh hSw => ?_⟩) hHeld ?_
    · (obtain ⟨s0, s1, s2⟩ := hSw; go_simp)
    try simp only [Act.put, List.setIfInBounds_toArray, List.set_cons_zero, List.set_cons_succ]
    refine wpAnyH_take (i := 4) (oi := { dst := some 8, op := .load 3 (.tmp 7), type := _, pos := _, after := _, guard := none }) (v := .int .i64 kd) rfl (by kernel_rfl) (by kernel_rfl) (by kernel_rfl) (fun _ _ _ h => h) (Or.inl ⟨by rfl, fun wh hSw => ?_⟩) hHeld ?_
    · (obtain ⟨s0, s1, s2⟩ := hSw; go_simp)
    try simp only [Act.put, List.setIfInBounds_toArray, List.set_cons_zero, List.set_cons_succ]
    refine wpAnyH_ready (rs := [5]) (by kernel_rfl) (by simp) ?_
    refine AllReadyH.cons (o := { dst := some 9, op := .call { callee := .value (.func 57), args := #[.tmp 8], argTypes := #[3] }, type := _, pos := _, after := _, guard := none }) rfl (fun K hK => ?_) AllReadyH.nil
    go_simp
    refine (HIT.out _).mono ?_
    rintro _ w1 ⟨rfl, rfl⟩
    try go_simp
    refine hK.out _ _ ?_ (fun hHeld => ?_)
    · exact hHeld
    clear hK K
    try simp only [Act.put, List.setIfInBounds_toArray, List.set_cons_zero, List.set_cons_succ]
    refine wpAnyH_take (i := 6) (oi := { dst := some 10, op := .unOp .not 4 (.tmp 9), type := _, pos := _, after := _, guard := none }) (v := .bool true) rfl (by kernel_rfl) (by kernel_rfl) (by kernel_rfl) (fun _ _ _ h => h) (Or.inl ⟨by rfl, fun wh hSw => ?_⟩) hHeld ?_
    · (obtain ⟨s0, s1, s2⟩ := hSw; go_simp)
    try simp only [Act.put, List.setIfInBounds_toArray, List.set_cons_zero, List.set_cons_succ]
    refine wpAnyH_take (i := 7) (oi := { dst := some 11, op := .move (.tmp 10), type := _, pos := _, after := _, guard := none }) (v := .bool true) rfl (by kernel_rfl) (by kernel_rfl) (by kernel_rfl) (fun _ _ _ h => h) (Or.inl ⟨by rfl, fun wh hSw => ?_⟩) hHeld ?_
    · (obtain ⟨s0, s1, s2⟩ := hSw; go_simp)
    try simp only [Act.put, List.setIfInBounds_toArray, List.set_cons_zero, List.set_cons_succ]
    refine wpAnyH_take (i := 8) (oi := { dst := some 12, op := .load 67 (.tmp 1), type := _, pos := _, after := _, guard := some (7, false) }) (v := undef) rfl (by kernel_rfl) (by kernel_rfl) (by kernel_rfl) (fun _ _ _ h => h) (Or.inr ⟨by rfl, rfl⟩) hHeld ?_
    try simp only [Act.put, List.setIfInBounds_toArray, List.set_cons_zero, List.set_cons_succ]
    refine wpAnyH_take (i := 9) (oi := { dst := some 13, op := .move (.tmp 0), type := _, pos := _, after := _, guard := some (7, false) }) (v := undef) rfl (by kernel_rfl) (by kernel_rfl) (by kernel_rfl) (fun _ _ _ h => h) (Or.inr ⟨by rfl, rfl⟩) hHeld ?_
    try simp only [Act.put, List.setIfInBounds_toArray, List.set_cons_zero, List.set_cons_succ]
    refine wpAnyH_take (i := 10) (oi := { dst := some 14, op := .call { callee := .value (.func 58), args := #[.tmp 12, .tmp 13], argTypes := #[67, 3] }, type := _, pos := _, after := _, guard := some (7, false) }) (v := undef) rfl (by kernel_rfl) (by kernel_rfl) (by kernel_rfl) (fun _ _ _ h => h) (Or.inr ⟨by rfl, rfl⟩) hHeld ?_
    try simp only [Act.put, List.setIfInBounds_toArray, List.set_cons_zero, List.set_cons_succ]
    refine wpAnyH_take (i := 11) (oi := { dst := some 15, op := .move (.tmp 0), type := _, pos := _, after := _, guard := some (7, false) }) (v := undef) rfl (by kernel_rfl) (by kernel_rfl) (by kernel_rfl) (fun _ _ _ h => h) (Or.inr ⟨by rfl, rfl⟩) hHeld ?_
    try simp only [Act.put, List.setIfInBounds_toArray, List.set_cons_zero, List.set_cons_succ]
    refine wpAnyH_take (i := 12) (oi := { dst := some 16, op := .fieldAddr 67 (.tmp 1) 0, type := _, pos := _, after := _, guard := some (7, false) }) (v := undef) rfl (by kernel_rfl) (by kernel_rfl) (by kernel_rfl) (fun _ _ _ h => h) (Or.inr ⟨by rfl, rfl⟩) hHeld ?_
    try simp only [Act.put, List.setIfInBounds_toArray, List.set_cons_zero, List.set_cons_succ]
    refine wpAnyH_take (i := 13) (oi := { dst := some 17, op := .indexAddr 56 (.tmp 16) (.tmp 15), type := _, pos := _, after := _, guard := some (7, false) }) (v := undef) rfl (by kernel_rfl) (by kernel_rfl) (by kernel_rfl) (fun _ _ _ h => h) (Or.inr ⟨by rfl, rfl⟩) hHeld ?_
    try simp only [Act.put, List.setIfInBounds_toArray, List.set_cons_zero, List.set_cons_succ]
    refine wpAnyH_take (i := 14) (oi := { dst := some 18, op := .load 54 (.tmp 17), type := _, pos := _, after := _, guard := some (7, false) }) (v := undef) rfl (by kernel_rfl) (by kernel_rfl) (by kernel_rfl) (fun _ _ _ h => h) (Or.inr ⟨by rfl, rfl⟩) hHeld ?_
    try simp only [Act.put, List.setIfInBounds_toArray, List.set_cons_zero, List.set_cons_succ]
    refine wpAnyH_take (i := 15) (oi := { dst := some 19, op := .call { callee := .value (.func 59), args := #[.tmp 14, .tmp 18], argTypes := #[122, 54] }, type := _, pos := _, after := _, guard := some (7, false) }) (v := undef) rfl (by kernel_rfl) (by kernel_rfl) (by kernel_rfl) (fun _ _ _ h => h) (Or.inr ⟨by rfl, rfl⟩) hHeld ?_
    try simp only [Act.put, List.setIfInBounds_toArray, List.set_cons_zero, List.set_cons_succ]
    refine wpAnyH_take (i := 16) (oi := { dst := some 20, op := .pick (.tmp 11) (.const (.bool true)) (.tmp 19), type := _, pos := _, after := _, guard := none }) (v := .bool true) rfl (by kernel_rfl) (by kernel_rfl) (by kernel_rfl) (fun _ _ _ h => h) (Or.inl ⟨by rfl, fun wh hSw => ?_⟩) hHeld ?_
    · (obtain ⟨s0, s1, s2⟩ := hSw; go_simp)
    try simp only [Act.put, List.setIfInBounds_toArray, List.set_cons_zero, List.set_cons_succ]
    refine wpAnyH_take (i := 17) (oi := { dst := some 3, op := .assign (.tmp 20), type := _, pos := _, after := _, guard := none }) (v := .bool true) rfl (by kernel_rfl) (by kernel_rfl) (by kernel_rfl) (fun _ _ _ h => h) (Or.inl ⟨by rfl, fun wh hSw => ?_⟩) hHeld ?_
    · (obtain ⟨s0, s1, s2⟩ := hSw; go_simp)
    try simp only [Act.put, List.setIfInBounds_toArray, List.set_cons_zero, List.set_cons_succ]
    refine wpAnyH_done (by kernel_rfl) ?_ _
    have HBE := Lib.hid HBA.out
    go_wp2_with fail
    go_ret
    exact ⟨rfl, HBE.out⟩
  | true =>
    go_enter Tryz.func56, Tryz.ntmps56
    go_wp2_with fail
    refine wp_region_held_drew (S := fun w' => w'.rangeAt X 0 L ∧ w'.cell? ⟨X, 48 + f * 3, none⟩ = some (.int .i64 kd) ∧ w'.rangeAt X (f * 4) RW) (by kernel_rfl) (FS.out _ (Below.refl _ _).drew) (fun hHeld => ?_)
    refine anyH_gen _ (fun QA hgen => ?_)
    have HBA := Lib.hid (by rw [hgen]; exact (Below.refl W.heap.size W).drew : Below W.heap.size W QA)
    rw [← hgen] at hHeld
    clear hgen
    refine wpAnyH_take (i := 0) (oi := { dst := some 4, op := .move (.tmp 0), type := _, pos := _, after := _, guard := none }) (v := .int .i64 (f : Int)) rfl (by kernel_rfl) (by kernel_rfl) (by kernel_rfl) (fun _ _ _ h => h) (Or.inl ⟨by rfl, fun wh hSw => ?_⟩) hHeld ?_
    · (obtain ⟨s0, s1, s2⟩ := hSw; go_simp)
    try simp only [Act.put, List.setIfInBounds_toArray, List.set_cons_zero, List.set_cons_succ]
    refine wpAnyH_take (i := 1) (oi := { dst := some 5, op := .fieldAddr 67 (.tmp 1) 1, type := _, pos := _, after := _, guard := none }) (v := .pointer (some ⟨X, 48, none⟩)) rfl (by kernel_rfl) (by kernel_rfl) (by kernel_rfl) (fun _ _ _ h => h) (Or.inl ⟨by rfl, fun wh hSw => ?_⟩) hHeld ?_
    · (obtain ⟨s0, s1, s2⟩ := hSw; go_simp)
    try simp only [Act.put, List.setIfInBounds_toArray, List.set_cons_zero, List.set_cons_succ]
    refine wpAnyH_take (i := 2) (oi := { dst := some 6, op := .indexAddr 60 (.tmp 5) (.tmp 4), type := _, pos := _, after := _, guard := none }) (v := .pointer (some ⟨X, 48 + f * 3, none⟩)) rfl (by kernel_rfl) (by kernel_rfl) (by kernel_rfl) (fun _ _ _ h => h) (Or.inl ⟨by rfl, fun wh hSw => ?_⟩) hHeld ?_
    · (obtain ⟨s0, s1, s2⟩ := hSw; go_simp)
    try simp only [Act.put, List.setIfInBounds_toArray, List.set_cons_zero, List.set_cons_succ]
    refine wpAnyH_take (i := 3) (oi := { dst := some 7, op := .fieldAddr 58 (.tmp 6) 0, type := _, pos := _, after := _, guard := none }) (v := .pointer (some ⟨X, 48 + f * 3, none⟩)) rfl (by kernel_rfl) (by kernel_rfl) (by kernel_rfl) (fun _ _ _ h => h) (Or.inl ⟨by rfl, fun wh hSw => ?_⟩) hHeld ?_
    · (obtain ⟨s0, s1, s2⟩ := hSw; go_simp)
    try simp only [Act.put, List.setIfInBounds_toArray, List.set_cons_zero, List.set_cons_succ]
    refine wpAnyH_take (i := 4) (oi := { dst := some 8, op := .load 3 (.tmp 7), type := _, pos := _, after := _, guard := none }) (v := .int .i64 kd) rfl (by kernel_rfl) (by kernel_rfl) (by kernel_rfl) (fun _ _ _ h => h) (Or.inl ⟨by rfl, fun wh hSw => ?_⟩) hHeld ?_
    · (obtain ⟨s0, s1, s2⟩ := hSw; go_simp)
    try simp only [Act.put, List.setIfInBounds_toArray, List.set_cons_zero, List.set_cons_succ]
    refine wpAnyH_ready (rs := [5]) (by kernel_rfl) (by simp) ?_
    refine AllReadyH.cons (o := { dst := some 9, op := .call { callee := .value (.func 57), args := #[.tmp 8], argTypes := #[3] }, type := _, pos := _, after := _, guard := none }) rfl (fun K hK => ?_) AllReadyH.nil
    go_simp
    refine (HIT.out _).mono ?_
    rintro _ w1 ⟨rfl, rfl⟩
    try go_simp
    refine hK.out _ _ ?_ (fun hHeld => ?_)
    · exact hHeld
    clear hK K
    try simp only [Act.put, List.setIfInBounds_toArray, List.set_cons_zero, List.set_cons_succ]
    refine wpAnyH_take (i := 6) (oi := { dst := some 10, op := .unOp .not 4 (.tmp 9), type := _, pos := _, after := _, guard := none }) (v := .bool false) rfl (by kernel_rfl) (by kernel_rfl) (by kernel_rfl) (fun _ _ _ h => h) (Or.inl ⟨by rfl, fun wh hSw => ?_⟩) hHeld ?_
    · (obtain ⟨s0, s1, s2⟩ := hSw; go_simp)
    try simp only [Act.put, List.setIfInBounds_toArray, List.set_cons_zero, List.set_cons_succ]
    refine wpAnyH_take (i := 7) (oi := { dst := some 11, op := .move (.tmp 10), type := _, pos := _, after := _, guard := none }) (v := .bool false) rfl (by kernel_rfl) (by kernel_rfl) (by kernel_rfl) (fun _ _ _ h => h) (Or.inl ⟨by rfl, fun wh hSw => ?_⟩) hHeld ?_
    · (obtain ⟨s0, s1, s2⟩ := hSw; go_simp)
    try simp only [Act.put, List.setIfInBounds_toArray, List.set_cons_zero, List.set_cons_succ]
    refine wpAnyH_take (i := 8) (oi := { dst := some 12, op := .load 67 (.tmp 1), type := _, pos := _, after := _, guard := some (7, false) }) (v := .agg L.toArray) rfl (by kernel_rfl) (by kernel_rfl) (by kernel_rfl) (fun _ _ _ h => h) (Or.inl ⟨by rfl, fun wh hSw => ?_⟩) hHeld ?_
    · (simp only [execOp]; exact HLK.out _ hSw.1)
    try simp only [Act.put, List.setIfInBounds_toArray, List.set_cons_zero, List.set_cons_succ]
    refine wpAnyH_take (i := 9) (oi := { dst := some 13, op := .move (.tmp 0), type := _, pos := _, after := _, guard := some (7, false) }) (v := .int .i64 (f : Int)) rfl (by kernel_rfl) (by kernel_rfl) (by kernel_rfl) (fun _ _ _ h => h) (Or.inl ⟨by rfl, fun wh hSw => ?_⟩) hHeld ?_
    · (obtain ⟨s0, s1, s2⟩ := hSw; go_simp)
    try simp only [Act.put, List.setIfInBounds_toArray, List.set_cons_zero, List.set_cons_succ]
    refine wpAnyH_take (i := 11) (oi := { dst := some 15, op := .move (.tmp 0), type := _, pos := _, after := _, guard := some (7, false) }) (v := .int .i64 (f : Int)) rfl (by kernel_rfl) (by kernel_rfl) (by kernel_rfl) (fun _ _ _ h => h) (Or.inl ⟨by rfl, fun wh hSw => ?_⟩) hHeld ?_
    · (obtain ⟨s0, s1, s2⟩ := hSw; go_simp)
    try simp only [Act.put, List.setIfInBounds_toArray, List.set_cons_zero, List.set_cons_succ]
    refine wpAnyH_take (i := 12) (oi := { dst := some 16, op := .fieldAddr 67 (.tmp 1) 0, type := _, pos := _, after := _, guard := some (7, false) }) (v := .pointer (some ⟨X, 0, none⟩)) rfl (by kernel_rfl) (by kernel_rfl) (by kernel_rfl) (fun _ _ _ h => h) (Or.inl ⟨by rfl, fun wh hSw => ?_⟩) hHeld ?_
    · (obtain ⟨s0, s1, s2⟩ := hSw; go_simp)
    try simp only [Act.put, List.setIfInBounds_toArray, List.set_cons_zero, List.set_cons_succ]
    refine wpAnyH_take (i := 13) (oi := { dst := some 17, op := .indexAddr 56 (.tmp 16) (.tmp 15), type := _, pos := _, after := _, guard := some (7, false) }) (v := .pointer (some ⟨X, f * 4, none⟩)) rfl (by kernel_rfl) (by kernel_rfl) (by kernel_rfl) (fun _ _ _ h => h) (Or.inl ⟨by rfl, fun wh hSw => ?_⟩) hHeld ?_
    · (obtain ⟨s0, s1, s2⟩ := hSw; go_simp)
    try simp only [Act.put, List.setIfInBounds_toArray, List.set_cons_zero, List.set_cons_succ]
    refine wpAnyH_take (i := 14) (oi := { dst := some 18, op := .load 54 (.tmp 17), type := _, pos := _, after := _, guard := some (7, false) }) (v := .agg RW.toArray) rfl (by kernel_rfl) (by kernel_rfl) (by kernel_rfl) (fun _ _ _ h => h) (Or.inl ⟨by rfl, fun wh hSw => ?_⟩) hHeld ?_
    · (simp only [execOp]; exact HLW.out _ hSw.2.2)
    try simp only [Act.put, List.setIfInBounds_toArray, List.set_cons_zero, List.set_cons_succ]
    refine wpAnyH_ready (rs := [10]) (by kernel_rfl) (by simp) ?_
    refine AllReadyH.cons (o := { dst := some 14, op := .call { callee := .value (.func 58), args := #[.tmp 12, .tmp 13], argTypes := #[67, 3] }, type := _, pos := _, after := _, guard := some (7, false) }) rfl (fun K hK => ?_) AllReadyH.nil
    go_simp
    refine (HOR.out QA HBA.out).mono ?_
    rintro _ Q2 ⟨bm, rfl, hs, hb⟩
    have HB2 : Hid (Below W.heap.size W Q2) := Lib.hid (HBA.out.trans (hb.mono HBA.out.size))
    have HSM := Lib.hid hs
    clear hs hb
    try go_simp
    refine hK.out _ _ ?_ (fun hHeld => ?_)
    · exact FS.out _ HB2.out
    clear hK K
    try simp only [Act.put, List.setIfInBounds_toArray, List.set_cons_zero, List.set_cons_succ]
    refine wpAnyH_ready (rs := [15]) (by kernel_rfl) (by simp) ?_
    refine AllReadyH.cons (o := { dst := some 19, op := .call { callee := .value (.func 59), args := #[.tmp 14, .tmp 18], argTypes := #[122, 54] }, type := _, pos := _, after := _, guard := some (7, false) }) rfl (fun K hK => ?_) AllReadyH.nil
    go_simp
    refine (HAA.out (by trivial) Q2 bm HSM.out).mono ?_
    rintro _ Q3 ⟨rfl, hb⟩
    have HB3 : Hid (Below W.heap.size W Q3) := Lib.hid (HB2.out.trans (hb.mono HB2.out.size))
    clear hb
    try go_simp
    refine hK.out _ _ ?_ (fun hHeld => ?_)
    · exact FS.out _ HB3.out
    clear hK K
    try simp only [Act.put, List.setIfInBounds_toArray, List.set_cons_zero, List.set_cons_succ]
    refine wpAnyH_take (i := 16) (oi := { dst := some 20, op := .pick (.tmp 11) (.const (.bool true)) (.tmp 19), type := _, pos := _, after := _, guard := none }) (v := .bool tg) rfl (by kernel_rfl) (by kernel_rfl) (by kernel_rfl) (fun _ _ _ h => h) (Or.inl ⟨by rfl, fun wh hSw => ?_⟩) hHeld ?_
    · (obtain ⟨s0, s1, s2⟩ := hSw; go_simp)
    try simp only [Act.put, List.setIfInBounds_toArray, List.set_cons_zero, List.set_cons_succ]
    refine wpAnyH_take (i := 17) (oi := { dst := some 3, op := .assign (.tmp 20), type := _, pos := _, after := _, guard := none }) (v := .bool tg) rfl (by kernel_rfl) (by kernel_rfl) (by kernel_rfl) (fun _ _ _ h => h) (Or.inl ⟨by rfl, fun wh hSw => ?_⟩) hHeld ?_
    · (obtain ⟨s0, s1, s2⟩ := hSw; go_simp)
    try simp only [Act.put, List.setIfInBounds_toArray, List.set_cons_zero, List.set_cons_succ]
    refine wpAnyH_done (by kernel_rfl) ?_ _
    have HBE := Lib.hid HB3.out
    go_wp2_with fail
    go_ret
    exact ⟨by simp, HBE.out⟩
end Go.Proofs.YthfdkenidfnmgaaGreat
namespace Go.Proofs.YthfdkenidfnmgaaGreat
open Go.ChangeShapes Go.WideShapes Go.ChangeAt Go.RowKit Go.Maps Go.Shelf
set_option linter.unusedVariables false
set_option linter.unusedSimpArgs false
set_option maxRecDepth 100000
set_option maxHeartbeats 1000000 in
theorem notAllowed_any (W : World) (X V : Nat) (M : List (List Int)) (I : List IV) (E : List EV) (bs : Nat → Nat) (R L : List Value) (h : KC W X M I E bs R L) (b : Nat) (rs : List Bs) (hset : SetAt W b rs) (hv : W.cell? ⟨V, 0, none⟩ = some (.map (some b))) (f : Nat) (hf : f < 12) :
    Calls Tryz.prog 71 #[.int .i64 (f : Int), .pointer (some ⟨V, 0, none⟩), .pointer (some ⟨X, 0, none⟩)] W (BRes (!may0 rs (I.getD f iz).g) W) := by
  have hg := (h.tri hf).c1
  have HA := Lib.hid (allow_any W.drew b rs (I.getD f iz).g (hset.below (Below.refl _ _).drew) ((isok_short h.l.i).at f))
  have HIF := run_indexAt_off (P := Tryz.prog) 60 12 58 3 Tryz.underlying60 size_info (by omega) X 48 f hf
  have hf0 : (0 : Int) ≤ (f : Int) := by omega
  have hf12 : (f : Int) < 12 := by omega
  obtain ⟨g, hgg⟩ : ∃ g, g = (I.getD f iz).g := ⟨_, rfl⟩
  rw [← hgg] at hg HA ⊢
  have FS : Hid (W.drew.cell? ⟨V, 0, none⟩ = some (.map (some b)) ∧ W.drew.cell? ⟨X, 48 + f * 3 + 1, none⟩ = some (.string ⟨g.toArray⟩)) := Lib.hid ⟨hv, hg⟩
  generalize may0 rs g = q at HA ⊢
  clear h hgg hv hg hf hset
  go_enter Tryz.func71, Tryz.ntmps71
  go_wp2_with fail
  refine wp_region_held_drew (S := fun w' => w'.cell? ⟨V, 0, none⟩ = some (.map (some b)) ∧ w'.cell? ⟨X, 48 + f * 3 + 1, none⟩ = some (.string ⟨g.toArray⟩)) (by kernel_rfl) FS.out (fun hHeld => ?_)
  refine wpAnyH_take (i := 0) (oi := { dst := some 5, op := .load 46 (.tmp 1), type := _, pos := _, after := _, guard := none }) (v := .map (some b)) rfl (by kernel_rfl) (by kernel_rfl) (by kernel_rfl) (fun _ _ _ h => h) (Or.inl ⟨by rfl, fun wh hSw => ?_⟩) hHeld ?_
  · (obtain ⟨s0, s1⟩ := hSw; go_simp)
  try simp only [Act.put, List.setIfInBounds_toArray, List.set_cons_zero, List.set_cons_succ]
  refine wpAnyH_take (i := 1) (oi := { dst := some 6, op := .move (.tmp 0), type := _, pos := _, after := _, guard := none }) (v := .int .i64 (f : Int)) rfl (by kernel_rfl) (by kernel_rfl) (by kernel_rfl) (fun _ _ _ h => h) (Or.inl ⟨by rfl, fun wh hSw => ?_⟩) hHeld ?_
  · (obtain ⟨s0, s1⟩ := hSw; go_simp)
  try simp only [Act.put, List.setIfInBounds_toArray, List.set_cons_zero, List.set_cons_succ]
  refine wpAnyH_take (i := 2) (oi := { dst := some 7, op := .fieldAddr 67 (.tmp 2) 1, type := _, pos := _, after := _, guard := none }) (v := .pointer (some ⟨X, 48, none⟩)) rfl (by kernel_rfl) (by kernel_rfl) (by kernel_rfl) (fun _ _ _ h => h) (Or.inl ⟨by rfl, fun wh hSw => ?_⟩) hHeld ?_
  · (obtain ⟨s0, s1⟩ := hSw; go_simp)
  try simp only [Act.put, List.setIfInBounds_toArray, List.set_cons_zero, List.set_cons_succ]
  refine wpAnyH_take (i := 3) (oi := { dst := some 8, op := .indexAddr 60 (.tmp 7) (.tmp 6), type := _, pos := _, after := _, guard := none }) (v := .pointer (some ⟨X, 48 + f * 3, none⟩)) rfl (by kernel_rfl) (by kernel_rfl) (by kernel_rfl) (fun _ _ _ h => h) (Or.inl ⟨by rfl, fun wh hSw => ?_⟩) hHeld ?_
  · (obtain ⟨s0, s1⟩ := hSw; go_simp)
  try simp only [Act.put, List.setIfInBounds_toArray, List.set_cons_zero, List.set_cons_succ]
  refine wpAnyH_take (i := 4) (oi := { dst := some 9, op := .fieldAddr 58 (.tmp 8) 1, type := _, pos := _, after := _, guard := none }) (v := .pointer (some ⟨X, 48 + f * 3 + 1, none⟩)) rfl (by kernel_rfl) (by kernel_rfl) (by kernel_rfl) (fun _ _ _ h => h) (Or.inl ⟨by rfl, fun wh hSw => ?_⟩) hHeld ?_
  · (obtain ⟨s0, s1⟩ := hSw; go_simp)
  try simp only [Act.put, List.setIfInBounds_toArray, List.set_cons_zero, List.set_cons_succ]
  refine wpAnyH_take (i := 5) (oi := { dst := some 10, op := .load 9 (.tmp 9), type := _, pos := _, after := _, guard := none }) (v := .string ⟨g.toArray⟩) rfl (by kernel_rfl) (by kernel_rfl) (by kernel_rfl) (fun _ _ _ h => h) (Or.inl ⟨by rfl, fun wh hSw => ?_⟩) hHeld ?_
  · (obtain ⟨s0, s1⟩ := hSw; go_simp)
  try simp only [Act.put, List.setIfInBounds_toArray, List.set_cons_zero, List.set_cons_succ]
  refine wpAnyH_ready (rs := [6]) (by kernel_rfl) (by simp) ?_
  refine AllReadyH.cons (o := { dst := some 11, op := .call { callee := .value (.func 72), args := #[.tmp 5, .tmp 10], argTypes := #[46, 9] }, type := _, pos := _, after := _, guard := none }) rfl (fun K hK => ?_) AllReadyH.nil
  go_simp
  refine HA.out.mono ?_
  rintro _ w' ⟨rfl, rfl⟩
  try go_simp
  refine hK.out _ _ ?_ (fun hHeld => ?_)
  · exact hHeld
  clear hK K
  try simp only [Act.put, List.setIfInBounds_toArray, List.set_cons_zero, List.set_cons_succ]
  refine wpAnyH_take (i := 7) (oi := { dst := some 12, op := .unOp .not 4 (.tmp 11), type := _, pos := _, after := _, guard := none }) (v := .bool (!q)) rfl (by kernel_rfl) (by kernel_rfl) (by kernel_rfl) (fun _ _ _ h => h) (Or.inl ⟨by rfl, fun wh hSw => ?_⟩) hHeld ?_
  · (obtain ⟨s0, s1⟩ := hSw; go_simp)
  try simp only [Act.put, List.setIfInBounds_toArray, List.set_cons_zero, List.set_cons_succ]
  refine wpAnyH_take (i := 8) (oi := { dst := some 4, op := .assign (.tmp 12), type := _, pos := _, after := _, guard := none }) (v := .bool (!q)) rfl (by kernel_rfl) (by kernel_rfl) (by kernel_rfl) (fun _ _ _ h => h) (Or.inl ⟨by rfl, fun wh hSw => ?_⟩) hHeld ?_
  · (obtain ⟨s0, s1⟩ := hSw; go_simp)
  try simp only [Act.put, List.setIfInBounds_toArray, List.set_cons_zero, List.set_cons_succ]
  refine wpAnyH_done (by kernel_rfl) ?_ _
  go_wp2_with fail
  go_ret
  exact ⟨rfl, (Below.refl _ _).drew⟩
set_option maxHeartbeats 1000000 in
theorem kallow_any (w : World) (M : List (List Int)) (I : List IV) (E : List EV) (bs : Nat → Nat) (R L : List Value) (h : KL w M I E bs R L) (b : Nat) (rs : List Bs) (hset : SetAt w b rs) (v : Value) (fs : List Int) (hv : Ints w v fs) (hf : ∀ f ∈ fs, 0 ≤ f ∧ f < 12) (hl : fs.length ≤ 1000) :
    Calls Tryz.prog 54 #[.agg L.toArray, .map (some b), v] w (BRes (alw I fs rs) w) := by
  have HKC := Lib.hid (h.box 67)
  obtain ⟨W0, hW0⟩ : ∃ W0, W0 = w.alloc (.cells L.toArray 67) := ⟨_, rfl⟩
  rw [← hW0] at HKC
  obtain ⟨W1, hW1⟩ : ∃ W1, W1 = W0.alloc (.cells #[.map (some b)] 46) := ⟨_, rfl⟩
  have HB0 : Hid (Below w.heap.size w W0) := Lib.hid (by rw [hW0]; exact (Below.refl _ _).alloc (Nat.le_refl _) _)
  have HB01 : Hid (Below W0.heap.size W0 W1) := Lib.hid (by rw [hW1]; exact (Below.refl _ _).alloc (Nat.le_refl _) _)
  have HB1 : Hid (Below w.heap.size w W1) := Lib.hid (HB0.out.trans (HB01.out.mono HB0.out.size))
  have HV1 : Hid (W1.cell? ⟨W0.heap.size, 0, none⟩ = some (.map (some b))) := Lib.hid (by rw [hW1]; exact new_cell rfl)
  have HKC1 := Lib.hid (HKC.out.below HB01.out)
  have HSET := Lib.hid (hset.below HB1.out)
  have HW0 := Lib.hid hW0
  have HW1 := Lib.hid hW1
  have HNA : Hid (∀ Q, Below W1.heap.size W1 Q → ∀ x, x ∈ fs → Calls Tryz.prog 71 (#[.int .i64 x] ++ #[.pointer (some ⟨W0.heap.size, 0, none⟩), .pointer (some ⟨w.heap.size, 0, none⟩)]) Q (BRes (!may0 rs (I.getD x.toNat iz).g) Q)) := Lib.hid (fun Q hQ x hx => by
    obtain ⟨x0, x12⟩ := hf x hx
    obtain ⟨f, rfl⟩ := Int.eq_ofNat_of_zero_le x0
    rw [Int.toNat_natCast]
    exact notAllowed_any Q w.heap.size W0.heap.size M I E bs R L (HKC1.out.below hQ) b rs (HSET.out.below hQ) ((hQ.cell (p := ⟨W0.heap.size, 0, none⟩) (cell_lt HV1.out)).trans HV1.out) f (by omega))
  have HAW : Hid (alw I fs rs = !(fs.any (fun x => !may0 rs (I.getD x.toNat iz).g))) := Lib.hid (by
    unfold alw
    rw [Bool.eq_iff_iff]
    simp)
  rw [HAW.out]
  have HCT := Lib.hid (contains_any 71 #[.pointer (some ⟨W0.heap.size, 0, none⟩), .pointer (some ⟨w.heap.size, 0, none⟩)] (fun x => !may0 rs (I.getD x.toNat iz).g) W1 v fs (Ints.below (B := 0) hv HB1.out) hl (enters_of Tryz.func71 (by kernel_rfl) rfl) (fun Q' hQ' x hx => HNA.out Q' hQ' x hx))
  generalize (fs.any fun x => !may0 rs (I.getD x.toNat iz).g) = q at HCT ⊢
  clear h hW0 hW1 hset hv hf hl HKC HAW HNA
  go_enter Tryz.func54, Tryz.ntmps54
  go_wp2_with (first | ((with_reducible refine box_is 67 (.tmp 0) ?_); refine box_arr 67 (.tmp 0) L.toArray rfl ?_; rw [← HW0.out]) | fail)
  rw [← HW1.out]
  refine HCT.out.mono ?_
  rintro _ W3 ⟨rfl, hb3⟩
  have HB3 := Lib.hid (HB1.out.trans (hb3.mono HB1.out.size))
  clear hb3
  go_wp2_with fail
  go_ret
  exact ⟨rfl, HB3.out⟩
set_option maxHeartbeats 1000000 in
theorem allowed_any (W : World) (X : Nat) (M : List (List Int)) (I : List IV) (E : List EV) (bs : Nat → Nat) (R L : List Value) (h : KC W X M I E bs R L) (j : Nat) (hj : j < 3) (hb : -1 ≤ (E.getD j ez).t ∧ (E.getD j ez).t ≤ 11) :
    Calls Tryz.prog 53 #[.int .i64 (j : Int), .pointer (some ⟨X, 0, none⟩)] W (BRes (alw I (reach M (E.getD j ez).t) (E.getD j ez).r) W) := by
  have hm := h.map hj
  have HLL := Lib.hid h.l.len
  have HRE := Lib.hid (kreach_any W.drew M I E bs R L (h.below (Below.refl _ _).drew).l j hj hb)
  have HIX := run_indexAt_off (P := Tryz.prog) 50 3 48 2 Tryz.underlying50 size_env (by omega) X 84 j hj
  have HAL : Hid (∀ Q v, Below W.heap.size W Q → Ints Q v (reach M (E.getD j ez).t) → Calls Tryz.prog 54 #[.agg L.toArray, .map (some (bs j)), v] Q (BRes (alw I (reach M (E.getD j ez).t) (E.getD j ez).r) Q)) := Lib.hid (fun Q v hQ hv => kallow_any Q M I E bs R L (h.below hQ).l (bs j) _ ((h.l.set j hj).below hQ) v _ hv (fun f hf => reach_in hf) (by have := reach_len M (E.getD j ez).t; omega))
  have FS : Hid (∀ Q, Below W.heap.size W Q → Q.rangeAt X 0 L ∧ Q.cell? ⟨X, 84 + j * 2, none⟩ = some (.map (some (bs j)))) := Lib.hid (fun Q hQ => ⟨(h.below hQ).at0, (hQ.cell (p := ⟨X, 84 + j * 2, none⟩) (cell_lt hm)).trans hm⟩)
  have HLK : Hid (∀ Q : World, Q.rangeAt X 0 L → (do let l ← Instr.loadAt 67 (.pointer (some ⟨X, 0, none⟩)); pure (Next.value l) : Sem Next).run Tryz.prog Q = .ok (.value (.agg L.toArray)) Q) := Lib.hid (fun Q hh => load_run 67 X 0 L _ hh Tryz.underlying67 rfl (info_kernel HLL.out))
  have hj0 : (0 : Int) ≤ (j : Int) := by omega
  have hj3 : (j : Int) < 3 := by omega
  generalize alw I (reach M (E.getD j ez).t) (E.getD j ez).r = q at HAL ⊢
  obtain ⟨fs, hfs⟩ : ∃ fs, fs = reach M (E.getD j ez).t := ⟨_, rfl⟩
  rw [← hfs] at HRE HAL
  obtain ⟨b, hbb⟩ : ∃ b, b = bs j := ⟨_, rfl⟩
  rw [← hbb] at HAL FS
  clear h hfs hb hj hm hbb
  go_enter Tryz.func53, Tryz.ntmps53
  go_wp2_with fail
  refine wp_region_held_drew (S := fun w' => w'.rangeAt X 0 L ∧ w'.cell? ⟨X, 84 + j * 2, none⟩ = some (.map (some b))) (by kernel_rfl) (FS.out _ (Below.refl _ _).drew) (fun hHeld => ?_)
  refine wpAnyH_take (i := 0) (oi := { dst := some 4, op := .load 67 (.tmp 1), type := _, pos := _, after := _, guard := none }) (v := .agg L.toArray) rfl (by kernel_rfl) (by kernel_rfl) (by kernel_rfl) (fun _ _ _ h => h) (Or.inl ⟨by rfl, fun wh hSw => ?_⟩) hHeld ?_
  · (simp only [execOp]; exact HLK.out _ hSw.1)
  try simp only [Act.put, List.setIfInBounds_toArray, List.set_cons_zero, List.set_cons_succ]
  refine wpAnyH_take (i := 1) (oi := { dst := some 5, op := .move (.tmp 0), type := _, pos := _, after := _, guard := none }) (v := .int .i64 (j : Int)) rfl (by kernel_rfl) (by kernel_rfl) (by kernel_rfl) (fun _ _ _ h => h) (Or.inl ⟨by rfl, fun wh hSw => ?_⟩) hHeld ?_
  · (obtain ⟨s0, s1⟩ := hSw; go_simp)
  try simp only [Act.put, List.setIfInBounds_toArray, List.set_cons_zero, List.set_cons_succ]
  refine wpAnyH_take (i := 2) (oi := { dst := some 6, op := .fieldAddr 67 (.tmp 1) 2, type := _, pos := _, after := _, guard := none }) (v := .pointer (some ⟨X, 84, none⟩)) rfl (by kernel_rfl) (by kernel_rfl) (by kernel_rfl) (fun _ _ _ h => h) (Or.inl ⟨by rfl, fun wh hSw => ?_⟩) hHeld ?_
  · (obtain ⟨s0, s1⟩ := hSw; go_simp)
  try simp only [Act.put, List.setIfInBounds_toArray, List.set_cons_zero, List.set_cons_succ]
  refine wpAnyH_take (i := 3) (oi := { dst := some 7, op := .indexAddr 50 (.tmp 6) (.tmp 5), type := _, pos := _, after := _, guard := none }) (v := .pointer (some ⟨X, 84 + j * 2, none⟩)) rfl (by kernel_rfl) (by kernel_rfl) (by kernel_rfl) (fun _ _ _ h => h) (Or.inl ⟨by rfl, fun wh hSw => ?_⟩) hHeld ?_
  · (obtain ⟨s0, s1⟩ := hSw; go_simp)
  try simp only [Act.put, List.setIfInBounds_toArray, List.set_cons_zero, List.set_cons_succ]
  refine wpAnyH_take (i := 4) (oi := { dst := some 8, op := .fieldAddr 48 (.tmp 7) 0, type := _, pos := _, after := _, guard := none }) (v := .pointer (some ⟨X, 84 + j * 2, none⟩)) rfl (by kernel_rfl) (by kernel_rfl) (by kernel_rfl) (fun _ _ _ h => h) (Or.inl ⟨by rfl, fun wh hSw => ?_⟩) hHeld ?_
  · (obtain ⟨s0, s1⟩ := hSw; go_simp)
  try simp only [Act.put, List.setIfInBounds_toArray, List.set_cons_zero, List.set_cons_succ]
  refine wpAnyH_take (i := 5) (oi := { dst := some 9, op := .load 46 (.tmp 8), type := _, pos := _, after := _, guard := none }) (v := .map (some b)) rfl (by kernel_rfl) (by kernel_rfl) (by kernel_rfl) (fun _ _ _ h => h) (Or.inl ⟨by rfl, fun wh hSw => ?_⟩) hHeld ?_
  · (obtain ⟨s0, s1⟩ := hSw; go_simp)
  try simp only [Act.put, List.setIfInBounds_toArray, List.set_cons_zero, List.set_cons_succ]
  refine wpAnyH_take (i := 6) (oi := { dst := some 10, op := .load 67 (.tmp 1), type := _, pos := _, after := _, guard := none }) (v := .agg L.toArray) rfl (by kernel_rfl) (by kernel_rfl) (by kernel_rfl) (fun _ _ _ h => h) (Or.inl ⟨by rfl, fun wh hSw => ?_⟩) hHeld ?_
  · (simp only [execOp]; exact HLK.out _ hSw.1)
  try simp only [Act.put, List.setIfInBounds_toArray, List.set_cons_zero, List.set_cons_succ]
  refine wpAnyH_take (i := 7) (oi := { dst := some 11, op := .move (.tmp 0), type := _, pos := _, after := _, guard := none }) (v := .int .i64 (j : Int)) rfl (by kernel_rfl) (by kernel_rfl) (by kernel_rfl) (fun _ _ _ h => h) (Or.inl ⟨by rfl, fun wh hSw => ?_⟩) hHeld ?_
  · (obtain ⟨s0, s1⟩ := hSw; go_simp)
  try simp only [Act.put, List.setIfInBounds_toArray, List.set_cons_zero, List.set_cons_succ]
  refine wpAnyH_ready (rs := [8]) (by kernel_rfl) (by simp) ?_
  refine AllReadyH.cons (o := { dst := some 12, op := .call { callee := .value (.func 55), args := #[.tmp 10, .tmp 11], argTypes := #[67, 3] }, type := _, pos := _, after := _, guard := none }) rfl (fun K hK => ?_) AllReadyH.nil
  go_simp
  refine HRE.out.mono ?_
  rintro _ W2 ⟨v2, rfl, hi2, hb2⟩
  have HB2 : Hid (Below W.heap.size W W2) := Lib.hid ((Below.refl _ _).drew.trans hb2)
  have HC2 := Lib.hid (HAL.out W2 v2 HB2.out hi2.ints)
  clear hi2 hb2
  try go_simp
  refine hK.out _ _ ?_ (fun hHeld => ?_)
  · exact FS.out _ HB2.out
  clear hK K
  try simp only [Act.put, List.setIfInBounds_toArray, List.set_cons_zero, List.set_cons_succ]
  refine wpAnyH_ready (rs := [9]) (by kernel_rfl) (by simp) ?_
  refine AllReadyH.cons (o := { dst := some 13, op := .call { callee := .value (.func 54), args := #[.tmp 4, .tmp 9, .tmp 12], argTypes := #[67, 46, 92] }, type := _, pos := _, after := _, guard := none }) rfl (fun K hK => ?_) AllReadyH.nil
  go_simp
  refine HC2.out.mono ?_
  rintro _ W3 ⟨rfl, hb3⟩
  have HB3 := Lib.hid (HB2.out.trans (hb3.mono HB2.out.size))
  clear hb3
  try go_simp
  refine hK.out _ _ ?_ (fun hHeld => ?_)
  · exact FS.out _ HB3.out
  clear hK K
  try simp only [Act.put, List.setIfInBounds_toArray, List.set_cons_zero, List.set_cons_succ]
  refine wpAnyH_take (i := 10) (oi := { dst := some 3, op := .assign (.tmp 13), type := _, pos := _, after := _, guard := none }) (v := .bool q) rfl (by kernel_rfl) (by kernel_rfl) (by kernel_rfl) (fun _ _ _ h => h) (Or.inl ⟨by rfl, fun wh hSw => ?_⟩) hHeld ?_
  · (obtain ⟨s0, s1⟩ := hSw; go_simp)
  try simp only [Act.put, List.setIfInBounds_toArray, List.set_cons_zero, List.set_cons_succ]
  refine wpAnyH_done (by kernel_rfl) ?_ _
  go_wp2_with fail
  go_ret
  exact ⟨rfl, HB3.out⟩
end Go.Proofs.YthfdkenidfnmgaaGreat
namespace Go.Proofs.YthfdkenidfnmgaaGreat
open Go.ChangeShapes Go.WideShapes Go.ChangeAt Go.RowKit Go.Maps
set_option linter.unusedVariables false
set_option linter.unusedSimpArgs false
set_option maxRecDepth 100000
theorem ret2K {x y : Int} {b : Bool} (h : x = y) : Ending.returned (.tuple #[.int .i64 x, .bool b]) = Ending.returned (.tuple #[.int .i64 y, .bool b]) := by rw [h]
theorem iofK_yes (p : Int) (w : World) (h0 : 0 ≤ p) (h1 : p < 16) :
    Calls Tryz.prog 78 #[.int .i64 p, .int .i64 0] w fun e w' => e = .returned (.tuple #[.int .i64 (4 * p), .bool true]) ∧ w = w' := by
  have h4 : p < 16 := by omega
  go_enter Tryz.func78, Tryz.ntmps78
  go_wp2
  go_ret2
  exact ⟨ret2K (by omega), rfl⟩
theorem walkF_none {M : List (List Int)} {t a : Int} (h : t < 0) : walkF M t a = ⟨0, 0, false, 3⟩ := walk_bad (fun hh => by have := hh.2.1.1; omega)
set_option maxHeartbeats 2000000 in
theorem translates_any (w : World) (M : List (List Int)) (I : List IV) (E : List EV) (bs : Nat → Nat) (R L : List Value) (h : KL w M I E bs R L) (x : CV) (hx : cvOk x = true) (hb : ∀ j, j < 3 → -1 ≤ (E.getD j ez).t ∧ (E.getD j ez).t ≤ 11) :
    Calls Tryz.prog 63 #[.agg L.toArray, cvV x] w (BRes (cach1 M E x) w) := by
  obtain ⟨xe, xp, xf, xb⟩ := x
  have hcv : (0 ≤ xe ∧ xe < 3) ∧ 0 ≤ xp ∧ xp < 16 := by
    unfold cvOk at hx
    rw [Bool.and_eq_true, Bool.and_eq_true, inR_iff, inR_iff] at hx
    dsimp only at hx
    omega
  obtain ⟨⟨e0, e3⟩, p0, p16⟩ := hcv
  obtain ⟨j, rfl⟩ := Int.eq_ofNat_of_zero_le e0
  have hj : j < 3 := by omega
  have hbj := hb j hj
  have HPL : Hid (∀ W, Below w.heap.size w W → Calls Tryz.prog 79 #[.agg L.toArray, .int .i64 (j : Int), .int .i64 (4 * xp)] W (WalkRes W (walkF M (E.getD j ez).t (4 * xp)))) := Lib.hid (fun W hW => place_any W M I E bs R L (h.below hW) j hj (4 * xp) hbj)
  have HIO := Lib.hid (fun w => iofK_yes xp w p0 p16)
  have HLL := Lib.hid h.len
  have hce : cach1 M E ⟨(j : Int), xp, xf, xb⟩ = decide ((walkF M (E.getD j ez).t (4 * xp)).c = 0 ∧ (walkF M (E.getD j ez).t (4 * xp)).f = xf ∧ (walkF M (E.getD j ez).t (4 * xp)).b = xb) := by
    unfold cach1
    dsimp only
    rw [show rootOf E (j : Int) = (E.getD j ez).t from by unfold rootOf; rw [Int.toNat_natCast]]
    by_cases h0 : 0 ≤ (E.getD j ez).t
    · rw [decide_eq_true h0, Bool.true_and]
    · rw [decide_eq_false h0, Bool.false_and, walkF_none (by omega)]
      symm
      exact decide_eq_false (fun hh => by have := hh.1; dsimp only at this; omega)
  rw [hce]
  obtain ⟨p, hp⟩ : ∃ p, p = walkF M (E.getD j ez).t (4 * xp) := ⟨_, rfl⟩
  rw [← hp] at HPL ⊢
  obtain ⟨pf, pt, pb, pc⟩ := p
  unfold WalkRes plV at HPL
  dsimp only at HPL ⊢
  have HD : Hid (decide (pc = 0 ∧ pf = xf ∧ pb = xb) = ((pc == 0) && ((pf == xf) && (pb == xb)))) := Lib.hid (by
    rw [Bool.eq_iff_iff, decide_eq_true_iff]; simp)
  rw [HD.out]
  obtain ⟨q1, hq1⟩ : ∃ q, q = (pc == 0) := ⟨_, rfl⟩
  obtain ⟨q2, hq2⟩ : ∃ q, q = (pf == xf) := ⟨_, rfl⟩
  obtain ⟨q3, hq3⟩ : ∃ q, q = (pb == xb) := ⟨_, rfl⟩
  rw [← hq1, ← hq2, ← hq3]
  have HQ1 := Lib.hid hq1.symm
  have HQ2 := Lib.hid hq2.symm
  have HQ3 := Lib.hid hq3.symm
  clear hq1 hq2 hq3 HD
  obtain ⟨W0, hW0⟩ : ∃ W0, W0 = w.alloc (.cells L.toArray 67) := ⟨_, rfl⟩
  obtain ⟨W1, hW1⟩ : ∃ W1, W1 = W0.alloc (.cells #[.int .i64 (j : Int), .int .i64 xp, .int .i64 xf, .bool xb] 62) := ⟨_, rfl⟩
  have HB0 : Hid (Below w.heap.size w W0) := Lib.hid (by rw [hW0]; exact (Below.refl _ _).alloc (Nat.le_refl _) _)
  have HB1 : Hid (Below w.heap.size w W1) := Lib.hid (by rw [hW1]; exact HB0.out.alloc HB0.out.size _)
  have HB01 : Hid (Below W0.heap.size W0 W1) := Lib.hid (by rw [hW1]; exact (Below.refl _ _).alloc (Nat.le_refl _) _)
  have HZ0 : Hid (w.heap.size < W0.heap.size) := Lib.hid (by rw [hW0]; simp)
  have HZ1 : Hid (W0.heap.size < W1.heap.size) := Lib.hid (by rw [hW1]; simp)
  have HR0 : Hid (W1.rangeAt w.heap.size 0 L) := Lib.hid (range_blocks (by rw [hW0]; exact range_row (heap_alloc_new w _)) (HB01.out.block _ HZ0.out))
  have HXC : Hid (∀ W, Below W1.heap.size W1 W → W.cell? ⟨W0.heap.size, 0, none⟩ = some (.int .i64 (j : Int)) ∧ W.cell? ⟨W0.heap.size, 1, none⟩ = some (.int .i64 xp) ∧ W.cell? ⟨W0.heap.size, 2, none⟩ = some (.int .i64 xf) ∧ W.cell? ⟨W0.heap.size, 3, none⟩ = some (.bool xb)) := Lib.hid (fun W hW => by
    have e : ∀ i v, (#[.int .i64 (j : Int), .int .i64 xp, .int .i64 xf, .bool xb] : Array Value)[i]? = some v → W.cell? ⟨W0.heap.size, i, none⟩ = some v := fun i v hv => (hW.cell (p := ⟨W0.heap.size, i, none⟩) HZ1.out).trans (by rw [hW1]; exact new_cell hv)
    exact ⟨e 0 _ rfl, e 1 _ rfl, e 2 _ rfl, e 3 _ rfl⟩)
  have HW0 := Lib.hid hW0
  have HW1 := Lib.hid hW1
  obtain ⟨c0, c1, c2, c3⟩ := HXC.out W1 (Below.refl _ _)
  clear hW0 hW1 h hce hp hx hb hbj e0
  go_enter Tryz.func63, Tryz.ntmps63
  go_wp2_with (first | ((with_reducible refine box_is 67 (.tmp 0) ?_); refine box_arr 67 (.tmp 0) L.toArray rfl ?_; rw [← HW0.out]) | ((with_reducible refine box_is 62 (.tmp 1) ?_); refine box_arr 62 (.tmp 1) #[.int .i64 (j : Int), .int .i64 xp, .int .i64 xf, .bool xb] rfl ?_; rw [← HW1.out]) | fail)
  refine (HIO.out _).mono ?_
  rintro _ w' ⟨rfl, rfl⟩
  go_wp2_with (first | ((with_reducible refine load_is 67 (.tmp 2) ?_); refine load_arr 67 (.tmp 2) w.heap.size 0 L _ rfl HR0.out Tryz.underlying67 rfl (info_kernel HLL.out) ?_) | fail)
  refine (HPL.out W1 HB1.out).mono ?_
  rintro _ W2 ⟨rfl, hb2⟩
  clear c0 c1 c2 c3
  obtain ⟨c0, c1, c2, c3⟩ := HXC.out W2 hb2
  have HBE : Hid (∀ o, Below w.heap.size w (W2.alloc o)) := Lib.hid (fun o => (HB1.out.trans (hb2.mono HB1.out.size)).alloc (by have := HB1.out.size; have := hb2.size; omega) o)
  have hz2 : W0.heap.size < W2.heap.size := by have := HZ1.out; have := hb2.size; omega
  clear hb2
  have hq1 := HQ1.out
  have hq2 := HQ2.out
  have hq3 := HQ3.out
  cases q1
  · go_wp2_with fail
    go_ret
    exact ⟨rfl, HBE.out _⟩
  · cases q2
    · go_wp2_with fail
      go_ret
      exact ⟨rfl, HBE.out _⟩
    · go_wp2_with fail
      go_ret
      exact ⟨rfl, HBE.out _⟩
end Go.Proofs.YthfdkenidfnmgaaGreat
