/- What the program's Walk returns at all arguments. -/
import Derived.Test.YtdockkmodjbfpaaImplT
namespace Go.Proofs.Ytdockkmodjbfpaa
open Go.ChangeShapes Go.WideShapes Go.ChangeAt Go.RowKit Go.Shelf
set_option linter.unusedVariables false

theorem write_of (w : World) (x : Int) (h : goodB x) : Calls Try.prog 51 #[.int .i64 x] w fun e w' => e = .returned (.bool (decide (x % 4 = 3))) ∧ w = w' := by
  obtain ⟨h0, h1, h2⟩ := h
  have h3 : 0 ≤ x := by omega
  by_cases hc : x % 4 = 3
  · have e3 : (x % 4 == 3) = true := by simpa using hc
    rw [decide_eq_true hc]
    clear hc
    go_enter Try.func51, Try.ntmps51
    go_wp2
    go_ret
    exact ⟨rfl, rfl⟩
  · have e3 : (x % 4 == 3) = false := by simpa using hc
    rw [decide_eq_false hc]
    clear hc
    go_enter Try.func51, Try.ntmps51
    go_wp2
    go_ret
    exact ⟨rfl, rfl⟩

theorem heap2 (w : World) (o : Obj) {C : Array Value} {t : TypeId} : ((w.alloc o).alloc (.cells C t)).heap[w.heap.size + 1]? = some (.cells C t (0, 0)) := by
  have := heap_alloc_new (w.alloc o) (.cells C t)
  rwa [World.size_alloc] at this
set_option maxRecDepth 100000 in
set_option maxHeartbeats 1000000 in
theorem mw_top (w : World) (cs : List Value) (hs : cs.length = 48) (ho : cs.toArray.all (·.oneCell') = true) (r i : Nat) (j t x : Int) (hr : r < 12) (hi : i < 4) (hx : cs[r * 4 + i]? = some (.int .i64 x)) (hb0 : 0 ≤ x) (hb1 : x ≤ 9999) (hg : ¬ goodB x) :
    Calls Try.prog 46 #[.agg cs.toArray, .int .i64 r, .int .i64 i, .int .i64 j, .int .i64 t] w (WalkRes w ⟨0, 0, false, 1⟩) := by
  have hix := run_indexAt_arr (P := Try.prog) 60 12 58 4 Try.underlying60 size_words (by omega) w.heap.size r hr
  have hjx := fun W => run_indexAt_part (P := Try.prog) 58 4 _ Try.underlying58 (fun w => Try.sizeOf3 w) (by omega) w.heap.size (r * 4) i hi W
  have HC : ∀ ob, ((w.alloc (.cells cs.toArray 60)).alloc ob).cell? ⟨w.heap.size, r * 4 + i, none⟩ = some (.int .i64 x) := fun ob => by
    have h1 : (w.alloc (.cells cs.toArray 60)).cell? ⟨w.heap.size, r * 4 + i, none⟩ = some (.int .i64 x) := by
      rw [cell_of_row _ _ _ _ _ _ (heap_alloc_new w _)]
      simpa using hx
    exact (World.cell?_alloc_lt _ ob _ (cell_lt h1)).trans h1
  have HN := Lib.hid (fun w => names_no w x hg hb0 hb1)
  have HO := Lib.hid ho
  obtain ⟨R, HRR⟩ : ∃ R : Ending → World → Prop, Hid (R = WalkRes w ⟨0, 0, false, 1⟩) := ⟨_, Lib.hid rfl⟩
  rw [← HRR.out]
  have HB : Hid (∀ o1 o2, Below w.heap.size w ((w.alloc o1).alloc o2)) := Lib.hid (fun o1 o2 => ((Below.refl _ _).alloc (Nat.le_refl _) o1).alloc (by simp) o2)
  clear hx hg hb0 hb1 ho
  go_enter Try.func46, Try.ntmps46
  go_wp2_with (first | ((with_reducible refine box_is 60 (.tmp 0) ?_); refine box_arr 60 (.tmp 0) cs.toArray rfl ?_) | (go_at_call 49; refine (HN.out _).mono ?_; rintro e w' ⟨rfl, rfl⟩))
  refine bodyPost_ret (results_cell_mid rfl _ _ (w.heap.size + 1) 0 [.int .i64 (0), .int .i64 (0), .bool false] _ rfl (range_row (heap2 w _)) Try.underlying27 rfl (by kernel_rfl)) rfl ?_
  rw [HRR.out]
  exact ⟨rfl, HB.out _ _⟩
set_option maxRecDepth 100000 in
set_option maxHeartbeats 1000000 in
theorem mw_low (w : World) (cs : List Value) (hs : cs.length = 48) (ho : cs.toArray.all (·.oneCell') = true) (r i j f : Nat) (t x y : Int) (hr : r < 12) (hi : i < 4) (hx : cs[r * 4 + i]? = some (.int .i64 x)) (hb0 : 0 ≤ x) (hb1 : x ≤ 9999) (hg : goodB x) (hj : j < 4) (hf : x / 4 = (f : Int)) (hf12 : f < 12) (hy : cs[f * 4 + j]? = some (.int .i64 y)) (hy0 : 0 ≤ y) (hy1 : y ≤ 9999) (hgy : ¬ goodB y) :
    Calls Try.prog 46 #[.agg cs.toArray, .int .i64 r, .int .i64 i, .int .i64 j, .int .i64 t] w (WalkRes w ⟨0, 0, false, 2⟩) := by
  have hix := run_indexAt_arr (P := Try.prog) 60 12 58 4 Try.underlying60 size_words (by omega) w.heap.size r hr
  have hjx := fun W => run_indexAt_part (P := Try.prog) 58 4 _ Try.underlying58 (fun w => Try.sizeOf3 w) (by omega) w.heap.size (r * 4) i hi W
  have HC : ∀ ob, ((w.alloc (.cells cs.toArray 60)).alloc ob).cell? ⟨w.heap.size, r * 4 + i, none⟩ = some (.int .i64 x) := fun ob => by
    have h1 : (w.alloc (.cells cs.toArray 60)).cell? ⟨w.heap.size, r * 4 + i, none⟩ = some (.int .i64 x) := by
      rw [cell_of_row _ _ _ _ _ _ (heap_alloc_new w _)]
      simpa using hx
    exact (World.cell?_alloc_lt _ ob _ (cell_lt h1)).trans h1
  have hix2 := run_indexAt_arr (P := Try.prog) 60 12 58 4 Try.underlying60 size_words (by omega) w.heap.size f hf12
  have hjx2 := fun W => run_indexAt_part (P := Try.prog) 58 4 _ Try.underlying58 (fun w => Try.sizeOf3 w) (by omega) w.heap.size (f * 4) j hj W
  have HC2 : ∀ ob, ((w.alloc (.cells cs.toArray 60)).alloc ob).cell? ⟨w.heap.size, f * 4 + j, none⟩ = some (.int .i64 y) := fun ob => by
    have h1 : (w.alloc (.cells cs.toArray 60)).cell? ⟨w.heap.size, f * 4 + j, none⟩ = some (.int .i64 y) := by
      rw [cell_of_row _ _ _ _ _ _ (heap_alloc_new w _)]
      simpa using hy
    exact (World.cell?_alloc_lt _ ob _ (cell_lt h1)).trans h1
  have HN := Lib.hid (fun w => names_yes w x hg)
  have HFR := Lib.hid (fun w => frame_of w x hb0 hb1)
  rw [hf] at HFR
  have HN2 := Lib.hid (fun w => names_no w y hgy hy0 hy1)
  have HO := Lib.hid ho
  obtain ⟨R, HRR⟩ : ∃ R : Ending → World → Prop, Hid (R = WalkRes w ⟨0, 0, false, 2⟩) := ⟨_, Lib.hid rfl⟩
  rw [← HRR.out]
  have HB : Hid (∀ o1 o2, Below w.heap.size w ((w.alloc o1).alloc o2)) := Lib.hid (fun o1 o2 => ((Below.refl _ _).alloc (Nat.le_refl _) o1).alloc (by simp) o2)
  clear hx hg hb0 hb1 ho hf hy hy0 hy1 hgy
  go_enter Try.func46, Try.ntmps46
  go_wp2_with (first | ((with_reducible refine box_is 60 (.tmp 0) ?_); refine box_arr 60 (.tmp 0) cs.toArray rfl ?_) | (go_at_call 49; refine (HN.out _).mono ?_; clear HN; rintro e w' ⟨rfl, rfl⟩) | (go_at_call 49; refine (HN2.out _).mono ?_; rintro e w' ⟨rfl, rfl⟩) | (go_at_call 50; refine (HFR.out _).mono ?_; rintro e w' ⟨rfl, rfl⟩))
  refine bodyPost_ret (results_cell_mid rfl _ _ (w.heap.size + 1) 0 [.int .i64 (0), .int .i64 (0), .bool false] _ rfl (range_row (heap2 w _)) Try.underlying27 rfl (by kernel_rfl)) rfl ?_
  rw [HRR.out]
  exact ⟨rfl, HB.out _ _⟩
set_option maxRecDepth 100000 in
set_option maxHeartbeats 1000000 in
theorem mw_done (w : World) (cs : List Value) (hs : cs.length = 48) (ho : cs.toArray.all (·.oneCell') = true) (r i j f : Nat) (t x y : Int) (hr : r < 12) (hi : i < 4) (hx : cs[r * 4 + i]? = some (.int .i64 x)) (hb0 : 0 ≤ x) (hb1 : x ≤ 9999) (hg : goodB x) (hj : j < 4) (hf : x / 4 = (f : Int)) (hf12 : f < 12) (hy : cs[f * 4 + j]? = some (.int .i64 y)) (hy0 : 0 ≤ y) (hy1 : y ≤ 9999) (hgy : goodB y) :
    Calls Try.prog 46 #[.agg cs.toArray, .int .i64 r, .int .i64 i, .int .i64 j, .int .i64 t] w (WalkRes w ⟨y / 4, t, decide (x % 4 = 3) && decide (y % 4 = 3), 0⟩) := by
  have hix := run_indexAt_arr (P := Try.prog) 60 12 58 4 Try.underlying60 size_words (by omega) w.heap.size r hr
  have hjx := fun W => run_indexAt_part (P := Try.prog) 58 4 _ Try.underlying58 (fun w => Try.sizeOf3 w) (by omega) w.heap.size (r * 4) i hi W
  have HC : ∀ ob, ((w.alloc (.cells cs.toArray 60)).alloc ob).cell? ⟨w.heap.size, r * 4 + i, none⟩ = some (.int .i64 x) := fun ob => by
    have h1 : (w.alloc (.cells cs.toArray 60)).cell? ⟨w.heap.size, r * 4 + i, none⟩ = some (.int .i64 x) := by
      rw [cell_of_row _ _ _ _ _ _ (heap_alloc_new w _)]
      simpa using hx
    exact (World.cell?_alloc_lt _ ob _ (cell_lt h1)).trans h1
  have hix2 := run_indexAt_arr (P := Try.prog) 60 12 58 4 Try.underlying60 size_words (by omega) w.heap.size f hf12
  have hjx2 := fun W => run_indexAt_part (P := Try.prog) 58 4 _ Try.underlying58 (fun w => Try.sizeOf3 w) (by omega) w.heap.size (f * 4) j hj W
  have HC2 : ∀ ob, ((w.alloc (.cells cs.toArray 60)).alloc ob).cell? ⟨w.heap.size, f * 4 + j, none⟩ = some (.int .i64 y) := fun ob => by
    have h1 : (w.alloc (.cells cs.toArray 60)).cell? ⟨w.heap.size, f * 4 + j, none⟩ = some (.int .i64 y) := by
      rw [cell_of_row _ _ _ _ _ _ (heap_alloc_new w _)]
      simpa using hy
    exact (World.cell?_alloc_lt _ ob _ (cell_lt h1)).trans h1
  have HN := Lib.hid (fun w => names_yes w x hg)
  have HFR := Lib.hid (fun w => frame_of w x hb0 hb1)
  rw [hf] at HFR
  have HN2 := Lib.hid (fun w => names_yes w y hgy)
  have HFR2 := Lib.hid (fun w => frame_of w y hy0 hy1)
  have HW1 := Lib.hid (fun w => write_of w x hg)
  have HW2 := Lib.hid (fun w => write_of w y hgy)
  obtain ⟨z, hz⟩ : ∃ z, z = y / 4 := ⟨_, rfl⟩
  obtain ⟨b1, hb1'⟩ : ∃ b1, b1 = decide (x % 4 = 3) := ⟨_, rfl⟩
  obtain ⟨b2, hb2'⟩ : ∃ b2, b2 = decide (y % 4 = 3) := ⟨_, rfl⟩
  rw [← hz] at HFR2 ⊢
  rw [← hb1'] at HW1 ⊢
  rw [← hb2'] at HW2 ⊢
  clear hz hb1' hb2'
  have HO := Lib.hid ho
  obtain ⟨R, HRR⟩ : ∃ R : Ending → World → Prop, Hid (R = WalkRes w ⟨z, t, b1 && b2, 0⟩) := ⟨_, Lib.hid rfl⟩
  rw [← HRR.out]
  have HB : Hid (∀ o1 o2, Below w.heap.size w ((w.alloc o1).alloc o2)) := Lib.hid (fun o1 o2 => ((Below.refl _ _).alloc (Nat.le_refl _) o1).alloc (by simp) o2)
  clear hx hg hb0 hb1 ho hf hy hy0 hy1 hgy
  cases b1 <;> cases b2 <;> skip
  all_goals
    go_enter Try.func46, Try.ntmps46
    go_wp2_with (first | ((with_reducible refine box_is 60 (.tmp 0) ?_); refine box_arr 60 (.tmp 0) cs.toArray rfl ?_) | (go_at_call 49; refine (HN.out _).mono ?_; clear HN; rintro e w' ⟨rfl, rfl⟩) | (go_at_call 49; refine (HN2.out _).mono ?_; rintro e w' ⟨rfl, rfl⟩) | (go_at_call 50; refine (HFR.out _).mono ?_; clear HFR; rintro e w' ⟨rfl, rfl⟩) | (go_at_call 50; refine (HFR2.out _).mono ?_; rintro e w' ⟨rfl, rfl⟩) | (go_at_call 51; refine (HW1.out _).mono ?_; clear HW1; rintro e w' ⟨rfl, rfl⟩) | (go_at_call 51; refine (HW2.out _).mono ?_; rintro e w' ⟨rfl, rfl⟩))
    refine bodyPost_ret (results_cell_mid rfl _ _ (w.heap.size + 1) 0 [.int .i64 z, .int .i64 t, .bool _] _ rfl (range_row (heap2 w _)) Try.underlying27 rfl (by kernel_rfl)) rfl ?_
    rw [HRR.out]
    exact ⟨rfl, HB.out _ _⟩
end Go.Proofs.Ytdockkmodjbfpaa
