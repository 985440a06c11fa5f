/- The walk of the exact statement of Walk, out of contracts of the program and of the reference that return the same. -/
import Derived.Test.YtdockkmodjbfpaaSWalk
namespace Go.Proofs.Ytdockkmodjbfpaa
open Go.ChangeShapes Go.WideShapes Go.ChangeAt Go.RowKit
set_option linter.unusedVariables false

theorem eqPlace_same (w : World) (f t : Int) (b : Bool) :
    Calls Try.prog 30 #[.agg #[.int .i64 f, .int .i64 t, .bool b], .agg #[.int .i64 f, .int .i64 t, .bool b]] w fun e w' => e = .returned (.bool true) ∧ Below w.heap.size w w' := by
  have HB : Hid (∀ o1 o2, Below w.heap.size w ((w.alloc o1).alloc o2)) := Lib.hid (fun o1 o2 => ((Below.refl _ _).alloc (Nat.le_refl _) o1).alloc (by simp) o2)
  cases b
  all_goals
    go_enter Try.func30, Try.ntmps30
    go_wp2
    go_ret
    exact ⟨rfl, HB.out _ _⟩

set_option maxHeartbeats 400000 in
theorem exWalk_walk (W : World) (v0 : Value) (xss : List (List Int)) (r a : Int) (f t c : Int) (bb : Bool) (h : Rows2 W v0 xss)
    (hS : ∀ w v, Rows2 w v xss → Calls Try.prog 14 #[v, .int .i64 r, .int .i64 a] w (WalkRes w ⟨f, t, bb, c⟩))
    (hI : ∀ w v, Rows2 w v xss → Calls Try.prog 13 #[v, .int .i64 r, .int .i64 a] w (WalkRes w ⟨f, t, bb, c⟩)) :
    Calls Try.prog 9 #[v0, .int .i64 r, .int .i64 a] W fun e w' => e = .returned (.bool true) ∧ Below W.heap.size W w' := by
  have HSPEC := Lib.hid hS
  have HIMPL := Lib.hid hI
  have H0 := Lib.hid h
  clear hS hI
  go_enter Try.func9, Try.ntmps9
  go_wp2_with fail
  refine (szIntSS_any W v0 xss 1048576 h (by omega) (by omega)).mono ?_
  clear h
  rintro e w' ⟨r0, hr, rfl, rfl⟩
  by_cases hr0 : r0 < 0
  · clear hr
    go_wp2_with fail
    go_ret
    exact ⟨rfl, Below.refl _ _⟩
  have hr1 : decide (r0 < 0) = false := by simp; omega
  have hn : xss.length + total xss ≤ 1048576 := by
    rcases hr with h' | ⟨h1, h2⟩
    · omega
    · omega
  clear hr hr0
  go_wp2_with fail
  refine (toIntSS_any W v0 xss H0.out hn).mono ?_
  rintro e w1 ⟨u1, rfl, ho1, hb1, hs1⟩
  have B1 := Lib.hid hb1
  have R1 := Lib.hid ho1.rows
  have Z1 : W.heap.size ≤ w1.heap.size := hb1.size
  clear ho1 hb1 hs1
  go_wp2_with fail
  refine (HSPEC.out w1 u1 R1.out).mono ?_
  rintro e w2 ⟨rfl, hb2⟩
  unfold plV
  have B2 := Lib.hid (Below.chg B1.out (Chg.of_below hb2) Z1 (.inr rfl))
  have Z2 : W.heap.size ≤ w2.heap.size := Nat.le_trans Z1 hb2.size
  clear hb2 B1 R1
  obtain ⟨wA, hwA⟩ : ∃ wA, wA = w2.alloc (.cells #[.int .i64 f, .int .i64 t, .bool bb] 27) := ⟨_, rfl⟩
  have HPA : Hid (wA.heap[w2.heap.size]? = some (.cells #[.int .i64 f, .int .i64 t, .bool bb] 27 (0, 0))) := Lib.hid (by rw [hwA]; exact heap_alloc_new w2 _)
  have BA : Hid (Below W.heap.size W wA) := Lib.hid (by rw [hwA]; exact B2.out.alloc Z2 _)
  have ZA : w2.heap.size < wA.heap.size := by rw [hwA]; simp
  clear B2
  go_wp2_with fail
  rw [← hwA]
  clear hwA
  refine (toIntSS_any wA v0 xss (H0.out.below BA.out) hn).mono ?_
  rintro e w3 ⟨u3, rfl, ho3, hb3, hs3⟩
  have Z3 := hb3.size
  have B3 := Lib.hid (Below.chg BA.out (Chg.of_below hb3) (by omega) (.inr rfl))
  have HP3 := Lib.hid ((hb3.block w2.heap.size ZA).trans HPA.out)
  have R3 := Lib.hid ho3.rows
  clear ho3 hb3 hs3 BA HPA
  go_wp2_with fail
  refine (HIMPL.out w3 u3 R3.out).mono ?_
  rintro e w4 ⟨rfl, hb4⟩
  unfold plV
  have Z4 := hb4.size
  have B4 := Lib.hid (Below.chg B3.out (Chg.of_below hb4) (by omega) (.inr rfl))
  have hp4 := (hb4.block w2.heap.size (by omega)).trans HP3.out
  have R4 := Lib.hid (R3.out.below hb4)
  clear hb4 B3 HP3 R3
  obtain ⟨wB, hwB⟩ : ∃ wB, wB = w4.alloc (.cells #[.int .i64 f, .int .i64 t, .bool bb] 27) := ⟨_, rfl⟩
  have BB : Hid (Below W.heap.size W wB) := Lib.hid (by rw [hwB]; exact B4.out.alloc (by omega) _)
  have ZB : w4.heap.size < wB.heap.size := by rw [hwB]; simp
  have RB : Hid (Rows2 wB u3 xss) := Lib.hid (by rw [hwB]; exact R4.out.below ((Below.refl _ _).alloc (Nat.le_refl _) _))
  have hPB : wB.heap[w4.heap.size]? = some (.cells #[.int .i64 f, .int .i64 t, .bool bb] 27 (0, 0)) := by rw [hwB]; exact heap_alloc_new w4 _
  have hPA : wB.heap[w2.heap.size]? = some (.cells #[.int .i64 f, .int .i64 t, .bool bb] 27 (0, 0)) := by rw [hwB]; exact (Below.heap_alloc _ _ _ (by omega)).trans hp4
  have q0 : ∀ ob : Obj, ob = .cells #[.int .i64 f, .int .i64 t, .bool bb] 27 → w4.alloc ob = wB := fun ob e => by rw [e, hwB]
  have HRA := Lib.hid (range_row hPA)
  have HRB := Lib.hid (range_row hPB)
  have HWB := Lib.hid hwB
  clear hp4 B4 R4 hPA hPB hwB q0
  have HIP : Hid ((Try.prog.info? 27).map (·.size) = some 3) := Lib.hid (by kernel_rfl)
  go_wp2_with (first
    | ((with_reducible refine load_is 27 (.tmp 11) ?_); rw [← HWB.out]; refine load_arr 27 (.tmp 11) w4.heap.size 0 [.int .i64 f, .int .i64 t, .bool bb] _ rfl HRB.out Try.underlying27 rfl HIP.out ?_)
    | ((with_reducible refine load_is 27 (.tmp 8) ?_); refine load_arr 27 (.tmp 8) w2.heap.size 0 [.int .i64 f, .int .i64 t, .bool bb] _ rfl HRA.out Try.underlying27 rfl HIP.out ?_))
  refine (eqPlace_same wB f t bb).mono ?_
  rintro e w5 ⟨rfl, hb5⟩
  have Z5 := hb5.size
  have B5 := Lib.hid (Below.chg BB.out (Chg.of_below hb5) (by omega) (.inr rfl))
  have R5 := Lib.hid (RB.out.below hb5)
  clear hb5 BB RB HRA HRB HWB
  go_wp2_with fail
  refine (toIntSS_any w5 v0 xss (H0.out.below B5.out) hn).mono ?_
  rintro e w6 ⟨u6, rfl, ho6, hb6, hs6⟩
  have Z6 := hb6.size
  have B6 := Lib.hid (Below.chg B5.out (Chg.of_below hb6) (by omega) (.inr rfl))
  have R6 := Lib.hid (R5.out.below hb6)
  have Q6 := Lib.hid ho6.rows
  clear ho6 hb6 hs6 B5 R5
  go_wp2_with fail
  refine (eq_c w6 u3 u6 xss R6.out Q6.out).mono ?_
  rintro e w7 ⟨rfl, C7⟩
  have B7 := Lib.hid (Below.chg B6.out C7 (by omega) (.inr rfl))
  clear C7 B6
  go_wp2_with fail
  go_ret
  exact ⟨rfl, B7.out⟩
end Go.Proofs.Ytdockkmodjbfpaa
