/- The walk of the exact statement of CacheFind, out of contracts of the program and of the reference that answer the same. -/
import Derived.Test.YtklclcbhghjjfaaExCacheValid
namespace Go.Proofs.Ytklclcbhghjjfaa
open Go.ChangeShapes Go.WideShapes Go.ChangeAt Go.RowKit
set_option linter.unusedVariables false

theorem four_new (w : World) (x : CV) (t : TypeId) : Four (w.alloc (.cells #[.int .i64 x.e, .int .i64 x.p, .int .i64 x.f, .bool x.b] t)) w.heap.size 0 x := by
  have e := fun j => cell_of_row _ w.heap.size j _ t (0, 0) (heap_alloc_new w (.cells #[.int .i64 x.e, .int .i64 x.p, .int .i64 x.f, .bool x.b] t))
  exact ⟨(e 0).trans rfl, (e 1).trans rfl, (e 2).trans rfl, (e 3).trans rfl⟩
set_option maxHeartbeats 400000 in
theorem exCacheFind_walk (W : World) (v0 : Value) (xs : List CV) (r : FV) (e p : Int) (h : Cs W v0 xs)
    (hS : ∀ w v, Cs w v xs → Calls Try.prog 25 #[v, .int .i64 e, .int .i64 p] w (FindRes w r))
    (hI : ∀ w v, Cs w v xs → Calls Try.prog 18 #[v, .int .i64 e, .int .i64 p] w (FindRes w r)) :
    Calls Try.prog 11 #[v0, .int .i64 e, .int .i64 p] W fun en w' => en = .returned (.bool true) ∧ Below W.heap.size W w' := by
  have HSPEC := Lib.hid hS
  have HIMPL := Lib.hid hI
  have H0 := Lib.hid h
  clear hS hI
  go_enter Try.func11, Try.ntmps11
  go_wp2_with fail
  refine (szCachedS_any W v0 xs 1048576 h (by omega)).mono ?_
  clear h
  rintro en w' ⟨rfl, rfl⟩
  by_cases hn : (xs.length : Int) ≤ 1048576
  · rw [if_pos hn]
    have hn' : xs.length ≤ 1048576 := by omega
    have hr1 : decide ((1048576 : Int) - (xs.length : Int) < 0) = false := by simp; omega
    go_wp2_with fail
    refine (toCachedS_any W v0 xs H0.out hn').mono ?_
    rintro en w1 ⟨u1, rfl, ho1, hb1⟩
    have B1 := Lib.hid hb1
    have R1 := Lib.hid ho1.cs
    have Z1 : W.heap.size ≤ w1.heap.size := hb1.size
    clear ho1 hb1
    go_wp2_with fail
    refine (HSPEC.out w1 u1 R1.out).mono ?_
    rintro en w2 ⟨rfl, hb2⟩
    obtain ⟨w2a, hw2a⟩ : ∃ w2a, w2a = w2.alloc (.cells #[.int .i64 r.x.e, .int .i64 r.x.p, .int .i64 r.x.f, .bool r.x.b] 25) := ⟨_, rfl⟩
    have hb2a : Below w1.heap.size w1 w2a := by rw [hw2a]; exact hb2.alloc hb2.size _
    have HFa : Hid (Four w2a w2.heap.size 0 r.x) := Lib.hid (by rw [hw2a]; exact four_new w2 r.x _)
    have HLa : Hid (w2.heap.size < w2a.heap.size) := Lib.hid (by rw [hw2a]; simp)
    have HWa := Lib.hid hw2a
    have B2 := Lib.hid (Below.chg B1.out (Chg.of_below hb2a) Z1 (.inr rfl))
    have Z2 : w1.heap.size ≤ w2a.heap.size := hb2a.size
    clear R1 B1 hb2 hb2a hw2a
    go_wp2_with fail
    rw [← HWa.out]
    refine (toCachedS_any w2a v0 xs (H0.out.below B2.out) hn').mono ?_
    rintro en w3 ⟨u3, rfl, ho3, hb3⟩
    have Z3 : w2a.heap.size ≤ w3.heap.size := hb3.size
    have B3 := Lib.hid (Below.chg B2.out (Chg.of_below hb3) (by omega) (.inr rfl))
    have O3 := Lib.hid ho3
    have HF3 : Hid (Four w3 w2.heap.size 0 r.x) := Lib.hid (HFa.out.below hb3 HLa.out)
    clear ho3 hb3 B2
    go_wp2_with fail
    refine (HIMPL.out w3 u3 O3.out.cs).mono ?_
    rintro en w4 ⟨rfl, hb4⟩
    obtain ⟨w4a, hw4a⟩ : ∃ w4a, w4a = w4.alloc (.cells #[.int .i64 r.x.e, .int .i64 r.x.p, .int .i64 r.x.f, .bool r.x.b] 25) := ⟨_, rfl⟩
    have hb4a : Below w3.heap.size w3 w4a := by rw [hw4a]; exact hb4.alloc hb4.size _
    have HF4 : Hid (Four w4a w4.heap.size 0 r.x) := Lib.hid (by rw [hw4a]; exact four_new w4 r.x _)
    have HL4 : Hid (w4.heap.size < w4a.heap.size) := Lib.hid (by rw [hw4a]; simp)
    have HF5 : Hid (Four w4a w2.heap.size 0 r.x) := Lib.hid (HF3.out.below hb4a (Nat.lt_of_lt_of_le HLa.out Z3))
    have HW4 := Lib.hid hw4a
    have C4 := Chg.of_below hb4a
    have Z4 := C4.size
    have B4 := Lib.hid (Below.chg B3.out C4 (by omega) (.inr rfl))
    have O4 := Lib.hid (O3.out.chg C4 (Nat.le_refl _) (.inr (by omega)))
    have hq := HF5.out
    rw [hw4a] at hq
    obtain ⟨q0, q1, q2, q3⟩ := hq
    simp only [Nat.zero_add] at q1 q2 q3
    have HE := Lib.hid (eqCached_any w4a r.x r.x)
    rw [decide_eq_true rfl] at HE
    clear C4 hb4 hb4a hw4a B3 O3
    go_wp2_with fail
    rw [← HW4.out]
    refine HE.out.mono ?_
    rintro en w5 ⟨rfl, hb5⟩
    have C5 := Chg.of_below hb5
    have Z5 := C5.size
    have B5 := Lib.hid (Below.chg B4.out C5 (by omega) (.inr rfl))
    have O5 := Lib.hid (O4.out.chg C5 (by omega) (.inr (by omega)))
    clear C5 hb5 B4 O4
    have hbb : (r.b != r.b) = false := by simp
    go_wp2_with fail
    refine (toCachedS_any w5 v0 xs (H0.out.below B5.out) hn').mono ?_
    rintro en w6 ⟨u6, rfl, ho6, hb6⟩
    have C6 := Chg.of_below hb6
    have Z6 := C6.size
    have R6 := Lib.hid ho6.cs
    have B6 := Lib.hid (Below.chg B5.out C6 (by omega) (.inr rfl))
    have O6 := Lib.hid (O5.out.chg C6 (by omega) (.inr (by omega)))
    clear C6 B5 O5 ho6 hb6
    go_wp2_with fail
    refine (eqC_same w6 u3 u6 xs O6.out.cs R6.out).mono ?_
    rintro en w7 ⟨rfl, C7⟩
    have B7 := Lib.hid (Below.chg B6.out C7 (by omega) (.inr rfl))
    clear C7 B6 O6 R6
    go_wp2_with fail
    go_ret
    exact ⟨rfl, B7.out⟩
  · rw [if_neg hn]
    go_wp2_with fail
    go_ret
    exact ⟨rfl, Below.refl _ _⟩
end Go.Proofs.Ytklclcbhghjjfaa
