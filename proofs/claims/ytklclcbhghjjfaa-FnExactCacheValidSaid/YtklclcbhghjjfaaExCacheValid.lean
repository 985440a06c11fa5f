/- The walks of the exact statements of CacheValid and CacheFind, out of contracts of the program and of the reference that answer the same. -/
import Derived.Test.YtklclcbhghjjfaaCHeld
namespace Go.Proofs.Ytklclcbhghjjfaa
open Go.ChangeShapes Go.WideShapes Go.ChangeAt Go.RowKit
set_option linter.unusedVariables false

theorem CsW.chg {lo hi B0 B1 : Nat} {w w' : World} {v : Value} {xs : List CV} (h : CsW w B0 B1 v xs) (c : Chg lo hi w w') (hB : B1 ≤ w.heap.size) (hh : B1 ≤ lo ∨ hi ≤ B0) : CsW w' B0 B1 v xs := by
  obtain ⟨a, cap, rfl, h1, h2, h3⟩ := h
  refine ⟨a, cap, rfl, h1, h2, fun i hi => ?_⟩
  obtain ⟨g, p, e, hg0, hg1, hf⟩ := h3 i hi
  exact ⟨g, p, e, hg0, hg1, hf.block (c.block g (by omega) (by omega))⟩
theorem eqC_same (w : World) (v u : Value) (xs : List CV) (h : Cs w v xs) (k : Cs w u xs) : Calls Try.prog 29 #[v, u] w fun e w' => e = .returned (.bool true) ∧ Chg 0 0 w w' :=
  (eqCachedS_any w v u xs xs h k).mono (by rintro e w' ⟨rfl, hb⟩; rw [decide_eq_true rfl]; exact ⟨rfl, Chg.of_below hb⟩)
set_option maxHeartbeats 400000 in
theorem exCacheValid_walk (W : World) (v0 : Value) (xs : List CV) (b : Bool) (h : Cs W v0 xs)
    (hS : ∀ w v, Cs w v xs → Calls Try.prog 23 #[v] w (BoolRes w b))
    (hI : ∀ w v, Cs w v xs → Calls Try.prog 19 #[v] w (BoolRes w b)) :
    Calls Try.prog 10 #[v0] W fun e w' => e = .returned (.bool true) ∧ Below W.heap.size W w' := by
  have HSPEC := Lib.hid hS
  have HIMPL := Lib.hid hI
  have H0 := Lib.hid h
  clear hS hI
  go_enter Try.func10, Try.ntmps10
  go_wp2_with fail
  refine (szCachedS_any W v0 xs 1048576 h (by omega)).mono ?_
  clear h
  rintro e w' ⟨rfl, rfl⟩
  by_cases hn : (xs.length : Int) ≤ 1048576
  · rw [if_pos hn]
    have hn' : xs.length ≤ 1048576 := by omega
    have hr1 : decide ((1048576 : Int) - (xs.length : Int) < 0) = false := by simp; omega
    go_wp2_with fail
    refine (toCachedS_any W v0 xs H0.out hn').mono ?_
    rintro e w1 ⟨u1, rfl, ho1, hb1⟩
    have B1 := Lib.hid hb1
    have R1 := Lib.hid ho1.cs
    have Z1 : W.heap.size ≤ w1.heap.size := hb1.size
    clear ho1 hb1
    go_wp2_with fail
    refine (HSPEC.out w1 u1 R1.out).mono ?_
    rintro e w2 ⟨rfl, hb2⟩
    have B2 := Lib.hid (Below.chg B1.out (Chg.of_below hb2) Z1 (.inr rfl))
    have Z2 : w1.heap.size ≤ w2.heap.size := hb2.size
    clear R1 B1 hb2
    go_wp2_with fail
    refine (toCachedS_any w2 v0 xs (H0.out.below B2.out) hn').mono ?_
    rintro e w3 ⟨u3, rfl, ho3, hb3⟩
    have Z3 : w2.heap.size ≤ w3.heap.size := hb3.size
    have B3 := Lib.hid (Below.chg B2.out (Chg.of_below hb3) (by omega) (.inr rfl))
    have O3 := Lib.hid ho3
    clear ho3 hb3 B2
    go_wp2_with fail
    refine (HIMPL.out w3 u3 O3.out.cs).mono ?_
    rintro e w4 ⟨rfl, hb4⟩
    have C4 := Chg.of_below hb4
    have Z4 := C4.size
    have B4 := Lib.hid (Below.chg B3.out C4 (by omega) (.inr rfl))
    have O4 := Lib.hid (O3.out.chg C4 (Nat.le_refl _) (.inr (by omega)))
    clear C4 hb4 B3 O3
    go_wp2_with fail
    refine (toCachedS_any w4 v0 xs (H0.out.below B4.out) hn').mono ?_
    rintro e w6 ⟨u6, rfl, ho6, hb6⟩
    have C6 := Chg.of_below hb6
    have Z6 := C6.size
    have R6 := Lib.hid ho6.cs
    have B6 := Lib.hid (Below.chg B4.out C6 (by omega) (.inr rfl))
    have O6 := Lib.hid (O4.out.chg C6 (by omega) (.inr (by omega)))
    clear C6 B4 O4 ho6 hb6
    go_wp2_with fail
    refine (eqC_same w6 u3 u6 xs O6.out.cs R6.out).mono ?_
    rintro e w7 ⟨rfl, C7⟩
    have B7 := Lib.hid (Below.chg B6.out C7 (by omega) (.inr rfl))
    clear C7 B6 O6 R6
    go_wp2_with fail
    go_ret
    exact ⟨rfl, B7.out⟩
  · rw [if_neg hn]
    go_wp2_with fail
    go_ret
    exact ⟨rfl, Below.refl _ _⟩
end Go.Proofs.Ytklclcbhghjjfaa
