/- The walk of the exact statement of MemoryValid, out of contracts of the program and of the reference that return the same. -/
import Derived.Test.YtgdkeihmddpenaaChg
namespace Go.Proofs.Ytgdkeihmddpenaa
open Go.ChangeShapes Go.WideShapes Go.ChangeAt Go.RowKit
set_option linter.unusedVariables false

set_option maxHeartbeats 400000 in
theorem exMemoryValid_walk (W : World) (v0 : Value) (xss : List (List Int)) (b : Bool) (h : Rows2 W v0 xss)
    (hS : ∀ w v, Rows2 w v xss → Calls Try.prog 30 #[v] w fun e w' => e = .returned (.bool b) ∧ w = w')
    (hI : ∀ w v, Rows2 w v xss → Calls Try.prog 25 #[v] w fun e w' => e = .returned (.bool b) ∧ Below w.heap.size w w') :
    Calls Try.prog 9 #[v0] W fun e w' => e = .returned (.bool true) ∧ Below W.heap.size W w' := by
  have HSPEC := Lib.hid hS
  have HIMPL := Lib.hid hI
  have H0 := Lib.hid h
  clear hS hI
  go_enter Try.func9, Try.ntmps9
  go_wp2_with fail
  refine (szIntSS_any W v0 xss 1048576 h (by omega) (by omega)).mono ?_
  clear h
  rintro e w' ⟨r, hr, rfl, rfl⟩
  by_cases hr0 : r < 0
  · clear hr
    go_wp2_with fail
    go_ret
    exact ⟨rfl, Below.refl _ _⟩
  have hr1 : decide (r < 0) = false := by simp; omega
  have hn : xss.length + total xss ≤ 1048576 := by
    rcases hr with h' | ⟨h1, h2⟩
    · omega
    · omega
  clear hr hr0
  go_wp2_with fail
  refine (toIntSS_any W v0 xss H0.out hn).mono ?_
  rintro e w1 ⟨u1, rfl, ho1, hb1, hs1⟩
  have B1 := Lib.hid hb1
  have R1 := Lib.hid ho1.rows
  have Z1 : W.heap.size ≤ w1.heap.size := hb1.size
  clear ho1 hb1 hs1
  go_wp2_with fail
  refine (HSPEC.out w1 u1 R1.out).mono ?_
  rintro e w' ⟨rfl, rfl⟩
  clear R1
  go_wp2_with fail
  refine (toIntSS_any w1 v0 xss (H0.out.below B1.out) hn).mono ?_
  rintro e w3 ⟨u3, rfl, ho3, hb3, hs3⟩
  have Z3 : w1.heap.size + 1 + xss.length ≤ w3.heap.size := Nat.le_of_eq hs3.symm
  have C3 := Chg.of_below hb3
  have B3 := Lib.hid (Below.chg B1.out C3 (by omega) (.inr rfl))
  have O3 := Lib.hid ho3
  have R3 := Lib.hid ho3.rows
  clear ho3 hb3 hs3 C3 B1
  go_wp2_with fail
  refine (HIMPL.out w3 u3 R3.out).mono ?_
  rintro e w4 ⟨rfl, hb4⟩
  have C4 := Chg.of_below hb4
  have Z4 := C4.size
  have B4 := Lib.hid (Below.chg B3.out C4 (by omega) (.inr rfl))
  have O4 := Lib.hid (O3.out.chg C4 (by omega) (.inr (by omega)))
  clear C4 hb4 B3 O3 R3
  go_wp2_with fail
  refine (toIntSS_any w4 v0 xss (H0.out.below B4.out) hn).mono ?_
  rintro e w6 ⟨u6, rfl, ho6, hb6, hs6⟩
  have C6 := Chg.of_below hb6
  have Z6 := C6.size
  have R6 := Lib.hid ho6.rows
  have B6 := Lib.hid (Below.chg B4.out C6 (by omega) (.inr rfl))
  have O6 := Lib.hid (O4.out.chg C6 (by omega) (.inr (by omega)))
  clear C6 B4 O4 ho6 hb6 hs6
  go_wp2_with fail
  refine (eq_c w6 u3 u6 xss O6.out.rows R6.out).mono ?_
  rintro e w7 ⟨rfl, C7⟩
  have B7 := Lib.hid (Below.chg B6.out C7 (by omega) (.inr rfl))
  clear C7 B6 O6 R6
  go_wp2_with fail
  go_ret
  exact ⟨rfl, B7.out⟩
end Go.Proofs.Ytgdkeihmddpenaa
