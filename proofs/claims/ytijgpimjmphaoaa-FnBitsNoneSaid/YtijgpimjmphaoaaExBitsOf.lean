/- The walk of the exact statement of BitsOf, out of contracts of the program and of the reference that answer the same. -/
import Derived.Test.YtijgpimjmphaoaaExBits
namespace Go.Proofs.Ytijgpimjmphaoaa
open Go.ChangeShapes Go.WideShapes Go.ChangeAt Go.RowKit
set_option linter.unusedVariables false

theorem exBitsOf_walk (W : World) (v0 : Value) (xs : List Int) (r : BV) (h : Ints W v0 xs)
    (hS : ∀ w v, Ints w v xs → Calls Try.prog 18 #[v] w (OfRes w r))
    (hI : ∀ w v, Ints w v xs → Calls Try.prog 17 #[v] w (OfRes w r)) :
    Calls Try.prog 11 #[v0] W fun e w' => e = .returned (.bool true) ∧ Below W.heap.size W w' := by
  have HSPEC := Lib.hid hS
  have HIMPL := Lib.hid hI
  have H0 := Lib.hid h
  clear hS hI
  obtain ⟨a0, c0', rfl, hlc, hmc, _⟩ := h
  unfold maxLen at hmc
  obtain ⟨m, hm⟩ : ∃ m, m = xs.length := ⟨_, rfl⟩
  rw [← hm] at H0 hlc ⊢
  have HM := Lib.hid hm
  clear hm
  by_cases hn : 1048576 < m
  · have hn1 : (1048576 : Int) < (m : Int) := by omega
    go_enter Try.func11, Try.ntmps11
    go_wp2_with fail
    go_ret
    exact ⟨rfl, Below.refl _ _⟩
  have hn1 : decide ((1048576 : Int) < (m : Int)) = false := by simp; omega
  go_enter Try.func11, Try.ntmps11
  go_wp2_with fail
  have hnx : xs.length ≤ 1048576 := by have := HM.out; omega
  refine (toIntS_any W _ xs H0.out hnx).mono ?_
  rintro e w1 ⟨u1, rfl, ho1, hb1, _⟩
  have hi1 := ho1.ints
  have B1 := Lib.hid hb1
  have R1 := Lib.hid hi1
  clear hb1 hi1 ho1
  go_wp2_with fail
  refine (HSPEC.out w1 u1 R1.out).mono ?_
  rintro e w2 ⟨rfl, hb2⟩
  have B2 := Lib.hid (B1.out.trans (hb2.mono B1.out.size))
  clear hb2 R1 B1
  go_wp2_with fail
  refine (toIntS_any w2 _ xs (Ints.below (B := 0) H0.out B2.out) hnx).mono ?_
  rintro e w3 ⟨u3, rfl, ho3, hb3, _⟩
  have hi3 := ho3.ints
  have B3 := Lib.hid (B2.out.trans (hb3.mono B2.out.size))
  have R3 := Lib.hid hi3
  clear hb3 hi3 ho3 B2
  go_wp2_with fail
  refine (HIMPL.out w3 u3 R3.out).mono ?_
  rintro e w4 ⟨rfl, hb4⟩
  have B4 := Lib.hid (B3.out.trans (hb4.mono B3.out.size))
  have R4 := Lib.hid (Ints.below (B := 0) R3.out hb4)
  clear hb4 R3 B3
  go_wp2_with fail
  refine (toIntS_any w4 _ xs (Ints.below (B := 0) H0.out B4.out) hnx).mono ?_
  rintro e w5 ⟨u5, rfl, ho5, hb5, _⟩
  have hi5 := ho5.ints
  have B5 := Lib.hid (B4.out.trans (hb5.mono B4.out.size))
  have R5 := Lib.hid hi5
  have R45 := Lib.hid (Ints.below (B := 0) R4.out hb5)
  clear hb5 hi5 ho5 R4 B4
  go_wp2_with fail
  refine (eqIntS_any w5 u3 u5 xs xs R45.out R5.out).mono ?_
  rintro e w6 ⟨rfl, n, rfl⟩
  rw [decide_eq_true (rfl : xs = xs)]
  go_wp2_with fail
  go_ret
  exact ⟨rfl, Below.chg B5.out (Chg.of_drewN w5 n) B5.out.size (.inr rfl)⟩
end Go.Proofs.Ytijgpimjmphaoaa
