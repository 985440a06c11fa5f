/- The walk of the exact statement of CacheDrop, out of contracts of the program and of the reference that answer the same. -/
import Derived.Test.YtklclcbhghjjfaaExCacheFind
namespace Go.Proofs.Ytklclcbhghjjfaa
open Go.ChangeShapes Go.WideShapes Go.ChangeAt Go.RowKit
set_option linter.unusedVariables false

set_option maxHeartbeats 1000000 in
theorem exCacheDrop_walk (W : World) (v0 : Value) (xs : List CV) (ys : List CV) (f : Int) (h : Cs W v0 xs) (hy : ys.length ≤ 1000)
    (hS : ∀ w v, Cs w v xs → Calls Try.prog 22 #[v, .int .i64 f] w (NewCR ys w))
    (hI : ∀ w v, Cs w v xs → Calls Try.prog 21 #[v, .int .i64 f] w (NewCR ys w)) :
    Calls Try.prog 13 #[v0, .int .i64 f] W fun e w' => e = .returned (.bool true) ∧ Below W.heap.size W w' := by
  have HSPEC := Lib.hid hS
  have HIMPL := Lib.hid hI
  have H0 := Lib.hid h
  clear hS hI
  obtain ⟨ny, hny⟩ : ∃ n, n = ys.length := ⟨_, rfl⟩
  have HNY := Lib.hid hny
  have hny1 : ny ≤ 1000 := by omega
  clear hny hy
  go_enter Try.func13, Try.ntmps13
  go_wp2_with fail
  refine (szCachedS_any W v0 xs 1048576 h (by omega)).mono ?_
  clear h
  rintro e w' ⟨rfl, rfl⟩
  by_cases hn0 : ¬ (xs.length : Int) ≤ 1048576
  · rw [if_neg hn0]
    go_wp2_with fail
    go_ret
    exact ⟨rfl, Below.refl _ _⟩
  have hn1 : (xs.length : Int) ≤ 1048576 := by omega
  rw [if_pos hn1]
  have hn : xs.length ≤ 1048576 := by omega
  have hr1 : decide ((1048576 : Int) - (xs.length : Int) < 0) = false := by simp; omega
  have hx1 : decide ((1 : Int) + 4 * (xs.length : Int) < 0) = false := by simp; omega
  clear hn0 hn1
  -- a copy for the reference
  go_wp2_with fail
  refine (toCachedS_any W v0 xs H0.out hn).mono ?_
  rintro e w1 ⟨u1, rfl, ho1, hb1⟩
  have B1 := Lib.hid hb1
  have R1 := Lib.hid ho1.cs
  have Z1 : W.heap.size ≤ w1.heap.size := hb1.size
  clear ho1 hb1
  -- the reference
  go_wp2_with fail
  refine (HSPEC.out w1 u1 R1.out).mono ?_
  rintro e w2 ⟨u2, rfl, hm2, hb2⟩
  have B2 := Lib.hid (Below.chg B1.out (Chg.of_below hb2) Z1 (.inr rfl))
  have Z2 : w1.heap.size ≤ w2.heap.size := hb2.size
  have M2 := Lib.hid hm2
  clear R1 B1 hm2 hb2
  -- a copy for the program
  go_wp2_with fail
  refine (toCachedS_any w2 v0 xs (H0.out.below B2.out) hn).mono ?_
  rintro e w3 ⟨u3, rfl, ho3, hb3⟩
  have Z3 : w2.heap.size ≤ w3.heap.size := hb3.size
  have C3 := Chg.of_below hb3
  have B3 := Lib.hid (Below.chg B2.out C3 (by omega) (.inr rfl))
  have M23 := Lib.hid (M2.out.chg C3 (Nat.le_refl _) (.inr (by omega)))
  have O3 := Lib.hid ho3
  have R3 := Lib.hid ho3.cs
  clear ho3 hb3 C3 B2 M2
  -- the program
  go_wp2_with fail
  refine (HIMPL.out w3 u3 R3.out).mono ?_
  rintro e w4 ⟨u4, rfl, hm4, hb4⟩
  have Z4 : w3.heap.size ≤ w4.heap.size := hb4.size
  have C4 := Chg.of_below hb4
  have B4 := Lib.hid (Below.chg B3.out C4 (by omega) (.inr rfl))
  have M24 := Lib.hid (M23.out.chg C4 (by omega) (.inr (by omega)))
  have O4 := Lib.hid (O3.out.chg C4 (by omega) (.inr (by omega)))
  have M44 := Lib.hid hm4
  clear hm4 hb4 C4 B3 M23 O3 R3
  -- both results are equal
  go_wp2_with fail
  refine (eqC_same w4 u4 u2 ys M44.out.cs M24.out.cs).mono ?_
  rintro e w5 ⟨rfl, C5⟩
  have Z5 := C5.size
  have B5 := Lib.hid (Below.chg B4.out C5 (by omega) (.inr rfl))
  have M25 := Lib.hid (M24.out.chg C5 (by omega) (.inr (by omega)))
  have O5 := Lib.hid (O4.out.chg C5 (by omega) (.inr (by omega)))
  have M45 := Lib.hid (M44.out.chg C5 (by omega) (.inr (by omega)))
  clear C5 B4 M24 O4 M44
  -- the argument is as it was
  go_wp2_with fail
  refine (toCachedS_any w5 v0 xs (H0.out.below B5.out) hn).mono ?_
  rintro e w6 ⟨u6, rfl, ho6, hb6⟩
  have C6 := Chg.of_below hb6
  have Z6 := C6.size
  have R6 := Lib.hid ho6.cs
  have B6 := Lib.hid (Below.chg B5.out C6 (by omega) (.inr rfl))
  have M26 := Lib.hid (M25.out.chg C6 (by omega) (.inr (by omega)))
  have O6 := Lib.hid (O5.out.chg C6 (by omega) (.inr (by omega)))
  have M46 := Lib.hid (M45.out.chg C6 (by omega) (.inr (by omega)))
  clear C6 B5 M25 O5 M45 ho6 hb6
  go_wp2_with fail
  refine (eqC_same w6 u3 u6 xs O6.out.cs R6.out).mono ?_
  rintro e w7 ⟨rfl, C7⟩
  have Z7 := C7.size
  have B7 := Lib.hid (Below.chg B6.out C7 (by omega) (.inr rfl))
  have M27 := Lib.hid (M26.out.chg C7 (by omega) (.inr (by omega)))
  have O7 := Lib.hid (O6.out.chg C7 (by omega) (.inr (by omega)))
  have M47 := Lib.hid (M46.out.chg C7 (by omega) (.inr (by omega)))
  clear C7 B6 M26 O6 M46 R6
  -- the argument is marked
  have HM7 := Lib.hid (markCachedS_any w7 u3 xs _ _ O7.out (by omega) (by omega))
  clear O7
  go_wp2_with fail
  refine HM7.out.mono ?_
  rintro e w8 ⟨rfl, K8, _⟩
  have C8 := Chg.of_kept K8
  have Z8 := C8.size
  have B8 := Lib.hid (Below.chg B7.out C8 (by omega) (.inl (by omega)))
  have M28 := Lib.hid (M27.out.chg C8 (by omega) (.inl (by omega)))
  have M48 := Lib.hid (M47.out.chg C8 (by omega) (.inr (by omega)))
  clear C8 K8 B7 M27 M47 HM7
  -- the results are still equal
  go_wp2_with fail
  refine (eqC_same w8 u4 u2 ys M48.out.cs M28.out.cs).mono ?_
  rintro e w9 ⟨rfl, C9⟩
  have Z9 := C9.size
  have B9 := Lib.hid (Below.chg B8.out C9 (by omega) (.inr rfl))
  have M29 := Lib.hid (M28.out.chg C9 (by omega) (.inr (by omega)))
  have M49 := Lib.hid (M48.out.chg C9 (by omega) (.inr (by omega)))
  clear C9 B8 M28 M48
  -- the result is marked
  have HM9 := Lib.hid (markCachedS_any w9 u4 ys _ _ M49.out (by omega) (by have := HNY.out; omega))
  rw [← HNY.out] at HM9
  clear M49
  go_wp2_with fail
  refine HM9.out.mono ?_
  rintro e w10 ⟨rfl, K10, hk10⟩
  have C10 := Chg.of_kept K10
  have Z10 := C10.size
  have B10 := Lib.hid (Below.chg B9.out C10 (by omega) (.inl (by omega)))
  have M210 := Lib.hid (M29.out.chg C10 (by omega) (.inl (by omega)))
  have HK10 := Lib.hid hk10
  have HD10 := Lib.hid (heldCachedS_any w10 u4 ny hk10.cs (by omega))
  clear C10 K10 B9 M29 HM9 hk10
  have hge : decide ((1 : Int) + 4 * (ny : Int) < 0) = false := by simp; omega
  go_wp2_with fail
  refine HD10.out.mono ?_
  rintro e w' ⟨rfl, rfl⟩
  clear HD10
  -- another call
  go_wp2_with fail
  refine (toCachedS_any w10 v0 xs (H0.out.below B10.out) hn).mono ?_
  rintro e w11 ⟨u11, rfl, ho11, hb11⟩
  have C11 := Chg.of_below hb11
  have Z11 := C11.size
  have R11 := Lib.hid ho11.cs
  have B11 := Lib.hid (Below.chg B10.out C11 (by omega) (.inr rfl))
  have M211 := Lib.hid (M210.out.chg C11 (by omega) (.inr (by omega)))
  have HK11 := Lib.hid (HK10.out.chg C11 (by omega) (.inr (by omega)))
  clear C11 B10 M210 HK10 ho11 hb11
  go_wp2_with fail
  refine (HIMPL.out w11 u11 R11.out).mono ?_
  rintro e w12 ⟨u12, rfl, hm12, hb12⟩
  have C12 := Chg.of_below hb12
  have Z12 := C12.size
  have B12 := Lib.hid (Below.chg B11.out C12 (by omega) (.inr rfl))
  have M212 := Lib.hid (M211.out.chg C12 (by omega) (.inr (by omega)))
  have HK12 := Lib.hid (HK11.out.chg C12 (by omega) (.inr (by omega)))
  have M1212 := Lib.hid hm12
  clear C12 B11 M211 HK11 hm12 hb12 R11
  go_wp2_with fail
  refine (eqC_same w12 u12 u2 ys M1212.out.cs M212.out.cs).mono ?_
  rintro e w13 ⟨rfl, C13⟩
  have Z13 := C13.size
  have B13 := Lib.hid (Below.chg B12.out C13 (by omega) (.inr rfl))
  have HK13 := Lib.hid (HK12.out.chg C13 (by omega) (.inr (by omega)))
  have HD13 := Lib.hid (heldCachedS_any w13 u4 ny HK13.out.cs (by omega))
  clear C13 B12 M212 HK12 M1212 HK13
  go_wp2_with fail
  refine HD13.out.mono ?_
  rintro e w' ⟨rfl, rfl⟩
  go_wp2_with fail
  go_ret
  exact ⟨rfl, B13.out⟩
end Go.Proofs.Ytklclcbhghjjfaa
