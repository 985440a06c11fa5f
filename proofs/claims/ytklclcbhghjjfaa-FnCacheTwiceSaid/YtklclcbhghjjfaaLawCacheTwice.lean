/- The walk of the statement that a translation is remembered once, out of contracts of the program. -/
import Derived.Test.YtklclcbhghjjfaaLawCachePut
namespace Go.Proofs.Ytklclcbhghjjfaa
open Go.ChangeShapes Go.WideShapes Go.ChangeAt Go.RowKit
set_option linter.unusedVariables false

set_option maxRecDepth 100000 in
set_option maxHeartbeats 2000000 in
theorem cacheTwice_walk (hP : CPut) (W : World) (a : Option Addr) (len cap : Nat) (zs : List Int) (hr : Row .u8 W a len cap zs) :
    Calls Try.prog 5 #[.slice a len cap] W fun e w' => e = .returned (.bool true) ∧ Below W.heap.size W w' := by
  have HP := Lib.hid hP
  clear hP
  have hm := row_len hr
  by_cases hL : 1048576 < len
  · have hL1 : (1048576 : Int) < (len : Int) := by omega
    clear hr
    go_enter Try.func5, Try.ntmps5
    go_wp2_with fail
    go_ret
    exact ⟨rfl, Below.refl _ _⟩
  have hL1 : decide ((1048576 : Int) < (len : Int)) = false := by simp; omega
  have hL2 : decide (1048576 < len) = false := by simp; omega
  go_enter Try.func5, Try.ntmps5
  go_wp2_with fail
  refine (drawCachePut_any W a len cap zs hr).mono ?_
  clear hr
  rintro e w1 ⟨v, xs, x, hx, rfl, hD⟩
  have B1 := Lib.hid hD.bel
  have Z1 : W.heap.size ≤ w1.heap.size := hD.bel.size
  have R1 := Lib.hid hD.cs
  clear hD
  obtain ⟨xe, xp, xf, xb⟩ := x
  unfold cvV
  have HFX := Lib.hid (four_alloc w1 ⟨xe, xp, xf, xb⟩ 25)
  have RA := Lib.hid (R1.out.below ((Below.refl _ _).alloc (Nat.le_refl _) (.cells #[.int .i64 xe, .int .i64 xp, .int .i64 xf, .bool xb] 25)))
  have BA := Lib.hid (B1.out.alloc Z1 (.cells #[.int .i64 xe, .int .i64 xp, .int .i64 xf, .bool xb] 25))
  have ZA : w1.heap.size < (w1.alloc (.cells #[.int .i64 xe, .int .i64 xp, .int .i64 xf, .bool xb] 25)).heap.size := by simp
  go_wp2_with fail
  obtain ⟨X, hX⟩ : ∃ X, w1.heap.size = X := ⟨_, rfl⟩
  obtain ⟨wA, hA⟩ : ∃ wA, w1.alloc (.cells #[.int .i64 xe, .int .i64 xp, .int .i64 xf, .bool xb] 25) = wA := ⟨_, rfl⟩
  simp only [hX, hA] at HFX RA BA ZA ⊢
  clear hA B1 R1
  have HC := Lib.hid (HP.out wA v xs ⟨xe, xp, xf, xb⟩ RA.out)
  have HSQ := Lib.hid (fun h : putB xs ⟨xe, xp, xf, xb⟩ = true => put_put h)
  obtain ⟨b, hb⟩ : ∃ b, b = putB xs ⟨xe, xp, xf, xb⟩ := ⟨_, rfl⟩
  obtain ⟨ys, hys⟩ : ∃ ys, ys = putF xs ⟨xe, xp, xf, xb⟩ := ⟨_, rfl⟩
  have HS := Lib.hid (fun w => fun h : Cs w v xs => cPut_any w v xs ⟨xe, xp, xf, xb⟩ h)
  rw [← hb, ← hys] at HC HS HSQ
  clear hb hys
  refine HC.out.mono ?_
  rintro e w2 ⟨v2, rfl, h2, hb2⟩
  have R2 := Lib.hid (RA.out.below hb2)
  have B2 := Lib.hid (BA.out.trans (hb2.mono BA.out.size))
  have F2 := Lib.hid (HFX.out.below hb2 ZA)
  have O2 := Lib.hid h2.cs
  have Z2 := Nat.lt_of_lt_of_le ZA hb2.size
  clear h2 hb2 HC RA BA HFX
  obtain ⟨q0, q1, q2, q3⟩ := F2.out
  simp only [Nat.zero_add] at q0 q1 q2 q3
  go_wp2_with fail
  refine (HS.out w2 R2.out).mono ?_
  rintro e w3 ⟨v3, rfl, h3⟩
  have O3 := Lib.hid h3.cs
  have B3 := Lib.hid (B2.out.trans (h3.bel.mono B2.out.size))
  have F3 := Lib.hid (F2.out.below h3.bel Z2)
  have P3 := Lib.hid (O2.out.below h3.bel)
  have Z3 := Nat.lt_of_lt_of_le Z2 h3.bel.size
  clear h3 R2 B2 F2 O2 HS q0 q1 q2 q3
  have HSA := Lib.hid (fun w => fun h : Below w3.heap.size w3 w => sameCache_any w v2 v3 ys ys (P3.out.below h) (O3.out.below h))
  rw [decide_eq_true (rfl : ys = ys)] at HSA
  cases b
  · go_wp2_with fail
    refine (HSA.out w3 (Below.refl _ _)).mono ?_
    rintro e w4 ⟨rfl, hb4⟩
    have B4 := Lib.hid (B3.out.trans (hb4.mono B3.out.size))
    have HS4 := Lib.hid (HSA.out w4 hb4)
    clear hb4
    go_wp2_with fail
    refine HS4.out.mono ?_
    rintro e w5 ⟨rfl, hb5⟩
    have B5 := Lib.hid (B4.out.trans (hb5.mono B4.out.size))
    clear hb5 HS4
    go_wp2_with fail
    go_ret
    exact ⟨rfl, B5.out⟩
  · obtain ⟨HB2, HE2⟩ := HSQ.out rfl
    have HC2 := Lib.hid (fun w => fun h : Cs w v2 ys => HP.out w v2 ys ⟨xe, xp, xf, xb⟩ h)
    rw [HE2, HB2] at HC2
    clear HB2 HE2 HSQ
    go_wp2_with fail
    refine (HSA.out w3 (Below.refl _ _)).mono ?_
    rintro e w4 ⟨rfl, hb4⟩
    have B4 := Lib.hid (B3.out.trans (hb4.mono B3.out.size))
    have F4 := Lib.hid (F3.out.below hb4 Z3)
    have P4 := Lib.hid (P3.out.below hb4)
    clear hb4 B3 F3 P3 O3 HSA
    obtain ⟨q0, q1, q2, q3⟩ := F4.out
    simp only [Nat.zero_add] at q0 q1 q2 q3
    go_wp2_with fail
    refine (HC2.out w4 P4.out).mono ?_
    rintro e w5 ⟨v5, rfl, h5, hb5⟩
    have O5 := Lib.hid h5.cs
    have P5 := Lib.hid (P4.out.below hb5)
    have B5 := Lib.hid (B4.out.trans (hb5.mono B4.out.size))
    have HS5 := Lib.hid (sameCache_any w5 v5 v2 ys ys O5.out P5.out)
    rw [decide_eq_true (rfl : ys = ys)] at HS5
    clear h5 hb5 B4 F4 P4 HC2 q0 q1 q2 q3
    go_wp2_with fail
    refine HS5.out.mono ?_
    rintro e w6 ⟨rfl, hb6⟩
    have B6 := Lib.hid (B5.out.trans (hb6.mono B5.out.size))
    clear hb6
    go_wp2_with fail
    go_ret
    exact ⟨rfl, B6.out⟩
end Go.Proofs.Ytklclcbhghjjfaa
