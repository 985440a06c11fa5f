/- The walks of the statements that a translation is that of the page, and that what was forgotten is not found, out of contracts of the program. -/
import Derived.Test.YtklclcbhghjjfaaLawCachePut
namespace Go.Proofs.Ytklclcbhghjjfaa
open Go.ChangeShapes Go.WideShapes Go.ChangeAt Go.RowKit
set_option linter.unusedVariables false

abbrev CDrop : Prop := ∀ (w : World) (v : Value) (xs : List CV) (e : Int), Cs w v xs → Calls Try.prog 21 #[v, .int .i64 e] w (NewCR (dropF xs e) w)
set_option maxRecDepth 100000 in
set_option maxHeartbeats 2000000 in
theorem cacheFindDrop_walk (hF : CFind) (hD : CDrop) (W : World) (a : Option Addr) (len cap : Nat) (zs : List Int) (hr : Row .u8 W a len cap zs) :
    Calls Try.prog 8 #[.slice a len cap] W fun e w' => e = .returned (.bool true) ∧ Below W.heap.size W w' := by
  have HF := Lib.hid hF
  have HDR := Lib.hid hD
  clear hF hD
  have hm := row_len hr
  by_cases hL : 1048576 < len
  · have hL1 : (1048576 : Int) < (len : Int) := by omega
    clear hr
    go_enter Try.func8, Try.ntmps8
    go_wp2_with fail
    go_ret
    exact ⟨rfl, Below.refl _ _⟩
  have hL1 : decide ((1048576 : Int) < (len : Int)) = false := by simp; omega
  have hL2 : decide (1048576 < len) = false := by simp; omega
  go_enter Try.func8, Try.ntmps8
  go_wp2_with fail
  refine (drawCacheFind_any W a len cap zs hr).mono ?_
  clear hr
  rintro e w1 ⟨v, xs, n, p, hnp, rfl, hD⟩
  have B1 := Lib.hid hD.bel
  have R1 := Lib.hid hD.cs
  have HNF := Lib.hid (drop_find xs n p)
  have HC := Lib.hid (HF.out w1 v xs n p R1.out)
  have HS := Lib.hid (fun w => fun h : Cs w v xs => cFind_any w v xs n p h)
  clear hD hnp
  obtain ⟨r, hr⟩ : ∃ r, r = cFind xs n p := ⟨_, rfl⟩
  rw [← hr] at HC HS
  clear hr
  obtain ⟨⟨xe, xp, xf, xb⟩, b⟩ := r
  go_wp2_with fail
  refine HC.out.mono ?_
  rintro e w2 ⟨rfl, hb2⟩
  unfold cvV
  dsimp only
  have R2 := Lib.hid (R1.out.below hb2)
  have B2 := Lib.hid (B1.out.trans (hb2.mono B1.out.size))
  clear hb2 HC R1 B1
  have HFX := Lib.hid (four_alloc w2 ⟨xe, xp, xf, xb⟩ 25)
  have RA := Lib.hid (R2.out.below ((Below.refl _ _).alloc (Nat.le_refl _) (.cells #[.int .i64 xe, .int .i64 xp, .int .i64 xf, .bool xb] 25)))
  have BA := Lib.hid (B2.out.alloc B2.out.size (.cells #[.int .i64 xe, .int .i64 xp, .int .i64 xf, .bool xb] 25))
  have ZA : w2.heap.size < (w2.alloc (.cells #[.int .i64 xe, .int .i64 xp, .int .i64 xf, .bool xb] 25)).heap.size := by simp
  go_wp2_with fail
  obtain ⟨X, hX⟩ : ∃ X, w2.heap.size = X := ⟨_, rfl⟩
  obtain ⟨wA, hA⟩ : ∃ wA, w2.alloc (.cells #[.int .i64 xe, .int .i64 xp, .int .i64 xf, .bool xb] 25) = wA := ⟨_, rfl⟩
  simp only [hX, hA] at HFX RA BA ZA ⊢
  clear hA B2 R2
  refine (HS.out wA RA.out).mono ?_
  rintro e w3 ⟨rfl, hb3⟩
  unfold cvV
  dsimp only
  have R3 := Lib.hid (RA.out.below hb3)
  have B3 := Lib.hid (BA.out.trans (hb3.mono BA.out.size))
  have F3 := Lib.hid (HFX.out.below hb3 ZA)
  have Z3 := Nat.lt_of_lt_of_le ZA hb3.size
  clear hb3 HS RA BA HFX
  have HFY := Lib.hid (four_alloc w3 ⟨xe, xp, xf, xb⟩ 25)
  have RB := Lib.hid (R3.out.below ((Below.refl _ _).alloc (Nat.le_refl _) (.cells #[.int .i64 xe, .int .i64 xp, .int .i64 xf, .bool xb] 25)))
  have BB := Lib.hid (B3.out.alloc B3.out.size (.cells #[.int .i64 xe, .int .i64 xp, .int .i64 xf, .bool xb] 25))
  have FX := Lib.hid (F3.out.below ((Below.refl w3.heap.size w3).alloc (Nat.le_refl _) (.cells #[.int .i64 xe, .int .i64 xp, .int .i64 xf, .bool xb] 25)) Z3)
  have ZB : w3.heap.size < (w3.alloc (.cells #[.int .i64 xe, .int .i64 xp, .int .i64 xf, .bool xb] 25)).heap.size := by simp
  obtain ⟨q0, q1, q2, q3⟩ := FX.out
  simp only [Nat.zero_add] at q0 q1 q2 q3
  cases b
  · go_wp2_with fail
    go_ret
    exact ⟨rfl, BB.out⟩
  · have HC3 := Lib.hid (HDR.out _ v xs n RB.out)
    have HFI := Lib.hid (fun w => fun v' => fun h : Cs w v' (dropF xs n) => HF.out w v' (dropF xs n) n p h)
    obtain ⟨r2, hr2⟩ : ∃ r, r = cFind (dropF xs n) n p := ⟨_, rfl⟩
    rw [← hr2] at HNF HFI
    clear hr2
    obtain ⟨⟨ye, yp, yf, yb⟩, rb⟩ := r2
    obtain rfl : rb = false := HNF.out
    go_wp2_with fail
    refine HC3.out.mono ?_
    rintro e w4 ⟨v4, rfl, h4, hb4⟩
    have B4 := Lib.hid (BB.out.trans (hb4.mono BB.out.size))
    have HF4 := Lib.hid (HFI.out w4 v4 h4.cs)
    clear h4 hb4 BB FX HFY RB q0 q1 q2 q3 HC3 HFI
    go_wp2_with fail
    refine HF4.out.mono ?_
    rintro e w5 ⟨rfl, hb5⟩
    unfold cvV
    dsimp only
    have B5 := Lib.hid (B4.out.trans (hb5.mono B4.out.size))
    have B6 := Lib.hid (B5.out.alloc B5.out.size (.cells #[.int .i64 ye, .int .i64 yp, .int .i64 yf, .bool yb] 25))
    clear hb5 HF4 B4
    go_wp2_with fail
    go_ret
    exact ⟨rfl, B6.out⟩
end Go.Proofs.Ytklclcbhghjjfaa
