/- The walks of the statements that a set has one number, and that 0 has no frames. -/
import Derived.Test.YtijgpimjmphaoaaLawBits
import Derived.Deep.RegionHeld
namespace Go.Proofs.Ytijgpimjmphaoaa
open Go.ChangeShapes Go.WideShapes Go.ChangeAt Go.RowKit
set_option linter.unusedVariables false

theorem blist_zero : blist 0 = [] := by
  unfold blist frm
  rw [if_pos (by decide)]
  simp
theorem blist_none (n : Int) (h : ¬ (0 < n ∧ n ≤ 4095)) : blist n = [] := by
  by_cases h0 : n = 0
  · rw [h0, blist_zero]
  · unfold blist
    rw [if_neg (fun hh => by have := of_decide_eq_true hh; omega)]
theorem bof_nil : bof [] = ⟨0, true⟩ := by
  rw [bof_yes bok_nil, show inSet [] = fun _ => false by funext i; simp [inSet], bnum_none]
  rfl
theorem Ints.chg0 {w w' : World} {v : Value} {xs : List Int} (h : Ints w v xs) (c : Chg 0 0 w w') : Ints w' v xs := by
  obtain ⟨a, ca, rfl, h1, h2, h3⟩ := h
  refine ⟨a, ca, rfl, h1, h2, fun i hi => ?_⟩
  obtain ⟨b, o, e, hc⟩ := h3 i hi
  exact ⟨b, o, e, (World.cell?_of_block (c.block b (cell_lt hc) (.inr (Nat.zero_le _)))).trans hc⟩
set_option maxRecDepth 100000 in
theorem bitsList_walk (hO : IOf) (hL : IList) (W : World) (a : Option Addr) (len cap : Nat) (zs : List Int) (hr : Row .u8 W a len cap zs) :
    Calls Try.prog 4 #[.slice a len cap] W fun e w' => e = .returned (.bool true) ∧ Below W.heap.size W w' := by
  have HO := Lib.hid hO
  have HL := Lib.hid hL
  clear hO hL
  have hm := row_len hr
  by_cases hL : 1048576 < len
  · have hL1 : (1048576 : Int) < (len : Int) := by omega
    clear hr
    go_enter Try.func4, Try.ntmps4
    go_wp2_with fail
    go_ret
    exact ⟨rfl, Below.refl _ _⟩
  have hL1 : decide ((1048576 : Int) < (len : Int)) = false := by simp; omega
  have hL2 : decide (1048576 < len) = false := by simp; omega
  go_enter Try.func4, Try.ntmps4
  go_wp2_with fail
  refine (drawBitsList_any W a len cap zs hr).mono ?_
  clear hr
  rintro e w1 ⟨n, hn, rfl, hb1⟩
  have B1 := Lib.hid hb1
  clear hb1
  have HC := Lib.hid (HL.out w1 n)
  have HS := Lib.hid (fun w => bitsList_any w n)
  have HBO := Lib.hid (fun h => bof_list (n := n) h)
  have HNONE := Lib.hid (blist_none n)
  have HBL := Lib.hid (blist_len n)
  obtain ⟨ys, hys⟩ : ∃ ys, ys = blist n := ⟨_, rfl⟩
  rw [← hys] at HC HS HBO HNONE HBL
  clear hys
  go_wp2_with fail
  refine HC.out.mono ?_
  rintro e w2 ⟨v2, rfl, hi2, hb2⟩
  have B2 := Lib.hid (B1.out.trans (hb2.mono B1.out.size))
  have R2 := Lib.hid hi2.ints
  clear hb2 hi2 B1 HC
  go_wp2_with fail
  refine (HS.out w2).mono ?_
  rintro e w3 ⟨v3, rfl, h3⟩
  have B3 := Lib.hid (B2.out.trans (h3.bel.mono B2.out.size))
  have R3 := Lib.hid h3.ints
  have R23 := Lib.hid (Ints.below (B := 0) R2.out h3.bel)
  clear h3 B2 R2 HS
  go_wp2_with fail
  refine (sameI_c w3 v2 v3 ys R23.out R3.out).mono ?_
  rintro e w4 ⟨rfl, C4⟩
  have B4 := Lib.hid (Below.chg B3.out C4 B3.out.size (.inr rfl))
  have R24 := Lib.hid (R23.out.chg0 C4)
  have R34 := Lib.hid (R3.out.chg0 C4)
  clear C4 B3 R23 R3
  by_cases hset : bset n = true
  · have hs := of_decide_eq_true hset
    have h1 : decide (n < 0) = false := by simp; omega
    have h2 : decide (4095 < n) = false := by simp; omega
    have HX := Lib.hid (HO.out w4 v2 ys R24.out)
    rw [HBO.out hset] at HX
    clear hset hs
    go_wp2_with fail
    refine HX.out.mono ?_
    rintro e w5 ⟨rfl, hb5⟩
    have B5 := Lib.hid (B4.out.trans (hb5.mono B4.out.size))
    clear hb5
    go_wp2_with fail
    go_ret
    exact ⟨by simp, B5.out⟩
  · have hs : ¬ (0 ≤ n ∧ n ≤ 4095) := fun h => hset (decide_eq_true h)
    have HE := Lib.hid (sameI_c w4 v2 v3 ys R24.out R34.out)
    clear hset
    by_cases h1 : n < 0
    · clear hs
      go_wp2_with fail
      refine HE.out.mono ?_
      rintro e w5 ⟨rfl, C5⟩
      have B5 := Lib.hid (Below.chg B4.out C5 B4.out.size (.inr rfl))
      clear C5
      go_wp2_with fail
      go_ret
      exact ⟨rfl, B5.out⟩
    · have h2 : 4095 < n := by omega
      have h1' : decide (n < 0) = false := by simpa using h1
      clear hs h1
      go_wp2_with fail
      refine HE.out.mono ?_
      rintro e w5 ⟨rfl, C5⟩
      have B5 := Lib.hid (Below.chg B4.out C5 B4.out.size (.inr rfl))
      clear C5
      go_wp2_with fail
      go_ret
      exact ⟨rfl, B5.out⟩
set_option maxRecDepth 100000 in
theorem bitsNone_walk (hO : IOf) (hL : IList) (W : World) (a : Option Addr) (len cap : Nat) (zs : List Int) (hr : Row .u8 W a len cap zs) :
    Calls Try.prog 10 #[.slice a len cap] W fun e w' => e = .returned (.bool true) ∧ Below W.heap.size W w' := by
  have HO := Lib.hid hO
  have HL := Lib.hid hL
  clear hO hL
  have hm := row_len hr
  by_cases hL : 1048576 < len
  · have hL1 : (1048576 : Int) < (len : Int) := by omega
    clear hr
    go_enter Try.func10, Try.ntmps10
    go_wp2_with fail
    go_ret
    exact ⟨rfl, Below.refl _ _⟩
  have hL1 : decide ((1048576 : Int) < (len : Int)) = false := by simp; omega
  have hL2 : decide (1048576 < len) = false := by simp; omega
  go_enter Try.func10, Try.ntmps10
  go_wp2_with fail
  refine (drawBitsList_any W a len cap zs hr).mono ?_
  clear hr
  rintro e w1 ⟨n, hn, rfl, hb1⟩
  have B1 := Lib.hid hb1
  clear hb1
  have HC := Lib.hid (HL.out w1 n)
  have HS := Lib.hid (fun w => bitsList_any w n)
  have HBO := Lib.hid (fun h => bof_list (n := n) h)
  have HNONE := Lib.hid (blist_none n)
  have HBL := Lib.hid (blist_len n)
  obtain ⟨ys, hys⟩ : ∃ ys, ys = blist n := ⟨_, rfl⟩
  rw [← hys] at HC HS HBO HNONE HBL
  clear hys
  go_wp2_with fail
  refine HC.out.mono ?_
  rintro e w2 ⟨v2, rfl, hi2, hb2⟩
  have B2 := Lib.hid (B1.out.trans (hb2.mono B1.out.size))
  have R2 := Lib.hid hi2.ints
  clear hb2 hi2 B1 HC
  go_wp2_with fail
  refine (HS.out w2).mono ?_
  rintro e w3 ⟨v3, rfl, h3⟩
  have B3 := Lib.hid (B2.out.trans (h3.bel.mono B2.out.size))
  have R3 := Lib.hid h3.ints
  have R23 := Lib.hid (Ints.below (B := 0) R2.out h3.bel)
  clear h3 B2 R2 HS
  go_wp2_with fail
  refine (sameI_c w3 v2 v3 ys R23.out R3.out).mono ?_
  rintro e w4 ⟨rfl, C4⟩
  have B4 := Lib.hid (Below.chg B3.out C4 B3.out.size (.inr rfl))
  have R24 := Lib.hid (R23.out.chg0 C4)
  have R34 := Lib.hid (R3.out.chg0 C4)
  clear C4 B3 R23 R3
  have HZ := Lib.hid (fun w => HL.out w 0)
  rw [blist_zero] at HZ
  have RA := Lib.hid (show Ints (w4.alloc (.cells #[] 3)) (.slice (some ⟨w4.heap.size, 0, none⟩) 0 0) [] from ⟨_, 0, rfl, Nat.le_refl _, Nat.zero_le _, fun i hi => by simp at hi⟩)
  have BA := Lib.hid (B4.out.alloc B4.out.size (.cells #[] 3))
  have HX := Lib.hid (HO.out _ _ [] RA.out)
  rw [bof_nil] at HX
  have HNO2 : (0 < n ∧ n ≤ 4095) ∨ ys.length = 0 := by
    by_cases h : 0 < n ∧ n ≤ 4095
    · exact .inl h
    · exact .inr (by rw [HNONE.out h]; rfl)
  obtain ⟨a2, c2, rfl, hl2, hm2, _⟩ := R24.out
  unfold maxLen at hm2
  obtain ⟨l2, hl⟩ : ∃ l, l = ys.length := ⟨_, rfl⟩
  rw [← hl] at HNO2 hl2 ⊢
  clear hl R24 R34 HNONE HBO HBL
  go_wp2_with fail
  refine HX.out.mono ?_
  rintro e w5 ⟨rfl, hb5⟩
  have B5 := Lib.hid (BA.out.trans (hb5.mono BA.out.size))
  clear hb5 HX RA BA B4
  go_wp2_with fail
  refine (HZ.out w5).mono ?_
  rintro e w6 ⟨v6, rfl, hi6, hb6⟩
  have B6 := Lib.hid (B5.out.trans (hb6.mono B5.out.size))
  obtain ⟨a6, c6, rfl, hl6, hm6, _⟩ := hi6.ints
  unfold maxLen at hm6
  simp only [List.length_nil] at hl6 ⊢
  clear hb6 hi6 B5 HZ
  rcases HNO2 with hs | h0
  · have h1 : decide (0 < n) = true := by simp; omega
    have h2 : decide (n ≤ 4095) = true := by simp; omega
    clear hs
    go_wp2_with fail
    go_ret
    exact ⟨rfl, B6.out⟩
  · subst h0
    by_cases h1 : 0 < n
    · by_cases h2 : n ≤ 4095
      · go_wp2_with fail
        go_ret
        exact ⟨rfl, B6.out⟩
      · have h2' : decide (n ≤ 4095) = false := by simpa using h2
        go_wp2_with fail
        go_ret
        exact ⟨rfl, B6.out⟩
    · have h1' : decide (0 < n) = false := by simpa using h1
      go_wp2_with fail
      go_ret
      exact ⟨rfl, B6.out⟩
end Go.Proofs.Ytijgpimjmphaoaa
