/- What the proofs stand on, part 45. -/
import Derived.Test.YtfnmnegddhggaaaRows
import Derived.Test.YtfnmnegddhggaaaT1
import Derived.Test.YtfnmnegddhggaaaT2
import Derived.Test.YtfnmnegddhggaaaT3
import Derived.Test.YtfnmnegddhggaaaT4
import Derived.Test.YtfnmnegddhggaaaT5
import Derived.Test.YtfnmnegddhggaaaT6
import Derived.Test.YtfnmnegddhggaaaT7
import Derived.Test.YtfnmnegddhggaaaT8
import Derived.Test.YtfnmnegddhggaaaT9
import Derived.Test.YtfnmnegddhggaaaT10
import Derived.Test.YtfnmnegddhggaaaT11
import Derived.Test.YtfnmnegddhggaaaT12
import Derived.Test.YtfnmnegddhggaaaT13
import Derived.Test.YtfnmnegddhggaaaT17
import Derived.Test.YtfnmnegddhggaaaT21
import Derived.Test.YtfnmnegddhggaaaT24
import Derived.Test.YtfnmnegddhggaaaT27
import Derived.Test.YtfnmnegddhggaaaT33
import Derived.Test.YtfnmnegddhggaaaT34
set_option linter.unusedSimpArgs false
set_option linter.unusedVariables false
namespace Go.Proofs.Ytfnmnegddhggaaa
open Go.ChangeShapes Go.WideShapes Go.ChangeAt Go.RowKit
set_option linter.unusedVariables false
set_option linter.unusedSimpArgs false
theorem spans_of {xs : List Int} {f : Int} (h : 0 ≤ flast xs f) : spans xs = spansN xs xs.length ∧ flast xs f = (fltN xs f xs.length : Nat) := by
  by_cases hk : ftOk xs f = true
  · exact ⟨by rw [spans, if_pos (ftOk_tr hk)], by rw [flast, if_pos hk]⟩
  · have := ft_no hk; omega
set_option maxRecDepth 100000 in
set_option maxHeartbeats 2000000 in
theorem faultsLast_walk (ctv : CTV) (cts : CTS) (cff : CFF) (cfl : CFL) (cfb : CFB) (W : World) (a : Option Addr) (len cap : Nat) (zs : List Int) (hr : Row .u8 W a len cap zs) :
    Calls Try.prog 4 #[.slice a len cap] W fun e w' => e = .returned (.bool true) ∧ Below W.heap.size W w' := by
  have hm := row_len hr
  by_cases hL : 1048576 < len
  · have hL1 : (1048576 : Int) < (len : Int) := by omega
    clear hr
    go_enter Try.func4, Try.ntmps4
    go_wp2_with fail
    go_ret
    exact ⟨rfl, Below.refl _ _⟩
  have hL1 : decide ((1048576 : Int) < (len : Int)) = false := by simp; omega
  have hL2 : decide (1048576 < len) = false := by simp; omega
  go_enter Try.func4, Try.ntmps4
  go_wp2_with fail
  refine (drawFaultsLast_any W a len cap zs hr).mono ?_
  clear hr
  rintro e w1 ⟨v, ys, f, rfl, hf, hd⟩
  have B1 := Lib.hid hd.bel
  have R1 := Lib.hid hd.ints
  have hl25 := hd.len
  obtain ⟨g, c, hv⟩ := hd.form
  clear hd
  subst hv
  have HL := Lib.hid (fun (w : World) (h : Ints w (.slice (some ⟨g, 0, none⟩) ys.length c) ys) => cfl w _ ys f h)
  have SL := Lib.hid (fun (w : World) (h : Ints w (.slice (some ⟨g, 0, none⟩) ys.length c) ys) => sFaultsLast_any w _ ys f h)
  have CS := Lib.hid (fun (w : World) (h : Ints w (.slice (some ⟨g, 0, none⟩) ys.length c) ys) => cts w _ ys h)
  have FA := Lib.hid ((fun h => spans_of h : 0 ≤ flast ys f → _))
  have HYN : Hid (ys.length ≤ 25) := Lib.hid hl25
  obtain ⟨n, hn⟩ : ∃ n, n = ys.length := ⟨_, rfl⟩
  rw [← hn] at hl25 R1 HL SL CS ⊢
  have HN := Lib.hid hn
  clear hn
  rw [← HN.out] at FA
  generalize flast ys f = zl at HL SL FA
  go_wp2_with fail
  refine (HL.out w1 R1.out).mono ?_
  rintro e w2 ⟨rfl, hb⟩
  have B2 := Lib.hid (B1.out.trans (hb.mono B1.out.size))
  have R2 := Lib.hid (Ints.below (B := 0) R1.out hb)
  clear hb
  go_wp2_with fail
  refine (SL.out w2 R2.out).mono ?_
  rintro e w3 ⟨rfl, hb⟩
  have B3 := Lib.hid (B2.out.trans (hb.mono B2.out.size))
  have R3 := Lib.hid (Ints.below (B := 0) R2.out hb)
  clear hb
  by_cases hz : zl < 0
  · go_wp2_with fail
    go_ret
    exact ⟨rfl, B3.out⟩
  · have hz1 : decide (zl < 0) = false := by simp; omega
    obtain ⟨h1, h2⟩ := FA.out (by omega)
    rw [h1] at CS
    have H2 := Lib.hid h2
    clear FA h1 h2
    go_wp2_with fail
    refine (CS.out w3 R3.out).mono ?_
    rintro e w4 ⟨v4, rfl, hw4, hb⟩
    have B4 := Lib.hid (B3.out.trans (hb.mono B3.out.size))
    clear hb CS
    obtain ⟨a4, c4, rfl, q1, q2, q3⟩ := hw4
    rw [spansN_len] at q1 q3 ⊢
    have Q3 := Lib.hid q3
    clear q3
    unfold maxLen at q2
    go_wp2_with fail
    go_loop [8, 9] (fun q i => ∃ m : Nat, m ≤ n ∧ i = .int .i64 m ∧ q = .int .i64 (fltN ys f m : Nat)) (fun _ i => n - (intOf i).toNat)
    case atStart => exact ⟨0, Nat.zero_le _, rfl, rfl⟩
    case round =>
      obtain ⟨m, hm, rfl, rfl⟩ := hrel
      have hfl := fltN_le ys f m
      by_cases hlt : m < n
      · have hlt1 : (m : Int) < (n : Int) := by omega
        obtain ⟨b4, o4, rfl, _, _, hcell, _⟩ := Q3.out m hlt
        rw [spansN_get ys n m hlt] at hcell
        have HTK : Hid (fltN ys f (m + 1) = fltN ys f m + if spn ys m < 0 ∨ f ≤ spn ys m then 1 else 0) := Lib.hid rfl
        obtain ⟨q, hq⟩ : ∃ q, q = fltN ys f m := ⟨_, rfl⟩
        obtain ⟨s, hs⟩ : ∃ s, s = spn ys m := ⟨_, rfl⟩
        rw [← hq] at HTK hfl ⊢
        rw [← hs] at HTK hcell
        clear hq hs
        by_cases h0 : s < 0
        · rw [if_pos (.inl h0)] at HTK
          go_wp2_with fail
          go_round
          case rel => exact ⟨m + 1, by omega, by go_num, by rw [HTK.out]; go_num⟩
          case measure => simp [intOf]; omega
        · have h01 : decide (s < 0) = false := by simp; omega
          by_cases h5 : f ≤ s
          · rw [if_pos (.inr h5)] at HTK
            go_wp2_with fail
            go_round
            case rel => exact ⟨m + 1, by omega, by go_num, by rw [HTK.out]; go_num⟩
            case measure => simp [intOf]; omega
          · have h51 : decide (f ≤ s) = false := by simp; omega
            rw [if_neg (by omega)] at HTK
            go_wp2_with fail
            go_round
            case rel => exact ⟨m + 1, by omega, by go_num, by rw [HTK.out, Nat.add_zero]⟩
            case measure => simp [intOf]; omega
      · obtain rfl : m = n := by omega
        rw [← H2.out]
        go_wp2_with fail
        go_ret
        exact ⟨rfl, B4.out⟩
end Go.Proofs.Ytfnmnegddhggaaa
