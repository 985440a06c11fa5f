/- The walks of the statements on numbers of sets, out of contracts of the program. -/
import Derived.Test.YtijgpimjmphaoaaExBitsOf
import Derived.Deep.RegionHeld
namespace Go.Proofs.Ytijgpimjmphaoaa
open Go.ChangeShapes Go.WideShapes Go.ChangeAt Go.RowKit
set_option linter.unusedVariables false

theorem row_len {k : IntKind} {w : World} {a : Option Addr} {len cap : Nat} {zs : List Int} (hr : Row k w a len cap zs) : len ≤ 9223372036854775807 := by
  rcases hr with ⟨_, rfl, rfl, _⟩ | ⟨x, _, hl, hm, _⟩
  · omega
  · unfold maxLen at hm; omega
/-- the program's functions answer as these do -/
abbrev IOf : Prop := ∀ (w : World) (v : Value) (xs : List Int), Ints w v xs → Calls Try.prog 17 #[v] w (OfRes w (bof xs))
abbrev IList : Prop := ∀ (w : World) (n : Int), Calls Try.prog 19 #[.int .i64 n] w (NewR (blist n) w)
abbrev IHas : Prop := ∀ (w : World) (n f : Int), Calls Try.prog 25 #[.int .i64 n, .int .i64 f] w (BoolRes w (bhas n f))
abbrev IJoin : Prop := ∀ (w : World) (a b : Int), Calls Try.prog 28 #[.int .i64 a, .int .i64 b] w (IntRes w (bjoin a b))
abbrev IWout : Prop := ∀ (w : World) (a b : Int), Calls Try.prog 31 #[.int .i64 a, .int .i64 b] w (IntRes w (bwout a b))
theorem bitsHas_walk (hH : IHas) (hL : IList) (W : World) (a : Option Addr) (len cap : Nat) (zs : List Int) (hr : Row .u8 W a len cap zs) :
    Calls Try.prog 6 #[.slice a len cap] W fun e w' => e = .returned (.bool true) ∧ Below W.heap.size W w' := by
  have HH := Lib.hid hH
  have HL := Lib.hid hL
  clear hH hL
  have hm := row_len hr
  by_cases hL : 1048576 < len
  · have hL1 : (1048576 : Int) < (len : Int) := by omega
    clear hr
    go_enter Try.func6, Try.ntmps6
    go_wp2_with fail
    go_ret
    exact ⟨rfl, Below.refl _ _⟩
  have hL1 : decide ((1048576 : Int) < (len : Int)) = false := by simp; omega
  have hL2 : decide (1048576 < len) = false := by simp; omega
  go_enter Try.func6, Try.ntmps6
  go_wp2_with fail
  refine (drawBitsHas_any W a len cap zs hr).mono ?_
  clear hr
  rintro e w1 ⟨n, f, hn, hf, rfl, hb1⟩
  have B1 := Lib.hid hb1
  clear hb1 hn hf
  have HE := Lib.hid (bhas_list n f)
  have HC := Lib.hid (HH.out w1 n f)
  have HS := Lib.hid (fun w => bitsHas_any w n f)
  obtain ⟨b, hb⟩ : ∃ b, b = bhas n f := ⟨_, rfl⟩
  rw [← hb] at HE HC HS
  clear hb
  go_wp2_with fail
  refine HC.out.mono ?_
  rintro e w2 ⟨rfl, hb2⟩
  have B2 := Lib.hid (B1.out.trans (hb2.mono B1.out.size))
  clear hb2 B1 HC
  go_wp2_with fail
  refine (HS.out w2).mono ?_
  rintro e w' ⟨rfl, rfl⟩
  go_wp2_with fail
  refine (HL.out w2 n).mono ?_
  rintro e w3 ⟨v3, rfl, hi3, hb3⟩
  have B3 := Lib.hid (B2.out.trans (hb3.mono B2.out.size))
  have R3 := Lib.hid hi3.ints
  clear hb3 hi3 B2
  have HN := Lib.hid (hasNumber_any w3 v3 _ f R3.out)
  rw [← HE.out] at HN
  go_wp2_with fail
  refine HN.out.mono ?_
  rintro e w' ⟨rfl, rfl⟩
  go_wp2_with fail
  go_ret
  exact ⟨by simp, B3.out⟩
theorem bitsParts_walk (hJ : IJoin) (hW : IWout) (W : World) (a : Option Addr) (len cap : Nat) (zs : List Int) (hr : Row .u8 W a len cap zs) :
    Calls Try.prog 9 #[.slice a len cap] W fun e w' => e = .returned (.bool true) ∧ Below W.heap.size W w' := by
  have HJ := Lib.hid hJ
  have HW := Lib.hid hW
  clear hJ hW
  have hm := row_len hr
  by_cases hL : 1048576 < len
  · have hL1 : (1048576 : Int) < (len : Int) := by omega
    clear hr
    go_enter Try.func9, Try.ntmps9
    go_wp2_with fail
    go_ret
    exact ⟨rfl, Below.refl _ _⟩
  have hL1 : decide ((1048576 : Int) < (len : Int)) = false := by simp; omega
  have hL2 : decide (1048576 < len) = false := by simp; omega
  go_enter Try.func9, Try.ntmps9
  go_wp2_with fail
  refine (drawBitsWithout_any W a len cap zs hr).mono ?_
  clear hr
  rintro e w1 ⟨n, f, hn, hf, rfl, hb1⟩
  have B1 := Lib.hid hb1
  clear hb1 hf
  have HC := Lib.hid (HW.out w1 n f)
  have HS := Lib.hid (fun w => bitsWithout_any w n f)
  have HNEG := Lib.hid (bwout_neg (a := n) (b := f))
  have HPJ := Lib.hid (fun h1 h2 => bpart_join (a := n) (b := f) h1 h2)
  have HPN := Lib.hid (fun h1 h2 => bpart_none (a := n) (b := f) h1 h2)
  have HPS := Lib.hid (fun h1 h2 => bpart_sum (a := n) (b := f) h1 h2)
  obtain ⟨o, ho⟩ : ∃ o, o = bwout n f := ⟨_, rfl⟩
  rw [← ho] at HC HS HNEG HPJ HPN HPS
  clear ho
  go_wp2_with fail
  refine HC.out.mono ?_
  rintro e w2 ⟨rfl, hb2⟩
  have B2 := Lib.hid (B1.out.trans (hb2.mono B1.out.size))
  clear hb2 B1 HC
  go_wp2_with fail
  refine (HS.out w2).mono ?_
  rintro e w' ⟨rfl, rfl⟩
  clear HS
  by_cases hneg : o < 0
  · go_wp2_with fail
    go_ret
    exact ⟨by simp, B2.out⟩
  have hneg1 : decide (o < 0) = false := by simpa using hneg
  have hset : bset n = true ∧ bset f = true := Decidable.byContradiction (fun hh => hneg (HNEG.out.2 hh))
  have EJ := Lib.hid (HPJ.out hset.1 hset.2)
  have EN := Lib.hid (HPN.out hset.1 hset.2)
  have ES := Lib.hid (HPS.out hset.1 hset.2)
  clear HPJ HPN HPS HNEG hset
  have HX := Lib.hid (HW.out w2 n o)
  obtain ⟨x, hx⟩ : ∃ x, x = bwout n o := ⟨_, rfl⟩
  rw [← hx] at EJ EN ES HX
  clear hx
  go_wp2_with fail
  refine HX.out.mono ?_
  rintro e w3 ⟨rfl, hb3⟩
  have B3 := Lib.hid (B2.out.trans (hb3.mono B2.out.size))
  clear hb3 B2 HX
  have HY := Lib.hid (HJ.out w3 o x)
  rw [EJ.out] at HY
  have hw : IntKind.i64.wrap (o + x) = n := by rw [ES.out, IntKind.wrap_i64]; omega
  go_wp2_with fail
  refine HY.out.mono ?_
  rintro e w4 ⟨rfl, hb4⟩
  have B4 := Lib.hid (B3.out.trans (hb4.mono B3.out.size))
  clear hb4 B3 HY
  have HZ := Lib.hid (HW.out w4 x f)
  rw [EN.out] at HZ
  go_wp2_with fail
  refine HZ.out.mono ?_
  rintro e w5 ⟨rfl, hb5⟩
  have B5 := Lib.hid (B4.out.trans (hb5.mono B4.out.size))
  clear hb5 B4 HZ
  go_wp2_with fail
  go_ret
  exact ⟨rfl, B5.out⟩
end Go.Proofs.Ytijgpimjmphaoaa
