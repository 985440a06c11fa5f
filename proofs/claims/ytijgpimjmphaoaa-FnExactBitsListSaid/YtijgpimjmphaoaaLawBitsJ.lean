/- The walks of the statements on joined sets and on sets without frames. -/
import Derived.Test.YtijgpimjmphaoaaLawBitsL
import Derived.Deep.RegionHeld
namespace Go.Proofs.Ytijgpimjmphaoaa
open Go.ChangeShapes Go.WideShapes Go.ChangeAt Go.RowKit
set_option linter.unusedVariables false

theorem join_has {a b : Int} (ha : bset a = true) (hb : bset b = true) (k : Nat) (hk : k < 12) : bhas (bjoin a b) k = (bhas a k || bhas b k) := by
  rw [bjoin_yes ha hb, bhas_num _ k hk, bhas_at ha k hk, bhas_at hb k hk]
theorem wout_has {a b : Int} (ha : bset a = true) (hb : bset b = true) (k : Nat) (hk : k < 12) : bhas (bwout a b) k = (bhas a k && !bhas b k) := by
  rw [bwout_yes ha hb, bhas_num _ k hk, bhas_at ha k hk, bhas_at hb k hk]
set_option maxRecDepth 100000 in
theorem bitsJoin_walk (hO : IJoin) (hH : IHas) (W : World) (a : Option Addr) (len cap : Nat) (zs : List Int) (hr : Row .u8 W a len cap zs) :
    Calls Try.prog 7 #[.slice a len cap] W fun e w' => e = .returned (.bool true) ∧ Below W.heap.size W w' := by
  have HO := Lib.hid hO
  have HH := Lib.hid hH
  clear hO hH
  have hm := row_len hr
  by_cases hL : 1048576 < len
  · have hL1 : (1048576 : Int) < (len : Int) := by omega
    clear hr
    go_enter Try.func7, Try.ntmps7
    go_wp2_with fail
    go_ret
    exact ⟨rfl, Below.refl _ _⟩
  have hL1 : decide ((1048576 : Int) < (len : Int)) = false := by simp; omega
  have hL2 : decide (1048576 < len) = false := by simp; omega
  go_enter Try.func7, Try.ntmps7
  go_wp2_with fail
  refine (drawBitsJoin_any W a len cap zs hr).mono ?_
  clear hr
  rintro e w1 ⟨n, f, hn, hf, rfl, hb1⟩
  have B1 := Lib.hid hb1
  clear hb1
  have HC := Lib.hid (HO.out w1 n f)
  have HS := Lib.hid (fun w => bitsJoin_any w n f)
  have HNEG := Lib.hid (bjoin_neg (a := n) (b := f))
  have HHAS := Lib.hid (fun h1 h2 => join_has (a := n) (b := f) h1 h2)
  have HE1 := Lib.hid (fun h1 h2 => bjoin_comm (a := n) (b := f) h1 h2)
  have HE2 := Lib.hid (fun h1 h2 => bjoin_again (a := n) (b := f) h1 h2)
  obtain ⟨o, ho⟩ : ∃ o, o = bjoin n f := ⟨_, rfl⟩
  rw [← ho] at HC HS HNEG HHAS HE1 HE2
  clear ho
  go_wp2_with fail
  refine HC.out.mono ?_
  rintro e w2 ⟨rfl, hb2⟩
  have B2 := Lib.hid (B1.out.trans (hb2.mono B1.out.size))
  clear hb2 B1 HC
  go_wp2_with fail
  refine (HS.out w2).mono ?_
  rintro e w' ⟨rfl, rfl⟩
  clear HS
  by_cases hneg : o < 0
  · go_wp2_with fail
    go_ret
    exact ⟨by simp, B2.out⟩
  have hneg1 : decide (o < 0) = false := by simpa using hneg
  have hset : bset n = true ∧ bset f = true := Decidable.byContradiction (fun hh => hneg (HNEG.out.2 hh))
  have HK := Lib.hid (HHAS.out hset.1 hset.2)
  have E1 := Lib.hid (HE1.out hset.1 hset.2)
  have E2 := Lib.hid (HE2.out hset.1 hset.2)
  clear HE1 HE2
  clear HNEG HHAS hset
  go_wp2_with fail
  go_loopw [7] (fun i wr => ∃ k : Nat, k ≤ 12 ∧ i = .int .i64 k ∧ Below W.heap.size W wr) (fun i _ => 12 - (intOf i).toNat)
  case atStart => exact ⟨0, Nat.zero_le _, rfl, B2.out⟩
  case round =>
    obtain ⟨k, hk, rfl, hrel⟩ := hrel
    have BR := Lib.hid hrel
    clear hrel
    by_cases hlt : k < 12
    · have hlt' : (k : Int) < 12 := by omega
      have HKK := Lib.hid (HK.out k hlt)
      have HC0 := Lib.hid (fun w => HH.out w o k)
      have HCA := Lib.hid (fun w => HH.out w n k)
      have HCB := Lib.hid (fun w => HH.out w f k)
      obtain ⟨bo, hbo⟩ : ∃ b, b = bhas o k := ⟨_, rfl⟩
      obtain ⟨ba, hba⟩ : ∃ b, b = bhas n k := ⟨_, rfl⟩
      obtain ⟨bb, hbb⟩ : ∃ b, b = bhas f k := ⟨_, rfl⟩
      rw [← hbo] at HC0 HKK
      rw [← hba] at HCA HKK
      rw [← hbb] at HCB HKK
      clear hbo hba hbb
      go_wp2_with fail
      refine (HC0.out _).mono ?_
      rintro e w3 ⟨rfl, hb3⟩
      have B3 := Lib.hid (BR.out.trans (hb3.mono BR.out.size))
      clear hb3 BR HC0
      cases ba <;> cases bb
      · have hbo : bo = false := HKK.out
        subst hbo
        go_wp2_with fail
        refine (HCA.out w3).mono ?_
        rintro e w4 ⟨rfl, hb4⟩
        have B4 := Lib.hid (B3.out.trans (hb4.mono B3.out.size))
        clear hb4 B3
        go_wp2_with fail
        refine (HCB.out w4).mono ?_
        rintro e w5 ⟨rfl, hb5⟩
        have B5 := Lib.hid (B4.out.trans (hb5.mono B4.out.size))
        clear hb5 B4
        go_wp2_with fail
        go_roundw
        case rel => exact ⟨k + 1, by omega, by go_num, B5.out⟩
        case measure => simp [intOf]; omega
      · have hbo : bo = true := HKK.out
        subst hbo
        go_wp2_with fail
        refine (HCA.out w3).mono ?_
        rintro e w4 ⟨rfl, hb4⟩
        have B4 := Lib.hid (B3.out.trans (hb4.mono B3.out.size))
        clear hb4 B3
        go_wp2_with fail
        refine (HCB.out w4).mono ?_
        rintro e w5 ⟨rfl, hb5⟩
        have B5 := Lib.hid (B4.out.trans (hb5.mono B4.out.size))
        clear hb5 B4
        go_wp2_with fail
        go_roundw
        case rel => exact ⟨k + 1, by omega, by go_num, B5.out⟩
        case measure => simp [intOf]; omega
      · have hbo : bo = true := HKK.out
        subst hbo
        go_wp2_with fail
        refine (HCA.out w3).mono ?_
        rintro e w4 ⟨rfl, hb4⟩
        have B4 := Lib.hid (B3.out.trans (hb4.mono B3.out.size))
        clear hb4 B3
        go_wp2_with fail
        go_roundw
        case rel => exact ⟨k + 1, by omega, by go_num, B4.out⟩
        case measure => simp [intOf]; omega
      · have hbo : bo = true := HKK.out
        subst hbo
        go_wp2_with fail
        refine (HCA.out w3).mono ?_
        rintro e w4 ⟨rfl, hb4⟩
        have B4 := Lib.hid (B3.out.trans (hb4.mono B3.out.size))
        clear hb4 B3
        go_wp2_with fail
        go_roundw
        case rel => exact ⟨k + 1, by omega, by go_num, B4.out⟩
        case measure => simp [intOf]; omega
    · have e : k = 12 := by omega
      subst e
      have HX := Lib.hid (fun w => HO.out w f n)
      have HY := Lib.hid (fun w => HO.out w o f)
      rw [E1.out] at HX
      rw [E2.out] at HY
      go_wp2_with fail
      refine (HX.out _).mono ?_
      rintro e w3 ⟨rfl, hb3⟩
      have B3 := Lib.hid (BR.out.trans (hb3.mono BR.out.size))
      clear hb3 BR
      go_wp2_with fail
      refine (HY.out w3).mono ?_
      rintro e w4 ⟨rfl, hb4⟩
      have B4 := Lib.hid (B3.out.trans (hb4.mono B3.out.size))
      clear hb4 B3
      go_wp2_with fail
      go_ret
      exact ⟨by simp, B4.out⟩
set_option maxRecDepth 100000 in
theorem bitsWithout_walk (hO : IWout) (hH : IHas) (W : World) (a : Option Addr) (len cap : Nat) (zs : List Int) (hr : Row .u8 W a len cap zs) :
    Calls Try.prog 8 #[.slice a len cap] W fun e w' => e = .returned (.bool true) ∧ Below W.heap.size W w' := by
  have HO := Lib.hid hO
  have HH := Lib.hid hH
  clear hO hH
  have hm := row_len hr
  by_cases hL : 1048576 < len
  · have hL1 : (1048576 : Int) < (len : Int) := by omega
    clear hr
    go_enter Try.func8, Try.ntmps8
    go_wp2_with fail
    go_ret
    exact ⟨rfl, Below.refl _ _⟩
  have hL1 : decide ((1048576 : Int) < (len : Int)) = false := by simp; omega
  have hL2 : decide (1048576 < len) = false := by simp; omega
  go_enter Try.func8, Try.ntmps8
  go_wp2_with fail
  refine (drawBitsWithout_any W a len cap zs hr).mono ?_
  clear hr
  rintro e w1 ⟨n, f, hn, hf, rfl, hb1⟩
  have B1 := Lib.hid hb1
  clear hb1
  have HC := Lib.hid (HO.out w1 n f)
  have HS := Lib.hid (fun w => bitsWithout_any w n f)
  have HNEG := Lib.hid (bwout_neg (a := n) (b := f))
  have HHAS := Lib.hid (fun h1 h2 => wout_has (a := n) (b := f) h1 h2)
  obtain ⟨o, ho⟩ : ∃ o, o = bwout n f := ⟨_, rfl⟩
  rw [← ho] at HC HS HNEG HHAS
  clear ho
  go_wp2_with fail
  refine HC.out.mono ?_
  rintro e w2 ⟨rfl, hb2⟩
  have B2 := Lib.hid (B1.out.trans (hb2.mono B1.out.size))
  clear hb2 B1 HC
  go_wp2_with fail
  refine (HS.out w2).mono ?_
  rintro e w' ⟨rfl, rfl⟩
  clear HS
  by_cases hneg : o < 0
  · go_wp2_with fail
    go_ret
    exact ⟨by simp, B2.out⟩
  have hneg1 : decide (o < 0) = false := by simpa using hneg
  have hset : bset n = true ∧ bset f = true := Decidable.byContradiction (fun hh => hneg (HNEG.out.2 hh))
  have HK := Lib.hid (HHAS.out hset.1 hset.2)
  have E1 := Lib.hid (bwout_self hset.1)
  clear HNEG HHAS hset
  go_wp2_with fail
  go_loopw [7] (fun i wr => ∃ k : Nat, k ≤ 12 ∧ i = .int .i64 k ∧ Below W.heap.size W wr) (fun i _ => 12 - (intOf i).toNat)
  case atStart => exact ⟨0, Nat.zero_le _, rfl, B2.out⟩
  case round =>
    obtain ⟨k, hk, rfl, hrel⟩ := hrel
    have BR := Lib.hid hrel
    clear hrel
    by_cases hlt : k < 12
    · have hlt' : (k : Int) < 12 := by omega
      have HKK := Lib.hid (HK.out k hlt)
      have HC0 := Lib.hid (fun w => HH.out w o k)
      have HCA := Lib.hid (fun w => HH.out w n k)
      have HCB := Lib.hid (fun w => HH.out w f k)
      obtain ⟨bo, hbo⟩ : ∃ b, b = bhas o k := ⟨_, rfl⟩
      obtain ⟨ba, hba⟩ : ∃ b, b = bhas n k := ⟨_, rfl⟩
      obtain ⟨bb, hbb⟩ : ∃ b, b = bhas f k := ⟨_, rfl⟩
      rw [← hbo] at HC0 HKK
      rw [← hba] at HCA HKK
      rw [← hbb] at HCB HKK
      clear hbo hba hbb
      go_wp2_with fail
      refine (HC0.out _).mono ?_
      rintro e w3 ⟨rfl, hb3⟩
      have B3 := Lib.hid (BR.out.trans (hb3.mono BR.out.size))
      clear hb3 BR HC0
      cases ba <;> cases bb
      · have hbo : bo = false := HKK.out
        subst hbo
        go_wp2_with fail
        refine (HCA.out w3).mono ?_
        rintro e w4 ⟨rfl, hb4⟩
        have B4 := Lib.hid (B3.out.trans (hb4.mono B3.out.size))
        clear hb4 B3
        go_wp2_with fail
        go_roundw
        case rel => exact ⟨k + 1, by omega, by go_num, B4.out⟩
        case measure => simp [intOf]; omega
      · have hbo : bo = false := HKK.out
        subst hbo
        go_wp2_with fail
        refine (HCA.out w3).mono ?_
        rintro e w4 ⟨rfl, hb4⟩
        have B4 := Lib.hid (B3.out.trans (hb4.mono B3.out.size))
        clear hb4 B3
        go_wp2_with fail
        go_roundw
        case rel => exact ⟨k + 1, by omega, by go_num, B4.out⟩
        case measure => simp [intOf]; omega
      · have hbo : bo = true := HKK.out
        subst hbo
        go_wp2_with fail
        refine (HCA.out w3).mono ?_
        rintro e w4 ⟨rfl, hb4⟩
        have B4 := Lib.hid (B3.out.trans (hb4.mono B3.out.size))
        clear hb4 B3
        go_wp2_with fail
        refine (HCB.out w4).mono ?_
        rintro e w5 ⟨rfl, hb5⟩
        have B5 := Lib.hid (B4.out.trans (hb5.mono B4.out.size))
        clear hb5 B4
        go_wp2_with fail
        go_roundw
        case rel => exact ⟨k + 1, by omega, by go_num, B5.out⟩
        case measure => simp [intOf]; omega
      · have hbo : bo = false := HKK.out
        subst hbo
        go_wp2_with fail
        refine (HCA.out w3).mono ?_
        rintro e w4 ⟨rfl, hb4⟩
        have B4 := Lib.hid (B3.out.trans (hb4.mono B3.out.size))
        clear hb4 B3
        go_wp2_with fail
        refine (HCB.out w4).mono ?_
        rintro e w5 ⟨rfl, hb5⟩
        have B5 := Lib.hid (B4.out.trans (hb5.mono B4.out.size))
        clear hb5 B4
        go_wp2_with fail
        go_roundw
        case rel => exact ⟨k + 1, by omega, by go_num, B5.out⟩
        case measure => simp [intOf]; omega
    · have e : k = 12 := by omega
      subst e
      have HX := Lib.hid (fun w => HO.out w n n)
      rw [E1.out] at HX
      go_wp2_with fail
      refine (HX.out _).mono ?_
      rintro e w3 ⟨rfl, hb3⟩
      have B3 := Lib.hid (BR.out.trans (hb3.mono BR.out.size))
      clear hb3 BR
      go_wp2_with fail
      go_ret
      exact ⟨rfl, B3.out⟩
end Go.Proofs.Ytijgpimjmphaoaa
