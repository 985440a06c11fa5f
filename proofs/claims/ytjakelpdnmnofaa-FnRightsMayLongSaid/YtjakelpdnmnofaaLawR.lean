/- The walks of the statements on single rights, out of contracts of the program. -/
import Derived.Test.YtjakelpdnmnofaaExRights
import Derived.Test.YtjakelpdnmnofaaRDraw
namespace Go.Proofs.Ytjakelpdnmnofaa
open Go.ChangeShapes Go.WideShapes Go.ChangeAt Go.RowKit
set_option linter.unusedVariables false

theorem row_len {k : IntKind} {w : World} {a : Option Addr} {len cap : Nat} {zs : List Int} (hr : Row k w a len cap zs) : len ≤ 9223372036854775807 := by
  rcases hr with ⟨_, rfl, rfl, _⟩ | ⟨x, _, hl, hm, _⟩
  · omega
  · unfold maxLen at hm; omega
theorem append_d (t : Bs) (c : UInt8) : ByteArray.mk t.toArray ++ ByteArray.mk #[c] = ByteArray.mk (t ++ [c]).toArray := by
  rw [show (ByteArray.mk #[c]) = ByteArray.mk ([c] : List UInt8).toArray from rfl, ByteArray.mk_append_mk]
theorem extract_zero' (s : Bs) (k : Nat) : (ByteArray.mk s.toArray).extract 0 k = ⟨(s.take k).toArray⟩ := by rw [extract_mk]; rfl
theorem rightPart_walk (hI : IRV) (W : World) (a : Option Addr) (len cap : Nat) (zs : List Int) (hr : Row .u8 W a len cap zs) :
    Calls Try.prog 3 #[.slice a len cap] W fun e w' => e = .returned (.bool true) ∧ Below W.heap.size W w' := by
  have HI := Lib.hid hI
  clear hI
  have hm := row_len hr
  by_cases hL : 1048576 < len
  · have hL1 : (1048576 : Int) < (len : Int) := by omega
    clear hr
    go_enter Try.func3, Try.ntmps3
    go_wp2_with fail
    go_ret
    exact ⟨rfl, Below.refl _ _⟩
  have hL1 : decide ((1048576 : Int) < (len : Int)) = false := by simp; omega
  have hL2 : decide (1048576 < len) = false := by simp; omega
  go_enter Try.func3, Try.ntmps3
  go_wp2_with fail
  refine (drawRightValid_any W a len cap zs hr).mono ?_
  clear hr
  rintro e w1 ⟨t, ht, rfl, hb1⟩
  have B1 := Lib.hid hb1
  have htl : t.length ≤ 10 := ht
  have hti : (t.length : Int) ≤ 10 := by omega
  clear hb1 ht
  have HT := Lib.hid htl
  have HC := Lib.hid (fun w => HI.out w t (by omega))
  have HS := Lib.hid (fun w => sRightValid_any w t (by omega))
  have HD := Lib.hid (fun w => HI.out w (t ++ [100]) (by rw [List.length_append]; simp; omega))
  cases hb : rv t with
  | false =>
    rw [hb] at HC HS
    clear hb
    go_wp2_with fail
    refine (HC.out w1).mono ?_
    rintro e w2 ⟨rfl, hb2⟩
    have B2 := Lib.hid (B1.out.trans (hb2.mono B1.out.size))
    clear hb2
    go_wp2_with fail
    refine (HS.out w2).mono ?_
    rintro e w' ⟨rfl, rfl⟩
    go_wp2_with fail
    go_ret
    exact ⟨rfl, B2.out⟩
  | true =>
    have HPT := Lib.hid (fun n => rv_take hb n)
    rw [hb] at HC HS
    rw [rv_d, ← append_d] at HD
    clear hb
    go_wp2_with fail
    refine (HC.out w1).mono ?_
    rintro e w2 ⟨rfl, hb2⟩
    have B2 := Lib.hid (B1.out.trans (hb2.mono B1.out.size))
    clear hb2
    go_wp2_with fail
    refine (HS.out w2).mono ?_
    rintro e w' ⟨rfl, rfl⟩
    go_wp2_with fail
    refine (HD.out w2).mono ?_
    rintro e w3 ⟨rfl, hb3⟩
    have B3 := Lib.hid (B2.out.trans (hb3.mono B2.out.size))
    clear hb3
    cases t with
    | nil =>
      go_wp2_with fail
      go_ret
      exact ⟨rfl, B3.out⟩
    | cons c r =>
      have hne : ((c :: r) == ([] : List UInt8)) = false := rfl
      have hq : (c :: r).length = r.length + 1 := rfl
      have HP2 := Lib.hid (fun w => HI.out w ((c :: r).take r.length) (by rw [List.length_take]; omega))
      rw [HPT.out, ← extract_zero'] at HP2
      generalize c :: r = t at *
      generalize r.length = q at *
      have hq0 : (0 : Int) ≤ (q : Int) := by omega
      go_wp2_with fail
      refine (HP2.out w3).mono ?_
      rintro e w4 ⟨rfl, hb4⟩
      have B4 := Lib.hid (B3.out.trans (hb4.mono B3.out.size))
      clear hb4
      go_wp2_with fail
      go_ret
      exact ⟨rfl, B4.out⟩
theorem rightCovers_walk (hC : IRCov) (hI : IRV) (W : World) (a : Option Addr) (len cap : Nat) (zs : List Int) (hr : Row .u8 W a len cap zs) :
    Calls Try.prog 4 #[.slice a len cap] W fun e w' => e = .returned (.bool true) ∧ Below W.heap.size W w' := by
  have HCOV := Lib.hid hC
  have HI := Lib.hid hI
  clear hC hI
  have hm := row_len hr
  by_cases hL : 1048576 < len
  · have hL1 : (1048576 : Int) < (len : Int) := by omega
    clear hr
    go_enter Try.func4, Try.ntmps4
    go_wp2_with fail
    go_ret
    exact ⟨rfl, Below.refl _ _⟩
  have hL1 : decide ((1048576 : Int) < (len : Int)) = false := by simp; omega
  have hL2 : decide (1048576 < len) = false := by simp; omega
  go_enter Try.func4, Try.ntmps4
  go_wp2_with fail
  refine (drawRightCovers_any W a len cap zs hr).mono ?_
  clear hr
  rintro e w1 ⟨x, y, hx, hy, rfl, hb1⟩
  have B1 := Lib.hid hb1
  have hxl : x.length ≤ 10 := hx
  have hyl : y.length ≤ 10 := hy
  have hxi : (x.length : Int) ≤ 10 := by omega
  have hyi : (y.length : Int) ≤ 10 := by omega
  clear hb1 hx hy
  have HC := Lib.hid (HCOV.out w1 x y (by omega) (by omega))
  have HS := Lib.hid (fun w => sRightCovers_any w x y (by omega) (by omega))
  have HX := Lib.hid (fun w => HI.out w x (by omega))
  have HY := Lib.hid (fun w => HI.out w y (by omega))
  obtain ⟨r, hr⟩ : ∃ r, r = rcov x y := ⟨_, rfl⟩
  rw [← hr] at HC HS
  have HR : Hid (r = (rv x && (rv y && (decide (x.length ≤ y.length) && (y.take x.length == x))))) := Lib.hid (by rw [hr]; rfl)
  clear hr
  have hrr := neB r
  go_wp2_with fail
  refine HC.out.mono ?_
  rintro e w2 ⟨rfl, hb2⟩
  have B2 := Lib.hid (B1.out.trans (hb2.mono B1.out.size))
  clear hb2 HC
  go_wp2_with fail
  refine (HS.out w2).mono ?_
  rintro e w' ⟨rfl, rfl⟩
  go_wp2_with fail
  refine (HX.out w2).mono ?_
  rintro e w3 ⟨rfl, hb3⟩
  have B3 := Lib.hid (B2.out.trans (hb3.mono B2.out.size))
  clear hb3 HX
  cases h1 : rv x with
  | false =>
    have HR2 : Hid (r = false) := Lib.hid (by rw [HR.out, h1]; rfl)
    clear h1 HR
    go_wp2_with fail
    go_ret
    exact ⟨by rw [HR2.out]; rfl, B3.out⟩
  | true =>
    rw [h1] at HR
    clear h1
    go_wp2_with fail
    refine (HY.out w3).mono ?_
    rintro e w4 ⟨rfl, hb4⟩
    have B4 := Lib.hid (B3.out.trans (hb4.mono B3.out.size))
    clear hb4 HY
    cases h2 : rv y with
    | false =>
      have HR2 : Hid (r = false) := Lib.hid (by rw [HR.out, h2]; rfl)
      clear h2 HR
      go_wp2_with fail
      go_ret
      exact ⟨by rw [HR2.out]; rfl, B4.out⟩
    | true =>
      rw [h2] at HR
      clear h2
      by_cases hle : x.length ≤ y.length
      · have hle' : (x.length : Int) ≤ (y.length : Int) := by omega
        rw [decide_eq_true hle] at HR
        have hmin : min (x.length : Int) (y.length : Int) = (x.length : Int) := Int.min_eq_left hle'
        have HR2 : Hid (r = (y.take x.length == x)) := Lib.hid (by rw [HR.out]; rfl)
        clear HR
        go_wp2_with fail
        go_ret
        refine ⟨?_, B4.out⟩
        show Ending.returned (Value.bool (r == (((ByteArray.mk y.toArray).extract 0 x.length).toList == x))) = _
        rw [extract_toList, ← HR2.out]
        simp
      · have hle' : ¬ (x.length : Int) ≤ (y.length : Int) := by omega
        have HR2 : Hid (r = false) := Lib.hid (by rw [HR.out, decide_eq_false hle]; rfl)
        clear hle HR
        go_wp2_with fail
        go_ret
        exact ⟨by rw [HR2.out]; rfl, B4.out⟩
theorem rcov_two {x y : Bs} (h : rcov x y = true) : rcov y x = (x == y) ∧ rcov x x = true ∧ rcov [] y = true := by
  unfold rcov at h ⊢
  simp only [Bool.and_eq_true] at h
  obtain ⟨h1, h2, h3⟩ := h
  refine ⟨?_, by rw [h1, cov_self]; rfl, by rw [rv_nil, h2, cov_nil]; rfl⟩
  rw [h1, h2, Bool.true_and, Bool.true_and]
  cases hc : cov y x with
  | true => rw [cov_anti h3 hc]; simp
  | false =>
    symm
    rw [beq_eq_false_iff_ne]
    intro e
    rw [e, cov_self] at hc; cases hc
theorem rightCoversTwo_walk (hC : IRCov) (W : World) (a : Option Addr) (len cap : Nat) (zs : List Int) (hr : Row .u8 W a len cap zs) :
    Calls Try.prog 5 #[.slice a len cap] W fun e w' => e = .returned (.bool true) ∧ Below W.heap.size W w' := by
  have HCOV := Lib.hid hC
  clear hC
  have hm := row_len hr
  by_cases hL : 1048576 < len
  · have hL1 : (1048576 : Int) < (len : Int) := by omega
    clear hr
    go_enter Try.func5, Try.ntmps5
    go_wp2_with fail
    go_ret
    exact ⟨rfl, Below.refl _ _⟩
  have hL1 : decide ((1048576 : Int) < (len : Int)) = false := by simp; omega
  have hL2 : decide (1048576 < len) = false := by simp; omega
  go_enter Try.func5, Try.ntmps5
  go_wp2_with fail
  refine (drawRightCovers_any W a len cap zs hr).mono ?_
  clear hr
  rintro e w1 ⟨x, y, hx, hy, rfl, hb1⟩
  have B1 := Lib.hid hb1
  have hxl : x.length ≤ 10 := hx
  have hyl : y.length ≤ 10 := hy
  clear hb1 hx hy
  have HC := Lib.hid (HCOV.out w1 x y (by omega) (by omega))
  have HS := Lib.hid (fun w => sRightCovers_any w x y (by omega) (by omega))
  have H1 := Lib.hid (fun w => HCOV.out w y x (by omega) (by omega))
  have H2 := Lib.hid (fun w => HCOV.out w x x (by omega) (by omega))
  have H3 := Lib.hid (fun w => HCOV.out w [] y (Nat.zero_le _) (by omega))
  cases hr : rcov x y with
  | false =>
    rw [hr] at HC HS
    clear hr
    go_wp2_with fail
    refine HC.out.mono ?_
    rintro e w2 ⟨rfl, hb2⟩
    have B2 := Lib.hid (B1.out.trans (hb2.mono B1.out.size))
    clear hb2
    go_wp2_with fail
    refine (HS.out w2).mono ?_
    rintro e w' ⟨rfl, rfl⟩
    go_wp2_with fail
    go_ret
    exact ⟨rfl, B2.out⟩
  | true =>
    have ht := rcov_two hr
    rw [hr] at HC HS
    rw [ht.1] at H1
    rw [ht.2.1] at H2
    rw [ht.2.2] at H3
    clear hr ht
    obtain ⟨q, hq⟩ : ∃ q, q = (x == y) := ⟨_, rfl⟩
    rw [← hq] at H1
    have HQ := Lib.hid hq
    clear hq
    go_wp2_with fail
    refine HC.out.mono ?_
    rintro e w2 ⟨rfl, hb2⟩
    have B2 := Lib.hid (B1.out.trans (hb2.mono B1.out.size))
    clear hb2
    go_wp2_with fail
    refine (HS.out w2).mono ?_
    rintro e w' ⟨rfl, rfl⟩
    go_wp2_with fail
    refine (H1.out w2).mono ?_
    rintro e w3 ⟨rfl, hb3⟩
    have B3 := Lib.hid (B2.out.trans (hb3.mono B2.out.size))
    clear hb3
    go_wp2_with fail
    refine (H2.out w3).mono ?_
    rintro e w4 ⟨rfl, hb4⟩
    have B4 := Lib.hid (B3.out.trans (hb4.mono B3.out.size))
    clear hb4
    go_wp2_with fail
    refine (H3.out w4).mono ?_
    rintro e w5 ⟨rfl, hb5⟩
    have B5 := Lib.hid (B4.out.trans (hb5.mono B4.out.size))
    clear hb5
    go_wp2_with fail
    go_ret
    exact ⟨rfl, B5.out⟩
end Go.Proofs.Ytjakelpdnmnofaa
