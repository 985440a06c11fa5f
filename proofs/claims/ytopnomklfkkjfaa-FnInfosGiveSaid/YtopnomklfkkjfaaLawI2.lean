/- More walks of the statements on taken frames, out of contracts of the program. -/
import Derived.Test.YtopnomklfkkjfaaLawI
namespace Go.Proofs.Ytopnomklfkkjfaa
open Go.ChangeShapes Go.WideShapes Go.ChangeAt Go.RowKit
set_option linter.unusedVariables false

set_option maxRecDepth 100000 in
set_option maxHeartbeats 2000000 in
theorem infosTakeNone_walk (hT : IIT) (hF : IIF) (hR : IRV) (W : World) (a : Option Addr) (len cap : Nat) (zs : List Int) (hr : Row .u8 W a len cap zs) :
    Calls Try.prog 4 #[.slice a len cap] W fun e w' => e = .returned (.bool true) ∧ Below W.heap.size W w' := by
  have HT := Lib.hid hT
  have HF := Lib.hid hF
  have HR := Lib.hid hR
  clear hT hF hR
  have hm := row_len hr
  by_cases hL : 1048576 < len
  · have hL1 : (1048576 : Int) < (len : Int) := by omega
    clear hr
    go_enter Try.func4, Try.ntmps4
    go_wp2_with fail
    go_ret
    exact ⟨rfl, Below.refl _ _⟩
  have hL1 : decide ((1048576 : Int) < (len : Int)) = false := by simp; omega
  have hL2 : decide (1048576 < len) = false := by simp; omega
  go_enter Try.func4, Try.ntmps4
  go_wp2_with fail
  refine (drawInfosTake_any W a len cap zs hr).mono ?_
  clear hr
  rintro e w1 ⟨v, ys, x, hx, rfl, hd⟩
  have B1 := Lib.hid hd.bel
  have R1 := Lib.hid hd.is
  have HSH := Lib.hid hd.rng
  obtain ⟨a1, c2, hv⟩ : ∃ (a1 : Option Addr) (c : Nat), v = .slice a1 ys.length c := by
    obtain ⟨g, c, h⟩ := hd.form
    exact ⟨_, _, h⟩
  have hl8 : ys.length ≤ 12 := hd.len
  have hxl : x.length ≤ 10 := hx
  have HXS := Lib.hid hx
  clear hd hx
  subst hv
  have HC := Lib.hid (HT.out w1 _ ys x R1.out (shortI HSH.out) (by omega))
  have HS := Lib.hid (fun w h => infosTake_any w (.slice a1 ys.length c2) ys x h (shortI HSH.out) (by omega))
  have HTN := Lib.hid (take_none ys x)
  have HC2 := Lib.hid (fun w h => HF.out w (.slice a1 ys.length c2) ys h (shortI HSH.out))
  have HV := Lib.hid (fun w => HR.out w x (by omega))
  generalize itake ys x = us at HC HS
  generalize itakeN ys x = f0 at HC HS
  generalize tok ys x = b at HC HS HTN
  generalize ifree ys = q at HTN HC2
  generalize rv x = r at HTN HV
  obtain ⟨n, hn⟩ : ∃ n, n = ys.length := ⟨_, rfl⟩
  rw [← hn] at HC HS HC2 R1 hl8 ⊢
  clear hn HF HR HT
  have hff := neI f0
  by_cases hq : 0 < q
  · have hq1 : decide (0 < q) = true := by simpa using hq
    rw [hq1, Bool.true_and] at HTN
    obtain rfl := HTN.out
    clear HTN
    cases b with
    | false =>
      go_wp2_with fail
      refine HC.out.mono ?_
      rintro e w2 ⟨p2, rfl, hr2, hb2⟩
      have B2 := Lib.hid (B1.out.trans (hb2.mono B1.out.size))
      have R2 := Lib.hid (R1.out.below hb2)
      have U2 := Lib.hid hr2.is
      clear hb2 hr2 HC R1 B1
      go_wp2_with fail
      refine (HS.out w2 R2.out).mono ?_
      rintro e w3 ⟨p3, rfl, hr3, hb3⟩
      have B3 := Lib.hid (B2.out.trans (hb3.mono B2.out.size))
      have R3 := Lib.hid (R2.out.below hb3)
      have U23 := Lib.hid (U2.out.below hb3)
      have U3 := Lib.hid hr3.is
      clear hb3 hr3 HS R2 B2 U2
      go_wp2_with fail
      refine (sameI w3 p2 p3 us U23.out U3.out).mono ?_
      rintro e w4 ⟨rfl, hb4⟩
      have B4 := Lib.hid (B3.out.trans (hb4.mono B3.out.size))
      have R4 := Lib.hid (R3.out.below hb4)
      have U24 := Lib.hid (U23.out.below hb4)
      have U34 := Lib.hid (U3.out.below hb4)
      clear hb4 B3 U23 U3 R3
      clear U24 U34
      go_wp2_with fail
      refine (HC2.out w4 R4.out).mono ?_
      rintro e w5 ⟨rfl, hb5⟩
      have B5 := Lib.hid (B4.out.trans (hb5.mono B4.out.size))
      have R5 := Lib.hid (R4.out.below hb5)
      clear hb5 R4 B4 HC2
      go_wp2_with fail
      refine (HV.out w5).mono ?_
      rintro e w6 ⟨rfl, hb6⟩
      have B6 := Lib.hid (B5.out.trans (hb6.mono B5.out.size))
      clear hb6 R5
      go_wp2_with fail
      go_ret
      exact ⟨rfl, B6.out⟩
    | true =>
      go_wp2_with fail
      refine HC.out.mono ?_
      rintro e w2 ⟨p2, rfl, hr2, hb2⟩
      have B2 := Lib.hid (B1.out.trans (hb2.mono B1.out.size))
      have R2 := Lib.hid (R1.out.below hb2)
      have U2 := Lib.hid hr2.is
      clear hb2 hr2 HC R1 B1
      go_wp2_with fail
      refine (HS.out w2 R2.out).mono ?_
      rintro e w3 ⟨p3, rfl, hr3, hb3⟩
      have B3 := Lib.hid (B2.out.trans (hb3.mono B2.out.size))
      have R3 := Lib.hid (R2.out.below hb3)
      have U23 := Lib.hid (U2.out.below hb3)
      have U3 := Lib.hid hr3.is
      clear hb3 hr3 HS R2 B2 U2
      go_wp2_with fail
      refine (sameI w3 p2 p3 us U23.out U3.out).mono ?_
      rintro e w4 ⟨rfl, hb4⟩
      have B4 := Lib.hid (B3.out.trans (hb4.mono B3.out.size))
      have R4 := Lib.hid (R3.out.below hb4)
      have U24 := Lib.hid (U23.out.below hb4)
      have U34 := Lib.hid (U3.out.below hb4)
      clear hb4 B3 U23 U3 R3
      clear U24 U34
      go_wp2_with fail
      refine (HC2.out w4 R4.out).mono ?_
      rintro e w5 ⟨rfl, hb5⟩
      have B5 := Lib.hid (B4.out.trans (hb5.mono B4.out.size))
      have R5 := Lib.hid (R4.out.below hb5)
      clear hb5 R4 B4 HC2
      go_wp2_with fail
      refine (HV.out w5).mono ?_
      rintro e w6 ⟨rfl, hb6⟩
      have B6 := Lib.hid (B5.out.trans (hb6.mono B5.out.size))
      clear hb6 R5
      go_wp2_with fail
      go_ret
      exact ⟨rfl, B6.out⟩
  · have hq1 : decide (0 < q) = false := by simpa using hq
    rw [hq1, Bool.false_and] at HTN
    obtain rfl := HTN.out
    clear HTN
    go_wp2_with fail
    refine HC.out.mono ?_
    rintro e w2 ⟨p2, rfl, hr2, hb2⟩
    have B2 := Lib.hid (B1.out.trans (hb2.mono B1.out.size))
    have R2 := Lib.hid (R1.out.below hb2)
    have U2 := Lib.hid hr2.is
    clear hb2 hr2 HC R1 B1
    go_wp2_with fail
    refine (HS.out w2 R2.out).mono ?_
    rintro e w3 ⟨p3, rfl, hr3, hb3⟩
    have B3 := Lib.hid (B2.out.trans (hb3.mono B2.out.size))
    have R3 := Lib.hid (R2.out.below hb3)
    have U23 := Lib.hid (U2.out.below hb3)
    have U3 := Lib.hid hr3.is
    clear hb3 hr3 HS R2 B2 U2
    go_wp2_with fail
    refine (sameI w3 p2 p3 us U23.out U3.out).mono ?_
    rintro e w4 ⟨rfl, hb4⟩
    have B4 := Lib.hid (B3.out.trans (hb4.mono B3.out.size))
    have R4 := Lib.hid (R3.out.below hb4)
    have U24 := Lib.hid (U23.out.below hb4)
    have U34 := Lib.hid (U3.out.below hb4)
    clear hb4 B3 U23 U3 R3
    clear U24 U34
    go_wp2_with fail
    refine (HC2.out w4 R4.out).mono ?_
    rintro e w5 ⟨rfl, hb5⟩
    have B5 := Lib.hid (B4.out.trans (hb5.mono B4.out.size))
    have R5 := Lib.hid (R4.out.below hb5)
    clear hb5 R4 B4 HC2
    go_wp2_with fail
    go_ret
    exact ⟨rfl, B5.out⟩
set_option maxRecDepth 100000 in
set_option maxHeartbeats 2000000 in
theorem infosTakeGive_walk (hT : IIT) (hG : IIG) (W : World) (a : Option Addr) (len cap : Nat) (zs : List Int) (hr : Row .u8 W a len cap zs) :
    Calls Try.prog 6 #[.slice a len cap] W fun e w' => e = .returned (.bool true) ∧ Below W.heap.size W w' := by
  have HT := Lib.hid hT
  have HG := Lib.hid hG
  clear hT hG
  have hm := row_len hr
  by_cases hL : 1048576 < len
  · have hL1 : (1048576 : Int) < (len : Int) := by omega
    clear hr
    go_enter Try.func6, Try.ntmps6
    go_wp2_with fail
    go_ret
    exact ⟨rfl, Below.refl _ _⟩
  have hL1 : decide ((1048576 : Int) < (len : Int)) = false := by simp; omega
  have hL2 : decide (1048576 < len) = false := by simp; omega
  go_enter Try.func6, Try.ntmps6
  go_wp2_with fail
  refine (drawInfosTake_any W a len cap zs hr).mono ?_
  clear hr
  rintro e w1 ⟨v, ys, x, hx, rfl, hd⟩
  have B1 := Lib.hid hd.bel
  have R1 := Lib.hid hd.is
  have HSH := Lib.hid hd.rng
  obtain ⟨a1, c2, hv⟩ : ∃ (a1 : Option Addr) (c : Nat), v = .slice a1 ys.length c := by
    obtain ⟨g, c, h⟩ := hd.form
    exact ⟨_, _, h⟩
  have hl8 : ys.length ≤ 12 := hd.len
  have hxl : x.length ≤ 10 := hx
  have HXS := Lib.hid hx
  clear hd hx
  subst hv
  have HC := Lib.hid (HT.out w1 _ ys x R1.out (shortI HSH.out) (by omega))
  have HS := Lib.hid (fun w h => infosTake_any w (.slice a1 ys.length c2) ys x h (shortI HSH.out) (by omega))
  have HZS := Lib.hid (itake_short HSH.out HXS.out)
  have HTG := Lib.hid (take_give (xs := ys) (g := x))
  generalize itake ys x = us at HC HS HZS HTG
  generalize itakeN ys x = f0 at HC HS HTG
  generalize tok ys x = b at HC HS HTG
  obtain ⟨n, hn⟩ : ∃ n, n = ys.length := ⟨_, rfl⟩
  rw [← hn] at HC HS R1 hl8 ⊢
  clear hn HT
  have hff := neI f0
  cases b with
  | false =>
    go_wp2_with fail
    refine HC.out.mono ?_
    rintro e w2 ⟨p2, rfl, hr2, hb2⟩
    have B2 := Lib.hid (B1.out.trans (hb2.mono B1.out.size))
    have R2 := Lib.hid (R1.out.below hb2)
    have U2 := Lib.hid hr2.is
    clear hb2 hr2 HC R1 B1
    go_wp2_with fail
    refine (HS.out w2 R2.out).mono ?_
    rintro e w3 ⟨p3, rfl, hr3, hb3⟩
    have B3 := Lib.hid (B2.out.trans (hb3.mono B2.out.size))
    have R3 := Lib.hid (R2.out.below hb3)
    have U23 := Lib.hid (U2.out.below hb3)
    have U3 := Lib.hid hr3.is
    clear hb3 hr3 HS R2 B2 U2
    go_wp2_with fail
    refine (sameI w3 p2 p3 us U23.out U3.out).mono ?_
    rintro e w4 ⟨rfl, hb4⟩
    have B4 := Lib.hid (B3.out.trans (hb4.mono B3.out.size))
    have R4 := Lib.hid (R3.out.below hb4)
    have U24 := Lib.hid (U23.out.below hb4)
    have U34 := Lib.hid (U3.out.below hb4)
    clear hb4 B3 U23 U3 R3
    go_wp2_with fail
    refine (sameI w4 p2 p3 us U24.out U34.out).mono ?_
    rintro e w5 ⟨rfl, hb5⟩
    have B5 := Lib.hid (B4.out.trans (hb5.mono B4.out.size))
    clear hb5
    go_wp2_with fail
    go_ret
    exact ⟨rfl, B5.out⟩
  | true =>
    obtain ⟨hg1, hg2⟩ := HTG.out rfl
    have HGC := Lib.hid (fun w v h => HG.out w v us f0 h (shortI HZS.out))
    rw [hg1, hg2] at HGC
    clear hg1 hg2 HTG HG
    go_wp2_with fail
    refine HC.out.mono ?_
    rintro e w2 ⟨p2, rfl, hr2, hb2⟩
    have B2 := Lib.hid (B1.out.trans (hb2.mono B1.out.size))
    have R2 := Lib.hid (R1.out.below hb2)
    have U2 := Lib.hid hr2.is
    clear hb2 hr2 HC R1 B1
    go_wp2_with fail
    refine (HS.out w2 R2.out).mono ?_
    rintro e w3 ⟨p3, rfl, hr3, hb3⟩
    have B3 := Lib.hid (B2.out.trans (hb3.mono B2.out.size))
    have R3 := Lib.hid (R2.out.below hb3)
    have U23 := Lib.hid (U2.out.below hb3)
    have U3 := Lib.hid hr3.is
    clear hb3 hr3 HS R2 B2 U2
    go_wp2_with fail
    refine (sameI w3 p2 p3 us U23.out U3.out).mono ?_
    rintro e w4 ⟨rfl, hb4⟩
    have B4 := Lib.hid (B3.out.trans (hb4.mono B3.out.size))
    have R4 := Lib.hid (R3.out.below hb4)
    have U24 := Lib.hid (U23.out.below hb4)
    have U34 := Lib.hid (U3.out.below hb4)
    clear hb4 B3 U23 U3 R3
    clear U34
    go_wp2_with fail
    refine (HGC.out w4 p2 U24.out).mono ?_
    rintro e w5 ⟨p5, rfl, hr5, hb5⟩
    have B5 := Lib.hid (B4.out.trans (hb5.mono B4.out.size))
    have R5 := Lib.hid (R4.out.below hb5)
    have U5 := Lib.hid hr5.is
    clear hb5 hr5 B4 R4 U24 HGC
    go_wp2_with fail
    refine (sameI w5 p5 _ ys U5.out R5.out).mono ?_
    rintro e w6 ⟨rfl, hb6⟩
    have B6 := Lib.hid (B5.out.trans (hb6.mono B5.out.size))
    clear hb6
    go_wp2_with fail
    go_ret
    exact ⟨rfl, B6.out⟩
end Go.Proofs.Ytopnomklfkkjfaa
