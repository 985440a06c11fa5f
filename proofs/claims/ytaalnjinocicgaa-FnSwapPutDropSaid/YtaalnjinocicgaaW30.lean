/- What the proofs stand on, part 30. -/
import Derived.Test.YtaalnjinocicgaaRows
import Derived.Test.YtaalnjinocicgaaW1
import Derived.Test.YtaalnjinocicgaaW2
import Derived.Test.YtaalnjinocicgaaW3
import Derived.Test.YtaalnjinocicgaaW4
import Derived.Test.YtaalnjinocicgaaW5
import Derived.Test.YtaalnjinocicgaaW6
import Derived.Test.YtaalnjinocicgaaW7
import Derived.Test.YtaalnjinocicgaaW8
import Derived.Test.YtaalnjinocicgaaW9
import Derived.Test.YtaalnjinocicgaaW10
import Derived.Test.YtaalnjinocicgaaW11
import Derived.Test.YtaalnjinocicgaaW12
import Derived.Test.YtaalnjinocicgaaW15
set_option linter.unusedSimpArgs false
set_option linter.unusedVariables false
namespace Go.Proofs.Ytaalnjinocicgaa
open Go.ChangeShapes Go.WideShapes Go.ChangeAt Go.RowKit
set_option linter.unusedVariables false
set_option linter.unusedSimpArgs false
set_option maxRecDepth 100000 in
set_option maxHeartbeats 2000000 in
theorem swapPutDrop_walk (hISV : ISV) (hISP : ISP) (hISG : ISG) (hISD : ISD) (W : World) (a : Option Addr) (len cap : Nat) (zs : List Int) (hr : Row .u8 W a len cap zs) :
    Calls Try.prog 5 #[.slice a len cap] W fun e w' => e = .returned (.bool true) ∧ Below W.heap.size W w' := by
  have HISV := Lib.hid hISV
  have HISP := Lib.hid hISP
  have HISG := Lib.hid hISG
  have HISD := Lib.hid hISD
  clear hISV hISP hISG hISD
  have hm := row_len hr
  by_cases hL : 1048576 < len
  · have hL1 : (1048576 : Int) < (len : Int) := by omega
    clear hr
    go_enter Try.func5, Try.ntmps5
    go_wp2_with fail
    go_ret
    exact ⟨rfl, Below.refl _ _⟩
  have hL1 : decide ((1048576 : Int) < (len : Int)) = false := by simp; omega
  have hL2 : decide (1048576 < len) = false := by simp; omega
  clear hL
  go_enter Try.func5, Try.ntmps5
  go_wp2_with fail
  refine (drawSwapPut_any W a len cap zs hr).mono ?_
  clear hr
  rintro e w1 ⟨v, xss, u, ws, rfl, hu, hl4, hd⟩
  have B1 := Lib.hid hd.bel
  have R1 := Lib.hid hd.rows
  have U1 := Lib.hid hu
  have HLW := Lib.hid hl4
  have HLX := Lib.hid hd.len
  clear hd hu hl4
  have HC := Lib.hid (HISP.out w1 v u xss ws R1.out U1.out)
  have HS := Lib.hid (fun w h h' => sSwapPut_any w v u xss ws h h')
  have HYES : Hid (sputB xss ws = true → ∃ i, PutFacts xss ws (sput xss ws) (sputN xss ws) i) := Lib.hid put_yes
  obtain ⟨b, hb⟩ : ∃ b, b = sputB xss ws := ⟨_, rfl⟩
  rw [← hb] at HC HS HYES
  have HBV := Lib.hid hb
  clear hb
  generalize sput xss ws = yss at HC HS HYES
  generalize sputN xss ws = nn at HC HS HYES
  have hbb := neB b
  go_wp2_with fail
  refine HC.out.mono ?_
  rintro e w2 ⟨p2, rfl, hm2, hb⟩
  have M2 := Lib.hid hm2
  have R2 := Lib.hid (R1.out.below hb)
  have U2 := Lib.hid (Ints.below (B := 0) U1.out hb)
  have B2 := Lib.hid (B1.out.trans (hb.mono B1.out.size))
  clear hb hm2 HC R1 U1 B1
  go_wp2_with fail
  refine (HS.out w2 R2.out U2.out).mono ?_
  rintro e w3 ⟨p3, rfl, hm3, hb⟩
  have C := Chg.of_below hb
  have M3 := Lib.hid hm3.rows
  have M23 := Lib.hid (M2.out.chg C (Nat.le_refl _) (.inr (Nat.zero_le _))).rows
  have R3 := Lib.hid (R2.out.below hb)
  have U3 := Lib.hid (Ints.below (B := 0) U2.out hb)
  have B3 := Lib.hid (B2.out.trans (hb.mono B2.out.size))
  clear hb hm3 HS R2 U2 B2 M2 C
  go_wp2_with fail
  refine (same_c w3 p2 p3 yss M23.out M3.out).mono ?_
  rintro e w4 ⟨rfl, C⟩
  have hb : Below w3.heap.size w3 w4 := Below.chg (Below.refl _ _) C (Nat.le_refl _) (.inr rfl)
  have M4 := Lib.hid (M3.out.below hb)
  have M24 := Lib.hid (M23.out.below hb)
  have R4 := Lib.hid (R3.out.below hb)
  have U4 := Lib.hid (Ints.below (B := 0) U3.out hb)
  have B4 := Lib.hid (B3.out.trans (hb.mono B3.out.size))
  clear hb R3 U3 B3 M3 M23 C
  cases b with
  | false =>
    go_wp2_with fail
    refine (same_c w4 p2 p3 yss M24.out M4.out).mono ?_
    rintro e w5 ⟨rfl, C⟩
    have B5 := Lib.hid (B4.out.trans ((Below.chg (Below.refl _ _) C (Nat.le_refl _) (.inr rfl)).mono B4.out.size))
    clear C
    go_wp2_with fail
    go_ret
    exact ⟨rfl, B5.out⟩
  | true =>
    obtain ⟨i, hF⟩ := HYES.out rfl
    obtain rfl := hF.n
    have HF := Lib.hid hF
    clear hF HYES M4
    go_wp2_with fail
    refine (HISD.out w4 p2 yss (i : Int) M24.out).mono ?_
    rintro e w5 ⟨p5, rfl, hm5, hb⟩
    rw [HF.out.getB, HF.out.drop] at *
    have P5 := Lib.hid hm5.rows
    have R5 := Lib.hid (R4.out.below hb)
    have B5 := Lib.hid (B4.out.trans (hb.mono B4.out.size))
    clear hb hm5 M24 R4 U4 B4
    go_wp2_with fail
    refine (same_c w5 p5 v xss P5.out R5.out).mono ?_
    rintro e w6 ⟨rfl, C⟩
    have B6 := Lib.hid (B5.out.trans ((Below.chg (Below.refl _ _) C (Nat.le_refl _) (.inr rfl)).mono B5.out.size))
    clear C
    go_wp2_with fail
    go_ret
    exact ⟨rfl, B6.out⟩
end Go.Proofs.Ytaalnjinocicgaa
