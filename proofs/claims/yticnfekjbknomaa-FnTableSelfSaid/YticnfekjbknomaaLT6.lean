/- The walks of the statements on empty tables and on tables that name themselves, out of contracts of the program. -/
import Derived.Test.YticnfekjbknomaaLT5
import Derived.Test.YticnfekjbknomaaMg5
import Derived.Test.YticnfekjbknomaaCon
namespace Go.Proofs.Yticnfekjbknomaa
open Go.ChangeShapes Go.WideShapes Go.ChangeAt Go.RowKit
set_option linter.unusedVariables false

theorem memOk_set {xss : List (List Int)} {j : Nat} {row : List Int} (h : memOk xss = true) (hj : j < 12) (hr : wordsOk row = true) : memOk (xss.set j row) = true := by
  obtain ⟨h1, h2⟩ := of_decide_eq_true h
  refine decide_eq_true ⟨fun xs hx => ?_, by rw [List.length_set]; exact h2⟩
  rcases List.mem_or_eq_of_mem_set hx with h | h
  · exact h1 _ h
  · rw [h]; exact hr
theorem entryPut_w (w : World) (j : Nat) (hj : j < 12) : Calls Try.prog 44 #[.int .i64 j, .bool true] w fun e w' => e = .returned (.tuple #[.int .i64 (4 * (j : Int) + 3), .bool true]) ∧ w = w' := by
  have h0 : (0 : Int) ≤ (j : Int) := by omega
  have h1 : (j : Int) < 12 := by omega
  have e1 : IntKind.i64.wrap (4 * (j : Int)) = 4 * (j : Int) := by rw [IntKind.wrap_i64]; omega
  have e2 : IntKind.i64.wrap (4 * (j : Int) + 1) = 4 * (j : Int) + 1 := by rw [IntKind.wrap_i64]; omega
  have e3 : IntKind.i64.wrap (4 * (j : Int) + 1 + 2) = 4 * (j : Int) + 3 := by rw [IntKind.wrap_i64]; omega
  go_enter Try.func44, Try.ntmps44
  go_wp2
  go_ret2
  exact ⟨by simp; try omega, rfl⟩
set_option maxHeartbeats 4000000 in
theorem tableEmpty_walk (hO : ITO) (W : World) (a : Option Addr) (len cap : Nat) (zs : List Int) (hr : Row .u8 W a len cap zs) :
    Calls Try.prog 6 #[.slice a len cap] W fun e w' => e = .returned (.bool true) ∧ Below W.heap.size W w' := by
  have HO := Lib.hid hO
  clear hO
  have hm := row_len hr
  by_cases hL : 1048576 < len
  · have hL1 : (1048576 : Int) < (len : Int) := by omega
    clear hr
    go_enter Try.func6, Try.ntmps6
    go_wp2_with fail
    go_ret
    exact ⟨rfl, Below.refl _ _⟩
  have hL1 : decide ((1048576 : Int) < (len : Int)) = false := by simp; omega
  have hL2 : decide (1048576 < len) = false := by simp; omega
  go_enter Try.func6, Try.ntmps6
  go_wp2_with fail
  refine (drawTableOk_any W a len cap zs hr).mono ?_
  clear hr
  rintro e w1 ⟨vm, vl, xss, ys, f, k, vr, rs, hf, hkd, rfl, hd, hst, hr8, hsp⟩
  have A1 := Lib.hid (Arg5.of hd hst)
  have HSY := Lib.hid (shI_short hd.sh)
  have HSR := Lib.hid (shortP_short hsp)
  have HSM := Lib.hid hd.small
  have HYL := Lib.hid hd.len
  have HF := Lib.hid hf
  have HKD := Lib.hid hkd
  clear hf hkd hd hst hr8 hsp hL hm
  have HC : Hid (∀ w, Arg5 W vm vl vr xss ys rs w → Calls Try.prog 24 #[vm, vl, .int .i64 f, .int .i64 k, vr] w (BRes (tok8 xss ys f k rs) w)) := Lib.hid (fun w h => HO.out w vm vl vr xss ys rs f k h.m h.i HSY.out h.s HSR.out)
  have HS : Hid (∀ w, Arg5 W vm vl vr xss ys rs w → Calls Try.prog 25 #[vm, vl, .int .i64 f, .int .i64 k, vr] w (BRes (tok8 xss ys f k rs) w)) := Lib.hid (fun w h => sTableOk_any w vm vl vr xss ys rs f k h.m h.i HSY.out h.s HSR.out)
  obtain ⟨b, hb⟩ : ∃ b, b = tok8 xss ys f k rs := ⟨_, rfl⟩
  rw [← hb] at HC HS
  have HB := Lib.hid hb
  clear hb
  go_wp2_with fail
  refine (HC.out w1 A1.out).mono ?_
  rintro e w2 ⟨rfl, hb2⟩
  have A2 := Lib.hid (A1.out.go hb2)
  clear hb2 A1
  go_wp2_with fail
  refine (HS.out w2 A2.out).mono ?_
  rintro e w3 ⟨rfl, hb3⟩
  have A3 := Lib.hid (A2.out.go hb3)
  clear hb3 A2 HC HS
  have HBB := beqB b
  have HBN := neB b
  have HI := Lib.hid (fun w h => infosValid_any w vl ys h HSY.out)
  have HV := Lib.hid (fun w h => sRightsValid_any w vr rs h HSR.out)
  cases h1 : isok ys with
  | false =>
    rw [h1] at HI
    clear h1 HV
    have HI3 := Lib.hid (HI.out w3 A3.out.i)
    clear HI
    go_wp2_with fail
    refine HI3.out.mono ?_
    rintro e w4 ⟨rfl, hb4⟩
    have A4 := Lib.hid (A3.out.go hb4)
    clear hb4 HI3 A3
    go_wp2_with fail
    go_ret
    exact ⟨rfl, A4.out.b⟩
  | true =>
    rw [h1] at HI
    have HIOK := Lib.hid h1
    have HI3 := Lib.hid (HI.out w3 A3.out.i)
    clear h1 HI
    go_wp2_with fail
    refine HI3.out.mono ?_
    rintro e w4 ⟨rfl, hb4⟩
    have A4 := Lib.hid (A3.out.go hb4)
    clear hb4 HI3 A3
    have HV4 := Lib.hid (HV.out w4 A4.out.s)
    obtain ⟨bv, hbv⟩ : ∃ bv, bv = rvs rs := ⟨_, rfl⟩
    rw [← hbv] at HV4
    have HVOK := Lib.hid hbv
    clear hbv HV
    go_wp2_with fail
    refine HV4.out.mono ?_
    rintro e w5 ⟨rfl, nd, hnd⟩
    have A5 : Hid (Arg5 W vm vl vr xss ys rs w5) := Lib.hid (A4.out.go (by rw [hnd]; exact Below.chg (Below.refl _ _) (Chg.of_drewN _ nd) (Nat.le_refl _) (.inr rfl)))
    clear hnd HV4 A4
    cases bv with
    | false =>
      go_wp2_with fail
      go_ret
      exact ⟨rfl, A5.out.b⟩
    | true =>
      by_cases hmf : memOk xss = true ∧ 0 ≤ f ∧ f < 12
      · obtain ⟨hm, hf0, hf1⟩ := hmf
        obtain ⟨j, rfl⟩ : ∃ j : Nat, f = (j : Int) := ⟨f.toNat, by omega⟩
        have hj12 : j < 12 := by omega
        have HCL := Lib.hid (cLy w5 vm xss j A5.out.m hm hj12)
        have HOK2 : Hid (∀ kk, isTab kk = true → tok8 (xss.set j [0, 0, 0, 0]) ys (j : Int) kk rs = true) := Lib.hid (fun kk hk => tok8_zero (targ_iff.2 ⟨memOk_set hm hj12 (by decide), by omega, HIOK.out⟩) hk HVOK.out.symm (fun i hi => by
          rw [Int.toNat_natCast]
          unfold wd
          rw [getD_set, if_pos ⟨rfl, by have := mem_len hm; omega⟩]
          rcases (by omega : i = 0 ∨ i = 1 ∨ i = 2 ∨ i = 3) with rfl | rfl | rfl | rfl <;> rfl))
        generalize xss.set j [0, 0, 0, 0] = zss at HCL HOK2
        have HTW : Hid (∀ (w : World) (vx : Value) (kk : Int), isTab kk = true → Rows2 w vx zss → Is w vl ys → Strs w vr rs → Calls Try.prog 24 #[vx, vl, .int .i64 (j : Int), .int .i64 kk, vr] w (BRes true w)) := Lib.hid (fun w vx kk hk h1 h2 h3 => by have := HO.out w vx vl vr zss ys rs (j : Int) kk h1 h2 HSY.out h3 HSR.out; rwa [HOK2.out kk hk] at this)
        clear hm hf0 hf1
        go_wp2_with fail
        refine HCL.out.mono ?_
        rintro e w6 ⟨vx, rfl, hx6, hb6⟩
        have A6 := Lib.hid (A5.out.go hb6)
        have X6 := Lib.hid hx6.rows
        have HT6 := Lib.hid (HTW.out w6 vx 2 (by decide) X6.out A6.out.i A6.out.s)
        clear hx6 hb6 A5 HCL
        go_wp2_with fail
        refine HT6.out.mono ?_
        rintro e w7 ⟨rfl, hb7⟩
        have A7 := Lib.hid (A6.out.go hb7)
        have X7 := Lib.hid (X6.out.below hb7)
        have HT7 := Lib.hid (HTW.out w7 vx 3 (by decide) X7.out A7.out.i A7.out.s)
        clear hb7 A6 X6 HT6
        go_wp2_with fail
        refine HT7.out.mono ?_
        rintro e w8 ⟨rfl, hb8⟩
        have A8 := Lib.hid (A7.out.go hb8)
        clear hb8 A7 X7 HT7
        go_wp2_with fail
        go_ret
        exact ⟨rfl, A8.out.b⟩
      · have HCL := Lib.hid (cLn w5 vm xss f A5.out.m hmf)
        clear hmf
        go_wp2_with fail
        refine HCL.out.mono ?_
        rintro e w6 ⟨vx, rfl, hx6, hb6⟩
        have A6 := Lib.hid (A5.out.go hb6)
        clear hx6 hb6 A5 HCL
        go_wp2_with fail
        go_ret
        exact ⟨rfl, A6.out.b⟩
set_option maxHeartbeats 4000000 in
theorem tableSelf_walk (hO : ITO) (W : World) (a : Option Addr) (len cap : Nat) (zs : List Int) (hr : Row .u8 W a len cap zs) :
    Calls Try.prog 14 #[.slice a len cap] W fun e w' => e = .returned (.bool true) ∧ Below W.heap.size W w' := by
  have HO := Lib.hid hO
  clear hO
  have hm := row_len hr
  by_cases hL : 1048576 < len
  · have hL1 : (1048576 : Int) < (len : Int) := by omega
    clear hr
    go_enter Try.func14, Try.ntmps14
    go_wp2_with fail
    go_ret
    exact ⟨rfl, Below.refl _ _⟩
  have hL1 : decide ((1048576 : Int) < (len : Int)) = false := by simp; omega
  have hL2 : decide (1048576 < len) = false := by simp; omega
  go_enter Try.func14, Try.ntmps14
  go_wp2_with fail
  refine (drawTableOk_any W a len cap zs hr).mono ?_
  clear hr
  rintro e w1 ⟨vm, vl, xss, ys, f, k, vr, rs, hf, hkd, rfl, hd, hst, hr8, hsp⟩
  have A1 := Lib.hid (Arg5.of hd hst)
  have HSY := Lib.hid (shI_short hd.sh)
  have HSR := Lib.hid (shortP_short hsp)
  have HSM := Lib.hid hd.small
  have HYL := Lib.hid hd.len
  have HF := Lib.hid hf
  have HKD := Lib.hid hkd
  clear hf hkd hd hst hr8 hsp hL hm
  have HC : Hid (∀ w, Arg5 W vm vl vr xss ys rs w → Calls Try.prog 24 #[vm, vl, .int .i64 f, .int .i64 k, vr] w (BRes (tok8 xss ys f k rs) w)) := Lib.hid (fun w h => HO.out w vm vl vr xss ys rs f k h.m h.i HSY.out h.s HSR.out)
  have HS : Hid (∀ w, Arg5 W vm vl vr xss ys rs w → Calls Try.prog 25 #[vm, vl, .int .i64 f, .int .i64 k, vr] w (BRes (tok8 xss ys f k rs) w)) := Lib.hid (fun w h => sTableOk_any w vm vl vr xss ys rs f k h.m h.i HSY.out h.s HSR.out)
  obtain ⟨b, hb⟩ : ∃ b, b = tok8 xss ys f k rs := ⟨_, rfl⟩
  rw [← hb] at HC HS
  have HB := Lib.hid hb
  clear hb
  go_wp2_with fail
  refine (HC.out w1 A1.out).mono ?_
  rintro e w2 ⟨rfl, hb2⟩
  have A2 := Lib.hid (A1.out.go hb2)
  clear hb2 A1
  go_wp2_with fail
  refine (HS.out w2 A2.out).mono ?_
  rintro e w3 ⟨rfl, hb3⟩
  have A3 := Lib.hid (A2.out.go hb3)
  clear hb3 A2 HC HS
  cases b with
  | false =>
    go_wp2_with fail
    go_ret
    exact ⟨rfl, A3.out.b⟩
  | true =>
    obtain ⟨hm, hf, hi⟩ := targ_iff.1 (tok8_iff.1 HB.out.symm).1
    obtain ⟨j, rfl⟩ : ∃ j : Nat, f = (j : Int) := ⟨f.toNat, by omega⟩
    have hj12 : j < 12 := by omega
    have HEP := Lib.hid (fun w => entryPut_w w j hj12)
    have HCP := Lib.hid (fun w h => cPy w vm xss j 0 (4 * (j : Int) + 3) h hm hj12 (by omega) (by omega) (by omega))
    have HNO : Hid (tok8 (mput xss j 0 (4 * (j : Int) + 3)) ys (j : Int) k rs = false) := Lib.hid (tok8_self (by omega) (by
      rw [Int.toNat_natCast]
      unfold wd
      rw [mput_get _ _ _ _ _ _ (by have := mem_len hm; omega) (by have := mem_row hm hj12; omega), if_pos ⟨rfl, rfl⟩]))
    generalize mput xss j 0 (4 * (j : Int) + 3) = zss at HCP HNO
    have HTW : Hid (∀ (w : World) (vx : Value), Rows2 w vx zss → Is w vl ys → Strs w vr rs → Calls Try.prog 24 #[vx, vl, .int .i64 (j : Int), .int .i64 k, vr] w (BRes false w)) := Lib.hid (fun w vx h1 h2 h3 => by have := HO.out w vx vl vr zss ys rs (j : Int) k h1 h2 HSY.out h3 HSR.out; rwa [HNO.out] at this)
    obtain ⟨x, hx⟩ : ∃ x, x = 4 * (j : Int) + 3 := ⟨_, rfl⟩
    rw [← hx] at HEP HCP
    clear hx hm hf hi
    go_wp2_with fail
    refine (HEP.out w3).mono ?_
    rintro e w' ⟨rfl, rfl⟩
    have HCP3 := Lib.hid (HCP.out w3 A3.out.m)
    go_wp2_with fail
    refine HCP3.out.mono ?_
    rintro e w6 ⟨vx, rfl, hx6, hb6⟩
    have A6 := Lib.hid (A3.out.go hb6)
    have HT6 := Lib.hid (HTW.out w6 vx hx6.rows A6.out.i A6.out.s)
    clear hx6 hb6 A3 HCP3
    go_wp2_with fail
    refine HT6.out.mono ?_
    rintro e w7 ⟨rfl, hb7⟩
    have A7 := Lib.hid (A6.out.go hb7)
    clear hb7 A6 HT6
    go_wp2_with fail
    go_ret
    exact ⟨rfl, A7.out.b⟩
end Go.Proofs.Yticnfekjbknomaa
