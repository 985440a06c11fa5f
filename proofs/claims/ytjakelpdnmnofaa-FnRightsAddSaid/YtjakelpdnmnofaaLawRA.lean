/- The walks of the statements on added rights, out of contracts of the program. -/
import Derived.Test.YtjakelpdnmnofaaLawRM
namespace Go.Proofs.Ytjakelpdnmnofaa
open Go.ChangeShapes Go.WideShapes Go.ChangeAt Go.RowKit
set_option linter.unusedVariables false

theorem rmay_mem {zs : List Bs} {y : Bs} (h : rvs zs = true) (hm : y ∈ zs) : rmay zs y = true := by
  unfold rmay
  rw [h, rvs_all h y hm, show may0 zs y = true from List.any_eq_true.2 ⟨y, hm, cov_self y⟩]
  rfl
theorem radd_short {ys : List Bs} {x : Bs} (h : ∀ y ∈ ys, shortP y) (hx : shortP x) : ∀ y ∈ (radd ys x).1, shortP y := fun y hy => by
  rcases radd_mem hy with h1 | h1
  · exact h y h1
  · rw [h1]; exact hx
/-- true exactly if both lists hold the same texts -/
theorem same_true (w : World) (va vb : Value) (xs : List Bs) (ha : Strs w va xs) (hb : Strs w vb xs) :
    Calls Try.prog 31 #[va, vb] w fun e w' => e = .returned (.bool true) ∧ Below w.heap.size w w' := by
  refine (sameTexts_any w va vb xs xs ha hb).mono ?_
  rintro e w' ⟨rfl, n, rfl⟩
  rw [decide_eq_true (rfl : xs = xs)]
  exact ⟨rfl, ⟨rfl, rfl, rfl, Nat.le_refl _, fun _ _ => rfl⟩⟩
set_option maxHeartbeats 1000000 in
theorem rightsAdd_walk (hA : IRAdd) (hM : IRMay) (hV : IRVs) (W : World) (a : Option Addr) (len cap : Nat) (zs : List Int) (hr : Row .u8 W a len cap zs) :
    Calls Try.prog 8 #[.slice a len cap] W fun e w' => e = .returned (.bool true) ∧ Below W.heap.size W w' := by
  have HADD := Lib.hid hA
  have HMAY := Lib.hid hM
  have HVAL := Lib.hid hV
  clear hA hM hV
  have hm := row_len hr
  by_cases hL : 1048576 < len
  · have hL1 : (1048576 : Int) < (len : Int) := by omega
    clear hr
    go_enter Try.func8, Try.ntmps8
    go_wp2_with fail
    go_ret
    exact ⟨rfl, Below.refl _ _⟩
  have hL1 : decide ((1048576 : Int) < (len : Int)) = false := by simp; omega
  have hL2 : decide (1048576 < len) = false := by simp; omega
  go_enter Try.func8, Try.ntmps8
  go_wp2_with fail
  refine (drawRightsAdd_any W a len cap zs hr).mono ?_
  clear hr
  rintro e w1 ⟨v, ys, x, hx, rfl, hd⟩
  have B1 := Lib.hid hd.bel
  have R1 := Lib.hid hd.strs
  have HSH := Lib.hid hd.rng
  obtain ⟨g, c2, hv⟩ := hd.form
  have hl8 : ys.length ≤ 8 := hd.len
  have hxl : x.length ≤ 10 := hx
  have HXS := Lib.hid hx
  clear hd hx
  subst hv
  have HC := Lib.hid (HADD.out w1 _ ys x R1.out (shorts HSH.out) (by omega))
  have HS := Lib.hid (fun w h => (sRightsAdd_any w g 0 c2 ys.length ys x h rfl (shorts HSH.out) (by omega)).mono (fun e w' h => h.newSB))
  have HZS := Lib.hid (radd_short HSH.out HXS.out)
  have HOK := Lib.hid (fun h => radd_ok (xs := ys) (s := x) h)
  have HAG := Lib.hid (fun h => radd_again (xs := ys) (s := x) h)
  generalize radd ys x = r at HC HS HZS HOK HAG
  obtain ⟨us, b⟩ := r
  dsimp only at HC HS HZS HOK HAG
  obtain ⟨n, hn⟩ : ∃ n, n = ys.length := ⟨_, rfl⟩
  rw [← hn] at HC HS R1 hl8 ⊢
  have HN := Lib.hid hn
  clear hn
  cases b with
  | false =>
    go_wp2_with fail
    refine HC.out.mono ?_
    rintro e w2 ⟨p2, rfl, hr2, hb2⟩
    have B2 := Lib.hid (B1.out.trans (hb2.mono B1.out.size))
    have R2 := Lib.hid (R1.out.below hb2)
    have U2 := Lib.hid hr2.strs
    clear hb2 hr2 HC R1 B1
    go_wp2_with fail
    refine (HS.out w2 R2.out).mono ?_
    rintro e w3 ⟨p3, rfl, hr3, hb3⟩
    have B3 := Lib.hid (B2.out.trans (hb3.mono B2.out.size))
    have U23 := Lib.hid (U2.out.below hb3)
    have U3 := Lib.hid hr3.strs
    clear hb3 hr3 HS R2 B2 U2
    go_wp2_with fail
    refine (same_true w3 p2 p3 us U23.out U3.out).mono ?_
    rintro e w4 ⟨rfl, hb4⟩
    have B4 := Lib.hid (B3.out.trans (hb4.mono B3.out.size))
    have U24 := Lib.hid (U23.out.below hb4)
    have U34 := Lib.hid (U3.out.below hb4)
    clear hb4 B3 U23 U3
    go_wp2_with fail
    refine (same_true w4 p2 p3 us U24.out U34.out).mono ?_
    rintro e w5 ⟨rfl, hb5⟩
    have B5 := Lib.hid (B4.out.trans (hb5.mono B4.out.size))
    clear hb5
    go_wp2_with fail
    go_ret
    exact ⟨rfl, B5.out⟩
  | true =>
    obtain ⟨hk1, hk2, hk3, hk4⟩ := HOK.out rfl
    have HK1 := Lib.hid hk1
    have HK3 := Lib.hid hk3
    have HK4 := Lib.hid hk4
    have HAG2 := Lib.hid (HAG.out rfl)
    clear hk1 hk2 hk3 hk4 HOK HAG
    have HC2 := Lib.hid (fun w v h => HADD.out w v us x h (shorts HZS.out) (by omega))
    rw [HAG2.out] at HC2
    have HM := Lib.hid (fun w v y (h : Strs w v us) (hm : y ∈ us) => (rmay_mem HK1.out hm) ▸ HMAY.out w v us y h (shorts HZS.out) (by have := HZS.out y hm; unfold shortP at this; omega))
    have HV := Lib.hid (fun w v h => HVAL.out w v us h (shorts HZS.out))
    rw [HK1.out] at HV
    go_wp2_with fail
    refine HC.out.mono ?_
    rintro e w2 ⟨p2, rfl, hr2, hb2⟩
    have B2 := Lib.hid (B1.out.trans (hb2.mono B1.out.size))
    have R2 := Lib.hid (R1.out.below hb2)
    have U2 := Lib.hid hr2.strs
    clear hb2 hr2 HC R1 B1
    go_wp2_with fail
    refine (HS.out w2 R2.out).mono ?_
    rintro e w3 ⟨p3, rfl, hr3, hb3⟩
    have B3 := Lib.hid (B2.out.trans (hb3.mono B2.out.size))
    have R3 := Lib.hid (R2.out.below hb3)
    have U23 := Lib.hid (U2.out.below hb3)
    have U3 := Lib.hid hr3.strs
    clear hb3 hr3 HS R2 B2 U2
    go_wp2_with fail
    refine (same_true w3 p2 p3 us U23.out U3.out).mono ?_
    rintro e w4 ⟨rfl, hb4⟩
    have B4 := Lib.hid (B3.out.trans (hb4.mono B3.out.size))
    have R4 := Lib.hid (R3.out.below hb4)
    have U24 := Lib.hid (U23.out.below hb4)
    clear hb4 B3 U23 U3 R3
    go_wp2_with fail
    refine (HC2.out w4 p2 U24.out).mono ?_
    rintro e w5 ⟨p5, rfl, hr5, hb5⟩
    have B5 := Lib.hid (B4.out.trans (hb5.mono B4.out.size))
    have R5 := Lib.hid (R4.out.below hb5)
    have U25 := Lib.hid (U24.out.below hb5)
    have U5 := Lib.hid hr5.strs
    clear hb5 hr5 B4 R4 U24
    go_wp2_with fail
    go_loopw [11] (fun i wr => ∃ k : Nat, k ≤ n ∧ i = .int .i64 k ∧ Hid (Below W.heap.size W wr) ∧ Hid (Strs wr (.slice (some ⟨g, 0, none⟩) n c2) ys) ∧ Hid (Strs wr p2 us) ∧ Hid (Strs wr p5 us)) (fun i _ => n - (intOf i).toNat)
    case atStart => exact ⟨0, Nat.zero_le _, rfl, B5, R5, U25, U5⟩
    case round =>
      obtain ⟨k, hk, rfl, HB, HSS, HU2, HU5⟩ := hrel
      by_cases hlt : k < n
      · have hlt' : (k : Int) < (n : Int) := by omega
        have hkx : k < ys.length := by rw [← HN.out]; exact hlt
        have HYK := Lib.hid (HM.out wr p2 (ys.getD k []) HU2.out (HK4.out _ (by rw [getD_lt hkx]; exact List.getElem_mem hkx)))
        obtain ⟨a', cap', e, -, -, q3⟩ := HSS.out
        injection e with e1 e2 e3
        subst e1
        obtain ⟨g', p', e, hc⟩ := q3 k hkx
        cases e
        clear q3 e2 e3 hkx
        rw [Nat.zero_add] at hc
        generalize ys.getD k [] = y at hc HYK
        go_wp2_with fail
        refine HYK.out.mono ?_
        rintro e w6 ⟨rfl, hb6⟩
        have B6 := Lib.hid (HB.out.trans (hb6.mono HB.out.size))
        have S6 := Lib.hid (HSS.out.below hb6)
        have U26 := Lib.hid (HU2.out.below hb6)
        have U56 := Lib.hid (HU5.out.below hb6)
        clear hb6
        go_wp2
        go_roundw
        case rel => exact ⟨k + 1, by omega, by go_num, B6, S6, U26, U56⟩
        case measure => simp [intOf]; omega
      · have HMX := Lib.hid (fun w h => HM.out w p2 x h HK3.out)
        go_wp2_with fail
        refine (same_true wr p5 p2 us HU5.out HU2.out).mono ?_
        rintro e w6 ⟨rfl, hb6⟩
        have B6 := Lib.hid (HB.out.trans (hb6.mono HB.out.size))
        have U26 := Lib.hid (HU2.out.below hb6)
        clear hb6
        go_wp2_with fail
        refine (HV.out w6 p2 U26.out).mono ?_
        rintro e w7 ⟨rfl, hb7⟩
        have B7 := Lib.hid (B6.out.trans (hb7.mono B6.out.size))
        have U27 := Lib.hid (U26.out.below hb7)
        clear hb7
        go_wp2_with fail
        refine (HMX.out w7 U27.out).mono ?_
        rintro e w8 ⟨rfl, hb8⟩
        have B8 := Lib.hid (B7.out.trans (hb8.mono B7.out.size))
        clear hb8
        go_wp2_with fail
        go_ret
        exact ⟨rfl, B8.out⟩
theorem radd_full2 {xs : List Bs} {s : Bs} (h : (rvs xs && rv s) = true) : (radd xs s).2 = (xs.any (fun y => y == s) || decide (xs.length < 6)) ∧ ((radd xs s).2 = false → (radd xs s).1 = xs) := by
  have ha : xs.any (fun y => y == s) = decide (s ∈ xs) := by
    rw [Bool.eq_iff_iff, List.any_eq_true, decide_eq_true_eq]
    refine ⟨fun ⟨y, hy, e⟩ => (eq_of_beq e) ▸ hy, fun hm => ⟨s, hm, beq_self_eq_true s⟩⟩
  rw [ha]
  by_cases hm : s ∈ xs
  · rw [radd_there h hm, decide_eq_true hm]
    exact ⟨rfl, fun h => by cases h⟩
  · by_cases hl : 6 ≤ xs.length
    · rw [radd_full h hm hl, decide_eq_false hm, decide_eq_false (by omega)]
      exact ⟨rfl, fun _ => rfl⟩
    · rw [radd_ins h hm hl, decide_eq_false hm, decide_eq_true (by omega)]
      exact ⟨rfl, fun h => by cases h⟩
set_option maxHeartbeats 1000000 in
theorem rightsAddFull_walk (hA : IRAdd) (W : World) (a : Option Addr) (len cap : Nat) (zs : List Int) (hr : Row .u8 W a len cap zs) :
    Calls Try.prog 9 #[.slice a len cap] W fun e w' => e = .returned (.bool true) ∧ Below W.heap.size W w' := by
  have HADD := Lib.hid hA
  clear hA
  have hm := row_len hr
  by_cases hL : 1048576 < len
  · have hL1 : (1048576 : Int) < (len : Int) := by omega
    clear hr
    go_enter Try.func9, Try.ntmps9
    go_wp2_with fail
    go_ret
    exact ⟨rfl, Below.refl _ _⟩
  have hL1 : decide ((1048576 : Int) < (len : Int)) = false := by simp; omega
  have hL2 : decide (1048576 < len) = false := by simp; omega
  go_enter Try.func9, Try.ntmps9
  go_wp2_with fail
  refine (drawRightsAdd_any W a len cap zs hr).mono ?_
  clear hr
  rintro e w1 ⟨v, ys, x, hx, rfl, hd⟩
  have B1 := Lib.hid hd.bel
  have R1 := Lib.hid hd.strs
  have HSH := Lib.hid hd.rng
  obtain ⟨g, c2, hv⟩ := hd.form
  have hl8 : ys.length ≤ 8 := hd.len
  have hxl : x.length ≤ 10 := hx
  have HXS := Lib.hid hx
  clear hd hx
  subst hv
  have HC := Lib.hid (HADD.out w1 _ ys x R1.out (shorts HSH.out) (by omega))
  have HS := Lib.hid (fun w h => (sRightsAdd_any w g 0 c2 ys.length ys x h rfl (shorts HSH.out) (by omega)).mono (fun e w' h => h.newSB))
  have HV := Lib.hid (fun w h => sRightsValid_any w (.slice (some ⟨g, 0, none⟩) ys.length c2) ys h (shorts HSH.out))
  have HX := Lib.hid (fun w => sRightValid_any w x (by omega))
  have HF := Lib.hid (fun h => radd_full2 (xs := ys) (s := x) h)
  generalize radd ys x = r at HC HS HF
  obtain ⟨us, b⟩ := r
  dsimp only at HC HS HF
  have hbb := neB b
  have hb2 : (b == b) = true := by simp
  obtain ⟨n, hn⟩ : ∃ n, n = ys.length := ⟨_, rfl⟩
  rw [← hn] at HC HS R1 hl8 HV HF ⊢
  have HN := Lib.hid hn
  clear hn
  go_wp2_with fail
  refine HC.out.mono ?_
  rintro e w2 ⟨p2, rfl, hr2, hb2⟩
  have B2 := Lib.hid (B1.out.trans (hb2.mono B1.out.size))
  have R2 := Lib.hid (R1.out.below hb2)
  have U2 := Lib.hid hr2.strs
  clear hb2 hr2 HC R1 B1
  go_wp2_with fail
  refine (HS.out w2 R2.out).mono ?_
  rintro e w3 ⟨p3, rfl, hr3, hb3⟩
  have B3 := Lib.hid (B2.out.trans (hb3.mono B2.out.size))
  have R3 := Lib.hid (R2.out.below hb3)
  have U23 := Lib.hid (U2.out.below hb3)
  have U3 := Lib.hid hr3.strs
  clear hb3 hr3 HS R2 B2 U2
  go_wp2_with fail
  refine (same_true w3 p2 p3 us U23.out U3.out).mono ?_
  rintro e w4 ⟨rfl, hb4⟩
  have B4 := Lib.hid (B3.out.trans (hb4.mono B3.out.size))
  have R4 := Lib.hid (R3.out.below hb4)
  have U24 := Lib.hid (U23.out.below hb4)
  have U34 := Lib.hid (U3.out.below hb4)
  clear hb4 B3 U23 U3 R3
  go_wp2_with fail
  refine (HV.out w4 R4.out).mono ?_
  rintro e w5 ⟨rfl, n5, hw5⟩
  have C5 : Below w4.heap.size w4 w5 := by rw [hw5]; exact ⟨rfl, rfl, rfl, Nat.le_refl _, fun _ _ => rfl⟩
  have B5 := Lib.hid (B4.out.trans (C5.mono B4.out.size))
  have R5 := Lib.hid (R4.out.below C5)
  have U25 := Lib.hid (U24.out.below C5)
  have U35 := Lib.hid (U34.out.below C5)
  clear C5 hw5 HV B4 R4 U24 U34
  cases h1 : rvs ys with
  | false =>
    clear h1 HF
    go_wp2_with fail
    refine (same_true w5 p2 p3 us U25.out U35.out).mono ?_
    rintro e w6 ⟨rfl, hb6⟩
    have B6 := Lib.hid (B5.out.trans (hb6.mono B5.out.size))
    clear hb6
    go_wp2_with fail
    go_ret
    exact ⟨rfl, B6.out⟩
  | true =>
    have HVS := Lib.hid h1
    clear h1
    go_wp2_with fail
    refine (HX.out w5).mono ?_
    rintro e w' ⟨rfl, rfl⟩
    cases h2 : rv x with
    | false =>
      clear h2 HF
      go_wp2_with fail
      refine (same_true w5 p2 p3 us U25.out U35.out).mono ?_
      rintro e w6 ⟨rfl, hb6⟩
      have B6 := Lib.hid (B5.out.trans (hb6.mono B5.out.size))
      clear hb6
      go_wp2_with fail
      go_ret
      exact ⟨rfl, B6.out⟩
    | true =>
      have HF2 := Lib.hid (HF.out (by rw [HVS.out, h2]; rfl))
      have hn6 : n ≤ 6 := by have := rvs_len HVS.out; have := HN.out; omega
      clear h2 HF
      have HTK := Lib.hid (fun k hk => any_snoc (ys := ys) (f := fun y => y == x) (k := k) hk)
      go_wp2_with fail
      go_loopw [9, 10] (fun t i wr => ∃ k : Nat, k ≤ n ∧ i = .int .i64 k ∧ t = .bool ((ys.take k).any (fun y => y == x)) ∧ Hid (Below W.heap.size W wr) ∧ Hid (Strs wr (.slice (some ⟨g, 0, none⟩) n c2) ys) ∧ Hid (Strs wr p2 us)) (fun _ i _ => n - (intOf i).toNat)
      case atStart => exact ⟨0, Nat.zero_le _, rfl, rfl, B5, R5, U25⟩
      case round =>
        obtain ⟨k, hk, rfl, rfl, HB, HSS, HU2⟩ := hrel
        by_cases hlt : k < n
        · have hlt' : (k : Int) < (n : Int) := by omega
          have hkx : k < ys.length := by rw [← HN.out]; exact hlt
          have HT := Lib.hid (HTK.out k hkx)
          obtain ⟨a', cap', e, -, -, q3⟩ := HSS.out
          injection e with e1 e2 e3
          subst e1
          obtain ⟨g', p', e, hc⟩ := q3 k hkx
          cases e
          clear q3 e2 e3 hkx
          rw [Nat.zero_add] at hc
          generalize ys.getD k [] = y at hc HT
          cases hz : (ys.take k).any (fun y => y == x) with
          | true =>
            rw [hz] at HT
            clear hz
            go_wp2
            go_roundw
            case rel => exact ⟨k + 1, by omega, by go_num, by rw [HT.out]; rfl, HB, HSS, HU2⟩
            case measure => simp [intOf]; omega
          | false =>
            rw [hz] at HT
            clear hz
            go_wp2
            go_roundw
            case rel => exact ⟨k + 1, by omega, by go_num, by rw [HT.out]; rfl, HB, HSS, HU2⟩
            case measure => simp [intOf]; omega
        · have e : k = n := by omega
          have HE := Lib.hid HF2.out.1
          have HE2 := Lib.hid HF2.out.2
          have HTA := Lib.hid (show ys.take k = ys from take_all (by rw [e]; exact HN.out))
          rw [HTA.out]
          cases hz : ys.any (fun y => y == x) with
          | true =>
            obtain rfl : b = true := by rw [HE.out, hz]; rfl
            clear hz HE HE2 HF2 hbb
            go_wp2
            go_ret
            exact ⟨rfl, HB.out⟩
          | false =>
            by_cases hn5 : n < 6
            · obtain rfl : b = true := by rw [HE.out, hz, decide_eq_true hn5]; rfl
              have hn5' : (n : Int) < 6 := by omega
              clear hz HE HE2 HF2 hbb
              go_wp2
              go_ret
              exact ⟨rfl, HB.out⟩
            · obtain rfl : b = false := by rw [HE.out, hz, decide_eq_false hn5]; rfl
              have hn5' : ¬ (n : Int) < 6 := by omega
              have HUS := Lib.hid (HE2.out rfl)
              rw [HUS.out] at HU2
              clear hz HE HE2 HF2 hbb
              go_wp2_with fail
              refine (same_true wr p2 _ ys HU2.out HSS.out).mono ?_
              rintro e w6 ⟨rfl, hb6⟩
              have B6 := Lib.hid (HB.out.trans (hb6.mono HB.out.size))
              clear hb6
              go_wp2_with fail
              go_ret
              exact ⟨rfl, B6.out⟩
end Go.Proofs.Ytjakelpdnmnofaa
