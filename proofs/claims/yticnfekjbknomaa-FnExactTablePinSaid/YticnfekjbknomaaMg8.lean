/- What the proofs stand on, part 8: TSpec6 TDraw3 TDraw4 TMk TKit TIa TIb TIc TId. -/
import Derived.Test.YticnfekjbknomaaMg7
import Derived.Test.YticnfekjbknomaaMg4
import Derived.Test.YticnfekjbknomaaMg5
import Derived.Test.YticnfekjbknomaaMg3
import Derived.Test.YticnfekjbknomaaMg6
/- What the reference's TablePin and TableUnpin return. -/
namespace Go.Proofs.Yticnfekjbknomaa
open Go.ChangeShapes Go.WideShapes Go.ChangeAt Go.RowKit
set_option linter.unusedVariables false

set_option maxRecDepth 100000 in
set_option maxHeartbeats 4000000 in
theorem sTablePin_any (w : World) (vm vl vr : Value) (xss : List (List Int)) (ys : List IV) (rs : List Bs) (f k : Int) (h : Rows2 w vm xss) (hl : Is w vl ys) (hs : ShortI ys) (hr : Strs w vr rs) (hrs : Short rs) :
    Calls Try.prog 38 #[vm, vl, .int .i64 f, .int .i64 k, vr] w (NewVN (tpin xss ys f k rs).1 (tpin xss ys f k rs).2 w) := by
  have HA := Lib.hid (l13Args_any w vm vl xss ys f h hl hs)
  have HK := Lib.hid (fun w => l13Table_any w k)
  have HV : Hid (∀ w' : World, Below w.heap.size w w' → Calls Try.prog 29 #[vr] w' (Reads (.bool (rvs rs)) w')) := Lib.hid (fun w' hb => sRightsValid_any w' vr rs (hr.below hb) hrs)
  have HO : Hid (∀ w' : World, Below w.heap.size w w' → targ xss ys f = true → isTab k = true → Calls Try.prog 72 #[vm, vl, .int .i64 f, .int .i64 k, vr] w' (Says (tgood xss ys f k rs) w')) := Lib.hid (fun w' hb h1 h2 => by
    obtain ⟨hm, hf, hi⟩ := targ_iff.1 h1
    exact l13Ok_any w' vm vl vr xss ys rs f k (h.below hb) hm (hl.below hb) (isok_len hi) hs (hr.below hb) hrs hf h2)
  have HROW := Lib.hid h
  have HL := Lib.hid hl
  have HSH := Lib.hid hs
  clear h hl hs hr hrs
  obtain ⟨P, hP⟩ : ∃ P, P = tpin xss ys f k rs := ⟨_, rfl⟩
  rw [← hP]
  have HP := Lib.hid hP
  clear hP
  obtain ⟨b1, hb1⟩ : ∃ b, b = targ xss ys f := ⟨_, rfl⟩
  rw [← hb1] at HA HO
  have HB1 := Lib.hid hb1
  clear hb1
  obtain ⟨b2, hb2⟩ : ∃ b, b = isTab k := ⟨_, rfl⟩
  rw [← hb2] at HK HO
  have HB2 := Lib.hid hb2
  clear hb2
  obtain ⟨b3, hb3⟩ : ∃ b, b = rvs rs := ⟨_, rfl⟩
  rw [← hb3] at HV
  have HB3 := Lib.hid hb3
  clear hb3
  go_enter Try.func38, Try.ntmps38
  go_wp2_with fail
  refine HA.out.mono ?_
  rintro e w1 ⟨rfl, hb1⟩
  have C1 := Lib.hid hb1
  clear hb1
  cases b1 with
  | false =>
    have HR : Hid (P = ([], 3)) := Lib.hid (by rw [HP.out]; unfold tpin; rw [← HB1.out, Bool.false_and]; rfl)
    go_wp2_with fail
    go_ret2
    rw [HR.out]
    exact ⟨_, rfl, (IsW.of_ownsRow (OwnV.start w1).own).wide C1.out.size (Nat.le_refl _), C1.out.trans ((OwnV.start w1).bel.mono C1.out.size)⟩
  | true =>
    go_wp2_with fail
    refine (HK.out w1).mono ?_
    rintro e w' ⟨rfl, rfl⟩
    cases b2 with
    | false =>
      have HR : Hid (P = ([], 3)) := Lib.hid (by rw [HP.out]; unfold tpin; rw [← HB1.out, ← HB2.out, Bool.false_and, Bool.and_false]; rfl)
      go_wp2_with fail
      go_ret2
      rw [HR.out]
      exact ⟨_, rfl, (IsW.of_ownsRow (OwnV.start w1).own).wide C1.out.size (Nat.le_refl _), C1.out.trans ((OwnV.start w1).bel.mono C1.out.size)⟩
    | true =>
      have HV1 := Lib.hid (HV.out w1 C1.out)
      go_wp2_with fail
      refine HV1.out.mono ?_
      rintro e w2 ⟨rfl, nd, hnd⟩
      have C2 : Hid (Below w.heap.size w w2) := Lib.hid (by rw [hnd]; exact Below.chg C1.out (Chg.of_drewN _ nd) C1.out.size (.inr rfl))
      clear hnd HV1
      cases b3 with
      | false =>
        have HR : Hid (P = ([], 3)) := Lib.hid (by rw [HP.out]; unfold tpin; rw [← HB3.out, Bool.and_false, Bool.and_false]; rfl)
        go_wp2_with fail
        go_ret2
        rw [HR.out]
        exact ⟨_, rfl, (IsW.of_ownsRow (OwnV.start w2).own).wide C2.out.size (Nat.le_refl _), C2.out.trans ((OwnV.start w2).bel.mono C2.out.size)⟩
      | true =>
        obtain ⟨hm, hf, hi⟩ := targ_iff.1 HB1.out.symm
        obtain ⟨j, rfl⟩ : ∃ j : Nat, f = (j : Int) := ⟨f.toNat, by omega⟩
        have hj12 : j < 12 := by omega
        have hn := isok_len hi
        have HN := Lib.hid hn
        have HM := Lib.hid hm
        have HFEW := Lib.hid (isok_few hi)
        have hrf : 0 ≤ (ys.getD j iz).r ∨ (ys.getD j iz) = iz := by
          have h1 := isok_at hi (show j < ys.length by omega)
          by_cases h0 : (ys.getD j iz).k = 0
          · exact .inr (iok_free h1 h0)
          · exact .inl (iok_used h1 h0).2.2.1
        have HPE : Hid (P = if (ys.getD j iz).k = 1 ∧ (ys.getD j iz).r ≤ 0 then if tgood xss ys (j : Int) k rs = true then (if isok (pinL xss ys (j : Int) k) = true then (pinL xss ys (j : Int) k, 0) else (ys, 1)) else (ys, 2) else (ys, 1)) := Lib.hid (by
          rw [HP.out]; unfold tpin
          rw [← HB1.out, ← HB2.out, ← HB3.out, Bool.and_self, Bool.and_self, if_pos rfl, Int.toNat_natCast])
        have hnil := HL.out.nilOk (by omega)
        have HLW := Lib.hid (HL.out.below C2.out)
        obtain ⟨a, ca, hvl, q1, q2, q3⟩ := HL.out
        rw [hn] at hvl q1
        obtain ⟨bl, ol, rfl, ht⟩ := q3 j (by omega)
        subst hvl
        have HT := Lib.hid ht
        obtain ⟨y, hy⟩ : ∃ y, y = ys.getD j iz := ⟨_, rfl⟩
        rw [← hy] at HT HPE
        have HY := Lib.hid hy
        have hj0 : (0 : Int) ≤ (j : Int) := by omega
        have hji : (j : Int) < 12 := by omega
        unfold maxLen at q2
        clear hm hf hi hn q3 ht hy hrf
        by_cases hk1 : y.k = 1
        · have hk1' : (y.k != 1) = false := by simpa using hk1
          by_cases hr0 : y.r ≤ 0
          · have hr0' : ¬ (0 : Int) < y.r := by omega
            have HP2 : Hid (P = if tgood xss ys (j : Int) k rs = true then (if isok (pinL xss ys (j : Int) k) = true then (pinL xss ys (j : Int) k, 0) else (ys, 1)) else (ys, 2)) := Lib.hid (by rw [HPE.out, if_pos ⟨hk1, hr0⟩])
            clear hk1 hr0
            have HSOO3 := Lib.hid (OwnV.start w2)
            have H2O3 := Lib.hid (HLW.out.below HSOO3.out.bel)
            go_wp2_with (at_builtin; refine wpList_append_is (.tmp 29) (.tmp 30) w2 _ [] rfl HSOO3.out _ ys rfl H2O3.out hnil (by simp only [List.length_nil]; have := HN.out; omega) ?_; intro v3 w3 hown hnn hgrow; have O3 := Lib.hid hown; rw [List.nil_append] at O3; obtain ⟨c0O3, c1O3, c2O3⟩ := (HT.out.below C2.out HT.out.lt).below (hown.bel.mono (Nat.le_refl _)) (Nat.lt_of_lt_of_le HT.out.lt C2.out.size); clear hown hnn hgrow HSOO3 H2O3 c1O3)
            have C3 : Hid (Below w.heap.size w w3) := Lib.hid (C2.out.trans (O3.out.bel.mono C2.out.size))
            have HO3 := Lib.hid (HO.out w3 C3.out (by trivial) (by trivial))
            obtain ⟨b4, hb4⟩ : ∃ b, b = tgood xss ys (j : Int) k rs := ⟨_, rfl⟩
            rw [← hb4] at HO3 HP2
            clear hb4
            refine HO3.out.mono ?_
            rintro e w' ⟨rfl, rfl⟩
            cases b4 with
            | false =>
              have HR : Hid (P = (ys, 2)) := Lib.hid (by rw [HP2.out]; rfl)
              go_wp2_with fail
              go_ret2
              rw [HR.out]
              exact ⟨_, rfl, O3.out.row.wide C2.out.size (Nat.le_refl _), C2.out.trans (O3.out.bel.mono C2.out.size)⟩
            | true =>
              have HP3 : Hid (P = if isok (pinL xss ys (j : Int) k) = true then (pinL xss ys (j : Int) k, 0) else (ys, 1)) := Lib.hid (by first | exact HP2.out | (rw [HP2.out]; rfl))
              obtain ⟨g, p, c, hv3, htri, hset, hsb⟩ := O3.out.setK (f := j) (by have := HN.out; omega) k
              rw [HN.out] at hv3
              subst hv3
              obtain ⟨W4, hW4⟩ : ∃ W4, W4 = w3.setCell ⟨g, p + j * 3, none⟩ (.int .i64 k) := ⟨_, rfl⟩
              rw [← hW4] at hset hsb
              have hcg := htri.at3.c0
              have hfg := htri.fr 0 (by omega)
              rw [Nat.add_zero] at hfg
              have HW4 := Lib.hid hW4
              have C4 : Hid (Below w.heap.size w W4) := Lib.hid (C2.out.trans (hsb.mono C2.out.size))
              have HSET := Lib.hid hset
              have HAD := Lib.hid (l13Add_any W4 vm (.slice (some ⟨g, p, none⟩) 12 c) xss (setK ys j k) j 1 (HROW.out.below C4.out) HM.out hset.is (by rw [setK_len]; exact HN.out) hj12 (setK_few HFEW.out (by have := HN.out; omega)) (.inl rfl))
              have HPL : Hid (addL 1 (setK ys j k) (named (xss.getD j [])) = pinL xss ys (j : Int) k) := Lib.hid rfl
              rw [HPL.out] at HAD
              have HSHP : Hid (ShortI (pinL xss ys (j : Int) k)) := Lib.hid (by rw [← HPL.out]; exact addL_short (setK_short HSH.out (by have := HN.out; omega)))
              obtain ⟨zs, hzs⟩ : ∃ zs, zs = pinL xss ys (j : Int) k := ⟨_, rfl⟩
              rw [← hzs] at HAD HSHP HP3
              clear hset hsb htri hW4 HPL hzs
              go_wp2_with fail
              rw [← HW4.out]
              refine HAD.out.mono ?_
              rintro e w5 ⟨v5, rfl, hr5, hb5⟩
              have C5 := Lib.hid (C4.out.trans (hb5.mono C4.out.size))
              have R5 := Lib.hid (hr5.wide C4.out.size (Nat.le_refl _))
              have HIV := Lib.hid (infosValid_any w5 v5 zs hr5.is HSHP.out)
              obtain ⟨b5, hb5'⟩ : ∃ b, b = isok zs := ⟨_, rfl⟩
              rw [← hb5'] at HIV HP3
              clear hb5 hr5 hb5'
              go_wp2_with fail
              refine HIV.out.mono ?_
              rintro e w6 ⟨rfl, hb6⟩
              have C6 := Lib.hid (C5.out.trans (hb6.mono C5.out.size))
              have R6 : Hid (IsW w6 w.heap.size w6.heap.size v5 zs) := Lib.hid ((R5.out.below hb6 (Nat.le_refl _)).wide (Nat.le_refl _) hb6.size)
              clear hb6 hcg hfg c0O3 c2O3
              cases b5 with
              | true =>
                have HR : Hid (P = (zs, 0)) := Lib.hid (by rw [HP3.out]; rfl)
                go_wp2_with fail
                go_ret2
                rw [HR.out]
                exact ⟨_, rfl, R6.out, C6.out⟩
              | false =>
                have HR : Hid (P = (ys, 1)) := Lib.hid (by rw [HP3.out]; rfl)
                have HL6 := Lib.hid (HL.out.below C6.out)
                have HSOO7 := Lib.hid (OwnV.start w6)
                have H2O7 := Lib.hid (HL6.out.below HSOO7.out.bel)
                go_wp2_with (at_builtin; refine wpList_append_is (.tmp 69) (.tmp 70) w6 _ [] rfl HSOO7.out _ ys rfl H2O7.out hnil (by simp only [List.length_nil]; have := HN.out; omega) ?_; intro v7 w7 hown hnn hgrow; have O7 := Lib.hid hown; rw [List.nil_append] at O7; obtain ⟨c0O7, c1O7, c2O7⟩ := (HT.out.below C6.out HT.out.lt).below (hown.bel.mono (Nat.le_refl _)) (Nat.lt_of_lt_of_le HT.out.lt C6.out.size); clear hown hnn hgrow HSOO7 H2O7 c1O7)
                go_ret2
                rw [HR.out]
                exact ⟨_, rfl, O7.out.row.wide C6.out.size (Nat.le_refl _), C6.out.trans (O7.out.bel.mono C6.out.size)⟩
          · have hr0' : (0 : Int) < y.r := by omega
            have HR : Hid (P = (ys, 1)) := Lib.hid (by rw [HPE.out, if_neg (fun h => hr0 h.2)])
            clear hk1 hr0
            have HSOO3 := Lib.hid (OwnV.start w2)
            have H2O3 := Lib.hid (HLW.out.below HSOO3.out.bel)
            go_wp2_with (at_builtin; refine wpList_append_is (.tmp 29) (.tmp 30) w2 _ [] rfl HSOO3.out _ ys rfl H2O3.out hnil (by simp only [List.length_nil]; have := HN.out; omega) ?_; intro v3 w3 hown hnn hgrow; have O3 := Lib.hid hown; rw [List.nil_append] at O3; obtain ⟨c0O3, c1O3, c2O3⟩ := (HT.out.below C2.out HT.out.lt).below (hown.bel.mono (Nat.le_refl _)) (Nat.lt_of_lt_of_le HT.out.lt C2.out.size); clear hown hnn hgrow HSOO3 H2O3 c1O3)
            go_ret2
            rw [HR.out]
            exact ⟨_, rfl, O3.out.row.wide C2.out.size (Nat.le_refl _), C2.out.trans (O3.out.bel.mono C2.out.size)⟩
        · have hk1' : (y.k != 1) = true := by simpa using hk1
          have HR : Hid (P = (ys, 1)) := Lib.hid (by rw [HPE.out, if_neg (fun h => hk1 h.1)])
          clear hk1
          have HSOO3 := Lib.hid (OwnV.start w2)
          have H2O3 := Lib.hid (HLW.out.below HSOO3.out.bel)
          go_wp2_with (at_builtin; refine wpList_append_is (.tmp 29) (.tmp 30) w2 _ [] rfl HSOO3.out _ ys rfl H2O3.out hnil (by simp only [List.length_nil]; have := HN.out; omega) ?_; intro v3 w3 hown hnn hgrow; have O3 := Lib.hid hown; rw [List.nil_append] at O3; obtain ⟨c0O3, c1O3, c2O3⟩ := (HT.out.below C2.out HT.out.lt).below (hown.bel.mono (Nat.le_refl _)) (Nat.lt_of_lt_of_le HT.out.lt C2.out.size); clear hown hnn hgrow HSOO3 H2O3 c1O3)
          go_ret2
          rw [HR.out]
          exact ⟨_, rfl, O3.out.row.wide C2.out.size (Nat.le_refl _), C2.out.trans (O3.out.bel.mono C2.out.size)⟩
set_option maxRecDepth 100000 in
set_option maxHeartbeats 4000000 in
theorem sTableUnpin_any (w : World) (vm vl : Value) (xss : List (List Int)) (ys : List IV) (f : Int) (h : Rows2 w vm xss) (hl : Is w vl ys) (hs : ShortI ys) :
    Calls Try.prog 43 #[vm, vl, .int .i64 f] w (NewVN (tunp xss ys f).1 (tunp xss ys f).2 w) := by
  have HA := Lib.hid (l13Args_any w vm vl xss ys f h hl hs)
  have HKK := Lib.hid (fun w k => l13Table_any w k)
  have HROW := Lib.hid h
  have HL := Lib.hid hl
  have HSH := Lib.hid hs
  clear h hl hs
  obtain ⟨P, hP⟩ : ∃ P, P = tunp xss ys f := ⟨_, rfl⟩
  rw [← hP]
  have HP := Lib.hid hP
  clear hP
  obtain ⟨b1, hb1⟩ : ∃ b, b = targ xss ys f := ⟨_, rfl⟩
  rw [← hb1] at HA
  have HB1 := Lib.hid hb1
  clear hb1
  go_enter Try.func43, Try.ntmps43
  go_wp2_with fail
  refine HA.out.mono ?_
  rintro e w1 ⟨rfl, hb1⟩
  have C1 := Lib.hid hb1
  clear hb1
  cases b1 with
  | false =>
    have HR : Hid (P = ([], 3)) := Lib.hid (by rw [HP.out]; unfold tunp; rw [← HB1.out]; rfl)
    go_wp2_with fail
    go_ret2
    rw [HR.out]
    exact ⟨_, rfl, (IsW.of_ownsRow (OwnV.start w1).own).wide C1.out.size (Nat.le_refl _), C1.out.trans ((OwnV.start w1).bel.mono C1.out.size)⟩
  | true =>
    obtain ⟨hm, hf, hi⟩ := targ_iff.1 HB1.out.symm
    obtain ⟨j, rfl⟩ : ∃ j : Nat, f = (j : Int) := ⟨f.toNat, by omega⟩
    have hj12 : j < 12 := by omega
    have hn := isok_len hi
    have HN := Lib.hid hn
    have HM := Lib.hid hm
    have HFEW := Lib.hid (isok_few hi)
    have hrf : 0 ≤ (ys.getD j iz).r ∨ (ys.getD j iz) = iz := by
      have h1 := isok_at hi (show j < ys.length by omega)
      by_cases h0 : (ys.getD j iz).k = 0
      · exact .inr (iok_free h1 h0)
      · exact .inl (iok_used h1 h0).2.2.1
    have HPE : Hid (P = if isTab (ys.getD j iz).k = true ∧ (ys.getD j iz).r ≤ 0 then if isok (unpL xss ys (j : Int)) = true then (unpL xss ys (j : Int), 0) else (ys, 2) else (ys, 1)) := Lib.hid (by
      rw [HP.out]; unfold tunp
      rw [← HB1.out, if_pos rfl, Int.toNat_natCast])
    have hnil := HL.out.nilOk (by omega)
    have HLW := Lib.hid (HL.out.below C1.out)
    obtain ⟨a, ca, hvl, q1, q2, q3⟩ := HL.out
    rw [hn] at hvl q1
    obtain ⟨bl, ol, rfl, ht⟩ := q3 j (by omega)
    subst hvl
    have HT := Lib.hid ht
    obtain ⟨y, hy⟩ : ∃ y, y = ys.getD j iz := ⟨_, rfl⟩
    rw [← hy] at HT HPE
    have HY := Lib.hid hy
    have hj0 : (0 : Int) ≤ (j : Int) := by omega
    have hji : (j : Int) < 12 := by omega
    unfold maxLen at q2
    clear hm hf hi hn q3 ht hy hrf
    have HSOO3 := Lib.hid (OwnV.start w1)
    have H2O3 := Lib.hid (HLW.out.below HSOO3.out.bel)
    go_wp2_with (at_builtin; refine wpList_append_is (.tmp 15) (.tmp 16) w1 _ [] rfl HSOO3.out _ ys rfl H2O3.out hnil (by simp only [List.length_nil]; have := HN.out; omega) ?_; intro v3 w3 hown hnn hgrow; have O3 := Lib.hid hown; rw [List.nil_append] at O3; obtain ⟨c0O3, c1O3, c2O3⟩ := (HT.out.below C1.out HT.out.lt).below (hown.bel.mono (Nat.le_refl _)) (Nat.lt_of_lt_of_le HT.out.lt C1.out.size); clear hown hnn hgrow HSOO3 H2O3 c1O3)
    have C3 : Hid (Below w.heap.size w w3) := Lib.hid (C1.out.trans (O3.out.bel.mono C1.out.size))
    have HK3 := Lib.hid (HKK.out w3 y.k)
    obtain ⟨b4, hb4⟩ : ∃ b, b = isTab y.k := ⟨_, rfl⟩
    rw [← hb4] at HK3 HPE
    clear hb4
    refine HK3.out.mono ?_
    rintro e w' ⟨rfl, rfl⟩
    cases b4 with
    | false =>
      have HR : Hid (P = (ys, 1)) := Lib.hid (by rw [HPE.out, if_neg (by simp)])
      go_wp2_with fail
      go_ret2
      rw [HR.out]
      exact ⟨_, rfl, O3.out.row.wide C1.out.size (Nat.le_refl _), C1.out.trans (O3.out.bel.mono C1.out.size)⟩
    | true =>
      by_cases hr0 : y.r ≤ 0
      · have hr0' : ¬ (0 : Int) < y.r := by omega
        have HP2 : Hid (P = if isok (unpL xss ys (j : Int)) = true then (unpL xss ys (j : Int), 0) else (ys, 2)) := Lib.hid (by rw [HPE.out, if_pos ⟨by simp, hr0⟩])
        clear hr0
        have HP3 : Hid (P = if isok (unpL xss ys (j : Int)) = true then (unpL xss ys (j : Int), 0) else (ys, 2)) := Lib.hid (by first | exact HP2.out | (rw [HP2.out]; rfl))
        obtain ⟨g, p, c, hv3, htri, hset, hsb⟩ := O3.out.setK (f := j) (by have := HN.out; omega) 1
        rw [HN.out] at hv3
        subst hv3
        obtain ⟨W4, hW4⟩ : ∃ W4, W4 = w3.setCell ⟨g, p + j * 3, none⟩ (.int .i64 1) := ⟨_, rfl⟩
        rw [← hW4] at hset hsb
        have hcg := htri.at3.c0
        have hfg := htri.fr 0 (by omega)
        rw [Nat.add_zero] at hfg
        have HW4 := Lib.hid hW4
        have C4 : Hid (Below w.heap.size w W4) := Lib.hid (C1.out.trans (hsb.mono C1.out.size))
        have HSET := Lib.hid hset
        have HAD := Lib.hid (l13Add_any W4 vm (.slice (some ⟨g, p, none⟩) 12 c) xss (setK ys j 1) j (-1) (HROW.out.below C4.out) HM.out hset.is (by rw [setK_len]; exact HN.out) hj12 (setK_few HFEW.out (by have := HN.out; omega)) (.inr rfl))
        have HPL : Hid (addL (-1) (setK ys j 1) (named (xss.getD j [])) = unpL xss ys (j : Int)) := Lib.hid rfl
        rw [HPL.out] at HAD
        have HSHP : Hid (ShortI (unpL xss ys (j : Int))) := Lib.hid (by rw [← HPL.out]; exact addL_short (setK_short HSH.out (by have := HN.out; omega)))
        obtain ⟨zs, hzs⟩ : ∃ zs, zs = unpL xss ys (j : Int) := ⟨_, rfl⟩
        rw [← hzs] at HAD HSHP HP3
        clear hset hsb htri hW4 HPL hzs
        go_wp2_with fail
        rw [← HW4.out]
        refine HAD.out.mono ?_
        rintro e w5 ⟨v5, rfl, hr5, hb5⟩
        have C5 := Lib.hid (C4.out.trans (hb5.mono C4.out.size))
        have R5 := Lib.hid (hr5.wide C4.out.size (Nat.le_refl _))
        have HIV := Lib.hid (infosValid_any w5 v5 zs hr5.is HSHP.out)
        obtain ⟨b5, hb5'⟩ : ∃ b, b = isok zs := ⟨_, rfl⟩
        rw [← hb5'] at HIV HP3
        clear hb5 hr5 hb5'
        go_wp2_with fail
        refine HIV.out.mono ?_
        rintro e w6 ⟨rfl, hb6⟩
        have C6 := Lib.hid (C5.out.trans (hb6.mono C5.out.size))
        have R6 : Hid (IsW w6 w.heap.size w6.heap.size v5 zs) := Lib.hid ((R5.out.below hb6 (Nat.le_refl _)).wide (Nat.le_refl _) hb6.size)
        clear hb6 hcg hfg c0O3 c2O3
        cases b5 with
        | true =>
          have HR : Hid (P = (zs, 0)) := Lib.hid (by rw [HP3.out]; rfl)
          go_wp2_with fail
          go_ret2
          rw [HR.out]
          exact ⟨_, rfl, R6.out, C6.out⟩
        | false =>
          have HR : Hid (P = (ys, 2)) := Lib.hid (by rw [HP3.out]; rfl)
          have HL6 := Lib.hid (HL.out.below C6.out)
          have HSOO7 := Lib.hid (OwnV.start w6)
          have H2O7 := Lib.hid (HL6.out.below HSOO7.out.bel)
          go_wp2_with (at_builtin; refine wpList_append_is (.tmp 45) (.tmp 46) w6 _ [] rfl HSOO7.out _ ys rfl H2O7.out hnil (by simp only [List.length_nil]; have := HN.out; omega) ?_; intro v7 w7 hown hnn hgrow; have O7 := Lib.hid hown; rw [List.nil_append] at O7; obtain ⟨c0O7, c1O7, c2O7⟩ := (HT.out.below C6.out HT.out.lt).below (hown.bel.mono (Nat.le_refl _)) (Nat.lt_of_lt_of_le HT.out.lt C6.out.size); clear hown hnn hgrow HSOO7 H2O7 c1O7)
          go_ret2
          rw [HR.out]
          exact ⟨_, rfl, O7.out.row.wide C6.out.size (Nat.le_refl _), C6.out.trans (O7.out.bel.mono C6.out.size)⟩
      · have hr0' : (0 : Int) < y.r := by omega
        have HR : Hid (P = (ys, 1)) := Lib.hid (by rw [HPE.out, if_neg (fun h => hr0 h.2)])
        clear hr0
        go_wp2_with fail
        go_ret2
        rw [HR.out]
        exact ⟨_, rfl, O3.out.row.wide C1.out.size (Nat.le_refl _), C1.out.trans (O3.out.bel.mono C1.out.size)⟩
end Go.Proofs.Yticnfekjbknomaa
/- The reference's drawn arguments of the functions on tables. -/
namespace Go.Proofs.Yticnfekjbknomaa
open Go.ChangeShapes Go.WideShapes Go.ChangeAt Go.RowKit
set_option linter.unusedVariables false

/-- a drawn memory and what is known of its frames; nothing that was there before has changed -/
structure DTab (W : World) (vm vl : Value) (xss : List (List Int)) (ys : List IV) (w' : World) : Prop where
  mem : Rows2 w' vm xss
  small : Small xss
  inf : Is w' vl ys
  len : ys.length ≤ 12
  sh : ∀ y ∈ ys, shI y
  bel : Below W.heap.size W w'
theorem DTab.of {W w w' : World} {B k C : Nat} {vm vl : Value} {xss : List (List Int)} {ys : List IV} (h : TabB W w B k C vm vl xss ys w') (hs : Small xss) (hl : ys.length ≤ 12 ∧ ∀ y ∈ ys, shI y) : DTab W vm vl xss ys w' :=
  ⟨h.mem.rows, hs, h.inf.is, hl.1, hl.2, rdr_below h.rdr⟩
theorem DTab.go {W w w' : World} {vm vl : Value} {xss : List (List Int)} {ys : List IV} (h : DTab W vm vl xss ys w) (hb : Below w.heap.size w w') : DTab W vm vl xss ys w' :=
  ⟨h.mem.below hb, h.small, h.inf.below hb, h.len, h.sh, h.bel.trans (hb.mono h.bel.size)⟩
def DrewT2 (W : World) (e : Ending) (w' : World) : Prop := ∃ vm vl xss ys, e = .returned (.tuple #[vm, vl]) ∧ DTab W vm vl xss ys w'
def DrewT3 (W : World) (e : Ending) (w' : World) : Prop := ∃ vm vl xss ys f, frameP f ∧ e = .returned (.tuple #[vm, vl, .int .i64 f]) ∧ DTab W vm vl xss ys w'
def DrewT5 (W : World) (e : Ending) (w' : World) : Prop := ∃ vm vl xss ys f k vr rs, frameP f ∧ kindP k ∧ e = .returned (.tuple #[vm, vl, .int .i64 f, .int .i64 k, vr]) ∧ DTab W vm vl xss ys w' ∧ Strs w' vr rs ∧ rs.length ≤ 8 ∧ ∀ y ∈ rs, shortP y
theorem results_tmp5 {fn : Func} {t u v x y : Tmp} (h : fn.results = #[.tmp t, .tmp u, .tmp v, .tmp x, .tmp y]) (tmps : Array Value) (P : Program) (w : World) :
    (results fn tmps).run P w = .ok (.tuple #[tmps.getD t undef, tmps.getD u undef, tmps.getD v undef, tmps.getD x undef, tmps.getD y undef]) w := by simp [results, h]

theorem drawTableNeeds_any (W : World) (a : Option Addr) (len cap : Nat) (zs : List Int) (hr : Row .u8 W a len cap zs) :
    Calls Try.prog 20 #[.slice a len cap] W fun e w' => ∃ k, kindP k ∧ e = .returned (.int .i64 k) ∧ Below W.heap.size W w' := by
  go_enter Try.func20, Try.ntmps20
  go_wp2_with fail
  refine (open_any W a len cap zs hr).mono ?_
  clear hr
  rintro e w1 ⟨rfl, hR1⟩
  go_wp2_with fail
  refine (pick_any W _ _ _ _ hR1 (by omega) (by omega)).mono ?_
  rintro e w2 ⟨m, h0, h1, rfl, hR2, hO2⟩
  have hw : IntKind.i64.wrap (m - 1) = m - 1 := by rw [IntKind.wrap_i64]; omega
  go_wp2_with fail
  go_ret
  exact ⟨m - 1, by unfold kindP; omega, rfl, rdr_below hR2⟩
set_option maxHeartbeats 2000000 in
theorem drawTableCount_any (W : World) (a : Option Addr) (len cap : Nat) (zs : List Int) (hr : Row .u8 W a len cap zs) :
    Calls Try.prog 31 #[.slice a len cap] W (DrewT2 W) := by
  go_enter Try.func31, Try.ntmps31
  go_wp2_with fail
  refine (open_any W a len cap zs hr).mono ?_
  clear hr
  rintro e w1 ⟨rfl, hR1⟩
  go_wp2_with fail
  refine (pick_any W _ _ _ _ hR1 (by omega) (by omega)).mono ?_
  rintro e w2 ⟨m, h0, h1, rfl, hR2, hO2⟩
  clear hR1 hO2
  go_wp2_with fail
  refine (tables_any W w2 _ _ m 2 hR2 (by omega) (by unfold kindP; omega)).mono ?_
  rintro e w3 ⟨vm, vl, xss, ys, C, rfl, hs, hl, hT⟩
  have HD := Lib.hid (DTab.of hT hs hl)
  clear hs hl hT hR2
  go_wp2_with fail
  go_ret2
  exact ⟨_, _, xss, ys, rfl, HD.out⟩
set_option maxRecDepth 100000 in
set_option maxHeartbeats 4000000 in
theorem drawTableOk_any (W : World) (a : Option Addr) (len cap : Nat) (zs : List Int) (hr : Row .u8 W a len cap zs) :
    Calls Try.prog 23 #[.slice a len cap] W (DrewT5 W) := by
  go_enter Try.func23, Try.ntmps23
  go_wp2_with fail
  refine (open_any W a len cap zs hr).mono ?_
  clear hr
  rintro e w1 ⟨rfl, hR1⟩
  go_wp2_with fail
  refine (frame_any W _ _ _ hR1 (by omega)).mono ?_
  rintro e w2 ⟨f, hf, rfl, hR2, hg2⟩
  have HF := Lib.hid hf
  clear hR1 hg2 hf
  go_wp2_with fail
  refine (pick_any W _ _ _ _ hR2 (by omega) (by omega)).mono ?_
  rintro e w3 ⟨m3, h30, h31, rfl, hR3, hO3⟩
  clear hR2 hO3
  have hw3 : IntKind.i64.wrap (2 + m3) = 2 + m3 := by rw [IntKind.wrap_i64]; omega
  go_wp2_with fail
  refine (pick_any W _ _ _ _ hR3 (by omega) (by omega)).mono ?_
  rintro e w4 ⟨m4, h40, h41, rfl, hR4, hO4⟩
  clear hR3 hO4
  by_cases hm4 : m4 = 0
  · subst hm4
    go_wp2_with fail
    refine (pick_any W _ _ _ _ hR4 (by omega) (by omega)).mono ?_
    rintro e w5 ⟨m5, h50, h51, rfl, hR5, hO5⟩
    clear hR4 hO5
    have hw5 : IntKind.i64.wrap (m5 - 1) = m5 - 1 := by rw [IntKind.wrap_i64]; omega
    have HKD : Hid (kindP (m5 - 1)) := Lib.hid (by unfold kindP; omega)
    go_wp2_with fail
    refine (tables_any W w5 _ _ f (m5 - 1) hR5 (by omega) HKD.out).mono ?_
    rintro e w6 ⟨vm, vl, xss, ys, C, rfl, hs, hl, hT⟩
    have HS := Lib.hid hs
    have HL := Lib.hid hl
    have HT := Lib.hid hT
    clear hs hl hT
    go_wp2_with fail
    refine (pick_any W _ _ _ _ HT.out.rdr (by omega) (by omega)).mono ?_
    rintro e w7 ⟨m7, h70, h71, rfl, hR7, hO7⟩
    have HT7 := Lib.hid (HT.out.go hR7 hO7.grown)
    clear HT hO7 hR7
    by_cases hm7 : 0 < m7
    · have HD : Hid (DTab W vm vl xss ys (w7.alloc (.cells #[.string ⟨([97] : Bs).toArray⟩] 9))) := Lib.hid ((DTab.of HT7.out HS.out HL.out).go ((Below.refl _ _).alloc (Nat.le_refl _) _))
      have HST := Lib.hid (strs_one w7 [97])
      go_wp2_with fail
      refine bodyPost_ret (results_tmp5 rfl _ _ _) rfl ?_
      exact ⟨_, _, xss, ys, _, _, _, [[97]], HF.out, HKD.out, rfl, HD.out, HST.out, by decide, fun y hy => by rw [List.mem_singleton.1 hy]; show ([97] : Bs).length ≤ 10; decide⟩
    · have hm7' : decide (0 < m7) = false := by simpa using hm7
      go_wp2_with fail
      refine (rights_any W w7 _ _ HT7.out.rdr (by omega)).mono ?_
      rintro e w8 ⟨vr, rs, rfl, hrs, hO8⟩
      have HD := Lib.hid (DTab.of (HT7.out.go hO8.rdr hO8.grow) HS.out HL.out)
      have HRS := Lib.hid hrs
      have HST := Lib.hid hO8.strs
      clear hrs hO8
      go_wp2_with fail
      refine bodyPost_ret (results_tmp5 rfl _ _ _) rfl ?_
      exact ⟨_, _, xss, ys, _, _, _, rs, HF.out, HKD.out, rfl, HD.out, HST.out, HRS.out.1, HRS.out.2⟩
  · have hm4' : (m4 == 0) = false := by simpa using hm4
    have HKD : Hid (kindP (2 + m3)) := Lib.hid (by unfold kindP; omega)
    go_wp2_with fail
    refine (tables_any W w4 _ _ f (2 + m3) hR4 (by omega) HKD.out).mono ?_
    rintro e w6 ⟨vm, vl, xss, ys, C, rfl, hs, hl, hT⟩
    have HS := Lib.hid hs
    have HL := Lib.hid hl
    have HT := Lib.hid hT
    clear hs hl hT
    go_wp2_with fail
    refine (pick_any W _ _ _ _ HT.out.rdr (by omega) (by omega)).mono ?_
    rintro e w7 ⟨m7, h70, h71, rfl, hR7, hO7⟩
    have HT7 := Lib.hid (HT.out.go hR7 hO7.grown)
    clear HT hO7 hR7
    by_cases hm7 : 0 < m7
    · have HD : Hid (DTab W vm vl xss ys (w7.alloc (.cells #[.string ⟨([97] : Bs).toArray⟩] 9))) := Lib.hid ((DTab.of HT7.out HS.out HL.out).go ((Below.refl _ _).alloc (Nat.le_refl _) _))
      have HST := Lib.hid (strs_one w7 [97])
      go_wp2_with fail
      refine bodyPost_ret (results_tmp5 rfl _ _ _) rfl ?_
      exact ⟨_, _, xss, ys, _, _, _, [[97]], HF.out, HKD.out, rfl, HD.out, HST.out, by decide, fun y hy => by rw [List.mem_singleton.1 hy]; show ([97] : Bs).length ≤ 10; decide⟩
    · have hm7' : decide (0 < m7) = false := by simpa using hm7
      go_wp2_with fail
      refine (rights_any W w7 _ _ HT7.out.rdr (by omega)).mono ?_
      rintro e w8 ⟨vr, rs, rfl, hrs, hO8⟩
      have HD := Lib.hid (DTab.of (HT7.out.go hO8.rdr hO8.grow) HS.out HL.out)
      have HRS := Lib.hid hrs
      have HST := Lib.hid hO8.strs
      clear hrs hO8
      go_wp2_with fail
      refine bodyPost_ret (results_tmp5 rfl _ _ _) rfl ?_
      exact ⟨_, _, xss, ys, _, _, _, rs, HF.out, HKD.out, rfl, HD.out, HST.out, HRS.out.1, HRS.out.2⟩
theorem drawTablePin_any (W : World) (a : Option Addr) (len cap : Nat) (zs : List Int) (hr : Row .u8 W a len cap zs) :
    Calls Try.prog 36 #[.slice a len cap] W (DrewT5 W) := by
  have HC := Lib.hid (drawTableOk_any W a len cap zs hr)
  clear hr
  go_enter Try.func36, Try.ntmps36
  go_wp2_with fail
  refine HC.out.mono ?_
  rintro e w1 ⟨vm, vl, xss, ys, f, k, vr, rs, hf, hk, rfl, hd⟩
  have HF := Lib.hid hf
  have HK := Lib.hid hk
  have HD := Lib.hid hd
  clear hf hk hd HC
  go_wp2_with fail
  refine bodyPost_ret (results_tmp5 rfl _ _ _) rfl ?_
  exact ⟨_, _, xss, ys, _, _, _, rs, HF.out, HK.out, rfl, HD.out⟩
end Go.Proofs.Yticnfekjbknomaa
/- The reference's drawn arguments of TableUnpin. -/
namespace Go.Proofs.Yticnfekjbknomaa
open Go.ChangeShapes Go.WideShapes Go.ChangeAt Go.RowKit
set_option linter.unusedVariables false

theorem set_guard {ys : List IV} {i : Nat} {x : IV} (hx : x.g = (ys.getD i iz).g) {y : IV} (hy : y ∈ ys.set i x) : ∃ z ∈ ys, z.g = y.g := by
  by_cases hi : i < ys.length
  · rcases List.mem_or_eq_of_mem_set hy with h1 | h1
    · exact ⟨y, h1, rfl⟩
    · exact ⟨ys[i], List.getElem_mem hi, by rw [h1, hx, getD_lt hi]⟩
  · rw [List.set_eq_of_length_le (by omega)] at hy
    exact ⟨y, hy, rfl⟩
theorem bump_guard {n : Int} {ys : List IV} {f : Int} {y : IV} (hy : y ∈ bump n ys f) : ∃ z ∈ ys, z.g = y.g := by
  unfold bump at hy
  refine set_guard ?_ hy
  rfl
theorem addL_guard {n : Int} : ∀ {fs : List Int} {ys : List IV} {y : IV}, y ∈ addL n ys fs → ∃ z ∈ ys, z.g = y.g
  | [], ys, y, h => ⟨y, h, rfl⟩
  | f :: fs, ys, y, h => by
    obtain ⟨z, hz, e⟩ := addL_guard (fs := fs) (ys := bump n ys f) h
    obtain ⟨z2, hz2, e2⟩ := bump_guard hz
    exact ⟨z2, hz2, e2.trans e⟩
theorem setK_guard {ys : List IV} {f : Nat} {k : Int} {y : IV} (hy : y ∈ setK ys f k) : ∃ z ∈ ys, z.g = y.g := by
  unfold setK at hy
  refine set_guard ?_ hy
  rfl
theorem pinL_guard {xss : List (List Int)} {ys : List IV} {f k : Int} {y : IV} (hy : y ∈ pinL xss ys f k) : ∃ z ∈ ys, z.g = y.g := by
  obtain ⟨z, hz, e⟩ := addL_guard hy
  obtain ⟨z2, hz2, e2⟩ := setK_guard hz
  exact ⟨z2, hz2, e2.trans e⟩
theorem unpL_guard {xss : List (List Int)} {ys : List IV} {f : Int} {y : IV} (hy : y ∈ unpL xss ys f) : ∃ z ∈ ys, z.g = y.g := by
  obtain ⟨z, hz, e⟩ := addL_guard hy
  obtain ⟨z2, hz2, e2⟩ := setK_guard hz
  exact ⟨z2, hz2, e2.trans e⟩
theorem tpin_guard {xss : List (List Int)} {ys : List IV} {f k : Int} {rs : List Bs} {y : IV} (hy : y ∈ (tpin xss ys f k rs).1) : ∃ z ∈ ys, z.g = y.g := by
  unfold tpin at hy
  split at hy
  · split at hy
    · split at hy
      · split at hy
        · exact pinL_guard hy
        · exact ⟨y, hy, rfl⟩
      · exact ⟨y, hy, rfl⟩
    · exact ⟨y, hy, rfl⟩
  · cases hy
theorem tunp_guard {xss : List (List Int)} {ys : List IV} {f : Int} {y : IV} (hy : y ∈ (tunp xss ys f).1) : ∃ z ∈ ys, z.g = y.g := by
  unfold tunp at hy
  split at hy
  · split at hy
    · split at hy
      · exact unpL_guard hy
      · exact ⟨y, hy, rfl⟩
    · exact ⟨y, hy, rfl⟩
  · cases hy
theorem tpin_len (xss : List (List Int)) (ys : List IV) (f k : Int) (rs : List Bs) : (tpin xss ys f k rs).1.length ≤ ys.length := by
  unfold tpin
  split
  · split
    · split
      · split
        · rw [pinL_len]; exact Nat.le_refl _
        · exact Nat.le_refl _
      · exact Nat.le_refl _
    · exact Nat.le_refl _
  · exact Nat.zero_le _
theorem tunp_len (xss : List (List Int)) (ys : List IV) (f : Int) : (tunp xss ys f).1.length ≤ ys.length := by
  unfold tunp
  split
  · split
    · split
      · rw [unpL_len]; exact Nat.le_refl _
      · exact Nat.le_refl _
    · exact Nat.le_refl _
  · exact Nat.zero_le _
theorem shI_short {ys : List IV} (h : ∀ y ∈ ys, shI y) : ShortI ys := fun y hy => by have := h y hy; unfold shI at this; omega
set_option maxRecDepth 100000 in
set_option maxHeartbeats 2000000 in
theorem drawTableUnpin_any (W : World) (a : Option Addr) (len cap : Nat) (zs : List Int) (hr : Row .u8 W a len cap zs) :
    Calls Try.prog 42 #[.slice a len cap] W (DrewT3 W) := by
  go_enter Try.func42, Try.ntmps42
  go_wp2_with fail
  refine (open_any W a len cap zs hr).mono ?_
  clear hr
  rintro e w1 ⟨rfl, hR1⟩
  go_wp2_with fail
  refine (frame_any W _ _ _ hR1 (by omega)).mono ?_
  rintro e w2 ⟨f, hf, rfl, hR2, hg2⟩
  have HF := Lib.hid hf
  clear hR1 hg2 hf
  go_wp2_with fail
  refine (pick_any W _ _ _ _ hR2 (by omega) (by omega)).mono ?_
  rintro e w3 ⟨m3, h30, h31, rfl, hR3, hO3⟩
  clear hR2 hO3
  have hw3 : IntKind.i64.wrap (2 + m3) = 2 + m3 := by rw [IntKind.wrap_i64]; omega
  have HKD : Hid (kindP (2 + m3)) := Lib.hid (by unfold kindP; omega)
  go_wp2_with fail
  refine (tables_any W w3 _ _ f (2 + m3) hR3 (by omega) HKD.out).mono ?_
  rintro e w6 ⟨vm, vl, xss, ys, C, rfl, hs, hl, hT⟩
  have HS := Lib.hid hs
  have HL := Lib.hid hl
  have HT := Lib.hid hT
  clear hs hl hT
  go_wp2_with fail
  refine (pick_any W _ _ _ _ HT.out.rdr (by omega) (by omega)).mono ?_
  rintro e w7 ⟨m7, h70, h71, rfl, hR7, hO7⟩
  have HT7 := Lib.hid (HT.out.go hR7 hO7.grown)
  clear HT hO7 hR7
  by_cases hm7 : 0 < m7
  · have HD : Hid (DTab W vm vl xss ys (w7.alloc (.cells #[.string ⟨([] : Bs).toArray⟩] 9))) := Lib.hid ((DTab.of HT7.out HS.out HL.out).go ((Below.refl _ _).alloc (Nat.le_refl _) _))
    have HST := Lib.hid (strs_one w7 [])
    have HP := Lib.hid (sTablePin_any (w7.alloc (.cells #[.string ⟨([] : Bs).toArray⟩] 9)) vm vl _ xss ys [[]] f (2 + m3) HD.out.mem HD.out.inf (shI_short HL.out.2) HST.out (fun x hx => by rw [List.mem_singleton.1 hx]; exact Nat.zero_le _))
    have HPG : Hid ((tpin xss ys f (2 + m3) [[]]).1.length ≤ 12 ∧ ∀ y ∈ (tpin xss ys f (2 + m3) [[]]).1, shI y) := Lib.hid ⟨Nat.le_trans (tpin_len _ _ _ _ _) HL.out.1, fun y hy => by
      obtain ⟨z, hz, e⟩ := tpin_guard hy
      have := HL.out.2 z hz
      unfold shI at this ⊢
      rw [← e]; exact this⟩
    generalize tpin xss ys f (2 + m3) [[]] = P at HP HPG
    go_wp2_with fail
    refine HP.out.mono ?_
    rintro e w8 ⟨v8, rfl, hv8, hb8⟩
    have HD8 := Lib.hid (HD.out.go hb8)
    have HX8 : Hid (DTab W vm v8 xss P.1 w8) := Lib.hid ⟨HD8.out.mem, HD8.out.small, hv8.is, HPG.out.1, HPG.out.2, HD8.out.bel⟩
    clear hv8 hb8 HD HT7
    by_cases h0 : P.2 = 0
    · have h0' : (P.2 == 0) = true := by simpa using h0
      clear h0
      go_wp2_with fail
      go_ret3
      exact ⟨_, _, xss, P.1, _, HF.out, rfl, HX8.out⟩
    · have h0' : (P.2 == 0) = false := by simpa using h0
      clear h0
      go_wp2_with fail
      go_ret3
      exact ⟨_, _, xss, ys, _, HF.out, rfl, HD8.out⟩
  · have hm7' : decide (0 < m7) = false := by simpa using hm7
    have HD := Lib.hid (DTab.of HT7.out HS.out HL.out)
    go_wp2_with fail
    go_ret3
    exact ⟨_, _, xss, ys, _, HF.out, rfl, HD.out⟩
end Go.Proofs.Yticnfekjbknomaa
/- How the laws mark several arguments, one behind the other: from any number on. -/
namespace Go.Proofs.Yticnfekjbknomaa
open Go.ChangeShapes Go.WideShapes Go.ChangeAt Go.RowKit
set_option linter.unusedVariables false

set_option maxHeartbeats 1000000 in
theorem markInfoK_any (k0 : Nat) (hk0 : 1 ≤ k0) (hkm : k0 ≤ 3200000) (w : World) (B0 B1 : Nat) (a : Option Addr) (n cap : Nat) (xs : List IV) (h : IsW w B0 B1 (.slice a n cap) xs) (hB : B1 ≤ w.heap.size) (hN : n = xs.length) (hn : k0 + 3 * n ≤ 3200000) :
    Calls Try.prog 57 #[.slice a n cap, .int .i64 k0] w fun e w' => e = .returned (.int .i64 ((k0 + 3 * n : Nat) : Int)) ∧ Chg B0 B1 w w' := by
  have H := Lib.hid h
  have HN := Lib.hid hN
  have HB := Lib.hid hB
  clear h hN hB
  go_enter Try.func57, Try.ntmps57
  go_wp2
  go_loopw [1, 5] (fun l i wr => ∃ (j : Nat) (ys : List IV), j ≤ n ∧ i = .int .i64 j ∧ l = .int .i64 ((k0 + 3 * j : Nat) : Int) ∧ Hid (ys.length = n) ∧ Hid (IsW wr B0 B1 (.slice a n cap) ys) ∧ Hid (Chg B0 B1 w wr)) (fun _ i _ => n - (intOf i).toNat)
  case atStart => exact ⟨0, xs, Nat.zero_le _, rfl, rfl, Lib.hid HN.out.symm, H, Lib.hid ⟨rfl, rfl, rfl, Nat.le_refl _, fun _ _ _ => rfl⟩⟩
  case round =>
    obtain ⟨j, ys, hj, rfl, rfl, HL, HS, HC⟩ := hrel
    by_cases hlt : j < n
    · have hlt' : (j : Int) < (n : Int) := by omega
      obtain ⟨a', cap', e, q1, q2, q3⟩ := HS.out
      injection e with e1 e2 e3
      subst e1
      obtain ⟨g, p, rfl, hg0, hg1, ht⟩ := q3 j (by omega)
      clear q1 q2 q3 e2 e3
      generalize ys.getD j iz = x at ht
      have HT := Lib.hid ht
      have HG := Lib.hid (And.intro hg0 hg1)
      have hc0 := ht.at3.c0
      have hf0 := ht.fr 0 (by omega)
      rw [Nat.add_zero] at hf0
      clear hg0 hg1 ht
      go_wp2_with fail
      have z1 : ((k0 : Int) + 3 * (j : Int) + 1) = ((k0 + 1 + 3 * j : Nat) : Int) := by omega
      obtain ⟨wa, hwa⟩ : ∃ wa, wa = wr.setCell ⟨g, p + j * 3, none⟩ (.int .i64 ((k0 : Int) + 3 * (j : Int))) := ⟨_, rfl⟩
      have TA : Hid (TriW wa g (p + j * 3) ⟨(k0 : Int) + 3 * (j : Int), x.g, x.r⟩) := Lib.hid (by rw [hwa]; exact HT.out.set0 _)
      have SA : Hid (IsW wa B0 B1 (.slice (some ⟨g, p, none⟩) n cap) (ys.set j ⟨(k0 : Int) + 3 * (j : Int), x.g, x.r⟩)) := Lib.hid (HS.out.upd rfl hlt TA.out (fun i y hi hy => by rw [hwa]; exact hy.off (by omega) _))
      have CA : Hid (Chg B0 B1 w wa) := Lib.hid (by rw [hwa]; exact chg_set HC.out HG.out.1 HG.out.2)
      rw [z1, ← hwa]
      clear hwa
      refine (markText_any wa (k0 + 1 + 3 * j) (by omega) (by omega)).mono ?_
      rintro e wb ⟨rfl, hbb⟩
      have TB := Lib.hid (TA.out.block (hbb.block g TA.out.at3.lt))
      have SB := Lib.hid (SA.out.below hbb (Nat.le_trans HB.out CA.out.size))
      have CB := Lib.hid (chg_below CA.out hbb)
      have hc1 := TB.out.at3.c1
      have hf1 := TB.out.fr 1 (by omega)
      have hc2 := TB.out.at3.c2
      have hf2 := TB.out.fr 2 (by omega)
      clear hbb TA SA CA
      go_wp2_with fail
      have z2 : ((k0 : Int) + 1 + 3 * (j : Int) + 1) = ((k0 + 2 + 3 * j : Nat) : Int) := by omega
      obtain ⟨wc, hwc⟩ : ∃ wc, wc = wb.setCell ⟨g, p + j * 3 + 1, none⟩ (.string ⟨(mtext (k0 + 1 + 3 * j)).toArray⟩) := ⟨_, rfl⟩
      have TC : Hid (TriW wc g (p + j * 3) ⟨(k0 : Int) + 3 * (j : Int), mtext (k0 + 1 + 3 * j), x.r⟩) := Lib.hid (by rw [hwc]; exact TB.out.set1 _)
      have SC : Hid (IsW wc B0 B1 (.slice (some ⟨g, p, none⟩) n cap) ((ys.set j ⟨(k0 : Int) + 3 * (j : Int), x.g, x.r⟩).set j ⟨(k0 : Int) + 3 * (j : Int), mtext (k0 + 1 + 3 * j), x.r⟩)) := Lib.hid (SB.out.upd rfl hlt TC.out (fun i y hi hy => by rw [hwc]; exact hy.off (by omega) _))
      have CC : Hid (Chg B0 B1 w wc) := Lib.hid (by rw [hwc]; exact chg_set CB.out HG.out.1 HG.out.2)
      rw [← hwc]
      clear hwc
      have TD := Lib.hid (TC.out.set2 ((k0 : Int) + 1 + 3 * (j : Int) + 1))
      have SD := Lib.hid (SC.out.upd rfl hlt TD.out (fun i y hi hy => hy.off (by omega) _))
      have CD := Lib.hid (chg_set (v := .int .i64 ((k0 : Int) + 1 + 3 * (j : Int) + 1)) CC.out HG.out.1 HG.out.2 (p := p + j * 3 + 2))
      exact ⟨⟨j + 1, _, by omega, by go_num, by congr 1; omega, Lib.hid (by rw [List.length_set, List.length_set, List.length_set]; exact HL.out), SD, CD⟩, by simp [intOf]; omega⟩
    · go_wp2
      go_ret
      have e : j = n := by omega
      subst e
      exact ⟨rfl, HC.out⟩
theorem markStringK_any (k0 : Nat) (hk0 : 1 ≤ k0) (hkm : k0 ≤ 3200000) (w : World) (B0 B1 : Nat) (a : Option Addr) (n cap : Nat) (xs : List Bs) (h : StrsW w B0 B1 (.slice a n cap) xs) (hB : B1 ≤ w.heap.size) (hN : n = xs.length) (hn : k0 + n ≤ 3200000) :
    Calls Try.prog 60 #[.slice a n cap, .int .i64 k0] w fun e w' => e = .returned (.int .i64 ((k0 + n : Nat) : Int)) ∧ Chg B0 B1 w w' := by
  have H := Lib.hid h
  have HN := Lib.hid hN
  have HB := Lib.hid hB
  clear h hN hB
  go_enter Try.func60, Try.ntmps60
  go_wp2
  go_loopw [1, 5] (fun l i wr => ∃ (j : Nat) (ys : List Bs), j ≤ n ∧ i = .int .i64 j ∧ l = .int .i64 ((k0 + j : Nat) : Int) ∧ Hid (ys.length = n) ∧ Hid (StrsW wr B0 B1 (.slice a n cap) ys) ∧ Hid (Chg B0 B1 w wr)) (fun _ i _ => n - (intOf i).toNat)
  case atStart => exact ⟨0, xs, Nat.zero_le _, rfl, rfl, Lib.hid HN.out.symm, H, Lib.hid ⟨rfl, rfl, rfl, Nat.le_refl _, fun _ _ _ => rfl⟩⟩
  case round =>
    obtain ⟨j, ys, hj, rfl, rfl, HL, HS, HC⟩ := hrel
    by_cases hlt : j < n
    · have hlt' : (j : Int) < (n : Int) := by omega
      have hs0 := HS.out
      obtain ⟨a', cap', e, q1, q2, q3⟩ := hs0
      injection e with e1 e2 e3
      subst e1
      obtain ⟨g, p, rfl, hg0, hg1, -, -⟩ := q3 j (by omega)
      clear q1 q2 q3 e2 e3
      have HG := Lib.hid (And.intro hg0 hg1)
      clear hg0 hg1
      go_wp2_with fail
      refine (markText_any wr (k0 + j) (by omega) (by omega)).mono ?_
      rintro e w1 ⟨rfl, hb1⟩
      have HS1 := Lib.hid (HS.out.below hb1 (Nat.le_trans HB.out HC.out.size))
      have HC1 := Lib.hid (chg_below HC.out hb1)
      clear hb1
      have hcell : ∃ u, w1.cell? ⟨g, p + j, none⟩ = some u ∧ w1.frozen? ⟨g, p + j, none⟩ = false := by
        obtain ⟨a', cap', e, q1, q2, q3⟩ := HS1.out
        injection e with e1 e2 e3
        subst e1
        obtain ⟨g', p', e, _, _, h1, h2⟩ := q3 j (by omega)
        cases e
        exact ⟨_, h1, h2⟩
      obtain ⟨u, hc, hf⟩ := hcell
      go_wp2
      go_roundw
      case rel =>
        refine ⟨j + 1, ys.set j (mtext (k0 + j)), by omega, by go_num, by go_num, Lib.hid (by rw [List.length_set]; exact HL.out), Lib.hid (HS1.out.put rfl hlt _), Lib.hid (chg_set HC1.out HG.out.1 HG.out.2)⟩
      case measure => simp [intOf]; omega
    · go_wp2
      go_ret
      have e : j = n := by omega
      subst e
      exact ⟨rfl, HC.out⟩
end Go.Proofs.Yticnfekjbknomaa
/- What the walks of the exact statements on tables ask of the laws' helpers and of the program. -/
namespace Go.Proofs.Yticnfekjbknomaa
open Go.ChangeShapes Go.WideShapes Go.ChangeAt Go.RowKit
set_option linter.unusedVariables false

/-- the program's functions answer as these do -/
abbrev ITN : Prop := ∀ (w : World) (k : Int), -9223372036854775808 ≤ k → k ≤ 9223372036854775807 → Calls Try.prog 21 #[.int .i64 k] w (NRes (tneeds k) w)
abbrev ITO : Prop := ∀ (w : World) (vm vl vr : Value) (xss : List (List Int)) (ys : List IV) (rs : List Bs) (f k : Int), Rows2 w vm xss → Is w vl ys → ShortI ys → Strs w vr rs → Short rs → Calls Try.prog 24 #[vm, vl, .int .i64 f, .int .i64 k, vr] w (BRes (tok8 xss ys f k rs) w)
abbrev ITC : Prop := ∀ (w : World) (vm vl : Value) (xss : List (List Int)) (ys : List IV), Rows2 w vm xss → Is w vl ys → ShortI ys → Calls Try.prog 32 #[vm, vl] w (NewR (tcnt xss ys) w)
abbrev ITP : Prop := ∀ (w : World) (vm vl vr : Value) (xss : List (List Int)) (ys : List IV) (rs : List Bs) (f k : Int), Rows2 w vm xss → Is w vl ys → ShortI ys → Strs w vr rs → Short rs → Calls Try.prog 37 #[vm, vl, .int .i64 f, .int .i64 k, vr] w (NewVN (tpin xss ys f k rs).1 (tpin xss ys f k rs).2 w)
abbrev ITU : Prop := ∀ (w : World) (vm vl : Value) (xss : List (List Int)) (ys : List IV) (f : Int), Rows2 w vm xss → Is w vl ys → ShortI ys → Calls Try.prog 41 #[vm, vl, .int .i64 f] w (NewVN (tunp xss ys f).1 (tunp xss ys f).2 w)

theorem OwnRows.matW {w : World} {g : Nat} {v : Value} {xss : List (List Int)} (h : OwnRows w g v xss) : MatW w g (g + 1 + xss.length) v xss := by
  have hl := h.2.1
  obtain ⟨rfl, hm⟩ := h.mat
  exact ⟨_, _, _, _, rfl, Nat.le_refl _, hl, hm⟩
def CopyM (xss : List (List Int)) (w : World) (e : Ending) (w' : World) : Prop := ∃ u, e = .returned u ∧ MatW w' w.heap.size w'.heap.size u xss ∧ Below w.heap.size w w'
theorem copyM (w : World) (v : Value) (xss : List (List Int)) (h : Rows2 w v xss) (hn : xss.length + total xss ≤ 1048576) : Calls Try.prog 49 #[v] w (CopyM xss w) :=
  (toIntSS_any w v xss h hn).mono fun e w' ⟨u, he, ho, hb, hs⟩ => ⟨u, he, by have := ho.matW; rwa [← hs] at this, hb⟩
def CopyI (ys : List IV) (w : World) (e : Ending) (w' : World) : Prop := ∃ u, e = .returned u ∧ IsW w' w.heap.size w'.heap.size u ys ∧ Below w.heap.size w w'
theorem copyI (w : World) (v : Value) (ys : List IV) (h : Is w v ys) (hn : ys.length ≤ 1048576) : Calls Try.prog 50 #[v] w (CopyI ys w) :=
  (toInfoS_any w v ys h hn).mono fun e w' ⟨u, he, ho, hb, _⟩ => ⟨u, he, ho, hb⟩
def CopyS (rs : List Bs) (w : World) (e : Ending) (w' : World) : Prop := ∃ u, e = .returned u ∧ StrsW w' w.heap.size w'.heap.size u rs ∧ Below w.heap.size w w'
theorem copyS (w : World) (v : Value) (rs : List Bs) (h : Strs w v rs) (hn : rs.length ≤ 1048576) : Calls Try.prog 51 #[v] w (CopyS rs w) :=
  (toStringS_any w v rs h hn).mono fun e w' ⟨u, he, ho, hb, hs, _⟩ => ⟨u, he, by rw [hs]; exact ho, hb⟩
/-- marks of an argument, from a number on -/
def MarkTo (f : FuncId) (w : World) (B0 B1 : Nat) (v : Value) (k0 k1 : Nat) : Prop := Calls Try.prog f #[v, .int .i64 k0] w fun e w' => e = .returned (.int .i64 k1) ∧ Chg B0 B1 w w'
theorem markM_to {w : World} {B0 B1 : Nat} {v : Value} {xss : List (List Int)} {k1 : Nat} (h : MatW w B0 B1 v xss) (hn : xss.length + total xss ≤ 1048576) (hk : k1 = 1 + total xss) : MarkTo 56 w B0 B1 v 1 k1 := by
  obtain ⟨a, cap, A, C, rfl, h1, h2, h3⟩ := h
  refine (markIntSS_any w B0 B1 a xss.length cap A _ C _ 1 (by omega) (by rw [off_all]; omega) (by omega) (by omega) h3).mono ?_
  rintro e w' ⟨rfl, _, hk'⟩
  refine ⟨?_, Chg.of_kept hk'⟩
  rw [off_all, hk]
  congr 1
theorem markI_to {w : World} {B0 B1 : Nat} {v : Value} {ys : List IV} {k0 k1 : Nat} (h : IsW w B0 B1 v ys) (hB : B1 ≤ w.heap.size) (hk0 : 1 ≤ k0) (hn : k0 + 3 * ys.length ≤ 3200000) (hk : k1 = k0 + 3 * ys.length) : MarkTo 57 w B0 B1 v k0 k1 := by
  have h0 := h
  obtain ⟨a, cap, rfl, _⟩ := h0
  subst hk
  exact markInfoK_any k0 hk0 (by omega) w B0 B1 a _ cap ys h hB rfl hn
theorem markS_to {w : World} {B0 B1 : Nat} {v : Value} {rs : List Bs} {k0 k1 : Nat} (h : StrsW w B0 B1 v rs) (hB : B1 ≤ w.heap.size) (hk0 : 1 ≤ k0) (hn : k0 + rs.length ≤ 3200000) (hk : k1 = k0 + rs.length) : MarkTo 60 w B0 B1 v k0 k1 := by
  have h0 := h
  obtain ⟨a, cap, rfl, _⟩ := h0
  subst hk
  exact markStringK_any k0 hk0 (by omega) w B0 B1 a _ cap rs h hB rfl hn
/-- marks of a slice of numbers that was returned -/
def MarkN (w : World) (B0 B1 : Nat) (v : Value) (n : Nat) : Prop := Calls Try.prog 58 #[v, .int .i64 1] w fun e w' => e = .returned (.int .i64 ((1 + n : Nat) : Int)) ∧ IntsW w' B0 B1 v (mk1 n) ∧ Chg B0 B1 w w'
theorem markN_of {w : World} {B0 B1 : Nat} {v : Value} {xs : List Int} {n : Nat} (h : IntsW w B0 B1 v xs) (hN : n = xs.length) (hn : n ≤ 1048576) : MarkN w B0 B1 v n := by
  have h0 := h
  obtain ⟨a, cap, rfl, _⟩ := h0
  subst hN
  exact (mark_of h rfl hn).mono fun e w' ⟨he, hi, hk⟩ => ⟨by rw [he]; congr 1, hi, Chg.of_kept hk⟩
def HeldN (w : World) (v : Value) (n : Nat) : Prop := Calls Try.prog 59 #[v, .int .i64 1] w fun e w' => e = .returned (.int .i64 ((1 + n : Nat) : Int)) ∧ Chg 0 0 w w'
theorem heldN_of {w : World} {B0 B1 : Nat} {v : Value} {n : Nat} (h : IntsW w B0 B1 v (mk1 n)) (hn : n ≤ 1048576) : HeldN w v n := by
  have h0 := h
  obtain ⟨a, cap, rfl, _⟩ := h0
  rw [mk1_len] at h ⊢
  exact (held_of h hn).mono fun e w' ⟨he, hw⟩ => ⟨by rw [he]; congr 1, by rw [← hw]; exact ⟨rfl, rfl, rfl, Nat.le_refl _, fun _ _ _ => rfl⟩⟩
theorem tcnt_len (xss : List (List Int)) (ys : List IV) : (tcnt xss ys).length ≤ 12 := by
  unfold tcnt
  split
  · simp
  · exact Nat.zero_le _
end Go.Proofs.Yticnfekjbknomaa
/- What the program's words of tables are, and what counting them does. -/
namespace Go.Proofs.Yticnfekjbknomaa
open Go.ChangeShapes Go.WideShapes Go.ChangeAt Go.RowKit
set_option linter.unusedVariables false
set_option linter.unusedSimpArgs false

theorem names_yes (w : World) (x : Int) (h : goodB x) : Calls Try.prog 73 #[.int .i64 x] w (Says true w) := by
  obtain ⟨h0, h1, h2⟩ := h
  have hc : x % 4 = 1 ∨ x % 4 = 3 := by omega
  have h3 : 0 ≤ x := by omega
  have h4 : x / 4 < 12 := by omega
  clear h1
  rcases hc with hc | hc
  · have e1 : (x % 4 == 1) = true := by simpa using hc
    clear hc
    go_enter Try.func73, Try.ntmps73
    go_wp2
    go_ret
    exact ⟨rfl, rfl⟩
  · have e1 : (x % 4 == 1) = false := by simp; omega
    have e3 : (x % 4 == 3) = true := by simpa using hc
    clear hc
    go_enter Try.func73, Try.ntmps73
    go_wp2
    go_ret
    exact ⟨rfl, rfl⟩
theorem names_no (w : World) (x : Int) (h : ¬ goodB x) (hb0 : 0 ≤ x) (hb1 : x ≤ 9999) : Calls Try.prog 73 #[.int .i64 x] w (Says false w) := by
  unfold goodB at h
  by_cases h1 : x % 4 = 1
  · have h4 : decide (x / 4 < 12) = false := by simp; omega
    have e1 : (x % 4 == 1) = true := by simpa using h1
    clear h1 h
    go_enter Try.func73, Try.ntmps73
    go_wp2
    go_ret
    exact ⟨rfl, rfl⟩
  · have e1 : (x % 4 == 1) = false := by simpa using h1
    by_cases h3 : x % 4 = 3
    · have h4 : decide (x / 4 < 12) = false := by simp; omega
      have e3 : (x % 4 == 3) = true := by simpa using h3
      clear h1 h h3
      go_enter Try.func73, Try.ntmps73
      go_wp2
      go_ret
      exact ⟨rfl, rfl⟩
    · have e3 : (x % 4 == 3) = false := by simpa using h3
      clear h1 h h3
      go_enter Try.func73, Try.ntmps73
      go_wp2
      go_ret
      exact ⟨rfl, rfl⟩
/-- the function returns this number and changes nothing -/
def SaysN (n : Int) (w : World) (e : Ending) (w' : World) : Prop := e = .returned (.int .i64 n) ∧ w = w'
theorem frame_of (w : World) (x : Int) (h : 0 ≤ x) (h1 : x ≤ 9999) : Calls Try.prog 74 #[.int .i64 x] w (SaysN (x / 4) w) := by
  go_enter Try.func74, Try.ntmps74
  go_wp2
  go_ret
  exact ⟨rfl, rfl⟩
/-- the kind of a word -/
def ek (x : Int) : Int := if goodB x then 1 else if x = 0 then 0 else 2
theorem kind_any (w : World) (x : Int) (h0 : 0 ≤ x) (h1 : x ≤ 9999) : Calls Try.prog 123 #[.int .i64 x] w (SaysN (ek x) w) := by
  by_cases hg : goodB x
  · have HN := Lib.hid (fun w => names_yes w x hg)
    have HE : Hid (ek x = 1) := Lib.hid (if_pos hg)
    have hz : (x == 0) = false := by obtain ⟨g0, _, _⟩ := hg; simp; omega
    rw [HE.out]
    clear hg
    go_enter Try.func123, Try.ntmps123
    go_wp2_with fail
    refine (HN.out _).mono ?_
    rintro e w' ⟨rfl, rfl⟩
    go_wp2_with fail
    go_ret
    exact ⟨rfl, rfl⟩
  · by_cases hx : x = 0
    · subst hx
      have HE : Hid (ek 0 = 0) := Lib.hid (by unfold ek; rw [if_neg hg, if_pos rfl])
      rw [HE.out]
      clear hg
      go_enter Try.func123, Try.ntmps123
      go_wp2_with fail
      go_ret
      exact ⟨rfl, rfl⟩
    · have HN := Lib.hid (fun w => names_no w x hg h0 h1)
      have HE : Hid (ek x = 2) := Lib.hid (by unfold ek; rw [if_neg hg, if_neg hx])
      have hz : (x == 0) = false := by simpa using hx
      rw [HE.out]
      clear hg hx
      go_enter Try.func123, Try.ntmps123
      go_wp2_with fail
      refine (HN.out _).mono ?_
      rintro e w' ⟨rfl, rfl⟩
      go_wp2_with fail
      go_ret
      exact ⟨rfl, rfl⟩
/-- a word of a table as an interface value -/
def tv (x : Int) : Value := if goodB x then .iface 145 (.int .i64 (x / 4)) else if x = 0 then .iface 144 (.agg #[]) else .iface 146 (.agg #[])
theorem tableWordOf_any (w : World) (x : Int) (h0 : 0 ≤ x) (h1 : x ≤ 9999) : Calls Try.prog 107 #[.int .i64 x] w fun e w' => e = .returned (tv x) ∧ w = w' := by
  have HK := Lib.hid (fun w => kind_any w x h0 h1)
  have HF := Lib.hid (fun w => frame_of w x h0 h1)
  by_cases hg : goodB x
  · have HR : Hid (tv x = .iface 145 (.int .i64 (x / 4))) := Lib.hid (if_pos hg)
    have HE : ek x = 1 := if_pos hg
    rw [HR.out]
    rw [HE] at HK
    clear hg HE
    go_enter Try.func107, Try.ntmps107
    go_wp2_with fail
    refine (HK.out _).mono ?_
    rintro e w' ⟨rfl, rfl⟩
    go_wp2_with fail
    refine (HF.out _).mono ?_
    rintro e w' ⟨rfl, rfl⟩
    go_wp2_with fail
    go_ret
    exact ⟨rfl, rfl⟩
  · by_cases hx : x = 0
    · have HR : Hid (tv x = .iface 144 (.agg #[])) := Lib.hid (by unfold tv; rw [if_neg hg, if_pos hx])
      have HE : ek x = 0 := by unfold ek; rw [if_neg hg, if_pos hx]
      rw [HR.out]
      rw [HE] at HK
      clear hg hx HE
      go_enter Try.func107, Try.ntmps107
      go_wp2_with fail
      refine (HK.out _).mono ?_
      rintro e w' ⟨rfl, rfl⟩
      go_wp2_with fail
      go_ret
      exact ⟨rfl, rfl⟩
    · have HR : Hid (tv x = .iface 146 (.agg #[])) := Lib.hid (by unfold tv; rw [if_neg hg, if_neg hx])
      have HE : ek x = 2 := by unfold ek; rw [if_neg hg, if_neg hx]
      rw [HR.out]
      rw [HE] at HK
      clear hg hx HE
      go_enter Try.func107, Try.ntmps107
      go_wp2_with fail
      refine (HK.out _).mono ?_
      rintro e w' ⟨rfl, rfl⟩
      go_wp2_with fail
      go_ret
      exact ⟨rfl, rfl⟩
theorem tneeds_any (w : World) (k : Int) : Calls Try.prog 21 #[.int .i64 k] w (SaysN (tneeds k) w) := by
  by_cases h3 : k = 3
  · subst h3
    have HE : Hid (tneeds 3 = 2) := Lib.hid (by decide)
    rw [HE.out]
    go_enter Try.func21, Try.ntmps21
    go_wp2_with fail
    go_ret
    exact ⟨rfl, rfl⟩
  · have h3' : (k == 3) = false := by simpa using h3
    by_cases h2 : k = 2
    · subst h2
      have HE : Hid (tneeds 2 = 1) := Lib.hid (by decide)
      rw [HE.out]
      clear h3
      go_enter Try.func21, Try.ntmps21
      go_wp2_with fail
      go_ret
      exact ⟨rfl, rfl⟩
    · have h2' : (k == 2) = false := by simpa using h2
      have HE : Hid (tneeds k = 0) := Lib.hid (by
        unfold tneeds isTab
        rw [decide_eq_false (by omega)]; rfl)
      rw [HE.out]
      clear h3 h2
      go_enter Try.func21, Try.ntmps21
      go_wp2_with fail
      go_ret
      exact ⟨rfl, rfl⟩
theorem itn_any : ITN := fun w k _ _ => (tneeds_any w k).mono fun e w' ⟨he, hw⟩ => ⟨he, by rw [← hw]; exact Below.refl _ _⟩
theorem isTable_any (w : World) (k : Int) : Calls Try.prog 91 #[.int .i64 k] w (Says (isTab k) w) := by
  have HN := Lib.hid (fun w => tneeds_any w k)
  have HE : Hid ((tneeds k != 0) = isTab k) := Lib.hid (by
    unfold tneeds
    by_cases h : isTab k = true
    · rw [if_pos h, h]
      have := isTab_iff.1 h
      simp; omega
    · rw [if_neg h, Bool.eq_false_iff.2 h]; rfl)
  obtain ⟨n, hn⟩ : ∃ n, n = tneeds k := ⟨_, rfl⟩
  obtain ⟨r, hr⟩ : ∃ r, r = isTab k := ⟨_, rfl⟩
  rw [← hn] at HN HE
  rw [← hr] at HE ⊢
  clear hn hr
  go_enter Try.func91, Try.ntmps91
  go_wp2_with fail
  refine (HN.out _).mono ?_
  rintro e w' ⟨rfl, rfl⟩
  go_wp2_with fail
  go_ret
  exact ⟨by rw [HE.out]; rfl, rfl⟩
end Go.Proofs.Yticnfekjbknomaa
/- Counting the words of a frame. -/
namespace Go.Proofs.Yticnfekjbknomaa
open Go.ChangeShapes Go.WideShapes Go.ChangeAt Go.RowKit
set_option linter.unusedVariables false
set_option linter.unusedSimpArgs false

theorem Chg.trans {lo hi : Nat} {a b c : World} (h : Chg lo hi a b) (k : Chg lo hi b c) : Chg lo hi a c :=
  ⟨k.os.trans h.os, k.tape.trans h.tape, k.output.trans h.output, Nat.le_trans h.size k.size, fun i hi hb => (k.block i (Nat.lt_of_lt_of_le hi h.size) hb).trans (h.block i hi hb)⟩
theorem Chg.of_bel {lo hi : Nat} {w w' : World} (h : Below w.heap.size w w') : Chg lo hi w w' := ⟨h.os, h.tape, h.output, h.size, fun b hb _ => h.block b hb⟩
theorem chg_setCells (w : World) (b o : Nat) (vs : List Value) : Chg b (b + 1) w (w.setCells b o vs) := by
  have h := Below.setCells (Below.refl (b) w) b (Nat.le_refl _) vs o w (Below.refl _ _)
  exact ⟨h.os, h.tape, h.output, h.size, fun i _ hb => heap_setCells_other w b vs o w i (by omega)⟩
theorem chg_setCell (w : World) (b o : Nat) (v : Value) : Chg b (b + 1) w (w.setCell ⟨b, o, none⟩ v) := chg_setCells w b o [v]
/-- twelve numbers in a block -/
def Us (w : World) (b : Nat) (u : Nat → Int) : Prop := ∀ i, i < 12 → w.cell? ⟨b, i, none⟩ = some (.int .i64 (u i)) ∧ w.frozen? ⟨b, i, none⟩ = false
theorem Us.block {w w' : World} {b : Nat} {u : Nat → Int} (h : Us w b u) (e : w'.heap[b]? = w.heap[b]?) : Us w' b u := fun i hi =>
  ⟨(World.cell?_of_block e).trans (h i hi).1, (World.frozen?_of_block e).trans (h i hi).2⟩
theorem Us.lt {w : World} {b : Nat} {u : Nat → Int} (h : Us w b u) : b < w.heap.size := block_lt_of_cell (h 0 (by omega)).1
def inc1 (u : Nat → Int) (i : Nat) : Nat → Int := fun j => if j = i then u j + 1 else u j
theorem Us.incr {w : World} {b : Nat} {u : Nat → Int} (h : Us w b u) {i : Nat} (hi : i < 12) : Us (w.setCell ⟨b, i, none⟩ (.int .i64 (u i + 1))) b (inc1 u i) := fun j hj => by
  refine ⟨?_, (frozen_set _).trans (h j hj).2⟩
  unfold inc1
  by_cases e : j = i
  · subst e
    rw [if_pos rfl]
    exact cell_set_same (h j hj).1
  · rw [if_neg e]
    exact (cell_set_other (.inr e)).trans (h j hj).1
theorem Us.ext {w : World} {b : Nat} {u v : Nat → Int} (h : Us w b u) (e : ∀ i, i < 12 → v i = u i) : Us w b v := fun i hi => by rw [e i hi]; exact h i hi
/-- a call that counts: the numbers are these then, and nothing else changes -/
def Cnt (b : Nat) (u : Nat → Int) (w : World) (e : Ending) (w' : World) : Prop := e = .returned (.tuple #[]) ∧ Us w' b u ∧ Chg b (b + 1) w w'
/-- how often the first words name a frame -/
def cx (x : Nat → Int) (i : Nat) : Nat → Int
  | 0 => 0
  | t + 1 => cx x i t + (if goodB (x t) ∧ x t / 4 = (i : Int) then 1 else 0)
theorem cx_bound (x : Nat → Int) (i : Nat) : ∀ t, 0 ≤ cx x i t ∧ cx x i t ≤ t
  | 0 => by simp [cx]
  | t + 1 => by
    have := cx_bound x i t
    unfold cx
    split <;> omega
theorem cx_row {row : List Int} (h4 : row.length = 4) (i : Nat) : ∀ t, t ≤ 4 → cx (fun j => row.getD j 0) i t = (cnt1 (row.take t) i : Int)
  | 0, _ => by simp [cx, cnt1, named]
  | t + 1, ht => by
    have ih := cx_row h4 i t (by omega)
    unfold cx
    rw [ih]
    unfold cnt1
    rw [named_snoc row t (by omega), List.count_append]
    show ((named (row.take t)).count (i : Int) : Int) + (if goodB (row.getD t 0) ∧ row.getD t 0 / 4 = (i : Int) then 1 else 0) = _
    by_cases hg : goodB (row.getD t 0)
    · rw [if_pos hg]
      by_cases he : row.getD t 0 / 4 = (i : Int)
      · rw [if_pos ⟨hg, he⟩, he]; simp
      · rw [if_neg (fun h => he h.2), List.count_cons]
        have : (row.getD t 0 / 4 == (i : Int)) = false := by simpa using he
        rw [this]; simp
    · rw [if_neg hg, if_neg (fun h => hg h.1)]; simp
theorem cx_all {row : List Int} (h4 : row.length = 4) (i : Nat) : cx (fun j => row.getD j 0) i 4 = (cnt1 row i : Int) := by
  rw [cx_row h4 i 4 (Nat.le_refl _), List.take_of_length_le (by omega)]
/-! what a call through the interface enters -/
theorem method_frame (w : World) (n : Int) : (method 255 145 (.int .i64 n) "loop.example/exopager/impl.countIn").run Try.prog w = .ok (146, .int .i64 n) w := by kernel_rfl
theorem method_empty (w : World) : (method 255 144 (.agg #[]) "loop.example/exopager/impl.countIn").run Try.prog w = .ok (145, .agg #[]) w := by kernel_rfl
theorem method_strange (w : World) : (method 255 146 (.agg #[]) "loop.example/exopager/impl.countIn").run Try.prog w = .ok (147, .agg #[]) w := by kernel_rfl
theorem emptyCount_any (w : World) (b : Nat) (u : Nat → Int) (h : Us w b u) : Calls Try.prog 145 #[.agg #[], .pointer (some ⟨b, 0, none⟩)] w (Cnt b u w) := by
  have H := Lib.hid h
  have HL : Hid (b < w.heap.size) := Lib.hid h.lt
  clear h
  go_enter Try.func145, Try.ntmps145
  go_wp2
  go_returns
  refine ⟨rfl, H.out.block (heap_alloc_old w _ HL.out), Chg.of_bel ((Below.refl _ _).alloc (Nat.le_refl _) _)⟩
theorem strangeCount_any (w : World) (b : Nat) (u : Nat → Int) (h : Us w b u) : Calls Try.prog 147 #[.agg #[], .pointer (some ⟨b, 0, none⟩)] w (Cnt b u w) := by
  have H := Lib.hid h
  have HL : Hid (b < w.heap.size) := Lib.hid h.lt
  clear h
  go_enter Try.func147, Try.ntmps147
  go_wp2
  go_returns
  refine ⟨rfl, H.out.block (heap_alloc_old w _ HL.out), Chg.of_bel ((Below.refl _ _).alloc (Nat.le_refl _) _)⟩
theorem frameCount_any (w : World) (b i : Nat) (u : Nat → Int) (hi : i < 12) (h : Us w b u) (hu : 0 ≤ u i ∧ u i ≤ 100000) : Calls Try.prog 146 #[.int .i64 i, .pointer (some ⟨b, 0, none⟩)] w (Cnt b (inc1 u i) w) := by
  have H := Lib.hid h
  have HL : Hid (b < w.heap.size) := Lib.hid h.lt
  have HI := Lib.hid hi
  have hc := (h i hi).1
  have hf := (h i hi).2
  have HIX := fun W => run_indexAt_part (P := Try.prog) 106 12 _ Try.underlying106 (fun w => Try.sizeOf3 w) (by omega) b 0 i hi W
  simp only [Nat.zero_add] at HIX
  obtain ⟨n, hn⟩ : ∃ n, n = u i := ⟨_, rfl⟩
  rw [← hn] at hc hu
  have HN := Lib.hid hn
  have hi0 : (0 : Int) ≤ (i : Int) := by omega
  have hi1 : (i : Int) < 12 := by omega
  clear hn h hi
  go_enter Try.func146, Try.ntmps146
  go_wp2
  refine wp_region_held_drew (S := fun _ => True) (by kernel_rfl) trivial (fun hHeld => ?_)
  refine wpAnyH_take (i := 0) (oi := { dst := some 4, op := .move (.tmp 1), type := _, pos := _, after := _, guard := none }) (v := .pointer (some ⟨b, 0, none⟩)) rfl (by kernel_rfl) (by kernel_rfl) (by kernel_rfl) (fun _ _ _ h => h) (Or.inl ⟨by rfl, fun wh hSw => ?_⟩) hHeld ?_
  · (dsimp only at hSw; go_simp)
  try simp only [Act.put, List.setIfInBounds_toArray, List.set_cons_zero, List.set_cons_succ]
  refine wpAnyH_take (i := 1) (oi := { dst := some 5, op := .move (.tmp 0), type := _, pos := _, after := _, guard := none }) (v := .int .i64 (i : Int)) rfl (by kernel_rfl) (by kernel_rfl) (by kernel_rfl) (fun _ _ _ h => h) (Or.inl ⟨by rfl, fun wh hSw => ?_⟩) hHeld ?_
  · (dsimp only at hSw; go_simp)
  try simp only [Act.put, List.setIfInBounds_toArray, List.set_cons_zero, List.set_cons_succ]
  refine wpAnyH_take (i := 2) (oi := { dst := some 6, op := .nilCheck (.tmp 4), type := _, pos := _, after := _, guard := none }) (v := .pointer (some ⟨b, 0, none⟩)) rfl (by kernel_rfl) (by kernel_rfl) (by kernel_rfl) (fun _ _ _ h => h) (Or.inl ⟨by rfl, fun wh hSw => ?_⟩) hHeld ?_
  · (dsimp only at hSw; go_simp)
  try simp only [Act.put, List.setIfInBounds_toArray, List.set_cons_zero, List.set_cons_succ]
  refine wpAnyH_take (i := 3) (oi := { dst := some 7, op := .indexAddr 106 (.tmp 6) (.tmp 5), type := _, pos := _, after := _, guard := none }) (v := .pointer (some ⟨b, i, none⟩)) rfl (by kernel_rfl) (by kernel_rfl) (by kernel_rfl) (fun _ _ _ h => h) (Or.inl ⟨by rfl, fun wh hSw => ?_⟩) hHeld ?_
  · (dsimp only at hSw; go_simp)
  try simp only [Act.put, List.setIfInBounds_toArray, List.set_cons_zero, List.set_cons_succ]
  refine wpAnyH_take (i := 6) (oi := { dst := some 10, op := .nilCheck (.tmp 4), type := _, pos := _, after := _, guard := none }) (v := .pointer (some ⟨b, 0, none⟩)) rfl (by kernel_rfl) (by kernel_rfl) (by kernel_rfl) (fun _ _ _ h => h) (Or.inl ⟨by rfl, fun wh hSw => ?_⟩) hHeld ?_
  · (dsimp only at hSw; go_simp)
  try simp only [Act.put, List.setIfInBounds_toArray, List.set_cons_zero, List.set_cons_succ]
  refine wpAnyH_ready (rs := [4]) (by kernel_rfl) (by simp) ?_
  refine AllReadyH.cons (o := { dst := some 8, op := .load 3 (.tmp 7), type := _, pos := _, after := _, guard := none }) rfl (fun K hK => ?_) AllReadyH.nil
  go_simp
  refine hK.out _ _ ?_ (fun hHeld => ?_)
  · trivial
  clear hK K
  try simp only [Act.put, List.setIfInBounds_toArray, List.set_cons_zero, List.set_cons_succ]
  refine wpAnyH_take (i := 5) (oi := { dst := some 9, op := .binOp .add 3 (.tmp 8) (.const (.int .i64 1)) 3, type := _, pos := _, after := _, guard := none }) (v := .int .i64 (n + 1)) rfl (by kernel_rfl) (by kernel_rfl) (by kernel_rfl) (fun _ _ _ h => h) (Or.inl ⟨by rfl, fun wh hSw => ?_⟩) hHeld ?_
  · (go_simp; rw [IntKind.wrap_i64]; omega)
  try simp only [Act.put, List.setIfInBounds_toArray, List.set_cons_zero, List.set_cons_succ]
  refine wpAnyH_take (i := 7) (oi := { dst := some 11, op := .indexAddr 106 (.tmp 10) (.tmp 5), type := _, pos := _, after := _, guard := none }) (v := .pointer (some ⟨b, i, none⟩)) rfl (by kernel_rfl) (by kernel_rfl) (by kernel_rfl) (fun _ _ _ h => h) (Or.inl ⟨by rfl, fun wh hSw => ?_⟩) hHeld ?_
  · (dsimp only at hSw; go_simp)
  try simp only [Act.put, List.setIfInBounds_toArray, List.set_cons_zero, List.set_cons_succ]
  refine wpAnyH_ready (rs := [8]) (by kernel_rfl) (by simp) ?_
  refine AllReadyH.cons (o := { dst := none, op := .store 3 (.tmp 11) (.tmp 9), type := _, pos := _, after := _, guard := none }) rfl (fun K hK => ?_) AllReadyH.nil
  go_simp
  refine hK.out _ _ ?_ (fun hHeld => ?_)
  · trivial
  clear hK K
  try simp only [Act.put, List.setIfInBounds_toArray, List.set_cons_zero, List.set_cons_succ]
  refine wpAnyH_done (by kernel_rfl) ?_ _
  go_returns
  rw [HN.out]
  have h1 := H.out.incr HI.out
  have h2 := chg_setCell w b i (.int .i64 (u i + 1))
  exact ⟨rfl, h1.block rfl, ⟨h2.os, h2.tape, h2.output, h2.size, h2.block⟩⟩
theorem words_index (row : List Int) (h4 : row.length = 4) {k : Nat} (hk : k < 4) (W : World) : (Instr.index 77 (.agg (rowC row)) (.int .i64 k)).run Try.prog W = .ok (.int .i64 (row.getD k 0)) W := by
  obtain ⟨x0, x1, x2, x3, rfl⟩ : ∃ x0 x1 x2 x3, row = [x0, x1, x2, x3] := by
    match row, h4 with
    | [x0, x1, x2, x3], _ => exact ⟨x0, x1, x2, x3, rfl⟩
  rcases (by omega : k = 0 ∨ k = 1 ∨ k = 2 ∨ k = 3) with rfl | rfl | rfl | rfl <;> kernel_rfl
def addx (u x : Nat → Int) (t : Nat) : Nat → Int := fun i => u i + cx x i t
theorem addx_none (u x : Nat → Int) {t : Nat} (h : ¬ goodB (x t)) (i : Nat) : addx u x (t + 1) i = addx u x t i := by
  unfold addx
  rw [show cx x i (t + 1) = cx x i t + (if goodB (x t) ∧ x t / 4 = (i : Int) then 1 else 0) from rfl, if_neg (fun hh => h hh.1), Int.add_zero]
theorem addx_one (u x : Nat → Int) {t k : Nat} (h : goodB (x t)) (hk : x t / 4 = (k : Int)) (i : Nat) : addx u x (t + 1) i = inc1 (addx u x t) k i := by
  show u i + (cx x i t + (if goodB (x t) ∧ x t / 4 = (i : Int) then 1 else 0)) = (if i = k then (u i + cx x i t) + 1 else u i + cx x i t)
  by_cases e : i = k
  · rw [if_pos e, if_pos ⟨h, by rw [hk, e]⟩]; omega
  · rw [if_neg e, if_neg (fun hh => e (by have := hh.2; omega))]; omega
set_option maxRecDepth 100000 in
set_option maxHeartbeats 4000000 in
theorem wordsCount_any (w : World) (b : Nat) (u : Nat → Int) (row : List Int) (h4 : row.length = 4) (hb : ∀ i, i < 4 → 0 ≤ row.getD i 0 ∧ row.getD i 0 ≤ 9999) (h : Us w b u) (hu : ∀ i, i < 12 → 0 ≤ u i ∧ u i ≤ 90000) :
    Calls Try.prog 114 #[.agg (rowC row), .pointer (some ⟨b, 0, none⟩)] w (Cnt b (fun i => u i + (cnt1 row i : Int)) w) := by
  have HFin : Hid (∀ w', Us w' b (addx u (fun j => row.getD j 0) 4) → Us w' b (fun i => u i + (cnt1 row i : Int))) := Lib.hid (fun w' hh => hh.ext (fun i hi => by unfold addx; rw [cx_all h4]))
  have HIX : Hid (∀ k : Nat, k < 4 → ∀ W, (Instr.index 77 (.agg (rowC row)) (.int .i64 k)).run Try.prog W = .ok (.int .i64 (row.getD k 0)) W) := Lib.hid (fun k hk W => words_index row h4 hk W)
  unfold rowC at HIX ⊢
  have HL : Hid ((row.map (Value.int .i64)).length = 4) := Lib.hid (by rw [List.length_map, h4])
  obtain ⟨L, hL⟩ : ∃ L, L = row.map (Value.int .i64) := ⟨_, rfl⟩
  obtain ⟨x, hx⟩ : ∃ x : Nat → Int, x = (fun j => row.getD j 0) := ⟨_, rfl⟩
  have hxe : ∀ k, row.getD k 0 = x k := fun k => by rw [hx]
  simp only [hxe] at HIX hb
  rw [← hL] at HIX HL ⊢
  rw [← hx] at HFin
  have HIW : Hid ((Try.prog.info? 77).map (·.size) = some L.length) := Lib.hid (by rw [HL.out]; exact info_words)
  obtain ⟨R, hR⟩ : ∃ R, R = Cnt b (fun i => u i + (cnt1 row i : Int)) w := ⟨_, rfl⟩
  have HR : Hid (∀ w', Us w' b (addx u x 4) → Chg b (b + 1) w w' → R (.returned (.tuple #[])) w') := Lib.hid (fun w' h1 h2 => by rw [hR]; exact ⟨rfl, HFin.out w' h1, h2⟩)
  rw [← hR]
  have HX := Lib.hid hb
  have HU : Hid (∀ t i, t ≤ 4 → i < 12 → 0 ≤ addx u x t i ∧ addx u x t i ≤ 100000) := Lib.hid (fun t i ht hi => by
    have h1 := hu i hi
    have h2 := cx_bound x i t
    unfold addx; omega)
  have HS : Hid (∀ t, (w.alloc (.cells L.toArray t)).rangeAt w.heap.size 0 L) := Lib.hid (fun t => range_row (heap_alloc_new w _))
  have H1 : Hid (∀ o, Us (w.alloc o) b (addx u x 0)) := Lib.hid (fun o => (h.block (heap_alloc_old w _ h.lt)).ext (fun i hi => by unfold addx cx; omega))
  have HC1 : Hid (∀ o, Chg b (b + 1) w (w.alloc o)) := Lib.hid (fun o => Chg.of_bel ((Below.refl _ _).alloc (Nat.le_refl _) _))
  clear hx hxe hL hR hb hu h h4 HFin HL
  go_enter Try.func114, Try.ntmps114
  go_wp2_with (first | ((with_reducible refine box_is 77 (.tmp 0) ?_); refine box_arr 77 (.tmp 0) L.toArray rfl ?_) | ((with_reducible refine load_is 77 (.tmp 2) ?_); refine load_arr 77 (.tmp 2) w.heap.size 0 L _ rfl (HS.out _) Try.underlying77 rfl HIW.out ?_))
  obtain ⟨w0, hw0⟩ : ∃ w0, w0 = w.alloc (.cells L.toArray 77) := ⟨_, rfl⟩
  have H0 : Hid (Us w0 b (addx u x 0)) := Lib.hid (by rw [hw0]; exact H1.out _)
  have HC0 : Hid (Chg b (b + 1) w w0) := Lib.hid (by rw [hw0]; exact HC1.out _)
  obtain ⟨X, hX⟩ : ∃ X, X = w.heap.size := ⟨_, rfl⟩
  rw [← hw0, ← hX]
  clear hw0 hX HS H1 HC1
  go_loopw [7] (fun i wr => ∃ t : Nat, t ≤ 4 ∧ i = .int .i64 t ∧ Hid (Us wr b (addx u x t)) ∧ Hid (Chg b (b + 1) w wr)) (fun i _ => 4 - (intOf i).toNat)
  case atStart => exact ⟨0, Nat.zero_le _, rfl, H0, HC0⟩
  case round =>
    obtain ⟨t, ht, rfl, HUW, HCW⟩ := hrel
    by_cases hlt : t < 4
    · have hlt' : (t : Int) < 4 := by omega
      have HIX' := HIX.out t hlt
      have hxb := HX.out t hlt
      have HTW := Lib.hid (fun w => tableWordOf_any w (x t) hxb.1 hxb.2)
      obtain ⟨y, hy⟩ : ∃ y, y = x t := ⟨_, rfl⟩
      rw [← hy] at HIX' HTW
      have HY := Lib.hid hy
      clear hxb hy
      by_cases hg : goodB y
      · have hfr := good_frame hg
        obtain ⟨i, hi⟩ : ∃ i : Nat, y / 4 = (i : Int) := ⟨(y / 4).toNat, by omega⟩
        have hi12 : i < 12 := by omega
        have HTV : tv y = .iface 145 (.int .i64 (i : Int)) := by unfold tv; rw [if_pos hg, hi]
        rw [HTV] at HTW
        have HCT := Lib.hid (frameCount_any wr b i _ hi12 HUW.out (HU.out t i (by omega) hi12))
        have HNX : Hid (∀ w', Us w' b (inc1 (addx u x t) i) → Us w' b (addx u x (t + 1))) := Lib.hid (fun w' hh => hh.ext (fun j hj => addx_one u x (by rw [← HY.out]; exact hg) (by rw [← HY.out]; exact hi) j))
        have hmf := fun w => method_frame w (i : Int)
        clear hg hfr hi HTV
        go_wp2_with fail
        refine (HTW.out _).mono ?_
        rintro e w' ⟨rfl, rfl⟩
        go_wp2_with fail
        refine HCT.out.mono ?_
        rintro e w5 ⟨rfl, hu5, hc5⟩
        have HU5 := Lib.hid (HNX.out w5 hu5)
        have HC5 := Lib.hid (HCW.out.trans hc5)
        clear hu5 hc5
        go_wp2_with fail
        go_roundw
        case rel => exact ⟨t + 1, by omega, by go_num, HU5, HC5⟩
        case measure => simp [intOf]; omega
      · have HNX : Hid (∀ w', Us w' b (addx u x t) → Us w' b (addx u x (t + 1))) := Lib.hid (fun w' hh => hh.ext (fun j hj => addx_none u x (by rw [← HY.out]; exact hg) j))
        by_cases h0 : y = 0
        · have HTV : tv y = .iface 144 (.agg #[]) := by unfold tv; rw [if_neg hg, if_pos h0]
          rw [HTV] at HTW
          have HCT := Lib.hid (emptyCount_any wr b _ HUW.out)
          have hmf := method_empty
          clear hg h0 HTV
          go_wp2_with fail
          refine (HTW.out _).mono ?_
          rintro e w' ⟨rfl, rfl⟩
          go_wp2_with fail
          refine HCT.out.mono ?_
          rintro e w5 ⟨rfl, hu5, hc5⟩
          have HU5 := Lib.hid (HNX.out w5 hu5)
          have HC5 := Lib.hid (HCW.out.trans hc5)
          clear hu5 hc5
          go_wp2_with fail
          go_roundw
          case rel => exact ⟨t + 1, by omega, by go_num, HU5, HC5⟩
          case measure => simp [intOf]; omega
        · have HTV : tv y = .iface 146 (.agg #[]) := by unfold tv; rw [if_neg hg, if_neg h0]
          rw [HTV] at HTW
          have HCT := Lib.hid (strangeCount_any wr b _ HUW.out)
          have hmf := method_strange
          clear hg h0 HTV
          go_wp2_with fail
          refine (HTW.out _).mono ?_
          rintro e w' ⟨rfl, rfl⟩
          go_wp2_with fail
          refine HCT.out.mono ?_
          rintro e w5 ⟨rfl, hu5, hc5⟩
          have HU5 := Lib.hid (HNX.out w5 hu5)
          have HC5 := Lib.hid (HCW.out.trans hc5)
          clear hu5 hc5
          go_wp2_with fail
          go_roundw
          case rel => exact ⟨t + 1, by omega, by go_num, HU5, HC5⟩
          case measure => simp [intOf]; omega
    · have e : t = 4 := by omega
      subst e
      have HF := Lib.hid (HR.out _ HUW.out HCW.out)
      go_wp2_with fail
      go_returns
      exact HF.out
end Go.Proofs.Yticnfekjbknomaa
/- Which words the program's rule allows. -/
namespace Go.Proofs.Yticnfekjbknomaa
open Go.ChangeShapes Go.WideShapes Go.ChangeAt Go.RowKit Go.Maps
set_option linter.unusedVariables false
set_option linter.unusedSimpArgs false

theorem run_indexAt_off {P : Program} (t : TypeId) (n : Nat) (e : TypeId) (s : Nat) (hu : P.underlying t = some (.array n e)) (hs : ∀ w, (sizeOf e).run P w = .ok s w) (hn : 1 < n)
    (b o : Nat) (k : Nat) (hk : k < n) (W : World) : (Instr.indexAt t (.pointer (some ⟨b, o, none⟩)) (.int .i64 k)).run P W = .ok (.pointer (some ⟨b, o + k * s, none⟩)) W := by
  have h1 : (0 : Int) ≤ (k : Int) ∧ (k : Int) < (n : Int) := by omega
  unfold Instr.indexAt
  simp only [asIntOf, Instr.sureAddr, Sem.run_bind, Sem.run_pure, Result.andThen_ok, run_underlying hu, hs, if_pos h1, Int.toNat_natCast, Addr.add_mid]
theorem range_left {w : World} {b o : Nat} {l1 l2 : List Value} (h : w.rangeAt b o (l1 ++ l2)) : w.rangeAt b o l1 := fun j v hv => h j v (by
  rw [List.getElem?_append_left (List.getElem?_eq_some_iff.1 hv).1]; exact hv)
theorem range_right {w : World} {b o o2 : Nat} {l1 l2 : List Value} (h : w.rangeAt b o (l1 ++ l2)) (ho : o2 = o + l1.length) : w.rangeAt b o2 l2 := fun j v hv => by
  have := h (l1.length + j) v (by rw [List.getElem?_append_right (by omega)]; rw [show l1.length + j - l1.length = j by omega]; exact hv)
  rw [ho]
  rwa [← Nat.add_assoc] at this
/-- a rule as cells -/
def rcC (zs : List IV) (f nd : Int) (m : Option Nat) : List Value := isC zs ++ [.int .i64 f, .int .i64 nd, .map m]
theorem rcC_len {zs : List IV} (hz : zs.length = 12) (f nd : Int) (m : Option Nat) : (rcC zs f nd m).length = 39 := by
  unfold rcC
  rw [List.length_append, isC_36 hz]; rfl
theorem rcC_one (zs : List IV) (f nd : Int) (m : Option Nat) : (rcC zs f nd m).toArray.all (·.oneCell') = true := all_oneCell_toArray (fun v hv => by
  unfold rcC at hv
  rcases List.mem_append.1 hv with h | h
  · exact isC_one zs v h
  · simp only [List.mem_cons, List.not_mem_nil, or_false] at h
    rcases h with rfl | rfl | rfl <;> rfl)
/-- a rule in a block -/
structure RuleAt (w : World) (b : Nat) (zs : List IV) (f nd : Int) (m : Option Nat) : Prop where
  inf : ∀ i, i < 12 → Tri w b (i * 3) (zs.getD i iz)
  c36 : w.cell? ⟨b, 36, none⟩ = some (.int .i64 f)
  c37 : w.cell? ⟨b, 37, none⟩ = some (.int .i64 nd)
  c38 : w.cell? ⟨b, 38, none⟩ = some (.map m)
theorem RuleAt.of_range {w : World} {b : Nat} {zs : List IV} {f nd : Int} {m : Option Nat} (hz : zs.length = 12) (h : w.rangeAt b 0 (rcC zs f nd m)) : RuleAt w b zs f nd m := by
  have h2 := range_right (o2 := 36) h (by rw [isC_36 hz])
  exact ⟨fun i hi => tri_of_range (range_left h) (by omega), h2 0 _ rfl, h2 1 _ rfl, h2 2 _ rfl⟩
theorem RuleAt.block {w w' : World} {b : Nat} {zs : List IV} {f nd : Int} {m : Option Nat} (h : RuleAt w b zs f nd m) (e : w'.heap[b]? = w.heap[b]?) : RuleAt w' b zs f nd m :=
  ⟨fun i hi => (h.inf i hi).block e, (World.cell?_of_block e).trans h.c36, (World.cell?_of_block e).trans h.c37, (World.cell?_of_block e).trans h.c38⟩
theorem info_rule {n : Nat} (h : n = 39) : (Try.prog.info? 89).map (·.size) = some n := by subst h; kernel_rfl
/-- what a rule says of a frame -/
def rfr (zs : List IV) (f nd : Int) (rs : List Bs) (i : Nat) : Bool := !decide ((i : Int) = f) && (decide ((zs.getD i iz).k = nd) && may0 rs (zs.getD i iz).g)
set_option maxRecDepth 100000 in
set_option maxHeartbeats 2000000 in
theorem allowsFrame_any (w : World) (zs : List IV) (hz : zs.length = 12) (hs : ShortI zs) (i : Nat) (hi : i < 12) (f nd : Int) (b : Nat) (rs : List Bs) (h : SetAt w b rs) :
    Calls Try.prog 122 #[.agg (rcC zs f nd (some b)).toArray, .int .i64 i] w (BRes (rfr zs f nd rs i) w) := by
  have HG := Lib.hid (hs.at i)
  have HR : Hid (∀ t, RuleAt (w.alloc (.cells (rcC zs f nd (some b)).toArray t)) w.heap.size zs f nd (some b)) := Lib.hid (fun t => RuleAt.of_range hz (range_row (heap_alloc_new w _)))
  have HS : Hid (∀ o, SetAt (w.alloc o) b rs) := Lib.hid (fun o => h.below ((Below.refl _ _).alloc (Nat.le_refl _) _))
  have HB : Hid (∀ o, Below w.heap.size w (w.alloc o)) := Lib.hid (fun o => (Below.refl _ _).alloc (Nat.le_refl _) _)
  unfold rfr
  obtain ⟨L, hL⟩ : ∃ L, L = (rcC zs f nd (some b)).toArray := ⟨_, rfl⟩
  rw [← hL] at HR ⊢
  obtain ⟨y, hy⟩ : ∃ y, y = zs.getD i iz := ⟨_, rfl⟩
  have HT := Lib.hid (fun t => (HR.out t).inf i hi)
  have H6 := Lib.hid (fun t => (HR.out t).c36)
  have H7 := Lib.hid (fun t => (HR.out t).c37)
  have H8 := Lib.hid (fun t => (HR.out t).c38)
  rw [← hy] at HT HG ⊢
  have HAL := Lib.hid (fun w h => allow_any w b rs y.g h HG.out)
  have HIX := run_indexAt_off (P := Try.prog) 81 12 36 3 Try.underlying81 size_info (by omega) w.heap.size 0 i hi
  simp only [Nat.zero_add] at HIX
  have hi0 : (0 : Int) ≤ (i : Int) := by omega
  have hi12 : (i : Int) < 12 := by omega
  clear hL hy h hs hz HR HG
  have HTX := Lib.hid (HT.out 89)
  have c6 := H6.out 89
  have c7 := H7.out 89
  have c8 := H8.out 89
  obtain ⟨c0, c1, c2⟩ := HTX.out
  obtain ⟨w0, hw0⟩ : ∃ w0, w0 = w.alloc (.cells L 89) := ⟨_, rfl⟩
  have HB0 : Hid (Below w.heap.size w w0) := Lib.hid (by rw [hw0]; exact HB.out _)
  have HS0 : Hid (SetAt w0 b rs) := Lib.hid (by rw [hw0]; exact HS.out _)
  have HW0 := Lib.hid hw0
  have hlt : w.heap.size < w0.heap.size := by rw [hw0]; simp
  rw [← hw0] at c0 c1 c2 c6 c7 c8
  clear hw0 HTX HT H6 H7 H8 HB HS
  by_cases hf : (i : Int) = f
  · subst hf
    have HR : Hid ((!decide ((i : Int) = (i : Int)) && (decide (y.k = nd) && may0 rs y.g)) = false) := Lib.hid (by simp)
    rw [HR.out]
    go_enter Try.func122, Try.ntmps122
    go_wp2_with ((with_reducible refine box_is 89 (.tmp 0) ?_); refine box_arr 89 (.tmp 0) L rfl ?_; rw [← HW0.out])
    go_ret
    exact ⟨rfl, HB0.out.trans (((Below.refl _ _).alloc (Nat.le_refl _) _).mono HB0.out.size)⟩
  · have hf' : ((i : Int) != f) = true := by simpa using hf
    by_cases hk : y.k = nd
    · have hk' : (y.k == nd) = true := by simpa using hk
      have HR : Hid ((!decide ((i : Int) = f) && (decide (y.k = nd) && may0 rs y.g)) = may0 rs y.g) := Lib.hid (by rw [decide_eq_false hf, decide_eq_true hk]; rfl)
      rw [HR.out]
      obtain ⟨m, hm⟩ : ∃ m, m = may0 rs y.g := ⟨_, rfl⟩
      rw [← hm] at HAL ⊢
      clear hm hk hf
      go_enter Try.func122, Try.ntmps122
      go_wp2_with ((with_reducible refine box_is 89 (.tmp 0) ?_); refine box_arr 89 (.tmp 0) L rfl ?_; rw [← HW0.out])
      refine (HAL.out _ (HS0.out.below ((Below.refl _ _).alloc (Nat.le_refl _) _))).mono ?_
      rintro e w' ⟨rfl, rfl⟩
      go_wp2_with fail
      go_ret
      exact ⟨rfl, HB0.out.trans (((Below.refl _ _).alloc (Nat.le_refl _) _).mono HB0.out.size)⟩
    · have hk' : (y.k == nd) = false := by simpa using hk
      have HR : Hid ((!decide ((i : Int) = f) && (decide (y.k = nd) && may0 rs y.g)) = false) := Lib.hid (by rw [decide_eq_false hk, Bool.false_and, Bool.and_false])
      rw [HR.out]
      clear hk hf
      go_enter Try.func122, Try.ntmps122
      go_wp2_with ((with_reducible refine box_is 89 (.tmp 0) ?_); refine box_arr 89 (.tmp 0) L rfl ?_; rw [← HW0.out])
      go_ret
      exact ⟨rfl, HB0.out.trans (((Below.refl _ _).alloc (Nat.le_refl _) _).mono HB0.out.size)⟩
end Go.Proofs.Yticnfekjbknomaa
/- Which words the program's rule allows: all words of a frame. -/
namespace Go.Proofs.Yticnfekjbknomaa
open Go.ChangeShapes Go.WideShapes Go.ChangeAt Go.RowKit Go.Maps
set_option linter.unusedVariables false
set_option linter.unusedSimpArgs false

/-! what the type switch asks -/
theorem as_empty_e (w : World) : (Instr.typeAssert (.iface 144 (.agg #[])) 131 144 true).run Try.prog w = .ok (.tuple #[.agg #[], .bool true]) w := by kernel_rfl
theorem as_empty_f (w : World) (n : Int) : (Instr.typeAssert (.iface 145 (.int .i64 n)) 131 144 true).run Try.prog w = .ok (.tuple #[.agg #[], .bool false]) w := by kernel_rfl
theorem as_empty_s (w : World) : (Instr.typeAssert (.iface 146 (.agg #[])) 131 144 true).run Try.prog w = .ok (.tuple #[.agg #[], .bool false]) w := by kernel_rfl
theorem as_frame_f (w : World) (n : Int) : (Instr.typeAssert (.iface 145 (.int .i64 n)) 131 145 true).run Try.prog w = .ok (.tuple #[.int .i64 n, .bool true]) w := by kernel_rfl
theorem as_frame_s (w : World) : (Instr.typeAssert (.iface 146 (.agg #[])) 131 145 true).run Try.prog w = .ok (.tuple #[.int .i64 0, .bool false]) w := by kernel_rfl
/-- what a rule says of a word -/
def rwd (zs : List IV) (f nd x : Int) (rs : List Bs) : Bool := if goodB x then rfr zs f nd rs (fr x) else decide (x = 0)
set_option maxRecDepth 100000 in
set_option maxHeartbeats 2000000 in
theorem allows_any (w : World) (zs : List IV) (hz : zs.length = 12) (hs : ShortI zs) (f nd x : Int) (b : Nat) (rs : List Bs) (h : SetAt w b rs) :
    Calls Try.prog 106 #[.agg (rcC zs f nd (some b)).toArray, tv x] w (BRes (rwd zs f nd x rs) w) := by
  have HB : Hid (∀ o, Below w.heap.size w (w.alloc o)) := Lib.hid (fun o => (Below.refl _ _).alloc (Nat.le_refl _) _)
  have HL : Hid ((rcC zs f nd (some b)).length = 39) := Lib.hid (rcC_len hz _ _ _)
  have HAF := Lib.hid (fun i hi w' hh => allowsFrame_any w' zs hz hs i hi f nd b rs hh)
  have HS : Hid (∀ o, SetAt (w.alloc o) b rs) := Lib.hid (fun o => h.below ((Below.refl _ _).alloc (Nat.le_refl _) _))
  obtain ⟨L, hL⟩ : ∃ L, L = rcC zs f nd (some b) := ⟨_, rfl⟩
  rw [← hL] at HAF HL ⊢
  have HRG : Hid (∀ t, (w.alloc (.cells L.toArray t)).rangeAt w.heap.size 0 L) := Lib.hid (fun t => range_row (heap_alloc_new w _))
  clear hL h
  by_cases hg : goodB x
  · have hfr := good_frame hg
    obtain ⟨i, hi⟩ : ∃ i : Nat, x / 4 = (i : Int) := ⟨(x / 4).toNat, by omega⟩
    have hi12 : i < 12 := by omega
    have HTV : tv x = .iface 145 (.int .i64 (i : Int)) := by unfold tv; rw [if_pos hg, hi]
    have HR : rwd zs f nd x rs = rfr zs f nd rs i := by unfold rwd fr; rw [if_pos hg, hi, Int.toNat_natCast]
    rw [HTV, HR]
    have HA := Lib.hid (fun o => HAF.out i hi12 _ (HS.out o))
    obtain ⟨r, hr⟩ : ∃ r, r = rfr zs f nd rs i := ⟨_, rfl⟩
    rw [← hr] at HA ⊢
    have h1 := as_empty_f
    have h2 := as_frame_f
    clear hr hg hfr hi HTV HR hz hs HAF
    go_enter Try.func106, Try.ntmps106
    go_wp2_with (first | ((with_reducible refine box_is 89 (.tmp 0) ?_); refine box_arr 89 (.tmp 0) L.toArray rfl ?_) | ((with_reducible refine load_is 89 (.tmp 2) ?_); refine load_arr 89 (.tmp 2) w.heap.size 0 L _ rfl (HRG.out _) Try.underlying89 rfl (info_rule HL.out) ?_))
    refine (HA.out _).mono ?_
    rintro e w1 ⟨rfl, hb1⟩
    have B1 := Lib.hid ((HB.out _).trans (hb1.mono (HB.out _).size))
    clear hb1
    go_wp2_with fail
    go_ret
    exact ⟨rfl, B1.out⟩
  · by_cases h0 : x = 0
    · have HTV : tv x = .iface 144 (.agg #[]) := by unfold tv; rw [if_neg hg, if_pos h0]
      have HR : rwd zs f nd x rs = true := by unfold rwd; rw [if_neg hg, decide_eq_true h0]
      rw [HTV, HR]
      have h1 := as_empty_e
      clear hg h0 HTV HR hz hs HAF
      go_enter Try.func106, Try.ntmps106
      go_wp2_with ((with_reducible refine box_is 89 (.tmp 0) ?_); refine box_arr 89 (.tmp 0) L.toArray rfl ?_)
      go_ret
      exact ⟨rfl, ((Below.refl _ _).alloc (Nat.le_refl _) _).alloc (by simp) _⟩
    · have HTV : tv x = .iface 146 (.agg #[]) := by unfold tv; rw [if_neg hg, if_neg h0]
      have HR : rwd zs f nd x rs = false := by unfold rwd; rw [if_neg hg, decide_eq_false h0]
      rw [HTV, HR]
      have h1 := as_empty_s
      have h2 := as_frame_s
      clear hg h0 HTV HR hz hs HAF
      go_enter Try.func106, Try.ntmps106
      go_wp2_with ((with_reducible refine box_is 89 (.tmp 0) ?_); refine box_arr 89 (.tmp 0) L.toArray rfl ?_)
      go_ret
      exact ⟨rfl, HB.out _⟩
/-- whether a rule allows all words of a frame -/
def rall (zs : List IV) (f nd : Int) (row : List Int) (rs : List Bs) : Bool := (List.range 4).all (fun i => rwd zs f nd (row.getD i 0) rs)
set_option maxRecDepth 100000 in
set_option maxHeartbeats 4000000 in
theorem allowsAll_any (w : World) (zs : List IV) (hz : zs.length = 12) (hs : ShortI zs) (f nd : Int) (row : List Int) (h4 : row.length = 4) (hb : ∀ i, i < 4 → 0 ≤ row.getD i 0 ∧ row.getD i 0 ≤ 9999) (b : Nat) (rs : List Bs) (h : SetAt w b rs) :
    Calls Try.prog 70 #[.agg (rcC zs f nd (some b)).toArray, .agg (rowC row)] w (BRes (rall zs f nd row rs) w) := by
  have HL : Hid ((rcC zs f nd (some b)).length = 39) := Lib.hid (rcC_len hz _ _ _)
  have HAL := Lib.hid (fun x w' hh => allows_any w' zs hz hs f nd x b rs hh)
  have HIX : Hid (∀ k : Nat, k < 4 → ∀ W, (Instr.index 77 (.agg (rowC row)) (.int .i64 k)).run Try.prog W = .ok (.int .i64 (row.getD k 0)) W) := Lib.hid (fun k hk W => words_index row h4 hk W)
  unfold rowC at HIX ⊢
  have HLM : Hid ((row.map (Value.int .i64)).length = 4) := Lib.hid (by rw [List.length_map, h4])
  obtain ⟨M, hM⟩ : ∃ M, M = row.map (Value.int .i64) := ⟨_, rfl⟩
  obtain ⟨x, hx⟩ : ∃ x : Nat → Int, x = (fun j => row.getD j 0) := ⟨_, rfl⟩
  have hxe : ∀ k, row.getD k 0 = x k := fun k => by rw [hx]
  unfold rall
  simp only [hxe] at HIX hb ⊢
  rw [← hM] at HIX HLM ⊢
  have HIW : Hid ((Try.prog.info? 77).map (·.size) = some M.length) := Lib.hid (by rw [HLM.out]; exact info_words)
  obtain ⟨L, hL⟩ : ∃ L, L = rcC zs f nd (some b) := ⟨_, rfl⟩
  rw [← hL] at HAL HL ⊢
  have HX := Lib.hid hb
  have HRL : Hid (∀ t o, ((w.alloc (.cells L.toArray t)).alloc o).rangeAt w.heap.size 0 L) := Lib.hid (fun t o => range_blocks (range_row (heap_alloc_new w _)) (heap_alloc_old _ _ (by simp)))
  have HRM : Hid (∀ o t, ((w.alloc o).alloc (.cells M.toArray t)).rangeAt (w.heap.size + 1) 0 M) := Lib.hid (fun o t => by
    have := range_row (heap_alloc_new (w.alloc o) (.cells M.toArray t))
    rwa [World.size_alloc] at this)
  have HB0 : Hid (∀ o1 o2, Below w.heap.size w ((w.alloc o1).alloc o2)) := Lib.hid (fun o1 o2 => ((Below.refl _ _).alloc (Nat.le_refl _) _).alloc (by simp) _)
  have HS0 : Hid (∀ o1 o2, SetAt ((w.alloc o1).alloc o2) b rs) := Lib.hid (fun o1 o2 => h.below (HB0.out _ _))
  obtain ⟨R, hR⟩ : ∃ R : Bool, R = (List.range 4).all (fun i => rwd zs f nd (x i) rs) := ⟨_, rfl⟩
  have HRT : Hid ((∀ j, j < 4 → rwd zs f nd (x j) rs = true) → R = true) := Lib.hid (fun hh => by
    rw [hR, List.all_eq_true]
    exact fun j hj => hh j (List.mem_range.1 hj))
  have HRF : Hid (∀ t, t < 4 → rwd zs f nd (x t) rs = false → R = false) := Lib.hid (fun t ht hh => by
    rw [hR, List.all_eq_false]
    exact ⟨t, List.mem_range.2 ht, by rw [hh]; simp⟩)
  rw [← hR]
  clear hx hxe hL hM hR hb h h4 HLM
  go_enter Try.func70, Try.ntmps70
  go_wp2_with (first | ((with_reducible refine box_is 89 (.tmp 0) ?_); refine box_arr 89 (.tmp 0) L.toArray rfl ?_) | ((with_reducible refine box_is 77 (.tmp 1) ?_); refine box_arr 77 (.tmp 1) M.toArray rfl ?_) | ((with_reducible refine load_is 77 (.tmp 3) ?_); refine load_arr 77 (.tmp 3) (w.heap.size + 1) 0 M _ rfl (HRM.out _ _) Try.underlying77 rfl HIW.out ?_))
  obtain ⟨w0, hw0⟩ : ∃ w0, w0 = (w.alloc (.cells L.toArray 89)).alloc (.cells M.toArray 77) := ⟨_, rfl⟩
  have HB1 : Hid (Below w.heap.size w w0) := Lib.hid (by rw [hw0]; exact HB0.out _ _)
  have HS1 : Hid (SetAt w0 b rs) := Lib.hid (by rw [hw0]; exact HS0.out _ _)
  have HR1 : Hid (w0.rangeAt w.heap.size 0 L ∧ w.heap.size < w0.heap.size) := Lib.hid (by rw [hw0]; exact ⟨HRL.out _ _, by simp; omega⟩)
  obtain ⟨X, hX⟩ : ∃ X, X = w.heap.size := ⟨_, rfl⟩
  rw [← hX] at HR1
  rw [← hw0, ← hX]
  clear hw0 hX HRL HRM HB0 HS0
  go_loopw [8] (fun i wr => ∃ t : Nat, t ≤ 4 ∧ i = .int .i64 t ∧ Hid (Below w0.heap.size w0 wr) ∧ Hid (∀ j, j < t → rwd zs f nd (x j) rs = true)) (fun i _ => 4 - (intOf i).toNat)
  case atStart => exact ⟨0, Nat.zero_le _, rfl, Lib.hid (Below.refl _ _), Lib.hid (fun j hj => by omega)⟩
  case round =>
    obtain ⟨t, ht, rfl, HBW, HP⟩ := hrel
    by_cases hlt : t < 4
    · have hlt' : (t : Int) < 4 := by omega
      have HIX' := HIX.out t hlt
      have hxb := HX.out t hlt
      have HTW := Lib.hid (fun w => tableWordOf_any w (x t) hxb.1 hxb.2)
      have HSW : Hid (SetAt wr.drew b rs) := Lib.hid (HS1.out.below HBW.out.drew)
      have HA := Lib.hid (HAL.out (x t) wr.drew HSW.out)
      have HRW : Hid (wr.rangeAt X 0 L) := Lib.hid (range_blocks HR1.out.1 (HBW.out.block _ HR1.out.2))
      obtain ⟨y, hy⟩ : ∃ y, y = x t := ⟨_, rfl⟩
      obtain ⟨r, hr⟩ : ∃ r, r = rwd zs f nd (x t) rs := ⟨_, rfl⟩
      rw [← hr] at HA
      rw [← hy] at HIX' HTW HA
      have HRR := Lib.hid hr
      obtain ⟨V, hV⟩ : ∃ V, V = tv y := ⟨_, rfl⟩
      rw [← hV] at HTW HA
      clear hxb hy hr hV
      go_wp2_with fail
      cases r with
      | true =>
        have HPN : Hid (∀ j, j < t + 1 → rwd zs f nd (x j) rs = true) := Lib.hid (fun j hj => by
          by_cases e : j = t
          · rw [e]; exact HRR.out.symm
          · exact HP.out j (by omega))
        refine wp_region_held_drew (S := fun w' => w'.rangeAt X 0 L) (by kernel_rfl) HRW.out (fun hHeld => ?_)
        refine wpAnyH_take (i := 0) (oi := { dst := some 11, op := .load 89 (.tmp 2), type := _, pos := _, after := _, guard := none }) (v := .agg L.toArray) rfl (by kernel_rfl) (by kernel_rfl) (by kernel_rfl) (fun _ _ _ h => h) (Or.inl ⟨by rfl, fun wh hSw => ?_⟩) hHeld ?_
        · (simp only [execOp]; exact load_run 89 X 0 L _ hSw Try.underlying89 rfl (info_rule HL.out))
        try simp only [Act.put, List.setIfInBounds_toArray, List.set_cons_zero, List.set_cons_succ]
        refine wpAnyH_take (i := 1) (oi := { dst := some 12, op := .move (.tmp 6), type := _, pos := _, after := _, guard := none }) (v := .int .i64 y) rfl (by kernel_rfl) (by kernel_rfl) (by kernel_rfl) (fun _ _ _ h => h) (Or.inl ⟨by rfl, fun wh hSw => ?_⟩) hHeld ?_
        · (dsimp only at hSw; go_simp)
        try simp only [Act.put, List.setIfInBounds_toArray, List.set_cons_zero, List.set_cons_succ]
        refine wpAnyH_ready (rs := [2]) (by kernel_rfl) (by simp) ?_
        refine AllReadyH.cons (o := { dst := some 13, op := .call { callee := .value (.func 107), args := #[.tmp 12], argTypes := #[3] }, type := _, pos := _, after := _, guard := none }) rfl (fun K hK => ?_) AllReadyH.nil
        go_simp
        refine (HTW.out _).mono ?_
        rintro e w' ⟨rfl, rfl⟩
        try go_simp
        refine hK.out _ _ ?_ (fun hHeld => ?_)
        · exact hHeld
        clear hK K
        try simp only [Act.put, List.setIfInBounds_toArray, List.set_cons_zero, List.set_cons_succ]
        refine wpAnyH_ready (rs := [3]) (by kernel_rfl) (by simp) ?_
        refine AllReadyH.cons (o := { dst := some 14, op := .call { callee := .value (.func 106), args := #[.tmp 11, .tmp 13], argTypes := #[89, 131] }, type := _, pos := _, after := _, guard := none }) rfl (fun K hK => ?_) AllReadyH.nil
        go_simp
        refine HA.out.mono ?_
        rintro e w5 ⟨rfl, hb5⟩
        have HB5 := Lib.hid hb5
        clear hb5
        try go_simp
        refine hK.out _ _ ?_ (fun hHeld => ?_)
        · exact range_blocks hHeld (HB5.out.block X (Nat.lt_of_lt_of_le HR1.out.2 HBW.out.size))
        clear hK K
        try simp only [Act.put, List.setIfInBounds_toArray, List.set_cons_zero, List.set_cons_succ]
        refine wpAnyH_take (i := 4) (oi := { dst := some 15, op := .unOp .not 4 (.tmp 14), type := _, pos := _, after := _, guard := none }) (v := .bool false) rfl (by kernel_rfl) (by kernel_rfl) (by kernel_rfl) (fun _ _ _ h => h) (Or.inl ⟨by rfl, fun wh hSw => ?_⟩) hHeld ?_
        · (dsimp only at hSw; go_simp)
        try simp only [Act.put, List.setIfInBounds_toArray, List.set_cons_zero, List.set_cons_succ]
        refine wpAnyH_done (by kernel_rfl) ?_ _
        have HBN : Hid (Below w0.heap.size w0 w5) := Lib.hid (HBW.out.drew.trans (HB5.out.mono HBW.out.size))
        go_wp2_with fail
        go_roundw
        case rel => exact ⟨t + 1, by omega, by go_num, HBN, HPN⟩
        case measure => simp [intOf]; omega
      | false =>
        have HF := Lib.hid (HRF.out t hlt HRR.out.symm)
        refine wp_region_held_drew (S := fun w' => w'.rangeAt X 0 L) (by kernel_rfl) HRW.out (fun hHeld => ?_)
        refine wpAnyH_take (i := 0) (oi := { dst := some 11, op := .load 89 (.tmp 2), type := _, pos := _, after := _, guard := none }) (v := .agg L.toArray) rfl (by kernel_rfl) (by kernel_rfl) (by kernel_rfl) (fun _ _ _ h => h) (Or.inl ⟨by rfl, fun wh hSw => ?_⟩) hHeld ?_
        · (simp only [execOp]; exact load_run 89 X 0 L _ hSw Try.underlying89 rfl (info_rule HL.out))
        try simp only [Act.put, List.setIfInBounds_toArray, List.set_cons_zero, List.set_cons_succ]
        refine wpAnyH_take (i := 1) (oi := { dst := some 12, op := .move (.tmp 6), type := _, pos := _, after := _, guard := none }) (v := .int .i64 y) rfl (by kernel_rfl) (by kernel_rfl) (by kernel_rfl) (fun _ _ _ h => h) (Or.inl ⟨by rfl, fun wh hSw => ?_⟩) hHeld ?_
        · (dsimp only at hSw; go_simp)
        try simp only [Act.put, List.setIfInBounds_toArray, List.set_cons_zero, List.set_cons_succ]
        refine wpAnyH_ready (rs := [2]) (by kernel_rfl) (by simp) ?_
        refine AllReadyH.cons (o := { dst := some 13, op := .call { callee := .value (.func 107), args := #[.tmp 12], argTypes := #[3] }, type := _, pos := _, after := _, guard := none }) rfl (fun K hK => ?_) AllReadyH.nil
        go_simp
        refine (HTW.out _).mono ?_
        rintro e w' ⟨rfl, rfl⟩
        try go_simp
        refine hK.out _ _ ?_ (fun hHeld => ?_)
        · exact hHeld
        clear hK K
        try simp only [Act.put, List.setIfInBounds_toArray, List.set_cons_zero, List.set_cons_succ]
        refine wpAnyH_ready (rs := [3]) (by kernel_rfl) (by simp) ?_
        refine AllReadyH.cons (o := { dst := some 14, op := .call { callee := .value (.func 106), args := #[.tmp 11, .tmp 13], argTypes := #[89, 131] }, type := _, pos := _, after := _, guard := none }) rfl (fun K hK => ?_) AllReadyH.nil
        go_simp
        refine HA.out.mono ?_
        rintro e w5 ⟨rfl, hb5⟩
        have HB5 := Lib.hid hb5
        clear hb5
        try go_simp
        refine hK.out _ _ ?_ (fun hHeld => ?_)
        · exact range_blocks hHeld (HB5.out.block X (Nat.lt_of_lt_of_le HR1.out.2 HBW.out.size))
        clear hK K
        try simp only [Act.put, List.setIfInBounds_toArray, List.set_cons_zero, List.set_cons_succ]
        refine wpAnyH_take (i := 4) (oi := { dst := some 15, op := .unOp .not 4 (.tmp 14), type := _, pos := _, after := _, guard := none }) (v := .bool true) rfl (by kernel_rfl) (by kernel_rfl) (by kernel_rfl) (fun _ _ _ h => h) (Or.inl ⟨by rfl, fun wh hSw => ?_⟩) hHeld ?_
        · (dsimp only at hSw; go_simp)
        try simp only [Act.put, List.setIfInBounds_toArray, List.set_cons_zero, List.set_cons_succ]
        refine wpAnyH_done (by kernel_rfl) ?_ _
        have HBN : Hid (Below w0.heap.size w0 w5) := Lib.hid (HBW.out.drew.trans (HB5.out.mono HBW.out.size))
        have HBR := Lib.hid (HB1.out.trans (HBN.out.mono HB1.out.size))
        go_wp2_with fail
        go_ret
        exact ⟨by rw [HF.out]; rfl, HBR.out⟩
    · have e : t = 4 := by omega
      subst e
      have HF := Lib.hid (HRT.out HP.out)
      have HBN := Lib.hid (HB1.out.trans (HBW.out.mono HB1.out.size))
      go_wp2_with fail
      go_ret
      exact ⟨by rw [HF.out]; rfl, HBN.out⟩
end Go.Proofs.Yticnfekjbknomaa
