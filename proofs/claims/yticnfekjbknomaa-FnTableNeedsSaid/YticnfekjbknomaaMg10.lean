/- What the proofs stand on, part 10: TIj TIk. -/
import Derived.Test.YticnfekjbknomaaMg9
/- What the program's TableCount and TableUnpin answer. -/
namespace Go.Proofs.Yticnfekjbknomaa
open Go.ChangeShapes Go.WideShapes Go.ChangeAt Go.RowKit Go.Maps
set_option linter.unusedVariables false
set_option linter.unusedSimpArgs false

theorem slice_uses (b : Nat) (W : World) : (Instr.sliceAt 106 (.pointer (some ⟨b, 0, none⟩)) none none none).run Try.prog W = .ok (.slice (some ⟨b, 0, none⟩) 12 12) W := by
  unfold Instr.sliceAt
  simp only [Instr.sureAddr, Sem.run_bind, Sem.run_pure, Result.andThen_ok, run_underlying Try.underlying106, Instr.sliceBounds]
  simp [add0]
theorem tri_off {w : World} {b o : Nat} {xs : List IV} (h : w.rangeAt b o (isC xs)) {i : Nat} (hi : i < xs.length) : Tri w b (o + i * 3) (xs.getD i iz) := by
  have hc : ∀ j v, j < 3 → (ivC (xs.getD i iz))[j]? = some v → w.cell? ⟨b, o + i * 3 + j, none⟩ = some v := fun j v hj hv => by
    have := h (i * 3 + j) v (by rw [isC_get xs hi hj]; exact hv)
    rwa [← Nat.add_assoc] at this
  exact ⟨hc 0 _ (by omega) rfl, hc 1 _ (by omega) rfl, hc 2 _ (by omega) rfl⟩
theorem intsW_none {w : World} {B0 B1 : Nat} : IntsW w B0 B1 (.slice none 0 0) [] := ⟨none, 0, rfl, Nat.le_refl _, Nat.zero_le _, fun i hi => absurd hi (Nat.not_lt_zero i)⟩
theorem Us.intsW {w : World} {b B0 B1 : Nat} {u : Nat → Int} {xs : List Int} (h : Us w b u) (hl : xs.length = 12) (hx : ∀ i, i < 12 → xs.getD i 0 = u i) (h0 : B0 ≤ b) (h1 : b < B1) : IntsW w B0 B1 (.slice (some ⟨b, 0, none⟩) 12 12) xs :=
  ⟨_, 12, by rw [hl], by omega, by unfold maxLen; omega, fun i hi => ⟨b, 0, rfl, h0, h1, by
    rw [Nat.zero_add, hx i (by omega)]
    exact h i (by omega)⟩⟩
set_option maxRecDepth 100000 in
set_option maxHeartbeats 4000000 in
theorem itc_any : ITC := by
  intro w vm vl xss ys hm hl hs
  have HTO := Lib.hid (tablesOf_any w vm vl xss ys hm hl hs)
  have HB : Hid ((isC (arrOf ys)).length = 36) := Lib.hid (isC_36 (arrOf_len ys))
  have HT : Hid ((tC xss (arrOf ys)).length = 84) := Lib.hid (tC_len xss (arrOf_len ys))
  have HTO1 : Hid ((tC xss (arrOf ys)).toArray.all (·.oneCell') = true) := Lib.hid (tC_one _ _)
  have HTI : Hid (∀ (W : World) b, W.rangeAt b 0 (tC xss (arrOf ys)) → W.rangeAt b 48 (isC (arrOf ys))) := Lib.hid (fun W b h => range_right h (by rw [mC_len]))
  have HTR : Hid (memOk xss = true → ∀ (W : World) X t, t < 12 → W.rangeAt X 0 (tC xss (arrOf ys)) → W.rangeAt X (t * 4) ((xss.getD t []).map (Value.int .i64))) := Lib.hid (fun hm W X t ht h => row_range hm h ht)
  have HAY : Hid (isok ys = true → arrOf ys = ys) := Lib.hid arrOf_ok
  unfold ArrT at HTO
  have ZT := Lib.hid zero_tables
  obtain ⟨zt, hzt⟩ : ∃ z, z = Z84 := ⟨_, rfl⟩
  rw [← hzt] at ZT
  have HZT : Hid (zt.length = 84) := Lib.hid (by rw [hzt]; rfl)
  have HFA : Hid ((memOk xss && isok ys) = false → tcnt xss ys = []) := Lib.hid (fun h => tcnt_none (fun hh => by rw [← both_iff, h] at hh; exact absurd hh (by simp)))
  have HCT : Hid ((memOk xss && isok ys) = true → ∀ w, Calls Try.prog 84 #[.agg (tC xss (arrOf ys)).toArray] w (ArrU (cu xss ys 12) w)) := Lib.hid (fun h w => by
    have := both_iff.1 h
    rw [arrOf_ok this.2]
    exact count_any w xss ys this.1 this.2)
  have HTG : Hid ((memOk xss && isok ys) = true → (tcnt xss ys).length = 12 ∧ ∀ j, j < 12 → (tcnt xss ys).getD j 0 = cu xss ys 12 j) := Lib.hid (fun h => by
    have := both_iff.1 h
    exact tcnt_get this.1 this.2)
  obtain ⟨zs, hzs⟩ : ∃ zs, zs = arrOf ys := ⟨_, rfl⟩
  rw [← hzs] at HTO HB HT HTO1 HTI HTR HAY HCT
  have HZS := Lib.hid hzs
  obtain ⟨T, hT⟩ : ∃ T, T = tC xss zs := ⟨_, rfl⟩
  rw [← hT] at HTO HT HTO1 HTI HTR HCT
  have HTE := Lib.hid hT
  obtain ⟨r1, hr1⟩ : ∃ r, r = (memOk xss && isok ys) := ⟨_, rfl⟩
  rw [← hr1] at HTO
  have HR1 := Lib.hid hr1
  rw [← HR1.out] at HFA HCT HTG
  obtain ⟨res, hres⟩ : ∃ r, r = tcnt xss ys := ⟨_, rfl⟩
  rw [← hres] at HFA HTG ⊢
  obtain ⟨u, hu⟩ : ∃ u, u = cu xss ys 12 := ⟨_, rfl⟩
  rw [← hu] at HCT HTG
  unfold ArrU at HCT
  have HUL : Hid ((uC u).length = 12) := Lib.hid (uC_len _)
  have HUO : Hid ((uC u).toArray.all (·.oneCell') = true) := Lib.hid (uC_one _)
  have HUS : Hid (∀ (W : World) b, W.rangeAt b 0 (uC u) → W.there b 0 (uC u).length → Us W b u) := Lib.hid (fun W b h ht => Us.of_range h (by rwa [uC_len] at ht))
  obtain ⟨U, hU⟩ : ∃ U, U = uC u := ⟨_, rfl⟩
  rw [← hU] at HCT HUL HUO HUS
  have ZU := Lib.hid zero_uses
  obtain ⟨zu, hzu⟩ : ∃ z, z = uC (fun _ => 0) := ⟨_, rfl⟩
  rw [← hzu] at ZU
  have HZL : Hid (zu.length = 12) := Lib.hid (by rw [hzu]; exact uC_len _)
  clear hm hl hs hzt hzs hT hr1 hres hU hu hzu
  go_enter Try.func32, Try.ntmps32
  go_wp2_with fail
  refine HTO.out.mono ?_
  rintro e w1 ⟨rfl, hb1⟩
  have HM1 := Lib.hid (VarL.make (Z := zt.toArray) (L := T) 83 hb1 (by rw [List.size_toArray, HZT.out, HT.out]))
  obtain ⟨X, hX⟩ : ∃ X, X = w1.heap.size := ⟨_, rfl⟩
  rw [← hX] at HM1
  obtain ⟨w2, hw2⟩ : ∃ w2, w2 = (w1.alloc (.cells zt.toArray 83)).setCells X 0 T := ⟨_, rfl⟩
  rw [← hw2] at HM1
  have HXE := Lib.hid hX
  have HW2 := Lib.hid hw2
  have HTH : Hid ((w1.alloc (.cells zt.toArray 83)).there w1.heap.size 0 T.toArray.size) := Lib.hid (by rw [← HXE.out, List.size_toArray]; exact HM1.out.1)
  have HTZ : Hid (T.toArray.size = 84) := Lib.hid (by rw [List.size_toArray, HT.out])
  have HV := Lib.hid HM1.out.2
  clear hb1 hX hw2 HM1
  cases r1 with
  | false =>
    have HF := HFA.out rfl
    subst HF
    go_wp2_with (first | ((with_reducible refine alloc_is 83 ?_); refine alloc_arr 83 zt.toArray ZT.out ?_) | ((with_reducible refine store_is 83 (.tmp 5) (.tmp 12) ?_); refine store_arr 83 (.tmp 5) (.tmp 12) w1.heap.size 0 T.toArray rfl rfl HTH.out (info_tables HTZ.out) HTO1.out ?_; rw [show T.toArray.toList = T from rfl, ← HXE.out, ← HW2.out]) | fail)
    go_ret
    exact ⟨_, rfl, intsW_none, HV.out.bel⟩
  | true =>
    have HC := Lib.hid (HCT.out rfl)
    have HG := Lib.hid (HTG.out rfl)
    go_wp2_with (first | ((with_reducible refine alloc_is 83 ?_); refine alloc_arr 83 zt.toArray ZT.out ?_) | ((with_reducible refine store_is 83 (.tmp 5) (.tmp 12) ?_); refine store_arr 83 (.tmp 5) (.tmp 12) w1.heap.size 0 T.toArray rfl rfl HTH.out (info_tables HTZ.out) HTO1.out ?_; rw [show T.toArray.toList = T from rfl, ← HXE.out, ← HW2.out]) | ((with_reducible refine load_is 83 (.tmp 5) ?_); refine load_arr 83 (.tmp 5) X 0 T _ rfl HV.out.at0 Try.underlying83 rfl (info_tables HT.out) ?_) | fail)
    refine (HC.out _).mono ?_
    rintro e w3 ⟨rfl, hb3⟩
    have HV3 := Lib.hid (HV.out.after hb3)
    have HM3 := Lib.hid (VarL.make (Z := zu.toArray) (L := U) 106 HV3.out.bel (by rw [List.size_toArray, HZL.out, HUL.out]))
    obtain ⟨Y, hY⟩ : ∃ Y, Y = w3.heap.size := ⟨_, rfl⟩
    rw [← hY] at HM3
    obtain ⟨w4, hw4⟩ : ∃ w4, w4 = (w3.alloc (.cells zu.toArray 106)).setCells Y 0 U := ⟨_, rfl⟩
    rw [← hw4] at HM3
    have HYE := Lib.hid hY
    have HW4 := Lib.hid hw4
    have HTC : Hid ((w3.alloc (.cells zu.toArray 106)).there w3.heap.size 0 U.toArray.size) := Lib.hid (by rw [← HYE.out, List.size_toArray]; exact HM3.out.1)
    have HUZ : Hid (U.toArray.size = 12) := Lib.hid (by rw [List.size_toArray, HUL.out])
    have HSL := slice_uses Y
    clear hb3 hY hw4
    go_wp2_with (first | ((with_reducible refine alloc_is 106 ?_); refine alloc_arr 106 zu.toArray ZU.out ?_) | ((with_reducible refine store_is 106 (.tmp 7) (.tmp 17) ?_); refine store_arr 106 (.tmp 7) (.tmp 17) w3.heap.size 0 U.toArray rfl rfl HTC.out (info_uses HUZ.out) HUO.out ?_; rw [show U.toArray.toList = U from rfl, ← HYE.out, ← HW4.out]) | fail)
    go_ret
    exact ⟨_, rfl, (HUS.out _ _ HM3.out.2.at0 HM3.out.2.th).intsW HG.out.1 HG.out.2 HM3.out.2.lo HM3.out.2.hi, HM3.out.2.bel⟩
set_option maxRecDepth 100000 in
set_option maxHeartbeats 4000000 in
theorem itu_any : ITU := by
  intro w vm vl xss ys f hm hl hs
  have HTO := Lib.hid (tablesOf_any w vm vl xss ys hm hl hs)
  have HB : Hid ((isC (arrOf ys)).length = 36) := Lib.hid (isC_36 (arrOf_len ys))
  have HT : Hid ((tC xss (arrOf ys)).length = 84) := Lib.hid (tC_len xss (arrOf_len ys))
  have HTO1 : Hid ((tC xss (arrOf ys)).toArray.all (·.oneCell') = true) := Lib.hid (tC_one _ _)
  have HTI : Hid (∀ (W : World) b, W.rangeAt b 0 (tC xss (arrOf ys)) → W.rangeAt b 48 (isC (arrOf ys))) := Lib.hid (fun W b h => range_right h (by rw [mC_len]))
  have HTR : Hid (memOk xss = true → ∀ (W : World) X t, t < 12 → W.rangeAt X 0 (tC xss (arrOf ys)) → W.rangeAt X (t * 4) ((xss.getD t []).map (Value.int .i64))) := Lib.hid (fun hm W X t ht h => row_range hm h ht)
  have HAY : Hid (isok ys = true → arrOf ys = ys) := Lib.hid arrOf_ok
  unfold ArrT at HTO
  have ZT := Lib.hid zero_tables
  obtain ⟨zt, hzt⟩ : ∃ z, z = Z84 := ⟨_, rfl⟩
  rw [← hzt] at ZT
  have HZT : Hid (zt.length = 84) := Lib.hid (by rw [hzt]; rfl)
  have HBL : Hid (∀ w, Calls Try.prog 82 #[.int .i64 f, .int .i64 12] w (Says (inR f 0 11) w)) := Lib.hid (fun w => ibelow_any w f 12)
  have HLI : Hid (∀ w, Calls Try.prog 87 #[.agg (isC (arrOf ys)).toArray] w (NewV (arrOf ys) w)) := Lib.hid (fun w => ilist_any w _ (arrOf_len ys))
  have HNO : Hid (¬ ((memOk xss && isok ys) = true ∧ inR f 0 11 = true) → tunp xss ys f = ([], 3)) := Lib.hid (fun h => by
    unfold tunp
    rw [if_neg]
    intro hh
    have := targ_iff.1 hh
    exact h ⟨both_iff.2 ⟨this.1, this.2.2⟩, inR_iff.2 this.2.1⟩)
  have HYS : Hid ((memOk xss && isok ys) = true → inR f 0 11 = true → tunp xss ys f = if isTab (ys.getD f.toNat iz).k = true ∧ (ys.getD f.toNat iz).r ≤ 0 then if isok (unpL xss ys f) = true then (unpL xss ys f, 0) else (ys, 2) else (ys, 1)) := Lib.hid (fun h h2 => by
    have h1 := both_iff.1 h
    unfold tunp
    rw [if_pos (targ_iff.2 ⟨h1.1, inR_iff.1 h2, h1.2⟩)])
  obtain ⟨zs, hzs⟩ : ∃ zs, zs = arrOf ys := ⟨_, rfl⟩
  rw [← hzs] at HTO HB HT HTO1 HTI HTR HAY HLI
  have HZS := Lib.hid hzs
  obtain ⟨T, hT⟩ : ∃ T, T = tC xss zs := ⟨_, rfl⟩
  rw [← hT] at HTO HT HTO1 HTI HTR
  have HTE := Lib.hid hT
  obtain ⟨r1, hr1⟩ : ∃ r, r = (memOk xss && isok ys) := ⟨_, rfl⟩
  rw [← hr1] at HTO
  have HR1 := Lib.hid hr1
  rw [← HR1.out] at HNO HYS
  obtain ⟨r2, hr2⟩ : ∃ r, r = inR f 0 11 := ⟨_, rfl⟩
  rw [← hr2] at HBL HNO HYS
  have HR2 := Lib.hid hr2
  obtain ⟨B, hB⟩ : ∃ B, B = isC zs := ⟨_, rfl⟩
  rw [← hB] at HB HTI HLI
  have HBE := Lib.hid hB
  have ZI := Lib.hid zero_infos
  obtain ⟨zi, hzi⟩ : ∃ z, z = isC z12 := ⟨_, rfl⟩
  rw [← hzi] at ZI
  have HZI : Hid (zi.length = 36) := Lib.hid (by rw [hzi]; exact isC_36 z12_len)
  obtain ⟨res, hres⟩ : ∃ r, r = tunp xss ys f := ⟨_, rfl⟩
  rw [← hres] at HNO HYS ⊢
  clear hm hl hzt hzs hT hr1 hr2 hres hB hzi
  by_cases hcase : (r1 = true ∧ r2 = true)
  · obtain ⟨rfl, rfl⟩ := hcase
    have hbo := both_iff.1 HR1.out.symm
    have hin := inR_iff.1 HR2.out.symm
    obtain ⟨n, rfl⟩ : ∃ n : Nat, f = (n : Int) := ⟨f.toNat, by omega⟩
    have hn : n < 12 := by omega
    have HR := Lib.hid (HYS.out rfl rfl)
    have hzy := HAY.out hbo.2
    subst hzy
    clear HNO HYS hin
    go_enter Try.func41, Try.ntmps41
    go_wp2_with fail
    refine HTO.out.mono ?_
    rintro e w1 ⟨rfl, hb1⟩
    have HM1 := Lib.hid (VarL.make (Z := zt.toArray) (L := T) 83 hb1 (by rw [List.size_toArray, HZT.out, HT.out]))
    obtain ⟨X, hX⟩ : ∃ X, X = w1.heap.size := ⟨_, rfl⟩
    rw [← hX] at HM1
    obtain ⟨w2, hw2⟩ : ∃ w2, w2 = (w1.alloc (.cells zt.toArray 83)).setCells X 0 T := ⟨_, rfl⟩
    rw [← hw2] at HM1
    have HXE := Lib.hid hX
    have HW2 := Lib.hid hw2
    have HTH : Hid ((w1.alloc (.cells zt.toArray 83)).there w1.heap.size 0 T.toArray.size) := Lib.hid (by rw [← HXE.out, List.size_toArray]; exact HM1.out.1)
    have HTZ : Hid (T.toArray.size = 84) := Lib.hid (by rw [List.size_toArray, HT.out])
    have HV := Lib.hid HM1.out.2
    clear hb1 hX hw2 HM1
    · obtain ⟨y, hy⟩ : ∃ y, y = zs.getD n iz := ⟨_, rfl⟩
      have HTY := Lib.hid (fun (W : World) (h : W.rangeAt X 0 T) => (tri_off (by rw [← HBE.out]; exact HTI.out _ _ h) (show n < zs.length by rw [isok_len hbo.2]; exact hn) : Tri W X (48 + n * 3) (zs.getD n iz)))
      have HYR := Lib.hid (iok_refs (isok_at hbo.2 (show n < zs.length by rw [isok_len hbo.2]; exact hn)))
      rw [← hy] at HTY HYR
      rw [Int.toNat_natCast] at HR
      rw [← hy] at HR
      have HIX := run_indexAt_off (P := Try.prog) 81 12 36 3 Try.underlying81 size_info (by omega) X 48 n hn
      have hn0 : (0 : Int) ≤ (n : Int) := by omega
      have hn1 : (n : Int) < 12 := by omega
      have HCH := Lib.hid (fun w => changed_any w xss zs hbo.1 hbo.2 hs n hn 1 (-1) (.inr rfl))
      have HAL : Hid ((isC (arrOf (chL xss zs n 1 (-1)))).length = 36) := Lib.hid (isC_36 (arrOf_len _))
      have HAO : Hid ((isC (arrOf (chL xss zs n 1 (-1)))).toArray.all (·.oneCell') = true) := Lib.hid (isC_all _)
      have HLA : Hid (isok (chL xss zs n 1 (-1)) = true → ∀ w, Calls Try.prog 87 #[.agg (isC (arrOf (chL xss zs n 1 (-1)))).toArray] w (NewV (chL xss zs n 1 (-1)) w)) := Lib.hid (fun h w => by rw [arrOf_ok h]; exact ilist_any w _ (isok_len h))
      unfold ArrI at HCH
      rw [← HTE.out] at HCH
      rw [show chL xss zs n 1 (-1) = unpL xss zs (n : Int) from rfl] at HCH HAL HAO HLA
      obtain ⟨pl, hpl⟩ : ∃ p, p = unpL xss zs (n : Int) := ⟨_, rfl⟩
      rw [← hpl] at HCH HAL HAO HLA HR
      obtain ⟨A, hA⟩ : ∃ A, A = isC (arrOf pl) := ⟨_, rfl⟩
      rw [← hA] at HCH HAL HAO HLA
      obtain ⟨g, hg⟩ : ∃ g, g = isok pl := ⟨_, rfl⟩
      rw [← hg] at HCH HLA HR
      clear hbo hs hy hpl hA hg
      have HIT : Hid (∀ w, Calls Try.prog 91 #[.int .i64 y.k] w (Says (isTab y.k) w)) := Lib.hid (fun w => isTable_any w y.k)
      obtain ⟨r, hr⟩ : ∃ r, r = isTab y.k := ⟨_, rfl⟩
      rw [← hr] at HIT HR
      have hyr := HYR.out
      obtain ⟨c0, c1, c2⟩ := HTY.out w2 HV.out.at0
      have HAB : Hid (∀ o, Below w2.heap.size w2 (w2.alloc o)) := Lib.hid (fun o => (Below.refl _ _).alloc (Nat.le_refl _) _)
      clear hr
      go_wp2_with (first | ((with_reducible refine alloc_is 83 ?_); refine alloc_arr 83 zt.toArray ZT.out ?_) | ((with_reducible refine store_is 83 (.tmp 8) (.tmp 16) ?_); refine store_arr 83 (.tmp 8) (.tmp 16) w1.heap.size 0 T.toArray rfl rfl HTH.out (info_tables HTZ.out) HTO1.out ?_; rw [show T.toArray.toList = T from rfl, ← HXE.out, ← HW2.out]) | fail)
      refine (HBL.out _).mono ?_
      rintro e w' ⟨rfl, rfl⟩
      go_wp2_with fail
      refine (HIT.out _).mono ?_
      rintro e w' ⟨rfl, rfl⟩
      obtain ⟨w6, hw6⟩ : ∃ w6, w6 = w2.alloc (.cells #[.int .i64 y.k, .string ⟨y.g.toArray⟩, .int .i64 y.r] 36) := ⟨_, rfl⟩
      have HB6 : Hid (Below w2.heap.size w2 w6) := Lib.hid (by rw [hw6]; exact HAB.out _)
      have HV6 := Lib.hid (HV.out.after HB6.out)
      have HT6 : Hid (Tri w6 w2.heap.size 0 y) := Lib.hid (by rw [hw6]; exact tri_new w2 y _)
      obtain ⟨d0, d1, d2⟩ := HT6.out
      rw [← hw6]
      clear hw6 HAB c0 c1 c2
      cases r with
      | false =>
        have HE : res = (zs, 1) := by rw [HR.out, if_neg (by simp)]
        subst HE
        go_wp2_with (first | ((with_reducible refine load_is 81 (.tmp 38) ?_); refine load_arr 81 (.tmp 38) X 48 B _ rfl (HTI.out _ _ HV6.out.at0) Try.underlying81 rfl (info_infos HB.out) ?_) | fail)
        refine (HLI.out _).mono ?_
        rintro e wz ⟨u, rfl, hr, hb⟩
        have BZ := Lib.hid (HV6.out.bel.trans (hb.mono HV6.out.bel.size))
        have RZ := Lib.hid (hr.wide HV6.out.bel.size (Nat.le_refl _))
        clear hr hb
        go_wp2_with fail
        go_ret2
        exact ⟨_, rfl, RZ.out, BZ.out⟩
      | true =>
        by_cases h0 : y.r = 0
        · have h0' : (y.r != 0) = false := by simpa using h0
          cases g with
          | false =>
            have HE : res = (zs, 2) := by rw [HR.out, if_pos ⟨rfl, by omega⟩, if_neg (by simp)]
            subst HE
            clear h0
            go_wp2_with (first | ((with_reducible refine load_is 83 (.tmp 8) ?_); refine load_arr 83 (.tmp 8) X 0 T _ rfl HV6.out.at0 Try.underlying83 rfl (info_tables HT.out) ?_) | fail)
            refine (HCH.out _).mono ?_
            rintro e w7 ⟨rfl, hb7⟩
            have HV7 := Lib.hid (HV6.out.after hb7)
            have HM7 := Lib.hid (VarL.make (Z := zi.toArray) (L := A) 81 HV7.out.bel (by rw [List.size_toArray, HZI.out, HAL.out]))
            obtain ⟨Z, hZ⟩ : ∃ Z, Z = w7.heap.size := ⟨_, rfl⟩
            have HXZ : Hid (X < Z) := Lib.hid (by rw [hZ]; exact HV7.out.hi)
            have HZLE : Hid (w.heap.size ≤ Z) := Lib.hid (by rw [hZ]; exact HV7.out.bel.size)
            have HV8a := Lib.hid ((HV7.out.after ((Below.refl _ _).alloc (Nat.le_refl _) (.cells zi.toArray 81))).other HZLE.out (by have := HXZ.out; omega) 0 A)
            rw [← hZ] at HM7
            obtain ⟨w8, hw8⟩ : ∃ w8, w8 = (w7.alloc (.cells zi.toArray 81)).setCells Z 0 A := ⟨_, rfl⟩
            rw [← hw8] at HM7 HV8a
            have HZE := Lib.hid hZ
            have HW8 := Lib.hid hw8
            have HTA : Hid ((w7.alloc (.cells zi.toArray 81)).there w7.heap.size 0 A.toArray.size) := Lib.hid (by rw [← HZE.out, List.size_toArray]; exact HM7.out.1)
            have HAZ : Hid (A.toArray.size = 36) := Lib.hid (by rw [List.size_toArray, HAL.out])
            have HV8 := HV8a
            have HK8 := Lib.hid HM7.out.2
            clear hb7 hZ hw8 HM7 HV8a
            go_wp2_with (first | ((with_reducible refine alloc_is 81 ?_); refine alloc_arr 81 zi.toArray ZI.out ?_) | ((with_reducible refine store_is 81 (.tmp 11) (.tmp 45) ?_); refine store_arr 81 (.tmp 11) (.tmp 45) w7.heap.size 0 A.toArray rfl rfl HTA.out (info_infos HAZ.out) HAO.out ?_; rw [show A.toArray.toList = A from rfl, ← HZE.out, ← HW8.out]) | ((with_reducible refine load_is 81 (.tmp 49) ?_); refine load_arr 81 (.tmp 49) X 48 B _ rfl (HTI.out _ _ HV8.out.at0) Try.underlying81 rfl (info_infos HB.out) ?_) | fail)
            refine (HLI.out _).mono ?_
            rintro e wz ⟨u, rfl, hr, hb⟩
            have BZ := Lib.hid (HV8.out.bel.trans (hb.mono HV8.out.bel.size))
            have RZ := Lib.hid (hr.wide HV8.out.bel.size (Nat.le_refl _))
            clear hr hb
            go_wp2_with fail
            go_ret2
            exact ⟨_, rfl, RZ.out, BZ.out⟩
          | true =>
            have HE : res = (pl, 0) := by rw [HR.out, if_pos ⟨rfl, by omega⟩, if_pos rfl]
            subst HE
            clear h0
            have HLA' := Lib.hid (HLA.out rfl)
            go_wp2_with (first | ((with_reducible refine load_is 83 (.tmp 8) ?_); refine load_arr 83 (.tmp 8) X 0 T _ rfl HV6.out.at0 Try.underlying83 rfl (info_tables HT.out) ?_) | fail)
            refine (HCH.out _).mono ?_
            rintro e w7 ⟨rfl, hb7⟩
            have HV7 := Lib.hid (HV6.out.after hb7)
            have HM7 := Lib.hid (VarL.make (Z := zi.toArray) (L := A) 81 HV7.out.bel (by rw [List.size_toArray, HZI.out, HAL.out]))
            obtain ⟨Z, hZ⟩ : ∃ Z, Z = w7.heap.size := ⟨_, rfl⟩
            have HXZ : Hid (X < Z) := Lib.hid (by rw [hZ]; exact HV7.out.hi)
            have HZLE : Hid (w.heap.size ≤ Z) := Lib.hid (by rw [hZ]; exact HV7.out.bel.size)
            have HV8a := Lib.hid ((HV7.out.after ((Below.refl _ _).alloc (Nat.le_refl _) (.cells zi.toArray 81))).other HZLE.out (by have := HXZ.out; omega) 0 A)
            rw [← hZ] at HM7
            obtain ⟨w8, hw8⟩ : ∃ w8, w8 = (w7.alloc (.cells zi.toArray 81)).setCells Z 0 A := ⟨_, rfl⟩
            rw [← hw8] at HM7 HV8a
            have HZE := Lib.hid hZ
            have HW8 := Lib.hid hw8
            have HTA : Hid ((w7.alloc (.cells zi.toArray 81)).there w7.heap.size 0 A.toArray.size) := Lib.hid (by rw [← HZE.out, List.size_toArray]; exact HM7.out.1)
            have HAZ : Hid (A.toArray.size = 36) := Lib.hid (by rw [List.size_toArray, HAL.out])
            have HV8 := HV8a
            have HK8 := Lib.hid HM7.out.2
            clear hb7 hZ hw8 HM7 HV8a
            go_wp2_with (first | ((with_reducible refine alloc_is 81 ?_); refine alloc_arr 81 zi.toArray ZI.out ?_) | ((with_reducible refine store_is 81 (.tmp 11) (.tmp 45) ?_); refine store_arr 81 (.tmp 11) (.tmp 45) w7.heap.size 0 A.toArray rfl rfl HTA.out (info_infos HAZ.out) HAO.out ?_; rw [show A.toArray.toList = A from rfl, ← HZE.out, ← HW8.out]) | ((with_reducible refine load_is 81 (.tmp 11) ?_); refine load_arr 81 (.tmp 11) Z 0 A _ rfl HK8.out.at0 Try.underlying81 rfl (info_infos HAL.out) ?_) | fail)
            refine (HLA'.out _).mono ?_
            rintro e wz ⟨u, rfl, hr, hb⟩
            have BZ := Lib.hid (HV8.out.bel.trans (hb.mono HV8.out.bel.size))
            have RZ := Lib.hid (hr.wide HV8.out.bel.size (Nat.le_refl _))
            clear hr hb
            go_wp2_with fail
            go_ret2
            exact ⟨_, rfl, RZ.out, BZ.out⟩
        · have h0' : (y.r != 0) = true := by simpa using h0
          have HE : res = (zs, 1) := by rw [HR.out, if_neg (fun h => h0 (by omega))]
          subst HE
          clear h0
          go_wp2_with (first | ((with_reducible refine load_is 81 (.tmp 38) ?_); refine load_arr 81 (.tmp 38) X 48 B _ rfl (HTI.out _ _ HV6.out.at0) Try.underlying81 rfl (info_infos HB.out) ?_) | fail)
          refine (HLI.out _).mono ?_
          rintro e wz ⟨u, rfl, hr, hb⟩
          have BZ := Lib.hid (HV6.out.bel.trans (hb.mono HV6.out.bel.size))
          have RZ := Lib.hid (hr.wide HV6.out.bel.size (Nat.le_refl _))
          clear hr hb
          go_wp2_with fail
          go_ret2
          exact ⟨_, rfl, RZ.out, BZ.out⟩
  · have HF := HNO.out hcase
    subst HF
    clear HYS
    go_enter Try.func41, Try.ntmps41
    go_wp2_with fail
    refine HTO.out.mono ?_
    rintro e w1 ⟨rfl, hb1⟩
    have HM1 := Lib.hid (VarL.make (Z := zt.toArray) (L := T) 83 hb1 (by rw [List.size_toArray, HZT.out, HT.out]))
    obtain ⟨X, hX⟩ : ∃ X, X = w1.heap.size := ⟨_, rfl⟩
    rw [← hX] at HM1
    obtain ⟨w2, hw2⟩ : ∃ w2, w2 = (w1.alloc (.cells zt.toArray 83)).setCells X 0 T := ⟨_, rfl⟩
    rw [← hw2] at HM1
    have HXE := Lib.hid hX
    have HW2 := Lib.hid hw2
    have HTH : Hid ((w1.alloc (.cells zt.toArray 83)).there w1.heap.size 0 T.toArray.size) := Lib.hid (by rw [← HXE.out, List.size_toArray]; exact HM1.out.1)
    have HTZ : Hid (T.toArray.size = 84) := Lib.hid (by rw [List.size_toArray, HT.out])
    have HV := Lib.hid HM1.out.2
    clear hb1 hX hw2 HM1
    cases r1 with
    | false =>
      go_wp2_with (first | ((with_reducible refine alloc_is 83 ?_); refine alloc_arr 83 zt.toArray ZT.out ?_) | ((with_reducible refine store_is 83 (.tmp 8) (.tmp 16) ?_); refine store_arr 83 (.tmp 8) (.tmp 16) w1.heap.size 0 T.toArray rfl rfl HTH.out (info_tables HTZ.out) HTO1.out ?_; rw [show T.toArray.toList = T from rfl, ← HXE.out, ← HW2.out]) | fail)
      go_ret2
      exact ⟨_, rfl, isW_none, HV.out.bel⟩
    | true =>
      have e : r2 = false := by simpa using hcase
      subst e
      clear hcase
      go_wp2_with (first | ((with_reducible refine alloc_is 83 ?_); refine alloc_arr 83 zt.toArray ZT.out ?_) | ((with_reducible refine store_is 83 (.tmp 8) (.tmp 16) ?_); refine store_arr 83 (.tmp 8) (.tmp 16) w1.heap.size 0 T.toArray rfl rfl HTH.out (info_tables HTZ.out) HTO1.out ?_; rw [show T.toArray.toList = T from rfl, ← HXE.out, ← HW2.out]) | fail)
      refine (HBL.out _).mono ?_
      rintro e w' ⟨rfl, rfl⟩
      go_wp2_with fail
      go_ret2
      exact ⟨_, rfl, isW_none, HV.out.bel⟩
end Go.Proofs.Yticnfekjbknomaa
/- What the program's TablePin answers. -/
namespace Go.Proofs.Yticnfekjbknomaa
open Go.ChangeShapes Go.WideShapes Go.ChangeAt Go.RowKit Go.Maps
set_option linter.unusedVariables false
set_option linter.unusedSimpArgs false

set_option maxRecDepth 100000 in
set_option maxHeartbeats 4000000 in
theorem itp_any : ITP := by
  intro w vm vl vr xss ys rs f k hm hl hs hr hsr
  have HTO := Lib.hid (tablesOf_any w vm vl xss ys hm hl hs)
  have HB : Hid ((isC (arrOf ys)).length = 36) := Lib.hid (isC_36 (arrOf_len ys))
  have HT : Hid ((tC xss (arrOf ys)).length = 84) := Lib.hid (tC_len xss (arrOf_len ys))
  have HTO1 : Hid ((tC xss (arrOf ys)).toArray.all (·.oneCell') = true) := Lib.hid (tC_one _ _)
  have HTI : Hid (∀ (W : World) b, W.rangeAt b 0 (tC xss (arrOf ys)) → W.rangeAt b 48 (isC (arrOf ys))) := Lib.hid (fun W b h => range_right h (by rw [mC_len]))
  have HTR : Hid (memOk xss = true → ∀ (W : World) X t, t < 12 → W.rangeAt X 0 (tC xss (arrOf ys)) → W.rangeAt X (t * 4) ((xss.getD t []).map (Value.int .i64))) := Lib.hid (fun hm W X t ht h => row_range hm h ht)
  have HAY : Hid (isok ys = true → arrOf ys = ys) := Lib.hid arrOf_ok
  have HRU : Hid (∀ w', Below w.heap.size w w' → Calls Try.prog 69 #[.agg (tC xss (arrOf ys)).toArray, .int .i64 f, .int .i64 k, vr] w' (RuleR (arrOf ys) f k rs w')) := Lib.hid (fun w' hb => rule_any w' xss (arrOf ys) (arrOf_len ys) vr rs f k (hr.below hb) hsr)
  have ZR := Lib.hid zero_rule
  obtain ⟨zr, hzr⟩ : ∃ z, z = Z39 := ⟨_, rfl⟩
  rw [← hzr] at ZR
  have HZR : Hid (zr.length = 39) := Lib.hid (by rw [hzr]; rfl)
  unfold ArrT at HTO
  have ZT := Lib.hid zero_tables
  obtain ⟨zt, hzt⟩ : ∃ z, z = Z84 := ⟨_, rfl⟩
  rw [← hzt] at ZT
  have HZT : Hid (zt.length = 84) := Lib.hid (by rw [hzt]; rfl)
  have HLI : Hid (∀ w, Calls Try.prog 87 #[.agg (isC (arrOf ys)).toArray] w (NewV (arrOf ys) w)) := Lib.hid (fun w => ilist_any w _ (arrOf_len ys))
  have HNO : Hid (¬ ((memOk xss && isok ys) = true ∧ rok8 f k rs = true) → tpin xss ys f k rs = ([], 3)) := Lib.hid (fun h => by
    unfold tpin
    rw [if_neg]
    intro hh
    exact h (args_iff.1 (targs_iff.1 hh)))
  have HYS : Hid ((memOk xss && isok ys) = true → rok8 f k rs = true → tpin xss ys f k rs = if (ys.getD f.toNat iz).k = 1 ∧ (ys.getD f.toNat iz).r ≤ 0 then if rall ys ((f.toNat : Nat) : Int) (tneeds k) (xss.getD f.toNat []) rs = true then if isok (pinL xss ys f k) = true then (pinL xss ys f k, 0) else (ys, 1) else (ys, 2) else (ys, 1)) := Lib.hid (fun h h2 => by
    obtain ⟨h3, h4, h5⟩ := rok8_iff.1 h2
    rw [rall_good h5, show ((f.toNat : Nat) : Int) = f by omega]
    exact tpin_eq (args_iff.2 ⟨h, h2⟩))
  have HAA : Hid (memOk xss = true → isok ys = true → ∀ n : Nat, n < 12 → ∀ W b, SetAt W b rs → Calls Try.prog 70 #[.agg (rcC ys (n : Int) (tneeds k) (some b)).toArray, .agg ((xss.getD n []).map (Value.int .i64)).toArray] W (BRes (rall ys (n : Int) (tneeds k) (xss.getD n []) rs) W)) := Lib.hid (fun h1 h2 n hn W b hset => allowsAll_any W ys (isok_len h2) hs (n : Int) (tneeds k) _ (mem_row h1 hn) (fun i hi => mem_word h1 hn hi) b rs hset)
  have HLM : Hid (memOk xss = true → ∀ n : Nat, n < 12 → ((xss.getD n []).map (Value.int .i64)).length = 4) := Lib.hid (fun h n hn => by rw [List.length_map]; exact mem_row h hn)
  obtain ⟨zs, hzs⟩ : ∃ zs, zs = arrOf ys := ⟨_, rfl⟩
  rw [← hzs] at HTO HB HT HTO1 HTI HTR HAY HLI HRU
  have HZS := Lib.hid hzs
  obtain ⟨T, hT⟩ : ∃ T, T = tC xss zs := ⟨_, rfl⟩
  rw [← hT] at HTO HT HTO1 HTI HTR HRU
  have HTE := Lib.hid hT
  obtain ⟨r1, hr1⟩ : ∃ r, r = (memOk xss && isok ys) := ⟨_, rfl⟩
  rw [← hr1] at HTO
  have HR1 := Lib.hid hr1
  unfold RuleR at HRU
  obtain ⟨res, hres⟩ : ∃ r, r = tpin xss ys f k rs := ⟨_, rfl⟩
  rw [← hres] at HNO HYS ⊢
  rw [← HR1.out] at HNO HYS
  obtain ⟨r2, hr2⟩ : ∃ r, r = rok8 f k rs := ⟨_, rfl⟩
  rw [← hr2] at HRU HNO HYS
  have HR2 := Lib.hid hr2
  obtain ⟨B, hB⟩ : ∃ B, B = isC zs := ⟨_, rfl⟩
  rw [← hB] at HB HTI HLI
  have HBE := Lib.hid hB
  have ZI := Lib.hid zero_infos
  obtain ⟨zi, hzi⟩ : ∃ z, z = isC z12 := ⟨_, rfl⟩
  rw [← hzi] at ZI
  have HZI : Hid (zi.length = 36) := Lib.hid (by rw [hzi]; exact isC_36 z12_len)
  clear hm hl hr hsr hzt hzr hzs hT hr1 hr2 hres hB hzi
  go_enter Try.func37, Try.ntmps37
  go_wp2_with fail
  refine HTO.out.mono ?_
  rintro e w1 ⟨rfl, hb1⟩
  have HM1 := Lib.hid (VarL.make (Z := zt.toArray) (L := T) 83 hb1 (by rw [List.size_toArray, HZT.out, HT.out]))
  obtain ⟨X, hX⟩ : ∃ X, X = w1.heap.size := ⟨_, rfl⟩
  rw [← hX] at HM1
  obtain ⟨w2, hw2⟩ : ∃ w2, w2 = (w1.alloc (.cells zt.toArray 83)).setCells X 0 T := ⟨_, rfl⟩
  rw [← hw2] at HM1
  have HXE := Lib.hid hX
  have HW2 := Lib.hid hw2
  have HTH : Hid ((w1.alloc (.cells zt.toArray 83)).there w1.heap.size 0 T.toArray.size) := Lib.hid (by rw [← HXE.out, List.size_toArray]; exact HM1.out.1)
  have HTZ : Hid (T.toArray.size = 84) := Lib.hid (by rw [List.size_toArray, HT.out])
  have HV := Lib.hid HM1.out.2
  clear hb1 hX hw2 HM1
  go_wp2_with (first | ((with_reducible refine alloc_is 83 ?_); refine alloc_arr 83 zt.toArray ZT.out ?_) | ((with_reducible refine store_is 83 (.tmp 12) (.tmp 22) ?_); refine store_arr 83 (.tmp 12) (.tmp 22) w1.heap.size 0 T.toArray rfl rfl HTH.out (info_tables HTZ.out) HTO1.out ?_; rw [show T.toArray.toList = T from rfl, ← HXE.out, ← HW2.out]) | ((with_reducible refine load_is 83 (.tmp 12) ?_); refine load_arr 83 (.tmp 12) X 0 T _ rfl HV.out.at0 Try.underlying83 rfl (info_tables HT.out) ?_) | fail)
  refine (HRU.out _ HV.out.bel).mono ?_
  rintro e w3 ⟨C, rfl, hC, hCO, hCR, hb3⟩
  have HCL := Lib.hid hC
  have HCO := Lib.hid hCO
  have HCR := Lib.hid hCR
  have HV3 := Lib.hid (HV.out.after hb3)
  have HM3 := Lib.hid (VarL.make (Z := zr.toArray) (L := C) 89 HV3.out.bel (by rw [List.size_toArray, HZR.out, HCL.out]))
  obtain ⟨Y, hY⟩ : ∃ Y, Y = w3.heap.size := ⟨_, rfl⟩
  have HXY : Hid (X < Y) := Lib.hid (by rw [hY]; exact HV3.out.hi)
  have HYL : Hid (w.heap.size ≤ Y) := Lib.hid (by rw [hY]; exact HV3.out.bel.size)
  have HV4a := Lib.hid ((HV3.out.after ((Below.refl _ _).alloc (Nat.le_refl _) (.cells zr.toArray 89))).other HYL.out (by have := HXY.out; omega) 0 C)
  have HSB : Hid (∀ b, SetAt w3 b rs → SetAt ((w3.alloc (.cells zr.toArray 89)).setCells Y 0 C) b rs) := Lib.hid (fun b h => (h.below ((Below.refl _ _).alloc (Nat.le_refl _) _)).kept (row := some Y) (grown_setN _ Y C) (by have := h.lt; intro e; injection e with e; omega))
  rw [← hY] at HM3
  obtain ⟨w4, hw4⟩ : ∃ w4, w4 = (w3.alloc (.cells zr.toArray 89)).setCells Y 0 C := ⟨_, rfl⟩
  rw [← hw4] at HM3 HV4a HSB
  have HYE := Lib.hid hY
  have HW4 := Lib.hid hw4
  have HTC : Hid ((w3.alloc (.cells zr.toArray 89)).there w3.heap.size 0 C.toArray.size) := Lib.hid (by rw [← HYE.out, List.size_toArray]; exact HM3.out.1)
  have HCZ : Hid (C.toArray.size = 39) := Lib.hid (by rw [List.size_toArray, HCL.out])
  have HV4 := HV4a
  have HR4 := Lib.hid HM3.out.2
  clear hb3 hY hw4 HM3 hC hCO hCR HV4a
  by_cases hcase : (r1 = true ∧ r2 = true)
  · obtain ⟨rfl, rfl⟩ := hcase
    have hbo := both_iff.1 HR1.out.symm
    have hin := (rok8_iff.1 HR2.out.symm).2.1
    obtain ⟨n, rfl⟩ : ∃ n : Nat, f = (n : Int) := ⟨f.toNat, by omega⟩
    have hn : n < 12 := by omega
    have HR := Lib.hid (HYS.out rfl rfl)
    have hzy := HAY.out hbo.2
    subst hzy
    obtain ⟨b, hCE, hset⟩ := HCR.out rfl
    subst hCE
    have HST := Lib.hid (HSB.out b hset)
    clear HNO HYS hin hset
    · obtain ⟨y, hy⟩ : ∃ y, y = zs.getD n iz := ⟨_, rfl⟩
      have HTY := Lib.hid (fun (W : World) (h : W.rangeAt X 0 T) => (tri_off (by rw [← HBE.out]; exact HTI.out _ _ h) (show n < zs.length by rw [isok_len hbo.2]; exact hn) : Tri W X (48 + n * 3) (zs.getD n iz)))
      have HYR := Lib.hid (iok_refs (isok_at hbo.2 (show n < zs.length by rw [isok_len hbo.2]; exact hn)))
      rw [← hy] at HTY HYR
      rw [Int.toNat_natCast] at HR
      rw [← hy] at HR
      have HIX := run_indexAt_off (P := Try.prog) 81 12 36 3 Try.underlying81 size_info (by omega) X 48 n hn
      have hn0 : (0 : Int) ≤ (n : Int) := by omega
      have hn1 : (n : Int) < 12 := by omega
      have HCH := Lib.hid (fun w => changed_any w xss zs hbo.1 hbo.2 hs n hn k 1 (.inl rfl))
      have HAL : Hid ((isC (arrOf (chL xss zs n k 1))).length = 36) := Lib.hid (isC_36 (arrOf_len _))
      have HAO : Hid ((isC (arrOf (chL xss zs n k 1))).toArray.all (·.oneCell') = true) := Lib.hid (isC_all _)
      have HLA : Hid (isok (chL xss zs n k 1) = true → ∀ w, Calls Try.prog 87 #[.agg (isC (arrOf (chL xss zs n k 1))).toArray] w (NewV (chL xss zs n k 1) w)) := Lib.hid (fun h w => by rw [arrOf_ok h]; exact ilist_any w _ (isok_len h))
      unfold ArrI at HCH
      rw [← HTE.out] at HCH
      rw [show chL xss zs n k 1 = pinL xss zs (n : Int) k from rfl] at HCH HAL HAO HLA
      obtain ⟨pl, hpl⟩ : ∃ p, p = pinL xss zs (n : Int) k := ⟨_, rfl⟩
      rw [← hpl] at HCH HAL HAO HLA HR
      obtain ⟨A, hA⟩ : ∃ A, A = isC (arrOf pl) := ⟨_, rfl⟩
      rw [← hA] at HCH HAL HAO HLA
      obtain ⟨g, hg⟩ : ∃ g, g = isok pl := ⟨_, rfl⟩
      rw [← hg] at HCH HLA HR
      have HRM := Lib.hid (fun (W : World) h => HTR.out hbo.1 W X n hn h)
      have HLM' := Lib.hid (HLM.out hbo.1 n hn)
      have HA := Lib.hid (fun W h => HAA.out hbo.1 hbo.2 n hn W b h)
      have HXM := run_indexAt_arr (P := Try.prog) 79 12 77 4 Try.underlying79 size_words (by omega) X n hn
      obtain ⟨M, hM⟩ : ∃ M, M = (xss.getD n []).map (Value.int .i64) := ⟨_, rfl⟩
      obtain ⟨C, hC⟩ : ∃ C, C = rcC zs (n : Int) (tneeds k) (some b) := ⟨_, rfl⟩
      rw [← hM] at HA HRM HLM'
      rw [← hC] at HA HCL HCO HR4 HTC HCZ HW4
      have HIW : Hid ((Try.prog.info? 77).map (·.size) = some M.length) := Lib.hid (by rw [HLM'.out]; exact info_words)
      obtain ⟨q, hq2⟩ : ∃ q, q = rall zs (n : Int) (tneeds k) (xss.getD n []) rs := ⟨_, rfl⟩
      rw [← hq2] at HA HR
      rw [← hC]
      have hyr := HYR.out
      obtain ⟨c0, c1, c2⟩ := HTY.out w4 HV4.out.at0
      obtain ⟨w6, hw6⟩ : ∃ w6, w6 = w4.alloc (.cells #[.int .i64 y.k, .string ⟨y.g.toArray⟩, .int .i64 y.r] 36) := ⟨_, rfl⟩
      have HB6 : Hid (Below w4.heap.size w4 w6) := Lib.hid (by rw [hw6]; exact (Below.refl _ _).alloc (Nat.le_refl _) _)
      have HV6 := Lib.hid (HV4.out.after HB6.out)
      have HR6 := Lib.hid (HR4.out.after HB6.out)
      have HS6 := Lib.hid (HST.out.below HB6.out)
      have HW6 := Lib.hid hw6
      clear hbo hs hy hpl hA hg hM hC hq2 hw6
      by_cases h1 : y.k = 1
      · have h1' : (y.k != 1) = false := by simpa using h1
        have H1 := Lib.hid h1
        clear h1
        by_cases h0 : y.r = 0
        · have H0 := Lib.hid h0
          have h0' : (y.r != 0) = false := by simpa using h0
          clear h0
          have HA6 := Lib.hid (HA.out w6.drew (HS6.out.below ((Below.refl _ _).drew)))
          have HRM6 := Lib.hid (HRM.out w6 HV6.out.at0)
          go_wp2_with (first | ((with_reducible refine alloc_is 89 ?_); refine alloc_arr 89 zr.toArray ZR.out ?_) | ((with_reducible refine store_is 89 (.tmp 14) (.tmp 30) ?_); refine store_arr 89 (.tmp 14) (.tmp 30) w3.heap.size 0 C.toArray rfl rfl HTC.out (info_rule HCZ.out) HCO.out ?_; rw [show C.toArray.toList = C from rfl, ← HYE.out, ← HW4.out]) | fail)
          rw [← HW6.out]
          cases q with
          | false =>
            have HE : res = (zs, 2) := by rw [HR.out, if_pos ⟨H1.out, by have := H0.out; omega⟩, if_neg (by simp)]
            subst HE
            refine wp_region_held_drew (S := fun w' => w'.rangeAt Y 0 C ∧ w'.rangeAt X (n * 4) M) (by kernel_rfl) ⟨HR6.out.at0, HRM6.out⟩ (fun hHeld => ?_)
            refine wpAnyH_take (i := 0) (oi := { dst := some 53, op := .load 89 (.tmp 14), type := _, pos := _, after := _, guard := none }) (v := .agg C.toArray) rfl (by kernel_rfl) (by kernel_rfl) (by kernel_rfl) (fun _ _ _ h => h) (Or.inl ⟨by rfl, fun wh hSw => ?_⟩) hHeld ?_
            · (simp only [execOp]; exact load_run 89 Y 0 C _ hSw.1 Try.underlying89 rfl (info_rule HCL.out))
            try simp only [Act.put, List.setIfInBounds_toArray, List.set_cons_zero, List.set_cons_succ]
            refine wpAnyH_take (i := 1) (oi := { dst := some 54, op := .move (.tmp 2), type := _, pos := _, after := _, guard := none }) (v := .int .i64 (n : Int)) rfl (by kernel_rfl) (by kernel_rfl) (by kernel_rfl) (fun _ _ _ h => h) (Or.inl ⟨by rfl, fun wh hSw => ?_⟩) hHeld ?_
            · (go_simp)
            try simp only [Act.put, List.setIfInBounds_toArray, List.set_cons_zero, List.set_cons_succ]
            refine wpAnyH_take (i := 2) (oi := { dst := some 55, op := .fieldAddr 83 (.tmp 12) 0, type := _, pos := _, after := _, guard := none }) (v := .pointer (some ⟨X, 0, none⟩)) rfl (by kernel_rfl) (by kernel_rfl) (by kernel_rfl) (fun _ _ _ h => h) (Or.inl ⟨by rfl, fun wh hSw => ?_⟩) hHeld ?_
            · (go_simp)
            try simp only [Act.put, List.setIfInBounds_toArray, List.set_cons_zero, List.set_cons_succ]
            refine wpAnyH_take (i := 3) (oi := { dst := some 56, op := .indexAddr 79 (.tmp 55) (.tmp 54), type := _, pos := _, after := _, guard := none }) (v := .pointer (some ⟨X, n * 4, none⟩)) rfl (by kernel_rfl) (by kernel_rfl) (by kernel_rfl) (fun _ _ _ h => h) (Or.inl ⟨by rfl, fun wh hSw => ?_⟩) hHeld ?_
            · (go_simp)
            try simp only [Act.put, List.setIfInBounds_toArray, List.set_cons_zero, List.set_cons_succ]
            refine wpAnyH_take (i := 4) (oi := { dst := some 57, op := .load 77 (.tmp 56), type := _, pos := _, after := _, guard := none }) (v := .agg M.toArray) rfl (by kernel_rfl) (by kernel_rfl) (by kernel_rfl) (fun _ _ _ h => h) (Or.inl ⟨by rfl, fun wh hSw => ?_⟩) hHeld ?_
            · (simp only [execOp]; exact load_run 77 X (n * 4) M _ hSw.2 Try.underlying77 rfl HIW.out)
            try simp only [Act.put, List.setIfInBounds_toArray, List.set_cons_zero, List.set_cons_succ]
            refine wpAnyH_ready (rs := [5]) (by kernel_rfl) (by simp) ?_
            refine AllReadyH.cons (o := { dst := some 58, op := .call { callee := .value (.func 70), args := #[.tmp 53, .tmp 57], argTypes := #[89, 77] }, type := _, pos := _, after := _, guard := none }) rfl (fun K hK => ?_) AllReadyH.nil
            go_simp
            refine HA6.out.mono ?_
            rintro e w9 ⟨rfl, hb5⟩
            have HB5 := Lib.hid hb5
            clear hb5
            try go_simp
            refine hK.out _ _ ?_ (fun hHeld => ?_)
            · exact ⟨range_blocks hHeld.1 (HB5.out.block Y HR6.out.hi), range_blocks hHeld.2 (HB5.out.block X HV6.out.hi)⟩
            clear hK K
            try simp only [Act.put, List.setIfInBounds_toArray, List.set_cons_zero, List.set_cons_succ]
            refine wpAnyH_take (i := 6) (oi := { dst := some 59, op := .unOp .not 4 (.tmp 58), type := _, pos := _, after := _, guard := none }) (v := .bool true) rfl (by kernel_rfl) (by kernel_rfl) (by kernel_rfl) (fun _ _ _ h => h) (Or.inl ⟨by rfl, fun wh hSw => ?_⟩) hHeld ?_
            · (go_simp)
            try simp only [Act.put, List.setIfInBounds_toArray, List.set_cons_zero, List.set_cons_succ]
            refine wpAnyH_done (by kernel_rfl) ?_ _
            have HV9 := Lib.hid (HV6.out.after ((Below.refl _ _).drew.trans HB5.out))
            go_wp2_with (first | ((with_reducible refine load_is 81 (.tmp 60) ?_); refine load_arr 81 (.tmp 60) X 48 B _ rfl (HTI.out _ _ HV9.out.at0) Try.underlying81 rfl (info_infos HB.out) ?_) | fail)
            refine (HLI.out _).mono ?_
            rintro e wz ⟨u, rfl, hr, hb⟩
            have BZ := Lib.hid (HV9.out.bel.trans (hb.mono HV9.out.bel.size))
            have RZ := Lib.hid (hr.wide HV9.out.bel.size (Nat.le_refl _))
            clear hr hb
            go_wp2_with fail
            go_ret2
            exact ⟨_, rfl, RZ.out, BZ.out⟩
          | true =>
            cases g with
            | false =>
              have HE : res = (zs, 1) := by rw [HR.out, if_pos ⟨H1.out, by have := H0.out; omega⟩, if_pos rfl, if_neg (by simp)]
              subst HE
              refine wp_region_held_drew (S := fun w' => w'.rangeAt Y 0 C ∧ w'.rangeAt X (n * 4) M) (by kernel_rfl) ⟨HR6.out.at0, HRM6.out⟩ (fun hHeld => ?_)
              refine wpAnyH_take (i := 0) (oi := { dst := some 53, op := .load 89 (.tmp 14), type := _, pos := _, after := _, guard := none }) (v := .agg C.toArray) rfl (by kernel_rfl) (by kernel_rfl) (by kernel_rfl) (fun _ _ _ h => h) (Or.inl ⟨by rfl, fun wh hSw => ?_⟩) hHeld ?_
              · (simp only [execOp]; exact load_run 89 Y 0 C _ hSw.1 Try.underlying89 rfl (info_rule HCL.out))
              try simp only [Act.put, List.setIfInBounds_toArray, List.set_cons_zero, List.set_cons_succ]
              refine wpAnyH_take (i := 1) (oi := { dst := some 54, op := .move (.tmp 2), type := _, pos := _, after := _, guard := none }) (v := .int .i64 (n : Int)) rfl (by kernel_rfl) (by kernel_rfl) (by kernel_rfl) (fun _ _ _ h => h) (Or.inl ⟨by rfl, fun wh hSw => ?_⟩) hHeld ?_
              · (go_simp)
              try simp only [Act.put, List.setIfInBounds_toArray, List.set_cons_zero, List.set_cons_succ]
              refine wpAnyH_take (i := 2) (oi := { dst := some 55, op := .fieldAddr 83 (.tmp 12) 0, type := _, pos := _, after := _, guard := none }) (v := .pointer (some ⟨X, 0, none⟩)) rfl (by kernel_rfl) (by kernel_rfl) (by kernel_rfl) (fun _ _ _ h => h) (Or.inl ⟨by rfl, fun wh hSw => ?_⟩) hHeld ?_
              · (go_simp)
              try simp only [Act.put, List.setIfInBounds_toArray, List.set_cons_zero, List.set_cons_succ]
              refine wpAnyH_take (i := 3) (oi := { dst := some 56, op := .indexAddr 79 (.tmp 55) (.tmp 54), type := _, pos := _, after := _, guard := none }) (v := .pointer (some ⟨X, n * 4, none⟩)) rfl (by kernel_rfl) (by kernel_rfl) (by kernel_rfl) (fun _ _ _ h => h) (Or.inl ⟨by rfl, fun wh hSw => ?_⟩) hHeld ?_
              · (go_simp)
              try simp only [Act.put, List.setIfInBounds_toArray, List.set_cons_zero, List.set_cons_succ]
              refine wpAnyH_take (i := 4) (oi := { dst := some 57, op := .load 77 (.tmp 56), type := _, pos := _, after := _, guard := none }) (v := .agg M.toArray) rfl (by kernel_rfl) (by kernel_rfl) (by kernel_rfl) (fun _ _ _ h => h) (Or.inl ⟨by rfl, fun wh hSw => ?_⟩) hHeld ?_
              · (simp only [execOp]; exact load_run 77 X (n * 4) M _ hSw.2 Try.underlying77 rfl HIW.out)
              try simp only [Act.put, List.setIfInBounds_toArray, List.set_cons_zero, List.set_cons_succ]
              refine wpAnyH_ready (rs := [5]) (by kernel_rfl) (by simp) ?_
              refine AllReadyH.cons (o := { dst := some 58, op := .call { callee := .value (.func 70), args := #[.tmp 53, .tmp 57], argTypes := #[89, 77] }, type := _, pos := _, after := _, guard := none }) rfl (fun K hK => ?_) AllReadyH.nil
              go_simp
              refine HA6.out.mono ?_
              rintro e w9 ⟨rfl, hb5⟩
              have HB5 := Lib.hid hb5
              clear hb5
              try go_simp
              refine hK.out _ _ ?_ (fun hHeld => ?_)
              · exact ⟨range_blocks hHeld.1 (HB5.out.block Y HR6.out.hi), range_blocks hHeld.2 (HB5.out.block X HV6.out.hi)⟩
              clear hK K
              try simp only [Act.put, List.setIfInBounds_toArray, List.set_cons_zero, List.set_cons_succ]
              refine wpAnyH_take (i := 6) (oi := { dst := some 59, op := .unOp .not 4 (.tmp 58), type := _, pos := _, after := _, guard := none }) (v := .bool false) rfl (by kernel_rfl) (by kernel_rfl) (by kernel_rfl) (fun _ _ _ h => h) (Or.inl ⟨by rfl, fun wh hSw => ?_⟩) hHeld ?_
              · (go_simp)
              try simp only [Act.put, List.setIfInBounds_toArray, List.set_cons_zero, List.set_cons_succ]
              refine wpAnyH_done (by kernel_rfl) ?_ _
              have HV9 := Lib.hid (HV6.out.after ((Below.refl _ _).drew.trans HB5.out))
              go_wp2_with (first | ((with_reducible refine load_is 83 (.tmp 12) ?_); refine load_arr 83 (.tmp 12) X 0 T _ rfl HV9.out.at0 Try.underlying83 rfl (info_tables HT.out) ?_) | fail)
              refine (HCH.out _).mono ?_
              rintro e w7 ⟨rfl, hb7⟩
              have HV7 := Lib.hid (HV9.out.after hb7)
              have HM7 := Lib.hid (VarL.make (Z := zi.toArray) (L := A) 81 HV7.out.bel (by rw [List.size_toArray, HZI.out, HAL.out]))
              obtain ⟨Z, hZ⟩ : ∃ Z, Z = w7.heap.size := ⟨_, rfl⟩
              have HXZ : Hid (X < Z) := Lib.hid (by rw [hZ]; exact HV7.out.hi)
              have HZLE : Hid (w.heap.size ≤ Z) := Lib.hid (by rw [hZ]; exact HV7.out.bel.size)
              have HV8a := Lib.hid ((HV7.out.after ((Below.refl _ _).alloc (Nat.le_refl _) (.cells zi.toArray 81))).other HZLE.out (by have := HXZ.out; omega) 0 A)
              rw [← hZ] at HM7
              obtain ⟨w8, hw8⟩ : ∃ w8, w8 = (w7.alloc (.cells zi.toArray 81)).setCells Z 0 A := ⟨_, rfl⟩
              rw [← hw8] at HM7 HV8a
              have HZE := Lib.hid hZ
              have HW8 := Lib.hid hw8
              have HTA : Hid ((w7.alloc (.cells zi.toArray 81)).there w7.heap.size 0 A.toArray.size) := Lib.hid (by rw [← HZE.out, List.size_toArray]; exact HM7.out.1)
              have HAZ : Hid (A.toArray.size = 36) := Lib.hid (by rw [List.size_toArray, HAL.out])
              have HV8 := HV8a
              have HK8 := Lib.hid HM7.out.2
              clear hb7 hZ hw8 HM7 HV8a
              go_wp2_with (first | ((with_reducible refine alloc_is 81 ?_); refine alloc_arr 81 zi.toArray ZI.out ?_) | ((with_reducible refine store_is 81 (.tmp 17) (.tmp 68) ?_); refine store_arr 81 (.tmp 17) (.tmp 68) w7.heap.size 0 A.toArray rfl rfl HTA.out (info_infos HAZ.out) HAO.out ?_; rw [show A.toArray.toList = A from rfl, ← HZE.out, ← HW8.out]) | ((with_reducible refine load_is 81 (.tmp 72) ?_); refine load_arr 81 (.tmp 72) X 48 B _ rfl (HTI.out _ _ HV8.out.at0) Try.underlying81 rfl (info_infos HB.out) ?_) | fail)
              refine (HLI.out _).mono ?_
              rintro e wz ⟨u, rfl, hr, hb⟩
              have BZ := Lib.hid (HV8.out.bel.trans (hb.mono HV8.out.bel.size))
              have RZ := Lib.hid (hr.wide HV8.out.bel.size (Nat.le_refl _))
              clear hr hb
              go_wp2_with fail
              go_ret2
              exact ⟨_, rfl, RZ.out, BZ.out⟩
            | true =>
              have HE : res = (pl, 0) := by rw [HR.out, if_pos ⟨H1.out, by have := H0.out; omega⟩, if_pos rfl, if_pos rfl]
              subst HE
              have HLA' := Lib.hid (HLA.out rfl)
              refine wp_region_held_drew (S := fun w' => w'.rangeAt Y 0 C ∧ w'.rangeAt X (n * 4) M) (by kernel_rfl) ⟨HR6.out.at0, HRM6.out⟩ (fun hHeld => ?_)
              refine wpAnyH_take (i := 0) (oi := { dst := some 53, op := .load 89 (.tmp 14), type := _, pos := _, after := _, guard := none }) (v := .agg C.toArray) rfl (by kernel_rfl) (by kernel_rfl) (by kernel_rfl) (fun _ _ _ h => h) (Or.inl ⟨by rfl, fun wh hSw => ?_⟩) hHeld ?_
              · (simp only [execOp]; exact load_run 89 Y 0 C _ hSw.1 Try.underlying89 rfl (info_rule HCL.out))
              try simp only [Act.put, List.setIfInBounds_toArray, List.set_cons_zero, List.set_cons_succ]
              refine wpAnyH_take (i := 1) (oi := { dst := some 54, op := .move (.tmp 2), type := _, pos := _, after := _, guard := none }) (v := .int .i64 (n : Int)) rfl (by kernel_rfl) (by kernel_rfl) (by kernel_rfl) (fun _ _ _ h => h) (Or.inl ⟨by rfl, fun wh hSw => ?_⟩) hHeld ?_
              · (go_simp)
              try simp only [Act.put, List.setIfInBounds_toArray, List.set_cons_zero, List.set_cons_succ]
              refine wpAnyH_take (i := 2) (oi := { dst := some 55, op := .fieldAddr 83 (.tmp 12) 0, type := _, pos := _, after := _, guard := none }) (v := .pointer (some ⟨X, 0, none⟩)) rfl (by kernel_rfl) (by kernel_rfl) (by kernel_rfl) (fun _ _ _ h => h) (Or.inl ⟨by rfl, fun wh hSw => ?_⟩) hHeld ?_
              · (go_simp)
              try simp only [Act.put, List.setIfInBounds_toArray, List.set_cons_zero, List.set_cons_succ]
              refine wpAnyH_take (i := 3) (oi := { dst := some 56, op := .indexAddr 79 (.tmp 55) (.tmp 54), type := _, pos := _, after := _, guard := none }) (v := .pointer (some ⟨X, n * 4, none⟩)) rfl (by kernel_rfl) (by kernel_rfl) (by kernel_rfl) (fun _ _ _ h => h) (Or.inl ⟨by rfl, fun wh hSw => ?_⟩) hHeld ?_
              · (go_simp)
              try simp only [Act.put, List.setIfInBounds_toArray, List.set_cons_zero, List.set_cons_succ]
              refine wpAnyH_take (i := 4) (oi := { dst := some 57, op := .load 77 (.tmp 56), type := _, pos := _, after := _, guard := none }) (v := .agg M.toArray) rfl (by kernel_rfl) (by kernel_rfl) (by kernel_rfl) (fun _ _ _ h => h) (Or.inl ⟨by rfl, fun wh hSw => ?_⟩) hHeld ?_
              · (simp only [execOp]; exact load_run 77 X (n * 4) M _ hSw.2 Try.underlying77 rfl HIW.out)
              try simp only [Act.put, List.setIfInBounds_toArray, List.set_cons_zero, List.set_cons_succ]
              refine wpAnyH_ready (rs := [5]) (by kernel_rfl) (by simp) ?_
              refine AllReadyH.cons (o := { dst := some 58, op := .call { callee := .value (.func 70), args := #[.tmp 53, .tmp 57], argTypes := #[89, 77] }, type := _, pos := _, after := _, guard := none }) rfl (fun K hK => ?_) AllReadyH.nil
              go_simp
              refine HA6.out.mono ?_
              rintro e w9 ⟨rfl, hb5⟩
              have HB5 := Lib.hid hb5
              clear hb5
              try go_simp
              refine hK.out _ _ ?_ (fun hHeld => ?_)
              · exact ⟨range_blocks hHeld.1 (HB5.out.block Y HR6.out.hi), range_blocks hHeld.2 (HB5.out.block X HV6.out.hi)⟩
              clear hK K
              try simp only [Act.put, List.setIfInBounds_toArray, List.set_cons_zero, List.set_cons_succ]
              refine wpAnyH_take (i := 6) (oi := { dst := some 59, op := .unOp .not 4 (.tmp 58), type := _, pos := _, after := _, guard := none }) (v := .bool false) rfl (by kernel_rfl) (by kernel_rfl) (by kernel_rfl) (fun _ _ _ h => h) (Or.inl ⟨by rfl, fun wh hSw => ?_⟩) hHeld ?_
              · (go_simp)
              try simp only [Act.put, List.setIfInBounds_toArray, List.set_cons_zero, List.set_cons_succ]
              refine wpAnyH_done (by kernel_rfl) ?_ _
              have HV9 := Lib.hid (HV6.out.after ((Below.refl _ _).drew.trans HB5.out))
              go_wp2_with (first | ((with_reducible refine load_is 83 (.tmp 12) ?_); refine load_arr 83 (.tmp 12) X 0 T _ rfl HV9.out.at0 Try.underlying83 rfl (info_tables HT.out) ?_) | fail)
              refine (HCH.out _).mono ?_
              rintro e w7 ⟨rfl, hb7⟩
              have HV7 := Lib.hid (HV9.out.after hb7)
              have HM7 := Lib.hid (VarL.make (Z := zi.toArray) (L := A) 81 HV7.out.bel (by rw [List.size_toArray, HZI.out, HAL.out]))
              obtain ⟨Z, hZ⟩ : ∃ Z, Z = w7.heap.size := ⟨_, rfl⟩
              have HXZ : Hid (X < Z) := Lib.hid (by rw [hZ]; exact HV7.out.hi)
              have HZLE : Hid (w.heap.size ≤ Z) := Lib.hid (by rw [hZ]; exact HV7.out.bel.size)
              have HV8a := Lib.hid ((HV7.out.after ((Below.refl _ _).alloc (Nat.le_refl _) (.cells zi.toArray 81))).other HZLE.out (by have := HXZ.out; omega) 0 A)
              rw [← hZ] at HM7
              obtain ⟨w8, hw8⟩ : ∃ w8, w8 = (w7.alloc (.cells zi.toArray 81)).setCells Z 0 A := ⟨_, rfl⟩
              rw [← hw8] at HM7 HV8a
              have HZE := Lib.hid hZ
              have HW8 := Lib.hid hw8
              have HTA : Hid ((w7.alloc (.cells zi.toArray 81)).there w7.heap.size 0 A.toArray.size) := Lib.hid (by rw [← HZE.out, List.size_toArray]; exact HM7.out.1)
              have HAZ : Hid (A.toArray.size = 36) := Lib.hid (by rw [List.size_toArray, HAL.out])
              have HV8 := HV8a
              have HK8 := Lib.hid HM7.out.2
              clear hb7 hZ hw8 HM7 HV8a
              go_wp2_with (first | ((with_reducible refine alloc_is 81 ?_); refine alloc_arr 81 zi.toArray ZI.out ?_) | ((with_reducible refine store_is 81 (.tmp 17) (.tmp 68) ?_); refine store_arr 81 (.tmp 17) (.tmp 68) w7.heap.size 0 A.toArray rfl rfl HTA.out (info_infos HAZ.out) HAO.out ?_; rw [show A.toArray.toList = A from rfl, ← HZE.out, ← HW8.out]) | ((with_reducible refine load_is 81 (.tmp 17) ?_); refine load_arr 81 (.tmp 17) Z 0 A _ rfl HK8.out.at0 Try.underlying81 rfl (info_infos HAL.out) ?_) | fail)
              refine (HLA'.out _).mono ?_
              rintro e wz ⟨u, rfl, hr, hb⟩
              have BZ := Lib.hid (HV8.out.bel.trans (hb.mono HV8.out.bel.size))
              have RZ := Lib.hid (hr.wide HV8.out.bel.size (Nat.le_refl _))
              clear hr hb
              go_wp2_with fail
              go_ret2
              exact ⟨_, rfl, RZ.out, BZ.out⟩
        · have h0' : (y.r != 0) = true := by simpa using h0
          have HE : res = (zs, 1) := by rw [HR.out, if_neg (fun h => h0 (by omega))]
          subst HE
          clear h0
          go_wp2_with (first | ((with_reducible refine alloc_is 89 ?_); refine alloc_arr 89 zr.toArray ZR.out ?_) | ((with_reducible refine store_is 89 (.tmp 14) (.tmp 30) ?_); refine store_arr 89 (.tmp 14) (.tmp 30) w3.heap.size 0 C.toArray rfl rfl HTC.out (info_rule HCZ.out) HCO.out ?_; rw [show C.toArray.toList = C from rfl, ← HYE.out, ← HW4.out]) | ((with_reducible refine load_is 81 (.tmp 50) ?_); refine load_arr 81 (.tmp 50) X 48 B _ rfl (by rw [← HW6.out]; exact HTI.out _ _ HV6.out.at0) Try.underlying81 rfl (info_infos HB.out) ?_) | fail)
          refine (HLI.out _).mono ?_
          rintro e wz ⟨u, rfl, hr, hb⟩
          rw [← HW6.out] at hr hb
          have BZ := Lib.hid (HV6.out.bel.trans (hb.mono HV6.out.bel.size))
          have RZ := Lib.hid (hr.wide HV6.out.bel.size (Nat.le_refl _))
          clear hr hb
          go_wp2_with fail
          go_ret2
          exact ⟨_, rfl, RZ.out, BZ.out⟩
      · have h1' : (y.k != 1) = true := by simpa using h1
        have HE : res = (zs, 1) := by rw [HR.out, if_neg (fun h => h1 h.1)]
        subst HE
        clear h1
        go_wp2_with (first | ((with_reducible refine alloc_is 89 ?_); refine alloc_arr 89 zr.toArray ZR.out ?_) | ((with_reducible refine store_is 89 (.tmp 14) (.tmp 30) ?_); refine store_arr 89 (.tmp 14) (.tmp 30) w3.heap.size 0 C.toArray rfl rfl HTC.out (info_rule HCZ.out) HCO.out ?_; rw [show C.toArray.toList = C from rfl, ← HYE.out, ← HW4.out]) | ((with_reducible refine load_is 81 (.tmp 50) ?_); refine load_arr 81 (.tmp 50) X 48 B _ rfl (by rw [← HW6.out]; exact HTI.out _ _ HV6.out.at0) Try.underlying81 rfl (info_infos HB.out) ?_) | fail)
        refine (HLI.out _).mono ?_
        rintro e wz ⟨u, rfl, hr, hb⟩
        rw [← HW6.out] at hr hb
        have BZ := Lib.hid (HV6.out.bel.trans (hb.mono HV6.out.bel.size))
        have RZ := Lib.hid (hr.wide HV6.out.bel.size (Nat.le_refl _))
        clear hr hb
        go_wp2_with fail
        go_ret2
        exact ⟨_, rfl, RZ.out, BZ.out⟩
  · have HF := HNO.out hcase
    subst HF
    clear HYS
    cases r1 with
    | false =>
      go_wp2_with (first | ((with_reducible refine alloc_is 89 ?_); refine alloc_arr 89 zr.toArray ZR.out ?_) | ((with_reducible refine store_is 89 (.tmp 14) (.tmp 30) ?_); refine store_arr 89 (.tmp 14) (.tmp 30) w3.heap.size 0 C.toArray rfl rfl HTC.out (info_rule HCZ.out) HCO.out ?_; rw [show C.toArray.toList = C from rfl, ← HYE.out, ← HW4.out]) | fail)
      go_ret2
      exact ⟨_, rfl, isW_none, HV4.out.bel⟩
    | true =>
      have e : r2 = false := by simpa using hcase
      subst e
      clear hcase
      go_wp2_with (first | ((with_reducible refine alloc_is 89 ?_); refine alloc_arr 89 zr.toArray ZR.out ?_) | ((with_reducible refine store_is 89 (.tmp 14) (.tmp 30) ?_); refine store_arr 89 (.tmp 14) (.tmp 30) w3.heap.size 0 C.toArray rfl rfl HTC.out (info_rule HCZ.out) HCO.out ?_; rw [show C.toArray.toList = C from rfl, ← HYE.out, ← HW4.out]) | fail)
      go_ret2
      exact ⟨_, rfl, isW_none, HV4.out.bel⟩
end Go.Proofs.Yticnfekjbknomaa
