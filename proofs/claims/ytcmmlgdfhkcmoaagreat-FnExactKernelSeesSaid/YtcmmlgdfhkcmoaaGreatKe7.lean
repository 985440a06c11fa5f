/- What the proofs stand on, part 7. -/
import Derived.Test.YtcmmlgdfhkcmoaaGreatRows
import Derived.Test.YtcmmlgdfhkcmoaaGreatKe1
import Derived.Test.YtcmmlgdfhkcmoaaGreatKe2
import Derived.Test.YtcmmlgdfhkcmoaaGreatKe3
import Derived.Test.YtcmmlgdfhkcmoaaGreatKe4
import Derived.Test.YtcmmlgdfhkcmoaaGreatKe5
import Derived.Test.YtcmmlgdfhkcmoaaGreatKe6
set_option linter.unusedSimpArgs false
set_option linter.unusedVariables false
namespace Go.Proofs.YtcmmlgdfhkcmoaaGreat
open Go.ChangeShapes Go.WideShapes Go.ChangeAt Go.RowKit Go.Maps Go.Shelf
set_option linter.unusedVariables false
set_option linter.unusedSimpArgs false
set_option maxRecDepth 100000
set_option maxHeartbeats 8000000 in
theorem kvalid_any (w : World) (M : List (List Int)) (I : List IV) (E : List EV) (bs : Nat → Nat) (A : Nat → CV) (fi c : Nat) (L : List Value) (h : KL w M I E bs (ringC A fi c) L) (hfi : fi < 4) (hc4 : c ≤ 4) (C : List CV) (hC : rlist A fi c = C) (hok : cOk C = true) :
    Calls Tryz.prog 116 #[.agg L.toArray] w (BRes (vB M I E C) w) := by
  obtain ⟨W0, hW0⟩ : ∃ W0, W0 = w.alloc (.cells L.toArray 101) := ⟨_, rfl⟩
  obtain ⟨X, hX⟩ : ∃ X, X = w.heap.size := ⟨_, rfl⟩
  have HKC : Hid (KC W0 X M I E bs (ringC A fi c) L) := Lib.hid (by rw [hW0, hX]; exact h.box _)
  have HB0 : Hid (Below w.heap.size w W0) := Lib.hid (by rw [hW0]; exact (Below.refl _ _).alloc (Nat.le_refl _) _)
  have HLL := Lib.hid h.len
  have HAT := Lib.hid HKC.out.at0
  have HTA := Lib.hid (ktables_any W0 M I E bs (ringC A fi c) L HKC.out.l)
  have HTL : Hid ((tC M I).length = 84) := Lib.hid (tC_len M (isok_len h.i))
  have HTO : Hid ((tC M I).toArray.all (·.oneCell') = true) := Lib.hid (tC_one M I)
  have HCN := Lib.hid (fun Q => count_any Q M I h.m h.i)
  have HRL := Lib.hid (fun Q => ringList_any Q A fi c hfi hc4)
  unfold ringV at HRL
  rw [hC] at HRL
  unfold ArrU at HCN
  have HUL : Hid ((uC (cu M I 12)).length = 12) := Lib.hid (uC_len _)
  have HUO : Hid ((uC (cu M I 12)).toArray.all (·.oneCell') = true) := Lib.hid (uC_one _)
  have ZT := Lib.hid zero_tables
  have HZL := Lib.hid Z84_len
  obtain ⟨zt, hzt⟩ : ∃ z, z = Z84 := ⟨_, rfl⟩
  rw [← hzt] at ZT HZL
  have ZU := Lib.hid zero_uses
  have HZU : Hid ((uC (fun _ => 0)).length = 12) := Lib.hid (uC_len _)
  obtain ⟨zu, hzu⟩ : ∃ z, z = uC (fun _ => 0) := ⟨_, rfl⟩
  rw [← hzu] at ZU HZU
  obtain ⟨T, hT⟩ : ∃ T, T = tC M I := ⟨_, rfl⟩
  have HTE := Lib.hid hT
  rw [← hT] at HTA HTL HTO HCN
  obtain ⟨UC, hUC⟩ : ∃ UC, UC = uC (cu M I 12) := ⟨_, rfl⟩
  have HUE := Lib.hid hUC
  rw [← hUC] at HCN HUL HUO
  obtain ⟨RC, hRC⟩ : ∃ RC, RC = ringC A fi c := ⟨_, rfl⟩
  have HRLN : Hid (RC.length = 18) := Lib.hid (by rw [hRC]; rfl)
  have HRE := Lib.hid hRC
  rw [← hRC] at HKC HRL
  have HUS : Hid (UC.toArray.size = 12) := Lib.hid (by rw [List.size_toArray, HUL.out])
  have HTS : Hid (T.toArray.size = 84) := Lib.hid (by rw [List.size_toArray, HTL.out])
  have HW0 := Lib.hid hW0
  have HXE := Lib.hid hX
  have HOK := Lib.hid hok
  clear hW0 hT hUC hRC hzt hzu h hC hX hok
  obtain ⟨r1, hr1⟩ : ∃ r, r = (List.range 3).all (fun j => rootB I (E.getD j ez).t) := ⟨_, rfl⟩
  obtain ⟨r2, hr2⟩ : ∃ r, r = (List.range 3).all (fun j => alw I (reach M (E.getD j ez).t) (E.getD j ez).r) := ⟨_, rfl⟩
  obtain ⟨r3, hr3⟩ : ∃ r, r = (List.range 12).all (fun f => !isTab (I.getD f iz).k || tgood M I (f : Int) (I.getD f iz).k [[]]) := ⟨_, rfl⟩
  obtain ⟨r4, hr4⟩ : ∃ r, r = (List.range 12).all (fun f => decide ((I.getD f iz).r = ((cntN M I f 12 + cntE E 3 f : Nat) : Int))) := ⟨_, rfl⟩
  obtain ⟨r5, hr5⟩ : ∃ r, r = (List.range C.length).all (fun i => cach1 M E (C.getD i c0)) := ⟨_, rfl⟩
  rw [show vB M I E C = (r1 && (r2 && (r3 && (r4 && r5)))) from by unfold vB; rw [hr1, hr2, hr3, hr4, hr5]]
  have HRr1 := Lib.hid hr1
  have HRr2 := Lib.hid hr2
  have HRr3 := Lib.hid hr3
  have HRr4 := Lib.hid hr4
  have HRr5 := Lib.hid hr5
  clear hr1 hr2 hr3 hr4 hr5
  go_enter Tryz.func116, Tryz.ntmps116
  go_wp2_with (first | ((with_reducible refine box_is 101 (.tmp 0) ?_); refine box_arr 101 (.tmp 0) L.toArray rfl ?_; rw [← HW0.out, ← HXE.out]) | ((with_reducible refine load_is 101 (.tmp 1) ?_); refine load_arr 101 (.tmp 1) X 0 L _ rfl HAT.out Tryz.underlying101 rfl (info_kernel HLL.out) ?_) | fail)
  refine HTA.out.mono ?_
  rintro _ W1 ⟨rfl, hb1⟩
  obtain ⟨N, hN⟩ : ∃ N, N = W1.heap.size := ⟨_, rfl⟩
  obtain ⟨W2, hW2⟩ : ∃ W2, W2 = (W1.alloc (.cells zt.toArray 126)).setCells N 0 T := ⟨_, rfl⟩
  have HTH : Hid ((W1.alloc (.cells zt.toArray 126)).there N 0 T.toArray.size) := Lib.hid (by rw [hN, HTS.out]; exact there_row (heap_alloc_new W1 _) (by rw [List.size_toArray, HZL.out]; exact Nat.le_refl _))
  have HB2 : Hid (Below W0.heap.size W0 W2) := Lib.hid (by rw [hW2, hN]; exact Below.setCells (Below.refl _ _) _ hb1.size _ _ _ (hb1.alloc hb1.size _))
  have HR2 : Hid (W2.rangeAt N 0 T) := Lib.hid (by rw [hW2]; exact World.rangeAt_setCells_same _ _ _ _ HTH.out)
  have HN2 : Hid (N < W2.heap.size) := Lib.hid (by rw [hW2, size_setCells, hN]; simp)
  have HK2 := Lib.hid (HKC.out.below HB2.out)
  have HNE := Lib.hid hN
  have HW2 := Lib.hid hW2
  clear hb1 hN hW2
  go_wp2_with (first | ((with_reducible refine alloc_is 126 ?_); refine alloc_arr 126 zt.toArray ZT.out ?_; rw [← HNE.out]) | ((with_reducible refine store_is 126 (.tmp 3) (.tmp 12) ?_); refine store_arr 126 (.tmp 3) (.tmp 12) N 0 T.toArray rfl rfl HTH.out (info_tables HTS.out) HTO.out ?_; rw [show T.toArray.toList = T from rfl, ← HW2.out]) | fail)
  try simp only [Act.put, List.setIfInBounds_toArray, List.set_cons_zero, List.set_cons_succ]
  have HRB : Hid (r1 = true → ∀ j, j < 3 → -1 ≤ (E.getD j ez).t ∧ (E.getD j ez).t ≤ 11) := Lib.hid (fun hr j hj => by
    rw [HRr1.out] at hr
    exact rootB_bd (List.all_eq_true.1 hr j (List.mem_range.2 hj)))
  rename_i K0 hK0
  have HREST : Hid (∀ (Q : World) (U V : Nat) (a : Option Addr) (cc : Nat), Below W2.heap.size W2 Q → Us Q U (cu M I 12) → Q.cell? ⟨V, 0, none⟩ = some (.slice a C.length cc) → Cs Q (.slice a C.length cc) C → K0 { tmps := #[.agg L.toArray, .pointer (some ⟨X, 0, none⟩), .bool false, .pointer (some ⟨N, 0, none⟩), .pointer (some ⟨U, 0, none⟩), .pointer (some ⟨V, 0, none⟩), undef, undef, undef, undef, undef, .agg L.toArray, .agg T.toArray, .agg T.toArray, .agg UC.toArray, .pointer (some ⟨X, 90, none⟩), .agg RC.toArray, .slice a C.length cc, undef, undef, undef, undef, undef, undef, undef, undef, undef, undef, undef, undef, undef, undef, undef, undef, undef, undef, undef, undef, undef, undef, undef, undef, undef], defers := [] } Q) := Lib.hid (by
    intro Q U V a cc hbq hus hcv hcs
    refine hK0 _ _ ?_
    have HKQ := Lib.hid (HK2.out.below hbq)
    have HBQ := Lib.hid ((HB0.out.trans (HB2.out.mono HB0.out.size)).trans (hbq.mono (by have := HB0.out.size; have := HB2.out.size; omega)))
    have HNR := Lib.hid (range_blocks HR2.out (hbq.block _ HN2.out))
    have HNQ : Hid (N < Q.heap.size) := Lib.hid (Nat.lt_of_lt_of_le HN2.out hbq.size)
    have HUQ := Lib.hid hus
    have HCQ := Lib.hid hcs
    have HVQ := Lib.hid hcv
    clear hbq hus hcs hK0
    have HA1 : Hid (∀ Q', Below Q.heap.size Q Q' → Calls Tryz.prog 180 #[.int .i64 3, .func (.func 171) #[] #[.pointer (some ⟨X, 0, none⟩)]] Q' (BRes r1 Q')) := Lib.hid (fun Q' hQ' => by
      rw [HRr1.out]
      exact all_any 171 #[.pointer (some ⟨X, 0, none⟩)] (fun j => rootB I (E.getD j ez).t) 3 (by omega) Q' (enters_of Tryz.func171 (by kernel_rfl) rfl) (fun Q2 hQ2 k hk => (rooted_any Q2 X M I E bs RC L (HKQ.out.below (hQ'.trans (hQ2.mono hQ'.size))) k hk).mono (fun e w hh => ⟨hh.1, by rw [← hh.2]; exact Below.refl _ _⟩)))
    have HA2 : Hid (r1 = true → ∀ Q', Below Q.heap.size Q Q' → Calls Tryz.prog 180 #[.int .i64 3, .func (.func 172) #[] #[.pointer (some ⟨X, 0, none⟩)]] Q' (BRes r2 Q')) := Lib.hid (fun hr Q' hQ' => by
      rw [HRr2.out]
      exact all_any 172 #[.pointer (some ⟨X, 0, none⟩)] (fun j => alw I (reach M (E.getD j ez).t) (E.getD j ez).r) 3 (by omega) Q' (enters_of Tryz.func172 (by kernel_rfl) rfl) (fun Q2 hQ2 k hk => allowed_any Q2 X M I E bs RC L (HKQ.out.below (hQ'.trans (hQ2.mono hQ'.size))) k hk (HRB.out hr k hk)))
    have HA3 : Hid (∀ Q', Below Q.heap.size Q Q' → Calls Tryz.prog 180 #[.int .i64 12, .func (.func 175) #[] #[.pointer (some ⟨N, 0, none⟩), .pointer (some ⟨X, 0, none⟩)]] Q' (BRes r3 Q')) := Lib.hid (fun Q' hQ' => by
      rw [HRr3.out]
      exact all_any 175 #[.pointer (some ⟨N, 0, none⟩), .pointer (some ⟨X, 0, none⟩)] (fun f => !isTab (I.getD f iz).k || tgood M I (f : Int) (I.getD f iz).k [[]]) 12 (by omega) Q' (enters_of Tryz.func175 (by kernel_rfl) rfl) (fun Q2 hQ2 k hk => good_any Q2 X N M I E bs RC L (HKQ.out.below (hQ'.trans (hQ2.mono hQ'.size))) (range_blocks (by rw [← HTE.out]; exact HNR.out) ((hQ'.trans (hQ2.mono hQ'.size)).block _ HNQ.out)) (Nat.lt_of_lt_of_le HNQ.out (hQ'.trans (hQ2.mono hQ'.size)).size) k hk))
    have HA4 : Hid (∀ Q', Below Q.heap.size Q Q' → Calls Tryz.prog 180 #[.int .i64 12, .func (.func 176) #[] #[.pointer (some ⟨X, 0, none⟩), .pointer (some ⟨U, 0, none⟩)]] Q' (BRes r4 Q')) := Lib.hid (fun Q' hQ' => by
      rw [HRr4.out]
      exact all_any 176 #[.pointer (some ⟨X, 0, none⟩), .pointer (some ⟨U, 0, none⟩)] (fun f => decide ((I.getD f iz).r = ((cntN M I f 12 + cntE E 3 f : Nat) : Int))) 12 (by omega) Q' (enters_of Tryz.func176 (by kernel_rfl) rfl) (fun Q2 hQ2 k hk => counted_any Q2 X U M I E bs RC L (HKQ.out.below (hQ'.trans (hQ2.mono hQ'.size))) (HUQ.out.block ((hQ'.trans (hQ2.mono hQ'.size)).block _ HUQ.out.lt)) k hk))
    have HA5 : Hid (r1 = true → ∀ Q', Below Q.heap.size Q Q' → Calls Tryz.prog 180 #[.int .i64 (C.length : Int), .func (.func 178) #[] #[.pointer (some ⟨X, 0, none⟩), .pointer (some ⟨V, 0, none⟩)]] Q' (BRes r5 Q')) := Lib.hid (fun hr Q' hQ' => by
      rw [HRr5.out]
      exact all_any 178 #[.pointer (some ⟨X, 0, none⟩), .pointer (some ⟨V, 0, none⟩)] (fun i => cach1 M E (C.getD i c0)) C.length (by have := ((cOk_iff C).1 HOK.out).2.2; omega) Q' (enters_of Tryz.func178 (by kernel_rfl) rfl) (fun Q2 hQ2 k hk => current_any Q2 X V M I E bs RC L (HKQ.out.below (hQ'.trans (hQ2.mono hQ'.size))) _ C (((hQ'.trans (hQ2.mono hQ'.size)).cell (p := ⟨V, 0, none⟩) (cell_lt HVQ.out)).trans HVQ.out) (HCQ.out.below (hQ'.trans (hQ2.mono hQ'.size))) HOK.out (HRB.out hr) k hk))
    clear HKQ HNR HNQ HUQ HCQ
    go_wp2_with fail
    refine (HA1.out Q (Below.refl _ _)).mono ?_
    rintro _ Q1 ⟨rfl, hq⟩
    have HQ1 : Hid (Below Q.heap.size Q Q1) := Lib.hid (hq)
    have HBF1 := Lib.hid (HBQ.out.trans (HQ1.out.mono HBQ.out.size))
    clear hq
    cases r1 with
    | false =>
      go_wp2_with fail
      go_ret
      exact ⟨by simp, HBF1.out⟩
    | true =>
      go_wp2_with fail
      refine (HA2.out (by trivial) Q1 HQ1.out).mono ?_
      rintro _ Q2 ⟨rfl, hq⟩
      have HQ2 : Hid (Below Q.heap.size Q Q2) := Lib.hid (HQ1.out.trans (hq.mono HQ1.out.size))
      have HBF2 := Lib.hid (HBQ.out.trans (HQ2.out.mono HBQ.out.size))
      clear hq
      cases r2 with
      | false =>
        go_wp2_with fail
        go_ret
        exact ⟨by simp, HBF2.out⟩
      | true =>
        go_wp2_with fail
        refine (HA3.out Q2 HQ2.out).mono ?_
        rintro _ Q3 ⟨rfl, hq⟩
        have HQ3 : Hid (Below Q.heap.size Q Q3) := Lib.hid (HQ2.out.trans (hq.mono HQ2.out.size))
        have HBF3 := Lib.hid (HBQ.out.trans (HQ3.out.mono HBQ.out.size))
        clear hq
        cases r3 with
        | false =>
          go_wp2_with fail
          go_ret
          exact ⟨by simp, HBF3.out⟩
        | true =>
          go_wp2_with fail
          refine (HA4.out Q3 HQ3.out).mono ?_
          rintro _ Q4 ⟨rfl, hq⟩
          have HQ4 : Hid (Below Q.heap.size Q Q4) := Lib.hid (HQ3.out.trans (hq.mono HQ3.out.size))
          have HBF4 := Lib.hid (HBQ.out.trans (HQ4.out.mono HBQ.out.size))
          clear hq
          cases r4 with
          | false =>
            go_wp2_with fail
            go_ret
            exact ⟨by simp, HBF4.out⟩
          | true =>
            clear hcv
            have hcv := (HQ4.out.cell (p := ⟨V, 0, none⟩) (cell_lt HVQ.out)).trans HVQ.out
            go_wp2_with fail
            refine (HA5.out (by trivial) Q4 HQ4.out).mono ?_
            rintro _ Q5 ⟨rfl, hq⟩
            have HQ5 : Hid (Below Q.heap.size Q Q5) := Lib.hid (HQ4.out.trans (hq.mono HQ4.out.size))
            have HBF5 := Lib.hid (HBQ.out.trans (HQ5.out.mono HBQ.out.size))
            clear hq
            go_wp2_with fail
            go_ret
            exact ⟨by simp, HBF5.out⟩)
  have FS : Hid (∀ Q, Below W2.heap.size W2 Q → Q.rangeAt N 0 T ∧ Q.rangeAt X 90 RC) := Lib.hid (fun Q hQ => ⟨range_blocks HR2.out (hQ.block _ HN2.out), (HK2.out.below hQ).ring⟩)
  have HLT : Hid (∀ Q : World, Q.rangeAt N 0 T → (do let l ← Instr.loadAt 126 (.pointer (some ⟨N, 0, none⟩)); pure (Next.value l) : Sem Next).run Tryz.prog Q = .ok (.value (.agg T.toArray)) Q) := Lib.hid (fun Q hh => load_run 126 N 0 T _ hh Tryz.underlying126 rfl (info_tables HTL.out))
  have HLR : Hid (∀ Q : World, Q.rangeAt X 90 RC → (do let l ← Instr.loadAt 99 (.pointer (some ⟨X, 90, none⟩)); pure (Next.value l) : Sem Next).run Tryz.prog Q = .ok (.value (.agg RC.toArray)) Q) := Lib.hid (fun Q hh => load_run 99 X 90 RC _ hh Tryz.underlying99 rfl (info_ring HRLN.out))
  refine wp_region_held_drew (S := fun w' => w'.rangeAt N 0 T ∧ w'.rangeAt X 90 RC) (by kernel_rfl) (FS.out _ (Below.refl _ _).drew) (fun hHeld => ?_)
  refine anyH_gen _ (fun QA hgen => ?_)
  have HBA := Lib.hid (by rw [hgen]; exact (Below.refl W2.heap.size W2).drew : Below W2.heap.size W2 QA)
  rw [← hgen] at hHeld
  clear hgen
  refine wpAnyH_take (i := 0) (oi := { dst := some 13, op := .load 126 (.tmp 3), type := _, pos := _, after := _, guard := none }) (v := .agg T.toArray) rfl (by kernel_rfl) (by kernel_rfl) (by kernel_rfl) (fun _ _ _ h => h) (Or.inl ⟨by rfl, fun wh hSw => ?_⟩) hHeld ?_
  · (simp only [execOp]; exact HLT.out _ hSw.1)
  try simp only [Act.put, List.setIfInBounds_toArray, List.set_cons_zero, List.set_cons_succ]
  refine wpAnyH_take (i := 2) (oi := { dst := some 15, op := .fieldAddr 101 (.tmp 1) 3, type := _, pos := _, after := _, guard := none }) (v := .pointer (some ⟨X, 90, none⟩)) rfl (by kernel_rfl) (by kernel_rfl) (by kernel_rfl) (fun _ _ _ h => h) (Or.inl ⟨by rfl, fun wh hSw => ?_⟩) hHeld ?_
  · (obtain ⟨s0, s1⟩ := hSw; go_simp)
  try simp only [Act.put, List.setIfInBounds_toArray, List.set_cons_zero, List.set_cons_succ]
  refine wpAnyH_take (i := 3) (oi := { dst := some 16, op := .load 99 (.tmp 15), type := _, pos := _, after := _, guard := none }) (v := .agg RC.toArray) rfl (by kernel_rfl) (by kernel_rfl) (by kernel_rfl) (fun _ _ _ h => h) (Or.inl ⟨by rfl, fun wh hSw => ?_⟩) hHeld ?_
  · (simp only [execOp]; exact HLR.out _ hSw.2)
  try simp only [Act.put, List.setIfInBounds_toArray, List.set_cons_zero, List.set_cons_succ]
  refine wpAnyH_ready (rs := [1, 5, 6]) (by kernel_rfl) (by simp) ?_
  refine AllReadyH.cons (o := { dst := some 14, op := .call { callee := .value (.func 82), args := #[.tmp 13], argTypes := #[126] }, type := _, pos := _, after := _, guard := none }) rfl (fun K hK => ?_) (AllReadyH.cons (o := { dst := some 4, op := .alloc 140, type := _, pos := _, after := _, guard := none }) rfl (fun K hK => ?_) (AllReadyH.cons (o := { dst := some 5, op := .alloc 28, type := _, pos := _, after := _, guard := none }) rfl (fun K hK => ?_) AllReadyH.nil))
  · go_simp
    refine (HCN.out QA).mono ?_
    rintro _ Q1 ⟨rfl, hb⟩
    have HB1 : Hid (Below W2.heap.size W2 Q1) := Lib.hid (HBA.out.trans (hb.mono HBA.out.size))
    clear hb
    try go_simp
    refine hK.out _ _ ?_ (fun hHeld => ?_)
    · exact FS.out _ HB1.out
    clear hK K
    try simp only [Act.put, List.setIfInBounds_toArray, List.set_cons_zero, List.set_cons_succ]
    refine wpAnyH_ready (rs := [4, 5, 6]) (by kernel_rfl) (by simp) ?_
    refine AllReadyH.cons (o := { dst := some 17, op := .call { callee := .value (.func 113), args := #[.tmp 16], argTypes := #[99] }, type := _, pos := _, after := _, guard := none }) rfl (fun K hK => ?_) (AllReadyH.cons (o := { dst := some 4, op := .alloc 140, type := _, pos := _, after := _, guard := none }) rfl (fun K hK => ?_) (AllReadyH.cons (o := { dst := some 5, op := .alloc 28, type := _, pos := _, after := _, guard := none }) rfl (fun K hK => ?_) AllReadyH.nil))
    · go_simp
      refine (HRL.out Q1).mono ?_
      rintro _ Q2 ⟨vl, rfl, hol⟩
      have HB2 : Hid (Below W2.heap.size W2 Q2) := Lib.hid (HB1.out.trans (hol.bel.mono HB1.out.size))
      obtain ⟨gl, cl, rfl, -, -, -⟩ := hol.form
      have HOC2 := Lib.hid hol
      clear hol
      try go_simp
      refine hK.out _ _ ?_ (fun hHeld => ?_)
      · exact FS.out _ HB2.out
      clear hK K
      try simp only [Act.put, List.setIfInBounds_toArray, List.set_cons_zero, List.set_cons_succ]
      refine wpAnyH_ready (rs := [5, 6]) (by kernel_rfl) (by simp) ?_
      refine AllReadyH.cons (o := { dst := some 4, op := .alloc 140, type := _, pos := _, after := _, guard := none }) rfl (fun K hK => ?_) (AllReadyH.cons (o := { dst := some 5, op := .alloc 28, type := _, pos := _, after := _, guard := none }) rfl (fun K hK => ?_) AllReadyH.nil)
      · rw [if_pos (by rfl)]
        refine wp_alloc_mid 140 rfl zu.toArray ZU.out ?_
        refine hK.out _ _ ?_ (fun hHeld => ?_)
        · exact FS.out _ (HB2.out.alloc HB2.out.size _)
        clear hK K
        try simp only [Act.put, List.setIfInBounds_toArray, List.set_cons_zero, List.set_cons_succ]
        refine anyH_gen _ (fun Q3 hW => ?_)
        have HB3 : Hid (Below W2.heap.size W2 Q3) := Lib.hid (by rw [hW]; exact HB2.out.alloc HB2.out.size _)
        have HOC3 := Lib.hid (HOC2.out.later (by rw [hW]; exact (Below.refl Q2.heap.size Q2).alloc (Nat.le_refl _) _ : Below Q2.heap.size Q2 Q3))
        have HUB3 : Hid (Q3.heap[Q2.heap.size]? = some (.cells zu.toArray 140 (0, 0))) := Lib.hid (by rw [hW]; exact heap_alloc_new Q2 _)
        have HUO3 : Hid (W2.heap.size ≤ Q2.heap.size) := Lib.hid HB2.out.size
        rw [← hW] at hHeld
        clear hW
        refine wpAnyH_ready (rs := [6]) (by kernel_rfl) (by simp) ?_
        refine AllReadyH.cons (o := { dst := some 5, op := .alloc 28, type := _, pos := _, after := _, guard := none }) rfl (fun K hK => ?_) AllReadyH.nil
        go_simp
        refine hK.out _ _ ?_ (fun hHeld => ?_)
        · exact FS.out _ (HB3.out.alloc HB3.out.size _)
        clear hK K
        try simp only [Act.put, List.setIfInBounds_toArray, List.set_cons_zero, List.set_cons_succ]
        refine anyH_gen _ (fun Q4 hW => ?_)
        have HB4 : Hid (Below W2.heap.size W2 Q4) := Lib.hid (by rw [hW]; exact HB3.out.alloc HB3.out.size _)
        have HUB4 : Hid (Q4.heap[Q2.heap.size]? = some (.cells zu.toArray 140 (0, 0))) := Lib.hid (((by rw [hW]; exact (Below.refl Q3.heap.size Q3).alloc (Nat.le_refl _) _ : Below Q3.heap.size Q3 Q4).block _ (Array.getElem?_eq_some_iff.1 HUB3.out).1).trans HUB3.out)
        have HOC4 := Lib.hid (HOC3.out.later (by rw [hW]; exact (Below.refl Q3.heap.size Q3).alloc (Nat.le_refl _) _ : Below Q3.heap.size Q3 Q4))
        have HVB4 : Hid (Q4.heap[Q3.heap.size]? = some (.cells #[.slice none 0 0] 28 (0, 0))) := Lib.hid (by rw [hW]; exact heap_alloc_new Q3 _)
        have HVO4 : Hid (W2.heap.size ≤ Q3.heap.size) := Lib.hid HB3.out.size
        rw [← hW] at hHeld
        clear hW
        refine wpAnyH_ready (rs := [7]) (by kernel_rfl) (by simp) ?_
        refine AllReadyH.cons (o := { dst := none, op := .store 140 (.tmp 4) (.tmp 14), type := _, pos := _, after := _, guard := none }) rfl (fun K hK => ?_) AllReadyH.nil
        rw [if_pos (by rfl)]
        refine wp_store_mid 140 (.tmp 4) (.tmp 14) rfl Q2.heap.size 0 UC.toArray rfl rfl (by rw [HUS.out]; exact there_row HUB4.out (by rw [List.size_toArray, HZU.out]; exact Nat.le_refl _)) (info_uses HUS.out) HUO.out ?_
        rw [show UC.toArray.toList = UC from rfl]
        refine hK.out _ _ ?_ (fun hHeld => ?_)
        · exact FS.out _ (Below.setCells (Below.refl W2.heap.size W2) _ HUO3.out _ _ _ HB4.out)
        clear hK K
        try simp only [Act.put, List.setIfInBounds_toArray, List.set_cons_zero, List.set_cons_succ]
        refine anyH_gen _ (fun Q5 hW => ?_)
        have HB5 : Hid (Below W2.heap.size W2 Q5) := Lib.hid (by rw [hW]; exact (Below.setCells (Below.refl W2.heap.size W2) _ HUO3.out _ _ _ HB4.out))
        have HE5 := Lib.hid hW
        rw [← hW] at hHeld
        have hcv : Q5.cell? ⟨Q3.heap.size, 0, none⟩ = some (.slice none 0 0) := by rw [hW, World.cell?_of_block (heap_setCells_other Q4 _ _ _ Q4 _ (fun e => by have h7 := HUB4.out; rw [← e, HVB4.out] at h7; exact absurd (congrArg (fun o => match o with | some (Obj.cells _ t _) => t | _ => 0) h7) (show ¬ ((28 : Nat) = 140) by decide))), cell_of_row _ _ 0 _ _ _ HVB4.out]; rfl
        have hfv : Q5.frozen? ⟨Q3.heap.size, 0, none⟩ = false := by rw [hW, World.frozen?_setCells]; exact frozen_of_row _ _ _ _ _ HVB4.out
        clear hW
        refine wpAnyH_ready (rs := [8]) (by kernel_rfl) (by simp) ?_
        refine AllReadyH.cons (o := { dst := none, op := .store 28 (.tmp 5) (.tmp 17), type := _, pos := _, after := _, guard := none }) rfl (fun K hK => ?_) AllReadyH.nil
        go_simp
        refine hK.out _ _ ?_ (fun hHeld => ?_)
        · exact FS.out _ (HB5.out.setCell (p := ⟨Q3.heap.size, 0, none⟩) HVO4.out _)
        clear hK K
        try simp only [Act.put, List.setIfInBounds_toArray, List.set_cons_zero, List.set_cons_succ]
        refine anyH_gen _ (fun Q6 hW => ?_)
        have HB6 : Hid (Below W2.heap.size W2 Q6) := Lib.hid (by rw [hW]; exact (HB5.out.setCell (p := ⟨Q3.heap.size, 0, none⟩) HVO4.out _))
        have HTS2 := Lib.hid (two_stores HOC4.out HUB4.out HVB4.out HZU.out HUE.out)
        rw [← HE5.out, ← hW] at HTS2
        rw [← hW] at hHeld
        clear hW
        refine wpAnyH_done (by kernel_rfl) ?_ _
        exact HREST.out _ _ _ _ _ HB6.out HTS2.out.1 HTS2.out.2.1 HTS2.out.2.2
      · go_simp
        refine hK.out _ _ ?_ (fun hHeld => ?_)
        · exact FS.out _ (HB2.out.alloc HB2.out.size _)
        clear hK K
        try simp only [Act.put, List.setIfInBounds_toArray, List.set_cons_zero, List.set_cons_succ]
        refine anyH_gen _ (fun Q7 hW => ?_)
        have HB7 : Hid (Below W2.heap.size W2 Q7) := Lib.hid (by rw [hW]; exact HB2.out.alloc HB2.out.size _)
        have HOC7 := Lib.hid (HOC2.out.later (by rw [hW]; exact (Below.refl Q2.heap.size Q2).alloc (Nat.le_refl _) _ : Below Q2.heap.size Q2 Q7))
        have HVB7 : Hid (Q7.heap[Q2.heap.size]? = some (.cells #[.slice none 0 0] 28 (0, 0))) := Lib.hid (by rw [hW]; exact heap_alloc_new Q2 _)
        have HVO7 : Hid (W2.heap.size ≤ Q2.heap.size) := Lib.hid HB2.out.size
        rw [← hW] at hHeld
        clear hW
        refine wpAnyH_ready (rs := [5]) (by kernel_rfl) (by simp) ?_
        refine AllReadyH.cons (o := { dst := some 4, op := .alloc 140, type := _, pos := _, after := _, guard := none }) rfl (fun K hK => ?_) AllReadyH.nil
        rw [if_pos (by rfl)]
        refine wp_alloc_mid 140 rfl zu.toArray ZU.out ?_
        refine hK.out _ _ ?_ (fun hHeld => ?_)
        · exact FS.out _ (HB7.out.alloc HB7.out.size _)
        clear hK K
        try simp only [Act.put, List.setIfInBounds_toArray, List.set_cons_zero, List.set_cons_succ]
        refine anyH_gen _ (fun Q8 hW => ?_)
        have HB8 : Hid (Below W2.heap.size W2 Q8) := Lib.hid (by rw [hW]; exact HB7.out.alloc HB7.out.size _)
        have HVB8 : Hid (Q8.heap[Q2.heap.size]? = some (.cells #[.slice none 0 0] 28 (0, 0))) := Lib.hid (((by rw [hW]; exact (Below.refl Q7.heap.size Q7).alloc (Nat.le_refl _) _ : Below Q7.heap.size Q7 Q8).block _ (Array.getElem?_eq_some_iff.1 HVB7.out).1).trans HVB7.out)
        have HOC8 := Lib.hid (HOC7.out.later (by rw [hW]; exact (Below.refl Q7.heap.size Q7).alloc (Nat.le_refl _) _ : Below Q7.heap.size Q7 Q8))
        have HUB8 : Hid (Q8.heap[Q7.heap.size]? = some (.cells zu.toArray 140 (0, 0))) := Lib.hid (by rw [hW]; exact heap_alloc_new Q7 _)
        have HUO8 : Hid (W2.heap.size ≤ Q7.heap.size) := Lib.hid HB7.out.size
        rw [← hW] at hHeld
        clear hW
        refine wpAnyH_ready (rs := [7]) (by kernel_rfl) (by simp) ?_
        refine AllReadyH.cons (o := { dst := none, op := .store 140 (.tmp 4) (.tmp 14), type := _, pos := _, after := _, guard := none }) rfl (fun K hK => ?_) AllReadyH.nil
        rw [if_pos (by rfl)]
        refine wp_store_mid 140 (.tmp 4) (.tmp 14) rfl Q7.heap.size 0 UC.toArray rfl rfl (by rw [HUS.out]; exact there_row HUB8.out (by rw [List.size_toArray, HZU.out]; exact Nat.le_refl _)) (info_uses HUS.out) HUO.out ?_
        rw [show UC.toArray.toList = UC from rfl]
        refine hK.out _ _ ?_ (fun hHeld => ?_)
        · exact FS.out _ (Below.setCells (Below.refl W2.heap.size W2) _ HUO8.out _ _ _ HB8.out)
        clear hK K
        try simp only [Act.put, List.setIfInBounds_toArray, List.set_cons_zero, List.set_cons_succ]
        refine anyH_gen _ (fun Q9 hW => ?_)
        have HB9 : Hid (Below W2.heap.size W2 Q9) := Lib.hid (by rw [hW]; exact (Below.setCells (Below.refl W2.heap.size W2) _ HUO8.out _ _ _ HB8.out))
        have HE9 := Lib.hid hW
        rw [← hW] at hHeld
        have hcv : Q9.cell? ⟨Q2.heap.size, 0, none⟩ = some (.slice none 0 0) := by rw [hW, World.cell?_of_block (heap_setCells_other Q8 _ _ _ Q8 _ (fun e => by have h7 := HUB8.out; rw [← e, HVB8.out] at h7; exact absurd (congrArg (fun o => match o with | some (Obj.cells _ t _) => t | _ => 0) h7) (show ¬ ((28 : Nat) = 140) by decide))), cell_of_row _ _ 0 _ _ _ HVB8.out]; rfl
        have hfv : Q9.frozen? ⟨Q2.heap.size, 0, none⟩ = false := by rw [hW, World.frozen?_setCells]; exact frozen_of_row _ _ _ _ _ HVB8.out
        clear hW
        refine wpAnyH_ready (rs := [8]) (by kernel_rfl) (by simp) ?_
        refine AllReadyH.cons (o := { dst := none, op := .store 28 (.tmp 5) (.tmp 17), type := _, pos := _, after := _, guard := none }) rfl (fun K hK => ?_) AllReadyH.nil
        go_simp
        refine hK.out _ _ ?_ (fun hHeld => ?_)
        · exact FS.out _ (HB9.out.setCell (p := ⟨Q2.heap.size, 0, none⟩) HVO7.out _)
        clear hK K
        try simp only [Act.put, List.setIfInBounds_toArray, List.set_cons_zero, List.set_cons_succ]
        refine anyH_gen _ (fun Q10 hW => ?_)
        have HB10 : Hid (Below W2.heap.size W2 Q10) := Lib.hid (by rw [hW]; exact (HB9.out.setCell (p := ⟨Q2.heap.size, 0, none⟩) HVO7.out _))
        have HTS2 := Lib.hid (two_stores HOC8.out HUB8.out HVB8.out HZU.out HUE.out)
        rw [← HE9.out, ← hW] at HTS2
        rw [← hW] at hHeld
        clear hW
        refine wpAnyH_done (by kernel_rfl) ?_ _
        exact HREST.out _ _ _ _ _ HB10.out HTS2.out.1 HTS2.out.2.1 HTS2.out.2.2
    · rw [if_pos (by rfl)]
      refine wp_alloc_mid 140 rfl zu.toArray ZU.out ?_
      refine hK.out _ _ ?_ (fun hHeld => ?_)
      · exact FS.out _ (HB1.out.alloc HB1.out.size _)
      clear hK K
      try simp only [Act.put, List.setIfInBounds_toArray, List.set_cons_zero, List.set_cons_succ]
      refine anyH_gen _ (fun Q11 hW => ?_)
      have HB11 : Hid (Below W2.heap.size W2 Q11) := Lib.hid (by rw [hW]; exact HB1.out.alloc HB1.out.size _)
      have HUB11 : Hid (Q11.heap[Q1.heap.size]? = some (.cells zu.toArray 140 (0, 0))) := Lib.hid (by rw [hW]; exact heap_alloc_new Q1 _)
      have HUO11 : Hid (W2.heap.size ≤ Q1.heap.size) := Lib.hid HB1.out.size
      rw [← hW] at hHeld
      clear hW
      refine wpAnyH_ready (rs := [4, 6]) (by kernel_rfl) (by simp) ?_
      refine AllReadyH.cons (o := { dst := some 17, op := .call { callee := .value (.func 113), args := #[.tmp 16], argTypes := #[99] }, type := _, pos := _, after := _, guard := none }) rfl (fun K hK => ?_) (AllReadyH.cons (o := { dst := some 5, op := .alloc 28, type := _, pos := _, after := _, guard := none }) rfl (fun K hK => ?_) AllReadyH.nil)
      · go_simp
        refine (HRL.out Q11).mono ?_
        rintro _ Q12 ⟨vl, rfl, hol⟩
        have HB12 : Hid (Below W2.heap.size W2 Q12) := Lib.hid (HB11.out.trans (hol.bel.mono HB11.out.size))
        have HUB12 : Hid (Q12.heap[Q1.heap.size]? = some (.cells zu.toArray 140 (0, 0))) := Lib.hid ((hol.bel.block _ (Array.getElem?_eq_some_iff.1 HUB11.out).1).trans HUB11.out)
        obtain ⟨gl, cl, rfl, -, -, -⟩ := hol.form
        have HOC12 := Lib.hid hol
        clear hol
        try go_simp
        refine hK.out _ _ ?_ (fun hHeld => ?_)
        · exact FS.out _ HB12.out
        clear hK K
        try simp only [Act.put, List.setIfInBounds_toArray, List.set_cons_zero, List.set_cons_succ]
        refine wpAnyH_ready (rs := [6]) (by kernel_rfl) (by simp) ?_
        refine AllReadyH.cons (o := { dst := some 5, op := .alloc 28, type := _, pos := _, after := _, guard := none }) rfl (fun K hK => ?_) AllReadyH.nil
        go_simp
        refine hK.out _ _ ?_ (fun hHeld => ?_)
        · exact FS.out _ (HB12.out.alloc HB12.out.size _)
        clear hK K
        try simp only [Act.put, List.setIfInBounds_toArray, List.set_cons_zero, List.set_cons_succ]
        refine anyH_gen _ (fun Q13 hW => ?_)
        have HB13 : Hid (Below W2.heap.size W2 Q13) := Lib.hid (by rw [hW]; exact HB12.out.alloc HB12.out.size _)
        have HUB13 : Hid (Q13.heap[Q1.heap.size]? = some (.cells zu.toArray 140 (0, 0))) := Lib.hid (((by rw [hW]; exact (Below.refl Q12.heap.size Q12).alloc (Nat.le_refl _) _ : Below Q12.heap.size Q12 Q13).block _ (Array.getElem?_eq_some_iff.1 HUB12.out).1).trans HUB12.out)
        have HOC13 := Lib.hid (HOC12.out.later (by rw [hW]; exact (Below.refl Q12.heap.size Q12).alloc (Nat.le_refl _) _ : Below Q12.heap.size Q12 Q13))
        have HVB13 : Hid (Q13.heap[Q12.heap.size]? = some (.cells #[.slice none 0 0] 28 (0, 0))) := Lib.hid (by rw [hW]; exact heap_alloc_new Q12 _)
        have HVO13 : Hid (W2.heap.size ≤ Q12.heap.size) := Lib.hid HB12.out.size
        rw [← hW] at hHeld
        clear hW
        refine wpAnyH_ready (rs := [7]) (by kernel_rfl) (by simp) ?_
        refine AllReadyH.cons (o := { dst := none, op := .store 140 (.tmp 4) (.tmp 14), type := _, pos := _, after := _, guard := none }) rfl (fun K hK => ?_) AllReadyH.nil
        rw [if_pos (by rfl)]
        refine wp_store_mid 140 (.tmp 4) (.tmp 14) rfl Q1.heap.size 0 UC.toArray rfl rfl (by rw [HUS.out]; exact there_row HUB13.out (by rw [List.size_toArray, HZU.out]; exact Nat.le_refl _)) (info_uses HUS.out) HUO.out ?_
        rw [show UC.toArray.toList = UC from rfl]
        refine hK.out _ _ ?_ (fun hHeld => ?_)
        · exact FS.out _ (Below.setCells (Below.refl W2.heap.size W2) _ HUO11.out _ _ _ HB13.out)
        clear hK K
        try simp only [Act.put, List.setIfInBounds_toArray, List.set_cons_zero, List.set_cons_succ]
        refine anyH_gen _ (fun Q14 hW => ?_)
        have HB14 : Hid (Below W2.heap.size W2 Q14) := Lib.hid (by rw [hW]; exact (Below.setCells (Below.refl W2.heap.size W2) _ HUO11.out _ _ _ HB13.out))
        have HE14 := Lib.hid hW
        rw [← hW] at hHeld
        have hcv : Q14.cell? ⟨Q12.heap.size, 0, none⟩ = some (.slice none 0 0) := by rw [hW, World.cell?_of_block (heap_setCells_other Q13 _ _ _ Q13 _ (fun e => by have h7 := HUB13.out; rw [← e, HVB13.out] at h7; exact absurd (congrArg (fun o => match o with | some (Obj.cells _ t _) => t | _ => 0) h7) (show ¬ ((28 : Nat) = 140) by decide))), cell_of_row _ _ 0 _ _ _ HVB13.out]; rfl
        have hfv : Q14.frozen? ⟨Q12.heap.size, 0, none⟩ = false := by rw [hW, World.frozen?_setCells]; exact frozen_of_row _ _ _ _ _ HVB13.out
        clear hW
        refine wpAnyH_ready (rs := [8]) (by kernel_rfl) (by simp) ?_
        refine AllReadyH.cons (o := { dst := none, op := .store 28 (.tmp 5) (.tmp 17), type := _, pos := _, after := _, guard := none }) rfl (fun K hK => ?_) AllReadyH.nil
        go_simp
        refine hK.out _ _ ?_ (fun hHeld => ?_)
        · exact FS.out _ (HB14.out.setCell (p := ⟨Q12.heap.size, 0, none⟩) HVO13.out _)
        clear hK K
        try simp only [Act.put, List.setIfInBounds_toArray, List.set_cons_zero, List.set_cons_succ]
        refine anyH_gen _ (fun Q15 hW => ?_)
        have HB15 : Hid (Below W2.heap.size W2 Q15) := Lib.hid (by rw [hW]; exact (HB14.out.setCell (p := ⟨Q12.heap.size, 0, none⟩) HVO13.out _))
        have HTS2 := Lib.hid (two_stores HOC13.out HUB13.out HVB13.out HZU.out HUE.out)
        rw [← HE14.out, ← hW] at HTS2
        rw [← hW] at hHeld
        clear hW
        refine wpAnyH_done (by kernel_rfl) ?_ _
        exact HREST.out _ _ _ _ _ HB15.out HTS2.out.1 HTS2.out.2.1 HTS2.out.2.2
      · go_simp
        refine hK.out _ _ ?_ (fun hHeld => ?_)
        · exact FS.out _ (HB11.out.alloc HB11.out.size _)
        clear hK K
        try simp only [Act.put, List.setIfInBounds_toArray, List.set_cons_zero, List.set_cons_succ]
        refine anyH_gen _ (fun Q16 hW => ?_)
        have HB16 : Hid (Below W2.heap.size W2 Q16) := Lib.hid (by rw [hW]; exact HB11.out.alloc HB11.out.size _)
        have HUB16 : Hid (Q16.heap[Q1.heap.size]? = some (.cells zu.toArray 140 (0, 0))) := Lib.hid (((by rw [hW]; exact (Below.refl Q11.heap.size Q11).alloc (Nat.le_refl _) _ : Below Q11.heap.size Q11 Q16).block _ (Array.getElem?_eq_some_iff.1 HUB11.out).1).trans HUB11.out)
        have HVB16 : Hid (Q16.heap[Q11.heap.size]? = some (.cells #[.slice none 0 0] 28 (0, 0))) := Lib.hid (by rw [hW]; exact heap_alloc_new Q11 _)
        have HVO16 : Hid (W2.heap.size ≤ Q11.heap.size) := Lib.hid HB11.out.size
        rw [← hW] at hHeld
        clear hW
        refine wpAnyH_ready (rs := [4]) (by kernel_rfl) (by simp) ?_
        refine AllReadyH.cons (o := { dst := some 17, op := .call { callee := .value (.func 113), args := #[.tmp 16], argTypes := #[99] }, type := _, pos := _, after := _, guard := none }) rfl (fun K hK => ?_) AllReadyH.nil
        go_simp
        refine (HRL.out Q16).mono ?_
        rintro _ Q17 ⟨vl, rfl, hol⟩
        have HB17 : Hid (Below W2.heap.size W2 Q17) := Lib.hid (HB16.out.trans (hol.bel.mono HB16.out.size))
        have HUB17 : Hid (Q17.heap[Q1.heap.size]? = some (.cells zu.toArray 140 (0, 0))) := Lib.hid ((hol.bel.block _ (Array.getElem?_eq_some_iff.1 HUB16.out).1).trans HUB16.out)
        have HVB17 : Hid (Q17.heap[Q11.heap.size]? = some (.cells #[.slice none 0 0] 28 (0, 0))) := Lib.hid ((hol.bel.block _ (Array.getElem?_eq_some_iff.1 HVB16.out).1).trans HVB16.out)
        obtain ⟨gl, cl, rfl, -, -, -⟩ := hol.form
        have HOC17 := Lib.hid hol
        clear hol
        try go_simp
        refine hK.out _ _ ?_ (fun hHeld => ?_)
        · exact FS.out _ HB17.out
        clear hK K
        try simp only [Act.put, List.setIfInBounds_toArray, List.set_cons_zero, List.set_cons_succ]
        refine wpAnyH_ready (rs := [7]) (by kernel_rfl) (by simp) ?_
        refine AllReadyH.cons (o := { dst := none, op := .store 140 (.tmp 4) (.tmp 14), type := _, pos := _, after := _, guard := none }) rfl (fun K hK => ?_) AllReadyH.nil
        rw [if_pos (by rfl)]
        refine wp_store_mid 140 (.tmp 4) (.tmp 14) rfl Q1.heap.size 0 UC.toArray rfl rfl (by rw [HUS.out]; exact there_row HUB17.out (by rw [List.size_toArray, HZU.out]; exact Nat.le_refl _)) (info_uses HUS.out) HUO.out ?_
        rw [show UC.toArray.toList = UC from rfl]
        refine hK.out _ _ ?_ (fun hHeld => ?_)
        · exact FS.out _ (Below.setCells (Below.refl W2.heap.size W2) _ HUO11.out _ _ _ HB17.out)
        clear hK K
        try simp only [Act.put, List.setIfInBounds_toArray, List.set_cons_zero, List.set_cons_succ]
        refine anyH_gen _ (fun Q18 hW => ?_)
        have HB18 : Hid (Below W2.heap.size W2 Q18) := Lib.hid (by rw [hW]; exact (Below.setCells (Below.refl W2.heap.size W2) _ HUO11.out _ _ _ HB17.out))
        have HE18 := Lib.hid hW
        rw [← hW] at hHeld
        have hcv : Q18.cell? ⟨Q11.heap.size, 0, none⟩ = some (.slice none 0 0) := by rw [hW, World.cell?_of_block (heap_setCells_other Q17 _ _ _ Q17 _ (fun e => by have h7 := HUB17.out; rw [← e, HVB17.out] at h7; exact absurd (congrArg (fun o => match o with | some (Obj.cells _ t _) => t | _ => 0) h7) (show ¬ ((28 : Nat) = 140) by decide))), cell_of_row _ _ 0 _ _ _ HVB17.out]; rfl
        have hfv : Q18.frozen? ⟨Q11.heap.size, 0, none⟩ = false := by rw [hW, World.frozen?_setCells]; exact frozen_of_row _ _ _ _ _ HVB17.out
        clear hW
        refine wpAnyH_ready (rs := [8]) (by kernel_rfl) (by simp) ?_
        refine AllReadyH.cons (o := { dst := none, op := .store 28 (.tmp 5) (.tmp 17), type := _, pos := _, after := _, guard := none }) rfl (fun K hK => ?_) AllReadyH.nil
        go_simp
        refine hK.out _ _ ?_ (fun hHeld => ?_)
        · exact FS.out _ (HB18.out.setCell (p := ⟨Q11.heap.size, 0, none⟩) HVO16.out _)
        clear hK K
        try simp only [Act.put, List.setIfInBounds_toArray, List.set_cons_zero, List.set_cons_succ]
        refine anyH_gen _ (fun Q19 hW => ?_)
        have HB19 : Hid (Below W2.heap.size W2 Q19) := Lib.hid (by rw [hW]; exact (HB18.out.setCell (p := ⟨Q11.heap.size, 0, none⟩) HVO16.out _))
        have HTS2 := Lib.hid (two_stores HOC17.out HUB17.out HVB17.out HZU.out HUE.out)
        rw [← HE18.out, ← hW] at HTS2
        rw [← hW] at hHeld
        clear hW
        refine wpAnyH_done (by kernel_rfl) ?_ _
        exact HREST.out _ _ _ _ _ HB19.out HTS2.out.1 HTS2.out.2.1 HTS2.out.2.2
    · go_simp
      refine hK.out _ _ ?_ (fun hHeld => ?_)
      · exact FS.out _ (HB1.out.alloc HB1.out.size _)
      clear hK K
      try simp only [Act.put, List.setIfInBounds_toArray, List.set_cons_zero, List.set_cons_succ]
      refine anyH_gen _ (fun Q20 hW => ?_)
      have HB20 : Hid (Below W2.heap.size W2 Q20) := Lib.hid (by rw [hW]; exact HB1.out.alloc HB1.out.size _)
      have HVB20 : Hid (Q20.heap[Q1.heap.size]? = some (.cells #[.slice none 0 0] 28 (0, 0))) := Lib.hid (by rw [hW]; exact heap_alloc_new Q1 _)
      have HVO20 : Hid (W2.heap.size ≤ Q1.heap.size) := Lib.hid HB1.out.size
      rw [← hW] at hHeld
      clear hW
      refine wpAnyH_ready (rs := [4, 5]) (by kernel_rfl) (by simp) ?_
      refine AllReadyH.cons (o := { dst := some 17, op := .call { callee := .value (.func 113), args := #[.tmp 16], argTypes := #[99] }, type := _, pos := _, after := _, guard := none }) rfl (fun K hK => ?_) (AllReadyH.cons (o := { dst := some 4, op := .alloc 140, type := _, pos := _, after := _, guard := none }) rfl (fun K hK => ?_) AllReadyH.nil)
      · go_simp
        refine (HRL.out Q20).mono ?_
        rintro _ Q21 ⟨vl, rfl, hol⟩
        have HB21 : Hid (Below W2.heap.size W2 Q21) := Lib.hid (HB20.out.trans (hol.bel.mono HB20.out.size))
        have HVB21 : Hid (Q21.heap[Q1.heap.size]? = some (.cells #[.slice none 0 0] 28 (0, 0))) := Lib.hid ((hol.bel.block _ (Array.getElem?_eq_some_iff.1 HVB20.out).1).trans HVB20.out)
        obtain ⟨gl, cl, rfl, -, -, -⟩ := hol.form
        have HOC21 := Lib.hid hol
        clear hol
        try go_simp
        refine hK.out _ _ ?_ (fun hHeld => ?_)
        · exact FS.out _ HB21.out
        clear hK K
        try simp only [Act.put, List.setIfInBounds_toArray, List.set_cons_zero, List.set_cons_succ]
        refine wpAnyH_ready (rs := [5]) (by kernel_rfl) (by simp) ?_
        refine AllReadyH.cons (o := { dst := some 4, op := .alloc 140, type := _, pos := _, after := _, guard := none }) rfl (fun K hK => ?_) AllReadyH.nil
        rw [if_pos (by rfl)]
        refine wp_alloc_mid 140 rfl zu.toArray ZU.out ?_
        refine hK.out _ _ ?_ (fun hHeld => ?_)
        · exact FS.out _ (HB21.out.alloc HB21.out.size _)
        clear hK K
        try simp only [Act.put, List.setIfInBounds_toArray, List.set_cons_zero, List.set_cons_succ]
        refine anyH_gen _ (fun Q22 hW => ?_)
        have HB22 : Hid (Below W2.heap.size W2 Q22) := Lib.hid (by rw [hW]; exact HB21.out.alloc HB21.out.size _)
        have HVB22 : Hid (Q22.heap[Q1.heap.size]? = some (.cells #[.slice none 0 0] 28 (0, 0))) := Lib.hid (((by rw [hW]; exact (Below.refl Q21.heap.size Q21).alloc (Nat.le_refl _) _ : Below Q21.heap.size Q21 Q22).block _ (Array.getElem?_eq_some_iff.1 HVB21.out).1).trans HVB21.out)
        have HOC22 := Lib.hid (HOC21.out.later (by rw [hW]; exact (Below.refl Q21.heap.size Q21).alloc (Nat.le_refl _) _ : Below Q21.heap.size Q21 Q22))
        have HUB22 : Hid (Q22.heap[Q21.heap.size]? = some (.cells zu.toArray 140 (0, 0))) := Lib.hid (by rw [hW]; exact heap_alloc_new Q21 _)
        have HUO22 : Hid (W2.heap.size ≤ Q21.heap.size) := Lib.hid HB21.out.size
        rw [← hW] at hHeld
        clear hW
        refine wpAnyH_ready (rs := [7]) (by kernel_rfl) (by simp) ?_
        refine AllReadyH.cons (o := { dst := none, op := .store 140 (.tmp 4) (.tmp 14), type := _, pos := _, after := _, guard := none }) rfl (fun K hK => ?_) AllReadyH.nil
        rw [if_pos (by rfl)]
        refine wp_store_mid 140 (.tmp 4) (.tmp 14) rfl Q21.heap.size 0 UC.toArray rfl rfl (by rw [HUS.out]; exact there_row HUB22.out (by rw [List.size_toArray, HZU.out]; exact Nat.le_refl _)) (info_uses HUS.out) HUO.out ?_
        rw [show UC.toArray.toList = UC from rfl]
        refine hK.out _ _ ?_ (fun hHeld => ?_)
        · exact FS.out _ (Below.setCells (Below.refl W2.heap.size W2) _ HUO22.out _ _ _ HB22.out)
        clear hK K
        try simp only [Act.put, List.setIfInBounds_toArray, List.set_cons_zero, List.set_cons_succ]
        refine anyH_gen _ (fun Q23 hW => ?_)
        have HB23 : Hid (Below W2.heap.size W2 Q23) := Lib.hid (by rw [hW]; exact (Below.setCells (Below.refl W2.heap.size W2) _ HUO22.out _ _ _ HB22.out))
        have HE23 := Lib.hid hW
        rw [← hW] at hHeld
        have hcv : Q23.cell? ⟨Q1.heap.size, 0, none⟩ = some (.slice none 0 0) := by rw [hW, World.cell?_of_block (heap_setCells_other Q22 _ _ _ Q22 _ (fun e => by have h7 := HUB22.out; rw [← e, HVB22.out] at h7; exact absurd (congrArg (fun o => match o with | some (Obj.cells _ t _) => t | _ => 0) h7) (show ¬ ((28 : Nat) = 140) by decide))), cell_of_row _ _ 0 _ _ _ HVB22.out]; rfl
        have hfv : Q23.frozen? ⟨Q1.heap.size, 0, none⟩ = false := by rw [hW, World.frozen?_setCells]; exact frozen_of_row _ _ _ _ _ HVB22.out
        clear hW
        refine wpAnyH_ready (rs := [8]) (by kernel_rfl) (by simp) ?_
        refine AllReadyH.cons (o := { dst := none, op := .store 28 (.tmp 5) (.tmp 17), type := _, pos := _, after := _, guard := none }) rfl (fun K hK => ?_) AllReadyH.nil
        go_simp
        refine hK.out _ _ ?_ (fun hHeld => ?_)
        · exact FS.out _ (HB23.out.setCell (p := ⟨Q1.heap.size, 0, none⟩) HVO20.out _)
        clear hK K
        try simp only [Act.put, List.setIfInBounds_toArray, List.set_cons_zero, List.set_cons_succ]
        refine anyH_gen _ (fun Q24 hW => ?_)
        have HB24 : Hid (Below W2.heap.size W2 Q24) := Lib.hid (by rw [hW]; exact (HB23.out.setCell (p := ⟨Q1.heap.size, 0, none⟩) HVO20.out _))
        have HTS2 := Lib.hid (two_stores HOC22.out HUB22.out HVB22.out HZU.out HUE.out)
        rw [← HE23.out, ← hW] at HTS2
        rw [← hW] at hHeld
        clear hW
        refine wpAnyH_done (by kernel_rfl) ?_ _
        exact HREST.out _ _ _ _ _ HB24.out HTS2.out.1 HTS2.out.2.1 HTS2.out.2.2
      · rw [if_pos (by rfl)]
        refine wp_alloc_mid 140 rfl zu.toArray ZU.out ?_
        refine hK.out _ _ ?_ (fun hHeld => ?_)
        · exact FS.out _ (HB20.out.alloc HB20.out.size _)
        clear hK K
        try simp only [Act.put, List.setIfInBounds_toArray, List.set_cons_zero, List.set_cons_succ]
        refine anyH_gen _ (fun Q25 hW => ?_)
        have HB25 : Hid (Below W2.heap.size W2 Q25) := Lib.hid (by rw [hW]; exact HB20.out.alloc HB20.out.size _)
        have HVB25 : Hid (Q25.heap[Q1.heap.size]? = some (.cells #[.slice none 0 0] 28 (0, 0))) := Lib.hid (((by rw [hW]; exact (Below.refl Q20.heap.size Q20).alloc (Nat.le_refl _) _ : Below Q20.heap.size Q20 Q25).block _ (Array.getElem?_eq_some_iff.1 HVB20.out).1).trans HVB20.out)
        have HUB25 : Hid (Q25.heap[Q20.heap.size]? = some (.cells zu.toArray 140 (0, 0))) := Lib.hid (by rw [hW]; exact heap_alloc_new Q20 _)
        have HUO25 : Hid (W2.heap.size ≤ Q20.heap.size) := Lib.hid HB20.out.size
        rw [← hW] at hHeld
        clear hW
        refine wpAnyH_ready (rs := [4]) (by kernel_rfl) (by simp) ?_
        refine AllReadyH.cons (o := { dst := some 17, op := .call { callee := .value (.func 113), args := #[.tmp 16], argTypes := #[99] }, type := _, pos := _, after := _, guard := none }) rfl (fun K hK => ?_) AllReadyH.nil
        go_simp
        refine (HRL.out Q25).mono ?_
        rintro _ Q26 ⟨vl, rfl, hol⟩
        have HB26 : Hid (Below W2.heap.size W2 Q26) := Lib.hid (HB25.out.trans (hol.bel.mono HB25.out.size))
        have HUB26 : Hid (Q26.heap[Q20.heap.size]? = some (.cells zu.toArray 140 (0, 0))) := Lib.hid ((hol.bel.block _ (Array.getElem?_eq_some_iff.1 HUB25.out).1).trans HUB25.out)
        have HVB26 : Hid (Q26.heap[Q1.heap.size]? = some (.cells #[.slice none 0 0] 28 (0, 0))) := Lib.hid ((hol.bel.block _ (Array.getElem?_eq_some_iff.1 HVB25.out).1).trans HVB25.out)
        obtain ⟨gl, cl, rfl, -, -, -⟩ := hol.form
        have HOC26 := Lib.hid hol
        clear hol
        try go_simp
        refine hK.out _ _ ?_ (fun hHeld => ?_)
        · exact FS.out _ HB26.out
        clear hK K
        try simp only [Act.put, List.setIfInBounds_toArray, List.set_cons_zero, List.set_cons_succ]
        refine wpAnyH_ready (rs := [7]) (by kernel_rfl) (by simp) ?_
        refine AllReadyH.cons (o := { dst := none, op := .store 140 (.tmp 4) (.tmp 14), type := _, pos := _, after := _, guard := none }) rfl (fun K hK => ?_) AllReadyH.nil
        rw [if_pos (by rfl)]
        refine wp_store_mid 140 (.tmp 4) (.tmp 14) rfl Q20.heap.size 0 UC.toArray rfl rfl (by rw [HUS.out]; exact there_row HUB26.out (by rw [List.size_toArray, HZU.out]; exact Nat.le_refl _)) (info_uses HUS.out) HUO.out ?_
        rw [show UC.toArray.toList = UC from rfl]
        refine hK.out _ _ ?_ (fun hHeld => ?_)
        · exact FS.out _ (Below.setCells (Below.refl W2.heap.size W2) _ HUO25.out _ _ _ HB26.out)
        clear hK K
        try simp only [Act.put, List.setIfInBounds_toArray, List.set_cons_zero, List.set_cons_succ]
        refine anyH_gen _ (fun Q27 hW => ?_)
        have HB27 : Hid (Below W2.heap.size W2 Q27) := Lib.hid (by rw [hW]; exact (Below.setCells (Below.refl W2.heap.size W2) _ HUO25.out _ _ _ HB26.out))
        have HE27 := Lib.hid hW
        rw [← hW] at hHeld
        have hcv : Q27.cell? ⟨Q1.heap.size, 0, none⟩ = some (.slice none 0 0) := by rw [hW, World.cell?_of_block (heap_setCells_other Q26 _ _ _ Q26 _ (fun e => by have h7 := HUB26.out; rw [← e, HVB26.out] at h7; exact absurd (congrArg (fun o => match o with | some (Obj.cells _ t _) => t | _ => 0) h7) (show ¬ ((28 : Nat) = 140) by decide))), cell_of_row _ _ 0 _ _ _ HVB26.out]; rfl
        have hfv : Q27.frozen? ⟨Q1.heap.size, 0, none⟩ = false := by rw [hW, World.frozen?_setCells]; exact frozen_of_row _ _ _ _ _ HVB26.out
        clear hW
        refine wpAnyH_ready (rs := [8]) (by kernel_rfl) (by simp) ?_
        refine AllReadyH.cons (o := { dst := none, op := .store 28 (.tmp 5) (.tmp 17), type := _, pos := _, after := _, guard := none }) rfl (fun K hK => ?_) AllReadyH.nil
        go_simp
        refine hK.out _ _ ?_ (fun hHeld => ?_)
        · exact FS.out _ (HB27.out.setCell (p := ⟨Q1.heap.size, 0, none⟩) HVO20.out _)
        clear hK K
        try simp only [Act.put, List.setIfInBounds_toArray, List.set_cons_zero, List.set_cons_succ]
        refine anyH_gen _ (fun Q28 hW => ?_)
        have HB28 : Hid (Below W2.heap.size W2 Q28) := Lib.hid (by rw [hW]; exact (HB27.out.setCell (p := ⟨Q1.heap.size, 0, none⟩) HVO20.out _))
        have HTS2 := Lib.hid (two_stores HOC26.out HUB26.out HVB26.out HZU.out HUE.out)
        rw [← HE27.out, ← hW] at HTS2
        rw [← hW] at hHeld
        clear hW
        refine wpAnyH_done (by kernel_rfl) ?_ _
        exact HREST.out _ _ _ _ _ HB28.out HTS2.out.1 HTS2.out.2.1 HTS2.out.2.2
  · rw [if_pos (by rfl)]
    refine wp_alloc_mid 140 rfl zu.toArray ZU.out ?_
    refine hK.out _ _ ?_ (fun hHeld => ?_)
    · exact FS.out _ (HBA.out.alloc HBA.out.size _)
    clear hK K
    try simp only [Act.put, List.setIfInBounds_toArray, List.set_cons_zero, List.set_cons_succ]
    refine anyH_gen _ (fun Q29 hW => ?_)
    have HB29 : Hid (Below W2.heap.size W2 Q29) := Lib.hid (by rw [hW]; exact HBA.out.alloc HBA.out.size _)
    have HUB29 : Hid (Q29.heap[QA.heap.size]? = some (.cells zu.toArray 140 (0, 0))) := Lib.hid (by rw [hW]; exact heap_alloc_new QA _)
    have HUO29 : Hid (W2.heap.size ≤ QA.heap.size) := Lib.hid HBA.out.size
    rw [← hW] at hHeld
    clear hW
    refine wpAnyH_ready (rs := [1, 6]) (by kernel_rfl) (by simp) ?_
    refine AllReadyH.cons (o := { dst := some 14, op := .call { callee := .value (.func 82), args := #[.tmp 13], argTypes := #[126] }, type := _, pos := _, after := _, guard := none }) rfl (fun K hK => ?_) (AllReadyH.cons (o := { dst := some 5, op := .alloc 28, type := _, pos := _, after := _, guard := none }) rfl (fun K hK => ?_) AllReadyH.nil)
    · go_simp
      refine (HCN.out Q29).mono ?_
      rintro _ Q30 ⟨rfl, hb⟩
      have HB30 : Hid (Below W2.heap.size W2 Q30) := Lib.hid (HB29.out.trans (hb.mono HB29.out.size))
      have HUB30 : Hid (Q30.heap[QA.heap.size]? = some (.cells zu.toArray 140 (0, 0))) := Lib.hid ((hb.block _ (Array.getElem?_eq_some_iff.1 HUB29.out).1).trans HUB29.out)
      clear hb
      try go_simp
      refine hK.out _ _ ?_ (fun hHeld => ?_)
      · exact FS.out _ HB30.out
      clear hK K
      try simp only [Act.put, List.setIfInBounds_toArray, List.set_cons_zero, List.set_cons_succ]
      refine wpAnyH_ready (rs := [4, 6]) (by kernel_rfl) (by simp) ?_
      refine AllReadyH.cons (o := { dst := some 17, op := .call { callee := .value (.func 113), args := #[.tmp 16], argTypes := #[99] }, type := _, pos := _, after := _, guard := none }) rfl (fun K hK => ?_) (AllReadyH.cons (o := { dst := some 5, op := .alloc 28, type := _, pos := _, after := _, guard := none }) rfl (fun K hK => ?_) AllReadyH.nil)
      · go_simp
        refine (HRL.out Q30).mono ?_
        rintro _ Q31 ⟨vl, rfl, hol⟩
        have HB31 : Hid (Below W2.heap.size W2 Q31) := Lib.hid (HB30.out.trans (hol.bel.mono HB30.out.size))
        have HUB31 : Hid (Q31.heap[QA.heap.size]? = some (.cells zu.toArray 140 (0, 0))) := Lib.hid ((hol.bel.block _ (Array.getElem?_eq_some_iff.1 HUB30.out).1).trans HUB30.out)
        obtain ⟨gl, cl, rfl, -, -, -⟩ := hol.form
        have HOC31 := Lib.hid hol
        clear hol
        try go_simp
        refine hK.out _ _ ?_ (fun hHeld => ?_)
        · exact FS.out _ HB31.out
        clear hK K
        try simp only [Act.put, List.setIfInBounds_toArray, List.set_cons_zero, List.set_cons_succ]
        refine wpAnyH_ready (rs := [6]) (by kernel_rfl) (by simp) ?_
        refine AllReadyH.cons (o := { dst := some 5, op := .alloc 28, type := _, pos := _, after := _, guard := none }) rfl (fun K hK => ?_) AllReadyH.nil
        go_simp
        refine hK.out _ _ ?_ (fun hHeld => ?_)
        · exact FS.out _ (HB31.out.alloc HB31.out.size _)
        clear hK K
        try simp only [Act.put, List.setIfInBounds_toArray, List.set_cons_zero, List.set_cons_succ]
        refine anyH_gen _ (fun Q32 hW => ?_)
        have HB32 : Hid (Below W2.heap.size W2 Q32) := Lib.hid (by rw [hW]; exact HB31.out.alloc HB31.out.size _)
        have HUB32 : Hid (Q32.heap[QA.heap.size]? = some (.cells zu.toArray 140 (0, 0))) := Lib.hid (((by rw [hW]; exact (Below.refl Q31.heap.size Q31).alloc (Nat.le_refl _) _ : Below Q31.heap.size Q31 Q32).block _ (Array.getElem?_eq_some_iff.1 HUB31.out).1).trans HUB31.out)
        have HOC32 := Lib.hid (HOC31.out.later (by rw [hW]; exact (Below.refl Q31.heap.size Q31).alloc (Nat.le_refl _) _ : Below Q31.heap.size Q31 Q32))
        have HVB32 : Hid (Q32.heap[Q31.heap.size]? = some (.cells #[.slice none 0 0] 28 (0, 0))) := Lib.hid (by rw [hW]; exact heap_alloc_new Q31 _)
        have HVO32 : Hid (W2.heap.size ≤ Q31.heap.size) := Lib.hid HB31.out.size
        rw [← hW] at hHeld
        clear hW
        refine wpAnyH_ready (rs := [7]) (by kernel_rfl) (by simp) ?_
        refine AllReadyH.cons (o := { dst := none, op := .store 140 (.tmp 4) (.tmp 14), type := _, pos := _, after := _, guard := none }) rfl (fun K hK => ?_) AllReadyH.nil
        rw [if_pos (by rfl)]
        refine wp_store_mid 140 (.tmp 4) (.tmp 14) rfl QA.heap.size 0 UC.toArray rfl rfl (by rw [HUS.out]; exact there_row HUB32.out (by rw [List.size_toArray, HZU.out]; exact Nat.le_refl _)) (info_uses HUS.out) HUO.out ?_
        rw [show UC.toArray.toList = UC from rfl]
        refine hK.out _ _ ?_ (fun hHeld => ?_)
        · exact FS.out _ (Below.setCells (Below.refl W2.heap.size W2) _ HUO29.out _ _ _ HB32.out)
        clear hK K
        try simp only [Act.put, List.setIfInBounds_toArray, List.set_cons_zero, List.set_cons_succ]
        refine anyH_gen _ (fun Q33 hW => ?_)
        have HB33 : Hid (Below W2.heap.size W2 Q33) := Lib.hid (by rw [hW]; exact (Below.setCells (Below.refl W2.heap.size W2) _ HUO29.out _ _ _ HB32.out))
        have HE33 := Lib.hid hW
        rw [← hW] at hHeld
        have hcv : Q33.cell? ⟨Q31.heap.size, 0, none⟩ = some (.slice none 0 0) := by rw [hW, World.cell?_of_block (heap_setCells_other Q32 _ _ _ Q32 _ (fun e => by have h7 := HUB32.out; rw [← e, HVB32.out] at h7; exact absurd (congrArg (fun o => match o with | some (Obj.cells _ t _) => t | _ => 0) h7) (show ¬ ((28 : Nat) = 140) by decide))), cell_of_row _ _ 0 _ _ _ HVB32.out]; rfl
        have hfv : Q33.frozen? ⟨Q31.heap.size, 0, none⟩ = false := by rw [hW, World.frozen?_setCells]; exact frozen_of_row _ _ _ _ _ HVB32.out
        clear hW
        refine wpAnyH_ready (rs := [8]) (by kernel_rfl) (by simp) ?_
        refine AllReadyH.cons (o := { dst := none, op := .store 28 (.tmp 5) (.tmp 17), type := _, pos := _, after := _, guard := none }) rfl (fun K hK => ?_) AllReadyH.nil
        go_simp
        refine hK.out _ _ ?_ (fun hHeld => ?_)
        · exact FS.out _ (HB33.out.setCell (p := ⟨Q31.heap.size, 0, none⟩) HVO32.out _)
        clear hK K
        try simp only [Act.put, List.setIfInBounds_toArray, List.set_cons_zero, List.set_cons_succ]
        refine anyH_gen _ (fun Q34 hW => ?_)
        have HB34 : Hid (Below W2.heap.size W2 Q34) := Lib.hid (by rw [hW]; exact (HB33.out.setCell (p := ⟨Q31.heap.size, 0, none⟩) HVO32.out _))
        have HTS2 := Lib.hid (two_stores HOC32.out HUB32.out HVB32.out HZU.out HUE.out)
        rw [← HE33.out, ← hW] at HTS2
        rw [← hW] at hHeld
        clear hW
        refine wpAnyH_done (by kernel_rfl) ?_ _
        exact HREST.out _ _ _ _ _ HB34.out HTS2.out.1 HTS2.out.2.1 HTS2.out.2.2
      · go_simp
        refine hK.out _ _ ?_ (fun hHeld => ?_)
        · exact FS.out _ (HB30.out.alloc HB30.out.size _)
        clear hK K
        try simp only [Act.put, List.setIfInBounds_toArray, List.set_cons_zero, List.set_cons_succ]
        refine anyH_gen _ (fun Q35 hW => ?_)
        have HB35 : Hid (Below W2.heap.size W2 Q35) := Lib.hid (by rw [hW]; exact HB30.out.alloc HB30.out.size _)
        have HUB35 : Hid (Q35.heap[QA.heap.size]? = some (.cells zu.toArray 140 (0, 0))) := Lib.hid (((by rw [hW]; exact (Below.refl Q30.heap.size Q30).alloc (Nat.le_refl _) _ : Below Q30.heap.size Q30 Q35).block _ (Array.getElem?_eq_some_iff.1 HUB30.out).1).trans HUB30.out)
        have HVB35 : Hid (Q35.heap[Q30.heap.size]? = some (.cells #[.slice none 0 0] 28 (0, 0))) := Lib.hid (by rw [hW]; exact heap_alloc_new Q30 _)
        have HVO35 : Hid (W2.heap.size ≤ Q30.heap.size) := Lib.hid HB30.out.size
        rw [← hW] at hHeld
        clear hW
        refine wpAnyH_ready (rs := [4]) (by kernel_rfl) (by simp) ?_
        refine AllReadyH.cons (o := { dst := some 17, op := .call { callee := .value (.func 113), args := #[.tmp 16], argTypes := #[99] }, type := _, pos := _, after := _, guard := none }) rfl (fun K hK => ?_) AllReadyH.nil
        go_simp
        refine (HRL.out Q35).mono ?_
        rintro _ Q36 ⟨vl, rfl, hol⟩
        have HB36 : Hid (Below W2.heap.size W2 Q36) := Lib.hid (HB35.out.trans (hol.bel.mono HB35.out.size))
        have HUB36 : Hid (Q36.heap[QA.heap.size]? = some (.cells zu.toArray 140 (0, 0))) := Lib.hid ((hol.bel.block _ (Array.getElem?_eq_some_iff.1 HUB35.out).1).trans HUB35.out)
        have HVB36 : Hid (Q36.heap[Q30.heap.size]? = some (.cells #[.slice none 0 0] 28 (0, 0))) := Lib.hid ((hol.bel.block _ (Array.getElem?_eq_some_iff.1 HVB35.out).1).trans HVB35.out)
        obtain ⟨gl, cl, rfl, -, -, -⟩ := hol.form
        have HOC36 := Lib.hid hol
        clear hol
        try go_simp
        refine hK.out _ _ ?_ (fun hHeld => ?_)
        · exact FS.out _ HB36.out
        clear hK K
        try simp only [Act.put, List.setIfInBounds_toArray, List.set_cons_zero, List.set_cons_succ]
        refine wpAnyH_ready (rs := [7]) (by kernel_rfl) (by simp) ?_
        refine AllReadyH.cons (o := { dst := none, op := .store 140 (.tmp 4) (.tmp 14), type := _, pos := _, after := _, guard := none }) rfl (fun K hK => ?_) AllReadyH.nil
        rw [if_pos (by rfl)]
        refine wp_store_mid 140 (.tmp 4) (.tmp 14) rfl QA.heap.size 0 UC.toArray rfl rfl (by rw [HUS.out]; exact there_row HUB36.out (by rw [List.size_toArray, HZU.out]; exact Nat.le_refl _)) (info_uses HUS.out) HUO.out ?_
        rw [show UC.toArray.toList = UC from rfl]
        refine hK.out _ _ ?_ (fun hHeld => ?_)
        · exact FS.out _ (Below.setCells (Below.refl W2.heap.size W2) _ HUO29.out _ _ _ HB36.out)
        clear hK K
        try simp only [Act.put, List.setIfInBounds_toArray, List.set_cons_zero, List.set_cons_succ]
        refine anyH_gen _ (fun Q37 hW => ?_)
        have HB37 : Hid (Below W2.heap.size W2 Q37) := Lib.hid (by rw [hW]; exact (Below.setCells (Below.refl W2.heap.size W2) _ HUO29.out _ _ _ HB36.out))
        have HE37 := Lib.hid hW
        rw [← hW] at hHeld
        have hcv : Q37.cell? ⟨Q30.heap.size, 0, none⟩ = some (.slice none 0 0) := by rw [hW, World.cell?_of_block (heap_setCells_other Q36 _ _ _ Q36 _ (fun e => by have h7 := HUB36.out; rw [← e, HVB36.out] at h7; exact absurd (congrArg (fun o => match o with | some (Obj.cells _ t _) => t | _ => 0) h7) (show ¬ ((28 : Nat) = 140) by decide))), cell_of_row _ _ 0 _ _ _ HVB36.out]; rfl
        have hfv : Q37.frozen? ⟨Q30.heap.size, 0, none⟩ = false := by rw [hW, World.frozen?_setCells]; exact frozen_of_row _ _ _ _ _ HVB36.out
        clear hW
        refine wpAnyH_ready (rs := [8]) (by kernel_rfl) (by simp) ?_
        refine AllReadyH.cons (o := { dst := none, op := .store 28 (.tmp 5) (.tmp 17), type := _, pos := _, after := _, guard := none }) rfl (fun K hK => ?_) AllReadyH.nil
        go_simp
        refine hK.out _ _ ?_ (fun hHeld => ?_)
        · exact FS.out _ (HB37.out.setCell (p := ⟨Q30.heap.size, 0, none⟩) HVO35.out _)
        clear hK K
        try simp only [Act.put, List.setIfInBounds_toArray, List.set_cons_zero, List.set_cons_succ]
        refine anyH_gen _ (fun Q38 hW => ?_)
        have HB38 : Hid (Below W2.heap.size W2 Q38) := Lib.hid (by rw [hW]; exact (HB37.out.setCell (p := ⟨Q30.heap.size, 0, none⟩) HVO35.out _))
        have HTS2 := Lib.hid (two_stores HOC36.out HUB36.out HVB36.out HZU.out HUE.out)
        rw [← HE37.out, ← hW] at HTS2
        rw [← hW] at hHeld
        clear hW
        refine wpAnyH_done (by kernel_rfl) ?_ _
        exact HREST.out _ _ _ _ _ HB38.out HTS2.out.1 HTS2.out.2.1 HTS2.out.2.2
    · go_simp
      refine hK.out _ _ ?_ (fun hHeld => ?_)
      · exact FS.out _ (HB29.out.alloc HB29.out.size _)
      clear hK K
      try simp only [Act.put, List.setIfInBounds_toArray, List.set_cons_zero, List.set_cons_succ]
      refine anyH_gen _ (fun Q39 hW => ?_)
      have HB39 : Hid (Below W2.heap.size W2 Q39) := Lib.hid (by rw [hW]; exact HB29.out.alloc HB29.out.size _)
      have HUB39 : Hid (Q39.heap[QA.heap.size]? = some (.cells zu.toArray 140 (0, 0))) := Lib.hid (((by rw [hW]; exact (Below.refl Q29.heap.size Q29).alloc (Nat.le_refl _) _ : Below Q29.heap.size Q29 Q39).block _ (Array.getElem?_eq_some_iff.1 HUB29.out).1).trans HUB29.out)
      have HVB39 : Hid (Q39.heap[Q29.heap.size]? = some (.cells #[.slice none 0 0] 28 (0, 0))) := Lib.hid (by rw [hW]; exact heap_alloc_new Q29 _)
      have HVO39 : Hid (W2.heap.size ≤ Q29.heap.size) := Lib.hid HB29.out.size
      rw [← hW] at hHeld
      clear hW
      refine wpAnyH_ready (rs := [1]) (by kernel_rfl) (by simp) ?_
      refine AllReadyH.cons (o := { dst := some 14, op := .call { callee := .value (.func 82), args := #[.tmp 13], argTypes := #[126] }, type := _, pos := _, after := _, guard := none }) rfl (fun K hK => ?_) AllReadyH.nil
      go_simp
      refine (HCN.out Q39).mono ?_
      rintro _ Q40 ⟨rfl, hb⟩
      have HB40 : Hid (Below W2.heap.size W2 Q40) := Lib.hid (HB39.out.trans (hb.mono HB39.out.size))
      have HUB40 : Hid (Q40.heap[QA.heap.size]? = some (.cells zu.toArray 140 (0, 0))) := Lib.hid ((hb.block _ (Array.getElem?_eq_some_iff.1 HUB39.out).1).trans HUB39.out)
      have HVB40 : Hid (Q40.heap[Q29.heap.size]? = some (.cells #[.slice none 0 0] 28 (0, 0))) := Lib.hid ((hb.block _ (Array.getElem?_eq_some_iff.1 HVB39.out).1).trans HVB39.out)
      clear hb
      try go_simp
      refine hK.out _ _ ?_ (fun hHeld => ?_)
      · exact FS.out _ HB40.out
      clear hK K
      try simp only [Act.put, List.setIfInBounds_toArray, List.set_cons_zero, List.set_cons_succ]
      refine wpAnyH_ready (rs := [4]) (by kernel_rfl) (by simp) ?_
      refine AllReadyH.cons (o := { dst := some 17, op := .call { callee := .value (.func 113), args := #[.tmp 16], argTypes := #[99] }, type := _, pos := _, after := _, guard := none }) rfl (fun K hK => ?_) AllReadyH.nil
      go_simp
      refine (HRL.out Q40).mono ?_
      rintro _ Q41 ⟨vl, rfl, hol⟩
      have HB41 : Hid (Below W2.heap.size W2 Q41) := Lib.hid (HB40.out.trans (hol.bel.mono HB40.out.size))
      have HUB41 : Hid (Q41.heap[QA.heap.size]? = some (.cells zu.toArray 140 (0, 0))) := Lib.hid ((hol.bel.block _ (Array.getElem?_eq_some_iff.1 HUB40.out).1).trans HUB40.out)
      have HVB41 : Hid (Q41.heap[Q29.heap.size]? = some (.cells #[.slice none 0 0] 28 (0, 0))) := Lib.hid ((hol.bel.block _ (Array.getElem?_eq_some_iff.1 HVB40.out).1).trans HVB40.out)
      obtain ⟨gl, cl, rfl, -, -, -⟩ := hol.form
      have HOC41 := Lib.hid hol
      clear hol
      try go_simp
      refine hK.out _ _ ?_ (fun hHeld => ?_)
      · exact FS.out _ HB41.out
      clear hK K
      try simp only [Act.put, List.setIfInBounds_toArray, List.set_cons_zero, List.set_cons_succ]
      refine wpAnyH_ready (rs := [7]) (by kernel_rfl) (by simp) ?_
      refine AllReadyH.cons (o := { dst := none, op := .store 140 (.tmp 4) (.tmp 14), type := _, pos := _, after := _, guard := none }) rfl (fun K hK => ?_) AllReadyH.nil
      rw [if_pos (by rfl)]
      refine wp_store_mid 140 (.tmp 4) (.tmp 14) rfl QA.heap.size 0 UC.toArray rfl rfl (by rw [HUS.out]; exact there_row HUB41.out (by rw [List.size_toArray, HZU.out]; exact Nat.le_refl _)) (info_uses HUS.out) HUO.out ?_
      rw [show UC.toArray.toList = UC from rfl]
      refine hK.out _ _ ?_ (fun hHeld => ?_)
      · exact FS.out _ (Below.setCells (Below.refl W2.heap.size W2) _ HUO29.out _ _ _ HB41.out)
      clear hK K
      try simp only [Act.put, List.setIfInBounds_toArray, List.set_cons_zero, List.set_cons_succ]
      refine anyH_gen _ (fun Q42 hW => ?_)
      have HB42 : Hid (Below W2.heap.size W2 Q42) := Lib.hid (by rw [hW]; exact (Below.setCells (Below.refl W2.heap.size W2) _ HUO29.out _ _ _ HB41.out))
      have HE42 := Lib.hid hW
      rw [← hW] at hHeld
      have hcv : Q42.cell? ⟨Q29.heap.size, 0, none⟩ = some (.slice none 0 0) := by rw [hW, World.cell?_of_block (heap_setCells_other Q41 _ _ _ Q41 _ (fun e => by have h7 := HUB41.out; rw [← e, HVB41.out] at h7; exact absurd (congrArg (fun o => match o with | some (Obj.cells _ t _) => t | _ => 0) h7) (show ¬ ((28 : Nat) = 140) by decide))), cell_of_row _ _ 0 _ _ _ HVB41.out]; rfl
      have hfv : Q42.frozen? ⟨Q29.heap.size, 0, none⟩ = false := by rw [hW, World.frozen?_setCells]; exact frozen_of_row _ _ _ _ _ HVB41.out
      clear hW
      refine wpAnyH_ready (rs := [8]) (by kernel_rfl) (by simp) ?_
      refine AllReadyH.cons (o := { dst := none, op := .store 28 (.tmp 5) (.tmp 17), type := _, pos := _, after := _, guard := none }) rfl (fun K hK => ?_) AllReadyH.nil
      go_simp
      refine hK.out _ _ ?_ (fun hHeld => ?_)
      · exact FS.out _ (HB42.out.setCell (p := ⟨Q29.heap.size, 0, none⟩) HVO39.out _)
      clear hK K
      try simp only [Act.put, List.setIfInBounds_toArray, List.set_cons_zero, List.set_cons_succ]
      refine anyH_gen _ (fun Q43 hW => ?_)
      have HB43 : Hid (Below W2.heap.size W2 Q43) := Lib.hid (by rw [hW]; exact (HB42.out.setCell (p := ⟨Q29.heap.size, 0, none⟩) HVO39.out _))
      have HTS2 := Lib.hid (two_stores HOC41.out HUB41.out HVB41.out HZU.out HUE.out)
      rw [← HE42.out, ← hW] at HTS2
      rw [← hW] at hHeld
      clear hW
      refine wpAnyH_done (by kernel_rfl) ?_ _
      exact HREST.out _ _ _ _ _ HB43.out HTS2.out.1 HTS2.out.2.1 HTS2.out.2.2
  · go_simp
    refine hK.out _ _ ?_ (fun hHeld => ?_)
    · exact FS.out _ (HBA.out.alloc HBA.out.size _)
    clear hK K
    try simp only [Act.put, List.setIfInBounds_toArray, List.set_cons_zero, List.set_cons_succ]
    refine anyH_gen _ (fun Q44 hW => ?_)
    have HB44 : Hid (Below W2.heap.size W2 Q44) := Lib.hid (by rw [hW]; exact HBA.out.alloc HBA.out.size _)
    have HVB44 : Hid (Q44.heap[QA.heap.size]? = some (.cells #[.slice none 0 0] 28 (0, 0))) := Lib.hid (by rw [hW]; exact heap_alloc_new QA _)
    have HVO44 : Hid (W2.heap.size ≤ QA.heap.size) := Lib.hid HBA.out.size
    rw [← hW] at hHeld
    clear hW
    refine wpAnyH_ready (rs := [1, 5]) (by kernel_rfl) (by simp) ?_
    refine AllReadyH.cons (o := { dst := some 14, op := .call { callee := .value (.func 82), args := #[.tmp 13], argTypes := #[126] }, type := _, pos := _, after := _, guard := none }) rfl (fun K hK => ?_) (AllReadyH.cons (o := { dst := some 4, op := .alloc 140, type := _, pos := _, after := _, guard := none }) rfl (fun K hK => ?_) AllReadyH.nil)
    · go_simp
      refine (HCN.out Q44).mono ?_
      rintro _ Q45 ⟨rfl, hb⟩
      have HB45 : Hid (Below W2.heap.size W2 Q45) := Lib.hid (HB44.out.trans (hb.mono HB44.out.size))
      have HVB45 : Hid (Q45.heap[QA.heap.size]? = some (.cells #[.slice none 0 0] 28 (0, 0))) := Lib.hid ((hb.block _ (Array.getElem?_eq_some_iff.1 HVB44.out).1).trans HVB44.out)
      clear hb
      try go_simp
      refine hK.out _ _ ?_ (fun hHeld => ?_)
      · exact FS.out _ HB45.out
      clear hK K
      try simp only [Act.put, List.setIfInBounds_toArray, List.set_cons_zero, List.set_cons_succ]
      refine wpAnyH_ready (rs := [4, 5]) (by kernel_rfl) (by simp) ?_
      refine AllReadyH.cons (o := { dst := some 17, op := .call { callee := .value (.func 113), args := #[.tmp 16], argTypes := #[99] }, type := _, pos := _, after := _, guard := none }) rfl (fun K hK => ?_) (AllReadyH.cons (o := { dst := some 4, op := .alloc 140, type := _, pos := _, after := _, guard := none }) rfl (fun K hK => ?_) AllReadyH.nil)
      · go_simp
        refine (HRL.out Q45).mono ?_
        rintro _ Q46 ⟨vl, rfl, hol⟩
        have HB46 : Hid (Below W2.heap.size W2 Q46) := Lib.hid (HB45.out.trans (hol.bel.mono HB45.out.size))
        have HVB46 : Hid (Q46.heap[QA.heap.size]? = some (.cells #[.slice none 0 0] 28 (0, 0))) := Lib.hid ((hol.bel.block _ (Array.getElem?_eq_some_iff.1 HVB45.out).1).trans HVB45.out)
        obtain ⟨gl, cl, rfl, -, -, -⟩ := hol.form
        have HOC46 := Lib.hid hol
        clear hol
        try go_simp
        refine hK.out _ _ ?_ (fun hHeld => ?_)
        · exact FS.out _ HB46.out
        clear hK K
        try simp only [Act.put, List.setIfInBounds_toArray, List.set_cons_zero, List.set_cons_succ]
        refine wpAnyH_ready (rs := [5]) (by kernel_rfl) (by simp) ?_
        refine AllReadyH.cons (o := { dst := some 4, op := .alloc 140, type := _, pos := _, after := _, guard := none }) rfl (fun K hK => ?_) AllReadyH.nil
        rw [if_pos (by rfl)]
        refine wp_alloc_mid 140 rfl zu.toArray ZU.out ?_
        refine hK.out _ _ ?_ (fun hHeld => ?_)
        · exact FS.out _ (HB46.out.alloc HB46.out.size _)
        clear hK K
        try simp only [Act.put, List.setIfInBounds_toArray, List.set_cons_zero, List.set_cons_succ]
        refine anyH_gen _ (fun Q47 hW => ?_)
        have HB47 : Hid (Below W2.heap.size W2 Q47) := Lib.hid (by rw [hW]; exact HB46.out.alloc HB46.out.size _)
        have HVB47 : Hid (Q47.heap[QA.heap.size]? = some (.cells #[.slice none 0 0] 28 (0, 0))) := Lib.hid (((by rw [hW]; exact (Below.refl Q46.heap.size Q46).alloc (Nat.le_refl _) _ : Below Q46.heap.size Q46 Q47).block _ (Array.getElem?_eq_some_iff.1 HVB46.out).1).trans HVB46.out)
        have HOC47 := Lib.hid (HOC46.out.later (by rw [hW]; exact (Below.refl Q46.heap.size Q46).alloc (Nat.le_refl _) _ : Below Q46.heap.size Q46 Q47))
        have HUB47 : Hid (Q47.heap[Q46.heap.size]? = some (.cells zu.toArray 140 (0, 0))) := Lib.hid (by rw [hW]; exact heap_alloc_new Q46 _)
        have HUO47 : Hid (W2.heap.size ≤ Q46.heap.size) := Lib.hid HB46.out.size
        rw [← hW] at hHeld
        clear hW
        refine wpAnyH_ready (rs := [7]) (by kernel_rfl) (by simp) ?_
        refine AllReadyH.cons (o := { dst := none, op := .store 140 (.tmp 4) (.tmp 14), type := _, pos := _, after := _, guard := none }) rfl (fun K hK => ?_) AllReadyH.nil
        rw [if_pos (by rfl)]
        refine wp_store_mid 140 (.tmp 4) (.tmp 14) rfl Q46.heap.size 0 UC.toArray rfl rfl (by rw [HUS.out]; exact there_row HUB47.out (by rw [List.size_toArray, HZU.out]; exact Nat.le_refl _)) (info_uses HUS.out) HUO.out ?_
        rw [show UC.toArray.toList = UC from rfl]
        refine hK.out _ _ ?_ (fun hHeld => ?_)
        · exact FS.out _ (Below.setCells (Below.refl W2.heap.size W2) _ HUO47.out _ _ _ HB47.out)
        clear hK K
        try simp only [Act.put, List.setIfInBounds_toArray, List.set_cons_zero, List.set_cons_succ]
        refine anyH_gen _ (fun Q48 hW => ?_)
        have HB48 : Hid (Below W2.heap.size W2 Q48) := Lib.hid (by rw [hW]; exact (Below.setCells (Below.refl W2.heap.size W2) _ HUO47.out _ _ _ HB47.out))
        have HE48 := Lib.hid hW
        rw [← hW] at hHeld
        have hcv : Q48.cell? ⟨QA.heap.size, 0, none⟩ = some (.slice none 0 0) := by rw [hW, World.cell?_of_block (heap_setCells_other Q47 _ _ _ Q47 _ (fun e => by have h7 := HUB47.out; rw [← e, HVB47.out] at h7; exact absurd (congrArg (fun o => match o with | some (Obj.cells _ t _) => t | _ => 0) h7) (show ¬ ((28 : Nat) = 140) by decide))), cell_of_row _ _ 0 _ _ _ HVB47.out]; rfl
        have hfv : Q48.frozen? ⟨QA.heap.size, 0, none⟩ = false := by rw [hW, World.frozen?_setCells]; exact frozen_of_row _ _ _ _ _ HVB47.out
        clear hW
        refine wpAnyH_ready (rs := [8]) (by kernel_rfl) (by simp) ?_
        refine AllReadyH.cons (o := { dst := none, op := .store 28 (.tmp 5) (.tmp 17), type := _, pos := _, after := _, guard := none }) rfl (fun K hK => ?_) AllReadyH.nil
        go_simp
        refine hK.out _ _ ?_ (fun hHeld => ?_)
        · exact FS.out _ (HB48.out.setCell (p := ⟨QA.heap.size, 0, none⟩) HVO44.out _)
        clear hK K
        try simp only [Act.put, List.setIfInBounds_toArray, List.set_cons_zero, List.set_cons_succ]
        refine anyH_gen _ (fun Q49 hW => ?_)
        have HB49 : Hid (Below W2.heap.size W2 Q49) := Lib.hid (by rw [hW]; exact (HB48.out.setCell (p := ⟨QA.heap.size, 0, none⟩) HVO44.out _))
        have HTS2 := Lib.hid (two_stores HOC47.out HUB47.out HVB47.out HZU.out HUE.out)
        rw [← HE48.out, ← hW] at HTS2
        rw [← hW] at hHeld
        clear hW
        refine wpAnyH_done (by kernel_rfl) ?_ _
        exact HREST.out _ _ _ _ _ HB49.out HTS2.out.1 HTS2.out.2.1 HTS2.out.2.2
      · rw [if_pos (by rfl)]
        refine wp_alloc_mid 140 rfl zu.toArray ZU.out ?_
        refine hK.out _ _ ?_ (fun hHeld => ?_)
        · exact FS.out _ (HB45.out.alloc HB45.out.size _)
        clear hK K
        try simp only [Act.put, List.setIfInBounds_toArray, List.set_cons_zero, List.set_cons_succ]
        refine anyH_gen _ (fun Q50 hW => ?_)
        have HB50 : Hid (Below W2.heap.size W2 Q50) := Lib.hid (by rw [hW]; exact HB45.out.alloc HB45.out.size _)
        have HVB50 : Hid (Q50.heap[QA.heap.size]? = some (.cells #[.slice none 0 0] 28 (0, 0))) := Lib.hid (((by rw [hW]; exact (Below.refl Q45.heap.size Q45).alloc (Nat.le_refl _) _ : Below Q45.heap.size Q45 Q50).block _ (Array.getElem?_eq_some_iff.1 HVB45.out).1).trans HVB45.out)
        have HUB50 : Hid (Q50.heap[Q45.heap.size]? = some (.cells zu.toArray 140 (0, 0))) := Lib.hid (by rw [hW]; exact heap_alloc_new Q45 _)
        have HUO50 : Hid (W2.heap.size ≤ Q45.heap.size) := Lib.hid HB45.out.size
        rw [← hW] at hHeld
        clear hW
        refine wpAnyH_ready (rs := [4]) (by kernel_rfl) (by simp) ?_
        refine AllReadyH.cons (o := { dst := some 17, op := .call { callee := .value (.func 113), args := #[.tmp 16], argTypes := #[99] }, type := _, pos := _, after := _, guard := none }) rfl (fun K hK => ?_) AllReadyH.nil
        go_simp
        refine (HRL.out Q50).mono ?_
        rintro _ Q51 ⟨vl, rfl, hol⟩
        have HB51 : Hid (Below W2.heap.size W2 Q51) := Lib.hid (HB50.out.trans (hol.bel.mono HB50.out.size))
        have HUB51 : Hid (Q51.heap[Q45.heap.size]? = some (.cells zu.toArray 140 (0, 0))) := Lib.hid ((hol.bel.block _ (Array.getElem?_eq_some_iff.1 HUB50.out).1).trans HUB50.out)
        have HVB51 : Hid (Q51.heap[QA.heap.size]? = some (.cells #[.slice none 0 0] 28 (0, 0))) := Lib.hid ((hol.bel.block _ (Array.getElem?_eq_some_iff.1 HVB50.out).1).trans HVB50.out)
        obtain ⟨gl, cl, rfl, -, -, -⟩ := hol.form
        have HOC51 := Lib.hid hol
        clear hol
        try go_simp
        refine hK.out _ _ ?_ (fun hHeld => ?_)
        · exact FS.out _ HB51.out
        clear hK K
        try simp only [Act.put, List.setIfInBounds_toArray, List.set_cons_zero, List.set_cons_succ]
        refine wpAnyH_ready (rs := [7]) (by kernel_rfl) (by simp) ?_
        refine AllReadyH.cons (o := { dst := none, op := .store 140 (.tmp 4) (.tmp 14), type := _, pos := _, after := _, guard := none }) rfl (fun K hK => ?_) AllReadyH.nil
        rw [if_pos (by rfl)]
        refine wp_store_mid 140 (.tmp 4) (.tmp 14) rfl Q45.heap.size 0 UC.toArray rfl rfl (by rw [HUS.out]; exact there_row HUB51.out (by rw [List.size_toArray, HZU.out]; exact Nat.le_refl _)) (info_uses HUS.out) HUO.out ?_
        rw [show UC.toArray.toList = UC from rfl]
        refine hK.out _ _ ?_ (fun hHeld => ?_)
        · exact FS.out _ (Below.setCells (Below.refl W2.heap.size W2) _ HUO50.out _ _ _ HB51.out)
        clear hK K
        try simp only [Act.put, List.setIfInBounds_toArray, List.set_cons_zero, List.set_cons_succ]
        refine anyH_gen _ (fun Q52 hW => ?_)
        have HB52 : Hid (Below W2.heap.size W2 Q52) := Lib.hid (by rw [hW]; exact (Below.setCells (Below.refl W2.heap.size W2) _ HUO50.out _ _ _ HB51.out))
        have HE52 := Lib.hid hW
        rw [← hW] at hHeld
        have hcv : Q52.cell? ⟨QA.heap.size, 0, none⟩ = some (.slice none 0 0) := by rw [hW, World.cell?_of_block (heap_setCells_other Q51 _ _ _ Q51 _ (fun e => by have h7 := HUB51.out; rw [← e, HVB51.out] at h7; exact absurd (congrArg (fun o => match o with | some (Obj.cells _ t _) => t | _ => 0) h7) (show ¬ ((28 : Nat) = 140) by decide))), cell_of_row _ _ 0 _ _ _ HVB51.out]; rfl
        have hfv : Q52.frozen? ⟨QA.heap.size, 0, none⟩ = false := by rw [hW, World.frozen?_setCells]; exact frozen_of_row _ _ _ _ _ HVB51.out
        clear hW
        refine wpAnyH_ready (rs := [8]) (by kernel_rfl) (by simp) ?_
        refine AllReadyH.cons (o := { dst := none, op := .store 28 (.tmp 5) (.tmp 17), type := _, pos := _, after := _, guard := none }) rfl (fun K hK => ?_) AllReadyH.nil
        go_simp
        refine hK.out _ _ ?_ (fun hHeld => ?_)
        · exact FS.out _ (HB52.out.setCell (p := ⟨QA.heap.size, 0, none⟩) HVO44.out _)
        clear hK K
        try simp only [Act.put, List.setIfInBounds_toArray, List.set_cons_zero, List.set_cons_succ]
        refine anyH_gen _ (fun Q53 hW => ?_)
        have HB53 : Hid (Below W2.heap.size W2 Q53) := Lib.hid (by rw [hW]; exact (HB52.out.setCell (p := ⟨QA.heap.size, 0, none⟩) HVO44.out _))
        have HTS2 := Lib.hid (two_stores HOC51.out HUB51.out HVB51.out HZU.out HUE.out)
        rw [← HE52.out, ← hW] at HTS2
        rw [← hW] at hHeld
        clear hW
        refine wpAnyH_done (by kernel_rfl) ?_ _
        exact HREST.out _ _ _ _ _ HB53.out HTS2.out.1 HTS2.out.2.1 HTS2.out.2.2
    · rw [if_pos (by rfl)]
      refine wp_alloc_mid 140 rfl zu.toArray ZU.out ?_
      refine hK.out _ _ ?_ (fun hHeld => ?_)
      · exact FS.out _ (HB44.out.alloc HB44.out.size _)
      clear hK K
      try simp only [Act.put, List.setIfInBounds_toArray, List.set_cons_zero, List.set_cons_succ]
      refine anyH_gen _ (fun Q54 hW => ?_)
      have HB54 : Hid (Below W2.heap.size W2 Q54) := Lib.hid (by rw [hW]; exact HB44.out.alloc HB44.out.size _)
      have HVB54 : Hid (Q54.heap[QA.heap.size]? = some (.cells #[.slice none 0 0] 28 (0, 0))) := Lib.hid (((by rw [hW]; exact (Below.refl Q44.heap.size Q44).alloc (Nat.le_refl _) _ : Below Q44.heap.size Q44 Q54).block _ (Array.getElem?_eq_some_iff.1 HVB44.out).1).trans HVB44.out)
      have HUB54 : Hid (Q54.heap[Q44.heap.size]? = some (.cells zu.toArray 140 (0, 0))) := Lib.hid (by rw [hW]; exact heap_alloc_new Q44 _)
      have HUO54 : Hid (W2.heap.size ≤ Q44.heap.size) := Lib.hid HB44.out.size
      rw [← hW] at hHeld
      clear hW
      refine wpAnyH_ready (rs := [1]) (by kernel_rfl) (by simp) ?_
      refine AllReadyH.cons (o := { dst := some 14, op := .call { callee := .value (.func 82), args := #[.tmp 13], argTypes := #[126] }, type := _, pos := _, after := _, guard := none }) rfl (fun K hK => ?_) AllReadyH.nil
      go_simp
      refine (HCN.out Q54).mono ?_
      rintro _ Q55 ⟨rfl, hb⟩
      have HB55 : Hid (Below W2.heap.size W2 Q55) := Lib.hid (HB54.out.trans (hb.mono HB54.out.size))
      have HUB55 : Hid (Q55.heap[Q44.heap.size]? = some (.cells zu.toArray 140 (0, 0))) := Lib.hid ((hb.block _ (Array.getElem?_eq_some_iff.1 HUB54.out).1).trans HUB54.out)
      have HVB55 : Hid (Q55.heap[QA.heap.size]? = some (.cells #[.slice none 0 0] 28 (0, 0))) := Lib.hid ((hb.block _ (Array.getElem?_eq_some_iff.1 HVB54.out).1).trans HVB54.out)
      clear hb
      try go_simp
      refine hK.out _ _ ?_ (fun hHeld => ?_)
      · exact FS.out _ HB55.out
      clear hK K
      try simp only [Act.put, List.setIfInBounds_toArray, List.set_cons_zero, List.set_cons_succ]
      refine wpAnyH_ready (rs := [4]) (by kernel_rfl) (by simp) ?_
      refine AllReadyH.cons (o := { dst := some 17, op := .call { callee := .value (.func 113), args := #[.tmp 16], argTypes := #[99] }, type := _, pos := _, after := _, guard := none }) rfl (fun K hK => ?_) AllReadyH.nil
      go_simp
      refine (HRL.out Q55).mono ?_
      rintro _ Q56 ⟨vl, rfl, hol⟩
      have HB56 : Hid (Below W2.heap.size W2 Q56) := Lib.hid (HB55.out.trans (hol.bel.mono HB55.out.size))
      have HUB56 : Hid (Q56.heap[Q44.heap.size]? = some (.cells zu.toArray 140 (0, 0))) := Lib.hid ((hol.bel.block _ (Array.getElem?_eq_some_iff.1 HUB55.out).1).trans HUB55.out)
      have HVB56 : Hid (Q56.heap[QA.heap.size]? = some (.cells #[.slice none 0 0] 28 (0, 0))) := Lib.hid ((hol.bel.block _ (Array.getElem?_eq_some_iff.1 HVB55.out).1).trans HVB55.out)
      obtain ⟨gl, cl, rfl, -, -, -⟩ := hol.form
      have HOC56 := Lib.hid hol
      clear hol
      try go_simp
      refine hK.out _ _ ?_ (fun hHeld => ?_)
      · exact FS.out _ HB56.out
      clear hK K
      try simp only [Act.put, List.setIfInBounds_toArray, List.set_cons_zero, List.set_cons_succ]
      refine wpAnyH_ready (rs := [7]) (by kernel_rfl) (by simp) ?_
      refine AllReadyH.cons (o := { dst := none, op := .store 140 (.tmp 4) (.tmp 14), type := _, pos := _, after := _, guard := none }) rfl (fun K hK => ?_) AllReadyH.nil
      rw [if_pos (by rfl)]
      refine wp_store_mid 140 (.tmp 4) (.tmp 14) rfl Q44.heap.size 0 UC.toArray rfl rfl (by rw [HUS.out]; exact there_row HUB56.out (by rw [List.size_toArray, HZU.out]; exact Nat.le_refl _)) (info_uses HUS.out) HUO.out ?_
      rw [show UC.toArray.toList = UC from rfl]
      refine hK.out _ _ ?_ (fun hHeld => ?_)
      · exact FS.out _ (Below.setCells (Below.refl W2.heap.size W2) _ HUO54.out _ _ _ HB56.out)
      clear hK K
      try simp only [Act.put, List.setIfInBounds_toArray, List.set_cons_zero, List.set_cons_succ]
      refine anyH_gen _ (fun Q57 hW => ?_)
      have HB57 : Hid (Below W2.heap.size W2 Q57) := Lib.hid (by rw [hW]; exact (Below.setCells (Below.refl W2.heap.size W2) _ HUO54.out _ _ _ HB56.out))
      have HE57 := Lib.hid hW
      rw [← hW] at hHeld
      have hcv : Q57.cell? ⟨QA.heap.size, 0, none⟩ = some (.slice none 0 0) := by rw [hW, World.cell?_of_block (heap_setCells_other Q56 _ _ _ Q56 _ (fun e => by have h7 := HUB56.out; rw [← e, HVB56.out] at h7; exact absurd (congrArg (fun o => match o with | some (Obj.cells _ t _) => t | _ => 0) h7) (show ¬ ((28 : Nat) = 140) by decide))), cell_of_row _ _ 0 _ _ _ HVB56.out]; rfl
      have hfv : Q57.frozen? ⟨QA.heap.size, 0, none⟩ = false := by rw [hW, World.frozen?_setCells]; exact frozen_of_row _ _ _ _ _ HVB56.out
      clear hW
      refine wpAnyH_ready (rs := [8]) (by kernel_rfl) (by simp) ?_
      refine AllReadyH.cons (o := { dst := none, op := .store 28 (.tmp 5) (.tmp 17), type := _, pos := _, after := _, guard := none }) rfl (fun K hK => ?_) AllReadyH.nil
      go_simp
      refine hK.out _ _ ?_ (fun hHeld => ?_)
      · exact FS.out _ (HB57.out.setCell (p := ⟨QA.heap.size, 0, none⟩) HVO44.out _)
      clear hK K
      try simp only [Act.put, List.setIfInBounds_toArray, List.set_cons_zero, List.set_cons_succ]
      refine anyH_gen _ (fun Q58 hW => ?_)
      have HB58 : Hid (Below W2.heap.size W2 Q58) := Lib.hid (by rw [hW]; exact (HB57.out.setCell (p := ⟨QA.heap.size, 0, none⟩) HVO44.out _))
      have HTS2 := Lib.hid (two_stores HOC56.out HUB56.out HVB56.out HZU.out HUE.out)
      rw [← HE57.out, ← hW] at HTS2
      rw [← hW] at hHeld
      clear hW
      refine wpAnyH_done (by kernel_rfl) ?_ _
      exact HREST.out _ _ _ _ _ HB58.out HTS2.out.1 HTS2.out.2.1 HTS2.out.2.2
end Go.Proofs.YtcmmlgdfhkcmoaaGreat
namespace Go.Proofs.YtcmmlgdfhkcmoaaGreat
open Go.ChangeShapes Go.WideShapes Go.ChangeAt Go.RowKit Go.Maps Go.Shelf
set_option linter.unusedVariables false
set_option linter.unusedSimpArgs false
set_option maxRecDepth 100000
def updF {α : Type} (F : Nat → α) (k : Nat) (x : α) (j : Nat) : α := if j = k then x else F j
structure EI (w wr : World) (E : List EV) (k : Nat) (F : Nat → Option Nat) (G : Nat → Int) : Prop where
  bel : Below w.heap.size w wr
  sz : w.heap.size + 1 < wr.heap.size
  res : wr.there w.heap.size 0 6
  env : ∀ j, j < 3 → wr.cell? ⟨w.heap.size + 1, j * 2, none⟩ = some (.map (F j)) ∧ wr.cell? ⟨w.heap.size + 1, j * 2 + 1, none⟩ = some (.int .i64 (G j))
  th : wr.there (w.heap.size + 1) 0 6
  set : ∀ j, j < k → rvs (E.getD j ez).r = true ∧ G j = (E.getD j ez).t ∧ ∃ b, F j = some b ∧ SetAt wr b (E.getD j ez).r
theorem EI.go {w wr w' : World} {E : List EV} {k : Nat} {F : Nat → Option Nat} {G : Nat → Int} (h : EI w wr E k F G) (hb : Below wr.heap.size wr w') : EI w w' E k F G := by
  have hs := h.sz
  refine ⟨h.bel.trans (hb.mono h.bel.size), Nat.lt_of_lt_of_le hs hb.size, there_blocks h.res (hb.block _ (by omega)), fun j hj => ⟨(hb.cell (p := ⟨w.heap.size + 1, j * 2, none⟩) hs).trans (h.env j hj).1, (hb.cell (p := ⟨w.heap.size + 1, j * 2 + 1, none⟩) hs).trans (h.env j hj).2⟩, there_blocks h.th (hb.block _ hs), fun j hj => ?_⟩
  obtain ⟨h1, h2, b, h3, h4⟩ := h.set j hj
  exact ⟨h1, h2, b, h3, h4.below hb⟩
theorem there_setCell {w : World} {b n : Nat} (h : w.there b 0 n) (c o : Nat) (v : Value) : (w.setCell ⟨c, o, none⟩ v).there b 0 n := fun j hj => by
  have h2 := World.there_setCells h c o [v]
  exact h2 j hj
theorem SetAt.setCell {w : World} {b c o : Nat} {xs : List Bs} (h : SetAt w b xs) (hne : b ≠ c) (v : Value) : SetAt (w.setCell ⟨c, o, none⟩ v) b xs := by
  have hb := (Below.refl c w).setCell (p := ⟨c, o, none⟩) (Nat.le_refl _) v
  exact h.kept (row := some c) ⟨hb.os, hb.tape, hb.output, hb.size, fun i hi hn => Below.heap_setCell _ _ _ i (by show i ≠ c; exact fun e => hn (by rw [e]))⟩ (by intro e; injection e with e; exact hne e)
theorem EI.put {w wr : World} {E : List EV} {k : Nat} {F : Nat → Option Nat} {G : Nat → Int} (h : EI w wr E k F G) (hk : k < 3) (b : Nat) (hr : rvs (E.getD k ez).r = true) (hs : SetAt wr b (E.getD k ez).r) :
    EI w ((wr.setCell ⟨w.heap.size + 1, k * 2, none⟩ (.map (some b))).setCell ⟨w.heap.size + 1, k * 2 + 1, none⟩ (.int .i64 (E.getD k ez).t)) E (k + 1) (updF F k (some b)) (updF G k (E.getD k ez).t) := by
  have hsz := h.sz
  have hbel := (h.bel.setCell (p := ⟨w.heap.size + 1, k * 2, none⟩) (by show w.heap.size ≤ w.heap.size + 1; omega) (.map (some b))).setCell (p := ⟨w.heap.size + 1, k * 2 + 1, none⟩) (by show w.heap.size ≤ w.heap.size + 1; omega) (.int .i64 (E.getD k ez).t)
  refine ⟨hbel, by simpa [World.setCell] using hsz, there_setCell (there_setCell h.res _ _ _) _ _ _, fun j hj => ?_, there_setCell (there_setCell h.th _ _ _) _ _ _, fun j hj => ?_⟩
  · unfold updF
    by_cases e : j = k
    · subst e
      rw [if_pos rfl, if_pos rfl]
      refine ⟨(cell_set_other (.inr (by omega))).trans (cell_set_same (h.env j hj).1), cell_set_same ((cell_set_other (.inr (by omega))).trans (h.env j hj).2)⟩
    · rw [if_neg e, if_neg e]
      exact ⟨(cell_set_other (.inr (by omega))).trans ((cell_set_other (.inr (by omega))).trans (h.env j hj).1), (cell_set_other (.inr (by omega))).trans ((cell_set_other (.inr (by omega))).trans (h.env j hj).2)⟩
  · have hset : ∀ {c : Nat} {xs : List Bs}, SetAt wr c xs → SetAt ((wr.setCell ⟨w.heap.size + 1, k * 2, none⟩ (.map (some b))).setCell ⟨w.heap.size + 1, k * 2 + 1, none⟩ (.int .i64 (E.getD k ez).t)) c xs := fun hc => by
      have hne := hc.ne_there h.th (by omega)
      exact (hc.setCell hne _).setCell hne _
    unfold updF
    by_cases e : j = k
    · subst e
      rw [if_pos rfl, if_pos rfl]
      exact ⟨hr, rfl, b, rfl, hset hs⟩
    · rw [if_neg e, if_neg e]
      obtain ⟨h1, h2, c, h3, h4⟩ := h.set j (by omega)
      exact ⟨h1, h2, c, h3, hset h4⟩
theorem EI.range {w wr : World} {E : List EV} {k : Nat} {F : Nat → Option Nat} {G : Nat → Int} (h : EI w wr E k F G) : wr.rangeAt (w.heap.size + 1) 0 (mapC F G) := fun j v hv => by
  have hj : j < 6 := (List.getElem?_eq_some_iff.1 hv).1
  rw [Nat.zero_add]
  have e := fun i hi => h.env i hi
  obtain ⟨a0, a1⟩ := e 0 (by omega)
  obtain ⟨b0, b1⟩ := e 1 (by omega)
  obtain ⟨c0, c1⟩ := e 2 (by omega)
  rcases (by omega : j = 0 ∨ j = 1 ∨ j = 2 ∨ j = 3 ∨ j = 4 ∨ j = 5) with rfl | rfl | rfl | rfl | rfl | rfl <;> (cases hv; first | exact a0 | exact a1 | exact b0 | exact b1 | exact c0 | exact c1)
def envB (E : List EV) : Bool := E.all (fun x => rvs x.r) && decide (E.length = 3)
def EnvR (E : List EV) (w : World) (e : Ending) (w' : World) : Prop :=
  ∃ Y : List Value, e = .returned (.tuple #[.agg Y.toArray, .bool (envB E)]) ∧ Y.length = 6 ∧ Y.toArray.all (·.oneCell') = true ∧ Below w.heap.size w w' ∧
    (envB E = true → ∃ bs : Nat → Nat, Y = mapC (fun j => some (bs j)) (fun j => (E.getD j ez).t) ∧ ∀ j, j < 3 → SetAt w' (bs j) (E.getD j ez).r)
set_option maxHeartbeats 4000000 in
theorem environmentsOf_any (w : World) (v : Value) (E : List EV) (h : Es w v E) (hse : Short3 E) :
    Calls Tryz.prog 51 #[v] w (EnvR E w) := by
  obtain ⟨a, ca, rfl, h1, h2, h3⟩ := h
  unfold maxLen at h2
  obtain ⟨n, hn⟩ : ∃ n, n = E.length := ⟨_, rfl⟩
  rw [← hn] at h1 h3 ⊢
  have HN := Lib.hid hn
  have HX := Lib.hid h3
  have HSE := Lib.hid hse
  obtain ⟨R, HRR⟩ : ∃ R : Ending → World → Prop, Hid (R = EnvR E w) := ⟨_, Lib.hid rfl⟩
  rw [← HRR.out]
  obtain ⟨Z, hZ⟩ : ∃ Z, Z = mapC (fun _ => none) (fun _ => 0) := ⟨_, rfl⟩
  have HZ : Hid (∀ w, (zeroValue 88).run Tryz.prog w = .ok (.agg Z.toArray) w) := Lib.hid (fun w => by rw [hZ]; exact Tryz.zeroValue88 w)
  have HBZ : Hid (∀ w, (Instr.build 88 #[]).run Tryz.prog w = .ok (.agg Z.toArray) w) := Lib.hid (fun w => by rw [hZ]; exact run_build w _ _ _ (by kernel_rfl))
  have HZL : Hid (Z.length = 6) := Lib.hid (by rw [hZ]; rfl)
  have HZS : Hid (Z.toArray.size = 6) := Lib.hid (by rw [hZ]; rfl)
  have HZO : Hid (Z.toArray.all (·.oneCell') = true) := Lib.hid (by rw [hZ]; exact all_oneCell_toArray (mapC_one _ _))
  obtain ⟨X, hX⟩ : ∃ X, X = w.heap.size := ⟨_, rfl⟩
  obtain ⟨W0, hW0⟩ : ∃ W0, W0 = (w.alloc (.cells Z.toArray 88)).alloc (.cells Z.toArray 88) := ⟨_, rfl⟩
  have HE0 : Hid (EI w W0 E 0 (fun _ => none) (fun _ => 0)) := Lib.hid (by
    have hb1 : W0.heap[w.heap.size + 1]? = some (.cells Z.toArray 88 (0, 0)) := by rw [hW0]; exact heap2 w _
    have hb0 : W0.heap[w.heap.size]? = some (.cells Z.toArray 88 (0, 0)) := by rw [hW0]; exact (Below.heap_alloc _ _ _ (by simp)).trans (heap_alloc_new w _)
    have hr := range_row hb1
    rw [hZ] at hr
    refine ⟨by rw [hW0]; exact ((Below.refl _ _).alloc (Nat.le_refl _) _).alloc (by simp) _, by rw [hW0]; simp, there_row hb0 (by rw [HZS.out]; exact Nat.le_refl _), fun j hj => ?_, there_row hb1 (by rw [HZS.out]; exact Nat.le_refl _), fun j hj => by omega⟩
    have h5 := mapC_get (fun _ => none) (fun _ => 0) hj
    have e1 := hr _ _ h5.1
    have e2 := hr _ _ h5.2
    rw [Nat.zero_add] at e1 e2
    exact ⟨e1, e2⟩)
  have HBAD : Hid (∀ wr, Below w.heap.size w wr → envB E = false → wr.there w.heap.size 0 6 → Below w.heap.size w (wr.setCells X 0 Z) ∧ (wr.setCells X 0 Z).rangeAt X 0 Z ∧ R (.returned (.tuple #[.agg Z.toArray, .bool false])) (wr.setCells X 0 Z)) := Lib.hid (fun wr hb he ht => by
    have hbb : Below w.heap.size w (wr.setCells X 0 Z) := Below.setCells (Below.refl _ _) _ (by omega) _ _ _ hb
    refine ⟨hbb, World.rangeAt_setCells_same _ _ _ _ (by rw [HZL.out, hX]; exact ht), ?_⟩
    rw [HRR.out]
    exact ⟨Z, by rw [he], HZL.out, HZO.out, hbb, fun hh => by rw [he] at hh; cases hh⟩)
  have HXE := Lib.hid hX
  have HW0 := Lib.hid hW0
  clear h3 hn hse hZ hX hW0
  by_cases h3' : n = 3
  · subst h3'
    have HRS : Hid (∀ (W : World) (u : Value) (j : Nat), Strs W u (E.getD j ez).r → Calls Tryz.prog 73 #[u] W (SetOf (E.getD j ez).r W)) := Lib.hid (fun W u j hu => setOf_any W u _ hu (HSE.out.at j))
    unfold SetOf at HRS
    go_enter Tryz.func51, Tryz.ntmps51
    go_wp2_with (first | ((with_reducible refine alloc_is 88 ?_); refine alloc_arr 88 Z.toArray HZ.out ?_) | fail)
    rw [← HXE.out, ← HW0.out]
    go_loopw [15] (fun i wr => ∃ (k : Nat) (F : Nat → Option Nat) (G : Nat → Int), k ≤ 3 ∧ i = .int .i64 k ∧ Hid (EI w wr E k F G)) (fun i _ => 3 - (intOf i).toNat)
    case atStart => exact ⟨0, _, _, Nat.zero_le _, rfl, HE0⟩
    case round =>
      obtain ⟨k, F, G, hk, rfl, HE⟩ := hrel
      by_cases hlt : k < 3
      · have hlt' : (k : Int) < 3 := by omega
        have hk0 : (0 : Int) ≤ (k : Int) := by omega
        obtain ⟨b, o, u, rfl, hc0, hd0, hu⟩ := HX.out k hlt
        have hc := (HE.out.bel.cell (p := ⟨b, o + k * 2, none⟩) (cell_lt hc0)).trans hc0
        have hd := (HE.out.bel.cell (p := ⟨b, o + k * 2 + 1, none⟩) (cell_lt hd0)).trans hd0
        have HU := Lib.hid (hu.below HE.out.bel)
        obtain ⟨ua, uc, hue, -, -, -⟩ := hu
        obtain ⟨ul, hul⟩ : ∃ ul, ul = (E.getD k ez).r.length := ⟨_, rfl⟩
        rw [← hul] at hue
        subst hue
        have HPUT : Hid (∀ W b, EI w W E k F G → rvs (E.getD k ez).r = true → SetAt W b (E.getD k ez).r → EI w ((W.setCell ⟨X + 1, k * 2, none⟩ (.map (some b))).setCell ⟨X + 1, k * 2 + 1, none⟩ (.int .i64 (E.getD k ez).t)) E (k + 1) (updF F k (some b)) (updF G k (E.getD k ez).t)) := Lib.hid (fun W b hh h1 h2 => by rw [HXE.out]; exact hh.put hlt b h1 h2)
        have HNV : Hid (rvs (E.getD k ez).r = false → envB E = false) := Lib.hid (fun hr => by
          unfold envB
          rw [Bool.and_eq_false_iff]
          left
          rw [Bool.eq_false_iff]
          intro hh
          have := List.all_eq_true.1 hh (E.getD k ez) (by rw [getD_lt (by have := HN.out; omega)]; exact List.getElem_mem _)
          rw [hr] at this
          cases this)
        obtain ⟨t, ht⟩ : ∃ t, t = (E.getD k ez).t := ⟨_, rfl⟩
        rw [← ht] at hd HPUT
        have HIX := run_indexAt_arr (P := Tryz.prog) 88 3 86 2 Tryz.underlying88 size_env (by omega) (X + 1) k hlt
        obtain ⟨W1, hW1⟩ : ∃ W1, W1 = wr.alloc (.cells #[.slice ua ul uc, .int .i64 t] 37) := ⟨_, rfl⟩
        have HB1 : Hid (Below wr.heap.size wr W1) := Lib.hid (by rw [hW1]; exact (Below.refl _ _).alloc (Nat.le_refl _) _)
        have HS1 := Lib.hid (HRS.out W1 (.slice ua ul uc) k (HU.out.below HB1.out))
        have HC1 : Hid (∀ W, Below W1.heap.size W1 W → W.cell? ⟨wr.heap.size, 1, none⟩ = some (.int .i64 t)) := Lib.hid (fun W hW => (hW.cell (p := ⟨wr.heap.size, 1, none⟩) (by rw [hW1]; simp)).trans (by rw [hW1]; exact new_cell rfl))
        have HC0 : Hid (W1.cell? ⟨wr.heap.size, 0, none⟩ = some (.slice ua ul uc)) := Lib.hid (by rw [hW1]; exact new_cell rfl)
        have HW1 := Lib.hid hW1
        obtain ⟨q, hq⟩ : ∃ q, q = rvs (E.getD k ez).r := ⟨_, rfl⟩
        rw [← hq] at HS1 HPUT HNV
        clear hW1 hc0 hd0 ht hul hq
        go_wp2_with fail
        rw [← HW1.out]
        refine HS1.out.mono ?_
        rintro _ W2 ⟨hb2, mp, rfl, hmp⟩
        have HE2 := Lib.hid ((HE.out.go HB1.out).go hb2)
        have hc1 := HC1.out W2 hb2
        clear hb2
        cases q with
        | false =>
          have HBD := Lib.hid (HBAD.out W2 HE2.out.bel (HNV.out (by trivial)) HE2.out.res)
          have HTH : Hid (W2.there X 0 Z.toArray.size) := Lib.hid (by rw [HXE.out, HZS.out]; exact HE2.out.res)
          clear hmp
          go_wp2_with (first | ((with_reducible refine build_is 88 ?_); refine build_run0 88 Z.toArray HBZ.out ?_) | ((with_reducible refine store_is 88 (.tmp 2) (.tmp 28) ?_); refine store_arr 88 (.tmp 2) (.tmp 28) X 0 Z.toArray rfl rfl HTH.out (info_envs HZS.out) HZO.out ?_) | fail)
          refine bodyPost_ret (results_cell_mid rfl _ _ X 0 Z _ rfl HBD.out.2.1 Tryz.underlying88 rfl (info_envs HZL.out)) rfl ?_
          exact HBD.out.2.2
        | true =>
          obtain ⟨bm, rfl, _, hset⟩ := hmp rfl
          have HE3 := Lib.hid (HPUT.out W2 bm HE2.out (by trivial) hset)
          obtain ⟨y0, y1⟩ := HE2.out.env k hlt
          have f0 := (HE2.out.th (k * 2) (by omega)).2
          have f1 := (HE2.out.th (k * 2 + 1) (by omega)).2
          rw [Nat.zero_add] at f0 f1
          rw [← HXE.out] at y0 y1 f0 f1
          clear hset hmp
          go_wp2_with fail
          go_roundw
          case rel => exact ⟨k + 1, _, _, by omega, by go_num, HE3⟩
          case measure => simp [intOf]; omega
      · have e : k = 3 := by omega
        rw [e] at HE
        have hge : ¬ (k : Int) < 3 := by omega
        have HYR := Lib.hid HE.out.range
        have HYL : Hid ((mapC F G).length = 6) := Lib.hid rfl
        have HYO : Hid ((mapC F G).toArray.all (·.oneCell') = true) := Lib.hid (all_oneCell_toArray (mapC_one _ _))
        have HFIN : Hid (R (.returned (.tuple #[.agg (mapC F G).toArray, .bool true])) (wr.setCells X 0 (mapC F G)) ∧ (wr.setCells X 0 (mapC F G)).rangeAt X 0 (mapC F G)) := Lib.hid (by
          have hth : wr.there X 0 (mapC F G).length := by rw [HYL.out, HXE.out]; exact HE.out.res
          have hbb : Below w.heap.size w (wr.setCells X 0 (mapC F G)) := Below.setCells (Below.refl _ _) _ (by rw [HXE.out]; exact Nat.le_refl _) _ _ _ HE.out.bel
          have hev : envB E = true := by
            unfold envB
            rw [Bool.and_eq_true, decide_eq_true_eq, List.all_eq_true]
            refine ⟨fun x hx => ?_, HN.out.symm⟩
            obtain ⟨i, hi, rfl⟩ := List.getElem_of_mem hx
            have := (HE.out.set i (by have := HN.out; omega)).1
            rwa [getD_lt hi] at this
          refine ⟨?_, World.rangeAt_setCells_same _ _ _ _ hth⟩
          rw [HRR.out]
          have hs : ∀ j, j < 3 → ∃ b, F j = some b ∧ SetAt wr b (E.getD j ez).r := fun j hj => (HE.out.set j hj).2.2
          obtain ⟨b0, p0, q0⟩ := hs 0 (by omega)
          obtain ⟨b1, p1, q1⟩ := hs 1 (by omega)
          obtain ⟨b2, p2, q2⟩ := hs 2 (by omega)
          have hg : ∀ j, j < 3 → G j = (E.getD j ez).t := fun j hj => (HE.out.set j hj).2.1
          refine ⟨_, by rw [hev], HYL.out, HYO.out, hbb, fun _ => ⟨fun j => if j = 0 then b0 else if j = 1 then b1 else b2, ?_, fun j hj => ?_⟩⟩
          · unfold mapC
            rw [p0, p1, p2, hg 0 (by omega), hg 1 (by omega), hg 2 (by omega)]; rfl
          · have hk : ∀ {b : Nat} {xs : List Bs}, SetAt wr b xs → SetAt (wr.setCells X 0 (mapC F G)) b xs := fun hb => hb.stored (by rw [HXE.out]; exact hb.ne_there HE.out.res (by omega)) _
            rcases (by omega : j = 0 ∨ j = 1 ∨ j = 2) with rfl | rfl | rfl
            · exact hk q0
            · exact hk q1
            · exact hk q2)
        have HTH : Hid (wr.there X 0 (mapC F G).toArray.size) := Lib.hid (by rw [HXE.out]; exact HE.out.res)
        have HYRX : Hid (wr.rangeAt (X + 1) 0 (mapC F G)) := Lib.hid (by rw [HXE.out]; exact HYR.out)
        obtain ⟨Y, hY⟩ : ∃ Y, Y = mapC F G := ⟨_, rfl⟩
        rw [← hY] at HYL HYO HFIN HTH HYRX
        have HYS : Hid (Y.toArray.size = 6) := Lib.hid (by rw [List.size_toArray, HYL.out])
        clear e hlt hY
        go_wp2_with (first | ((with_reducible refine load_is 88 (.tmp 4) ?_); refine load_arr 88 (.tmp 4) (X + 1) 0 Y _ rfl HYRX.out Tryz.underlying88 rfl (info_envs HYL.out) ?_) | ((with_reducible refine store_is 88 (.tmp 2) (.tmp 36) ?_); refine store_arr 88 (.tmp 2) (.tmp 36) X 0 Y.toArray rfl rfl HTH.out (info_envs HYS.out) HYO.out ?_) | fail)
        refine bodyPost_ret (results_cell_mid rfl _ _ X 0 Y _ rfl HFIN.out.2 Tryz.underlying88 rfl (info_envs HYL.out)) rfl ?_
        exact HFIN.out.1
  · have hne : ((n : Int) != 3) = true := by simp; omega
    have hne2 : ((n : Int) == 3) = false := by simp; omega
    have HEB : Hid (envB E = false) := Lib.hid (by
      unfold envB
      rw [decide_eq_false (by have := HN.out; omega), Bool.and_false])
    have HBD := Lib.hid (HBAD.out W0 HE0.out.bel HEB.out HE0.out.res)
    have HTH : Hid (W0.there X 0 Z.toArray.size) := Lib.hid (by rw [HXE.out, HZS.out]; exact HE0.out.res)
    clear h3'
    go_enter Tryz.func51, Tryz.ntmps51
    go_wp2_with (first | ((with_reducible refine alloc_is 88 ?_); refine alloc_arr 88 Z.toArray HZ.out ?_) | ((with_reducible refine build_is 88 ?_); refine build_run0 88 Z.toArray HBZ.out ?_) | ((with_reducible refine store_is 88 (.tmp 2) (.tmp 12) ?_); rw [← HXE.out, ← HW0.out]; refine store_arr 88 (.tmp 2) (.tmp 12) X 0 Z.toArray rfl rfl HTH.out (info_envs HZS.out) HZO.out ?_) | fail)
    refine bodyPost_ret (results_cell_mid rfl _ _ X 0 Z _ rfl HBD.out.2.1 Tryz.underlying88 rfl (info_envs HZL.out)) rfl ?_
    exact HBD.out.2.2
end Go.Proofs.YtcmmlgdfhkcmoaaGreat
namespace Go.Proofs.YtcmmlgdfhkcmoaaGreat
open Go.ChangeShapes Go.WideShapes Go.ChangeAt Go.RowKit Go.Maps Go.Shelf
set_option linter.unusedVariables false
set_option linter.unusedSimpArgs false
set_option maxRecDepth 100000
def Z108 : List Value := Z84 ++ (mapC (fun _ => none) (fun _ => 0) ++ ringC A0 0 0)
theorem Z108_len : Z108.length = 108 := rfl
theorem Z108_one : Z108.toArray.all (·.oneCell') = true := by kernel_rfl
theorem zero_kernel (w : World) : (zeroValue 101).run Tryz.prog w = .ok (.agg Z108.toArray) w := Tryz.zeroValue101 w
theorem run_zero_kernel (w : World) : (Instr.build 101 #[]).run Tryz.prog w = .ok (.agg Z108.toArray) w := run_build w _ _ _ (by kernel_rfl)
theorem run_build_kernel (A B C D : List Value) (hA : A.length = 48) (hB : B.length = 36) (hC : C.length = 6) (hD : D.length = 18) (w : World) :
    (Instr.build 101 #[(0, .agg A.toArray), (1, .agg B.toArray), (2, .agg C.toArray), (3, .agg D.toArray)]).run Tryz.prog w = .ok (.agg (A ++ (B ++ (C ++ D))).toArray) w := by
  have hb : ∀ X Y Z U : Value, Tryz.prog.built 101 [(0, X), (1, Y), (2, Z), (3, U)] = Instr.fill ((#[(0, 48), (48, 36), (84, 6), (90, 18)] : Array (Nat × Nat))[·]?) Z108.toArray [(0, X), (1, Y), (2, Z), (3, U)] := fun X Y Z U => by kernel_rfl
  refine run_build w _ _ _ ((hb _ _ _ _).trans ?_)
  have hz := Z108_len
  rw [show Z108.toArray = ([] ++ Z108).toArray from rfl, fill_step (p := []) (c := A) (s := 48) rfl rfl hA (by omega),
    fill_step (c := B) (s := 36) (by rw [List.nil_append, hA]; rfl) rfl hB (by simp only [List.length_drop]; omega),
    fill_step (c := C) (s := 6) (by rw [List.nil_append, List.length_append, hA, hB]; rfl) rfl hC (by simp only [List.length_drop]; omega),
    fill_step (c := D) (s := 18) (by rw [List.nil_append, List.length_append, List.length_append, hA, hB, hC]; rfl) rfl hD (by simp only [List.length_drop]; omega)]
  rw [Instr.fill, List.nil_append, List.drop_of_length_le (by simp only [List.length_drop]; omega), List.append_nil, List.append_assoc, List.append_assoc]
theorem rootB_iff {I : List IV} {t : Int} : rootB I t = (inR t (-1) 11 && (decide (t < 0) || decide ((I.getD t.toNat iz).k = 3))) := by
  unfold rootB
  rw [Bool.eq_iff_iff, Bool.or_eq_true, Bool.and_eq_true, Bool.and_eq_true, Bool.or_eq_true, inR_iff, inR_iff, decide_eq_true_eq, decide_eq_true_eq, decide_eq_true_eq]
  constructor
  · rintro (h | ⟨h1, h2⟩)
    · exact ⟨by omega, .inl (by omega)⟩
    · exact ⟨by omega, .inr h2⟩
  · rintro ⟨h1, h2 | h2⟩
    · exact .inl (by omega)
    · by_cases h : t = -1
      · exact .inl h
      · exact .inr ⟨by omega, h2⟩
theorem range3_all (E : List EV) (p : EV → Bool) (h : E.length = 3) : E.all p = (List.range 3).all (fun j => p (E.getD j ez)) := by
  match E, h with
  | [a, b, c], _ => simp [List.range, List.range.loop]
theorem range_all (C : List CV) (p : CV → Bool) : C.all p = (List.range C.length).all (fun i => p (C.getD i c0)) := by
  rw [Bool.eq_iff_iff, List.all_eq_true, List.all_eq_true]
  constructor
  · intro h i hi
    rw [getD_lt (List.mem_range.1 hi)]
    exact h _ (List.getElem_mem _)
  · intro h x hx
    obtain ⟨i, hi, rfl⟩ := List.getElem_of_mem hx
    have := h i (List.mem_range.2 hi)
    rwa [getD_lt hi] at this
theorem kvalid_vB {M : List (List Int)} {I : List IV} {E : List EV} {C : List CV} (hm : memOk M = true) (hi : isok I = true) (he : envB E = true) (hc : cOk C = true) : kvalid ⟨M, I, E, C⟩ = vB M I E C := by
  unfold envB at he
  rw [Bool.and_eq_true, decide_eq_true_eq] at he
  obtain ⟨hr, hl⟩ := he
  unfold kvalid vB
  dsimp only
  rw [hm, hi, hc, Bool.true_and, Bool.true_and, Bool.true_and]
  have h1 : envsOk M I E = ((List.range 3).all (fun j => rootB I (E.getD j ez).t) && (List.range 3).all (fun j => alw I (reach M (E.getD j ez).t) (E.getD j ez).r)) := by
    unfold envsOk
    rw [decide_eq_true hl, Bool.and_true, range3_all E _ hl]
    rw [range3_all E _ hl] at hr
    have hr0 := List.all_eq_true.1 hr 0 (by simp)
    have hr1 := List.all_eq_true.1 hr 1 (by simp)
    have hr2 := List.all_eq_true.1 hr 2 (by simp)
    simp only [List.range, List.range.loop, List.all_cons, List.all_nil, Bool.and_true, envOk, rootB_iff, hr0, hr1, hr2, Bool.true_and]
    generalize inR (E.getD 0 ez).t (-1) 11 = a0
    generalize inR (E.getD 1 ez).t (-1) 11 = a1
    generalize inR (E.getD 2 ez).t (-1) 11 = a2
    generalize (decide ((E.getD 0 ez).t < 0) || decide ((I.getD (E.getD 0 ez).t.toNat iz).k = 3)) = d0
    generalize (decide ((E.getD 1 ez).t < 0) || decide ((I.getD (E.getD 1 ez).t.toNat iz).k = 3)) = d1
    generalize (decide ((E.getD 2 ez).t < 0) || decide ((I.getD (E.getD 2 ez).t.toNat iz).k = 3)) = d2
    generalize alw I (reach M (E.getD 0 ez).t) (E.getD 0 ez).r = g0
    generalize alw I (reach M (E.getD 1 ez).t) (E.getD 1 ez).r = g1
    generalize alw I (reach M (E.getD 2 ez).t) (E.getD 2 ez).r = g2
    cases a0 <;> cases a1 <;> cases a2 <;> cases d0 <;> cases d1 <;> cases d2 <;> cases g0 <;> cases g1 <;> cases g2 <;> rfl
  have h2 : refsOk M I E = (List.range 12).all (fun f => decide ((I.getD f iz).r = ((cntN M I f 12 + cntE E 3 f : Nat) : Int))) := by
    unfold refsOk useN
    simp only [← cntE_all, hl]
  have h3 : cacheOk M E C = (List.range C.length).all (fun i => cach1 M E (C.getD i c0)) := range_all C _
  rw [h1, h2, h3]
  unfold tabsOk
  rw [Bool.and_assoc]
theorem kvalid_bad {M : List (List Int)} {I : List IV} {E : List EV} {C : List CV} (h : (memOk M && isok I) = false ∨ envB E = false ∨ cOk C = false) : kvalid ⟨M, I, E, C⟩ = false := by
  rw [Bool.eq_false_iff]
  intro hk
  have hh := kvalid_iff.1 hk
  rcases h with h | h | h
  · rw [show memOk M = true from hh.m, show isok I = true from hh.i] at h; cases h
  · have he := envsOk_iff.1 hh.e
    rw [Bool.eq_false_iff] at h
    refine h ?_
    unfold envB
    rw [Bool.and_eq_true, decide_eq_true_eq, List.all_eq_true]
    exact ⟨fun x hx => (envOk_iff.1 (he.1 x hx)).1, he.2⟩
  · rw [show cOk C = true from hh.c] at h; cases h
theorem bel_var {w1 W : World} (hb : Below W.heap.size W w1) (t : TypeId) (Z : Array Value) (M : List Value) : Below W.heap.size W ((w1.alloc (.cells Z t)).setCells w1.heap.size 0 M) :=
  Below.setCells (Below.refl _ _) _ hb.size _ _ _ (hb.alloc hb.size _)
def KOfR (K : KV) (w : World) (e : Ending) (w' : World) : Prop :=
  ∃ L : List Value, e = .returned (.tuple #[.agg L.toArray, .bool (kvalid K)]) ∧ L.length = 108 ∧ L.toArray.all (·.oneCell') = true ∧ Below w.heap.size w w' ∧
    (kvalid K = true → ∃ (bs : Nat → Nat) (A : Nat → CV) (f c : Nat), KL w' K.m K.i K.e bs (ringC A f c) L ∧ f < 4 ∧ c ≤ 4 ∧ rlist A f c = K.c)
end Go.Proofs.YtcmmlgdfhkcmoaaGreat
namespace Go.Proofs.YtcmmlgdfhkcmoaaGreat
open Go.ChangeShapes Go.WideShapes Go.ChangeAt Go.RowKit Go.Maps Go.Shelf
set_option linter.unusedVariables false
set_option linter.unusedSimpArgs false
set_option maxRecDepth 100000
set_option maxHeartbeats 8000000 in
theorem kernelOf_any (w : World) (vm vi ve vc : Value) (K : KV) (h : Ks w vm vi ve vc K) (hs : ShortI K.i) (hse : Short3 K.e) :
    Calls Tryz.prog 59 #[kV vm vi ve vc] w (KOfR K w) := by
  obtain ⟨M, I, E, C⟩ := K
  obtain ⟨R, HRR⟩ : ∃ R : Ending → World → Prop, Hid (R = KOfR ⟨M, I, E, C⟩ w) := ⟨_, Lib.hid rfl⟩
  rw [← HRR.out]
  have HTO : Hid (∀ W, Below w.heap.size w W → Calls Tryz.prog 76 #[vm, vi] W (ArrT (tC M (arrOf I)) (memOk M && isok I) W)) := Lib.hid (fun W hW => tablesOf_any W vm vi M I (h.m.below hW) (h.i.below hW) hs)
  have HEO : Hid (∀ W, Below w.heap.size w W → Calls Tryz.prog 51 #[ve] W (EnvR E W)) := Lib.hid (fun W hW => environmentsOf_any W ve E (h.e.below hW) hse)
  have HCO : Hid (∀ W, Below w.heap.size w W → Calls Tryz.prog 115 #[vc] W (OfR W C (cOk C))) := Lib.hid (fun W hW => cacheOf_any W vc C (h.c.below hW))
  unfold ArrT at HTO
  unfold EnvR at HEO
  unfold OfR at HCO
  have HZ := Lib.hid zero_kernel
  have HBZ := Lib.hid run_zero_kernel
  have HZL := Lib.hid Z108_len
  have HZO := Lib.hid Z108_one
  obtain ⟨Z, hZ⟩ : ∃ Z, Z = Z108 := ⟨_, rfl⟩
  rw [← hZ] at HZ HBZ HZL HZO
  have ZT := Lib.hid zero_tables
  have HZTL := Lib.hid Z84_len
  obtain ⟨zt, hzt⟩ : ∃ z, z = Z84 := ⟨_, rfl⟩
  rw [← hzt] at ZT HZTL
  obtain ⟨ze, hze⟩ : ∃ z, z = mapC (fun _ => none) (fun _ => 0) := ⟨_, rfl⟩
  have ZE : Hid (∀ w, (zeroValue 88).run Tryz.prog w = .ok (.agg ze.toArray) w) := Lib.hid (fun w => by rw [hze]; exact Tryz.zeroValue88 w)
  have HZEL : Hid (ze.length = 6) := Lib.hid (by rw [hze]; rfl)
  obtain ⟨zr, hzr⟩ : ∃ z, z = ringC A0 0 0 := ⟨_, rfl⟩
  have ZR : Hid (∀ w, (zeroValue 99).run Tryz.prog w = .ok (.agg zr.toArray) w) := Lib.hid (fun w => by rw [hzr]; exact Tryz.zeroValue99 w)
  have HZRL : Hid (zr.length = 18) := Lib.hid (by rw [hzr]; rfl)
  obtain ⟨P0, hP0⟩ : ∃ P0, P0 = w.alloc (.cells #[vm, vi, ve, vc] 30) := ⟨_, rfl⟩
  have HPK : Hid (KP w P0 vm vi ve vc) := Lib.hid (by rw [hP0]; exact KP.start w vm vi ve vc _)
  have HPS : Hid (P0.heap.size = w.heap.size + 1) := Lib.hid (by rw [hP0]; simp)
  obtain ⟨X, hX⟩ : ∃ X, X = P0.heap.size := ⟨_, rfl⟩
  obtain ⟨W0, hW0⟩ : ∃ W0, W0 = P0.alloc (.cells Z.toArray 101) := ⟨_, rfl⟩
  have HB01 : Hid (Below P0.heap.size P0 W0) := Lib.hid (by rw [hW0]; exact (Below.refl _ _).alloc (Nat.le_refl _) _)
  have HP0 := Lib.hid (HPK.out.go HB01.out)
  have HX0 : Hid (VarL w X Z W0) := Lib.hid (by rw [hX, hW0]; exact VarL.new Z _ HPK.out.bel)
  have HXE := Lib.hid hX
  have HW0 := Lib.hid hW0
  have HPE := Lib.hid hP0
  have HTL : Hid ((tC M (arrOf I)).length = 84) := Lib.hid (tC_len M (arrOf_len I))
  have HTN : Hid ((tC M (arrOf I)).toArray.all (·.oneCell') = true) := Lib.hid (tC_one M _)
  obtain ⟨T, hT⟩ : ∃ T, T = tC M (arrOf I) := ⟨_, rfl⟩
  rw [← hT] at HTO HTL HTN
  have HTE := Lib.hid hT
  have HTS : Hid (T.toArray.size = 84) := Lib.hid (by rw [List.size_toArray, HTL.out])
  obtain ⟨b1, hb1⟩ : ∃ b, b = (memOk M && isok I) := ⟨_, rfl⟩
  obtain ⟨b2, hb2⟩ : ∃ b, b = envB E := ⟨_, rfl⟩
  obtain ⟨b3, hb3⟩ : ∃ b, b = cOk C := ⟨_, rfl⟩
  rw [← hb1] at HTO
  rw [← hb2] at HEO
  rw [← hb3] at HCO
  have HV1 := Lib.hid hb1
  have HV2 := Lib.hid hb2
  have HV3 := Lib.hid hb3
  have HBAD : Hid (∀ W, VarL w X Z W ∨ (∃ L, VarL w X L W ∧ L.length = 108) → kvalid ⟨M, I, E, C⟩ = false → (W.setCells X 0 Z).rangeAt X 0 Z ∧ R (.returned (.tuple #[.agg Z.toArray, .bool false])) (W.setCells X 0 Z)) := Lib.hid (fun W hW hk => by
    have hset : VarL w X Z (W.setCells X 0 Z) := by
      rcases hW with hW | ⟨L, hW, hl⟩
      · exact hW.set rfl
      · exact hW.set (by rw [HZL.out, hl])
    refine ⟨hset.at0, ?_⟩
    rw [HRR.out]
    exact ⟨Z, by rw [hk], HZL.out, HZO.out, hset.bel, fun hh => by rw [hk] at hh; cases hh⟩)
  clear hZ hzt hze hzr hP0 hX hW0 hT hb1 hb2 hb3 h hs hse
  obtain ⟨q0, q1, q2, q3⟩ := HP0.out.cells
  go_enter Tryz.func59, Tryz.ntmps59
  go_wp2_with (first | ((with_reducible refine alloc_is 101 ?_); refine alloc_arr 101 Z.toArray HZ.out ?_; rw [← HPE.out, ← HXE.out, ← HW0.out]) | fail)
  refine (HTO.out W0 HP0.out.bel).mono ?_
  rintro _ w1 ⟨rfl, hb⟩
  obtain ⟨Y1, hY1⟩ : ∃ Y, Y = w1.heap.size := ⟨_, rfl⟩
  obtain ⟨W1, hW1⟩ : ∃ W1, W1 = (w1.alloc (.cells zt.toArray 126)).setCells Y1 0 T := ⟨_, rfl⟩
  have HK1 : Hid (Below W0.heap.size W0 W1) := Lib.hid (by rw [hW1, hY1]; exact bel_var hb _ _ _)
  have HMK1 := Lib.hid (VarL.make (w := w) (w1 := w1) (L := T) (Z := zt.toArray) 126 (HP0.out.bel.trans (hb.mono HP0.out.bel.size)) (by rw [List.size_toArray, HZTL.out, HTL.out]))
  have HT1 : Hid (VarL w Y1 T W1) := Lib.hid (by rw [hW1, hY1]; exact HMK1.out.2)
  have HTH1 : Hid ((w1.alloc (.cells zt.toArray 126)).there Y1 0 T.toArray.size) := Lib.hid (by rw [hY1, List.size_toArray]; exact HMK1.out.1)
  have HP1 := Lib.hid (HP0.out.go HK1.out)
  have HX1 := Lib.hid (HX0.out.after HK1.out)
  have HY1 := Lib.hid hY1
  have HW1 := Lib.hid hW1
  clear hb hY1 hW1 HMK1 q0 q1 q2 q3
  obtain ⟨q0, q1, q2, q3⟩ := HP1.out.cells
  go_wp2_with (first | ((with_reducible refine alloc_is 126 ?_); refine alloc_arr 126 zt.toArray ZT.out ?_; rw [← HY1.out]) | ((with_reducible refine store_is 126 (.tmp 4) (.tmp 17) ?_); refine store_arr 126 (.tmp 4) (.tmp 17) Y1 0 T.toArray rfl rfl HTH1.out (info_tables HTS.out) HTN.out ?_; rw [show T.toArray.toList = T from rfl, ← HW1.out]) | fail)
  refine (HEO.out W1 HP1.out.bel).mono ?_
  rintro _ w2 ⟨YE, rfl, hyl, hyo, hb, hyb⟩
  have HYL := Lib.hid hyl
  have HYO := Lib.hid hyo
  have HYB := Lib.hid hyb
  have HYS : Hid (YE.toArray.size = 6) := Lib.hid (by rw [List.size_toArray, hyl])
  obtain ⟨Y2, hY2⟩ : ∃ Y, Y = w2.heap.size := ⟨_, rfl⟩
  obtain ⟨W2, hW2⟩ : ∃ W2, W2 = (w2.alloc (.cells ze.toArray 88)).setCells Y2 0 YE := ⟨_, rfl⟩
  have HK2 : Hid (Below W1.heap.size W1 W2) := Lib.hid (by rw [hW2, hY2]; exact bel_var hb _ _ _)
  have HKW2 : Hid (Below w2.heap.size w2 W2) := Lib.hid (by rw [hW2, hY2]; exact bel_var (Below.refl _ _) _ _ _)
  have HMK2 := Lib.hid (VarL.make (w := w) (w1 := w2) (L := YE) (Z := ze.toArray) 88 (HP1.out.bel.trans (hb.mono HP1.out.bel.size)) (by rw [List.size_toArray, HZEL.out, hyl]))
  have HE2 : Hid (VarL w Y2 YE W2) := Lib.hid (by rw [hW2, hY2]; exact HMK2.out.2)
  have HTH2 : Hid ((w2.alloc (.cells ze.toArray 88)).there Y2 0 YE.toArray.size) := Lib.hid (by rw [hY2, List.size_toArray]; exact HMK2.out.1)
  have HP2 := Lib.hid (HP1.out.go HK2.out)
  have HX2 := Lib.hid (HX1.out.after HK2.out)
  have HT2 := Lib.hid (HT1.out.after HK2.out)
  have HY2 := Lib.hid hY2
  have HW2 := Lib.hid hW2
  clear hb hY2 hW2 HMK2 q0 q1 q2 q3 hyl hyo hyb
  obtain ⟨q0, q1, q2, q3⟩ := HP2.out.cells
  go_wp2_with (first | ((with_reducible refine alloc_is 88 ?_); refine alloc_arr 88 ze.toArray ZE.out ?_; rw [← HY2.out]) | ((with_reducible refine store_is 88 (.tmp 6) (.tmp 23) ?_); refine store_arr 88 (.tmp 6) (.tmp 23) Y2 0 YE.toArray rfl rfl HTH2.out (info_envs HYS.out) HYO.out ?_; rw [show YE.toArray.toList = YE from rfl, ← HW2.out]) | fail)
  refine (HCO.out W2 HP2.out.bel).mono ?_
  rintro _ w3 ⟨ur, rfl, ⟨A, fi, cn, rfl, hfi, hcn, hrl⟩, hb⟩
  unfold ringV
  obtain ⟨RC, hRC⟩ : ∃ RC, RC = ringC A fi cn := ⟨_, rfl⟩
  have HRO : Hid (RC.toArray.all (·.oneCell') = true) := Lib.hid (by rw [hRC]; exact ringC_one A fi cn)
  have HRL : Hid (RC.length = 18) := Lib.hid (by rw [hRC]; rfl)
  rw [← hRC]
  have HRS : Hid (RC.toArray.size = 18) := Lib.hid (by rw [List.size_toArray, HRL.out])
  have HRE := Lib.hid hRC
  have HRI := Lib.hid (And.intro hfi (And.intro hcn hrl))
  obtain ⟨Y3, hY3⟩ : ∃ Y, Y = w3.heap.size := ⟨_, rfl⟩
  obtain ⟨W3, hW3⟩ : ∃ W3, W3 = (w3.alloc (.cells zr.toArray 99)).setCells Y3 0 RC := ⟨_, rfl⟩
  have HK3 : Hid (Below W2.heap.size W2 W3) := Lib.hid (by rw [hW3, hY3]; exact bel_var hb _ _ _)
  have HMK3 := Lib.hid (VarL.make (w := w) (w1 := w3) (L := RC) (Z := zr.toArray) 99 (HP2.out.bel.trans (hb.mono HP2.out.bel.size)) (by rw [List.size_toArray, HZRL.out, HRL.out]))
  have HR3 : Hid (VarL w Y3 RC W3) := Lib.hid (by rw [hW3, hY3]; exact HMK3.out.2)
  have HTH3 : Hid ((w3.alloc (.cells zr.toArray 99)).there Y3 0 RC.toArray.size) := Lib.hid (by rw [hY3, List.size_toArray]; exact HMK3.out.1)
  have HX3 := Lib.hid (HX2.out.after HK3.out)
  have HT3 := Lib.hid (HT2.out.after HK3.out)
  have HE3 := Lib.hid (HE2.out.after HK3.out)
  have HB3 : Hid (Below w.heap.size w W3) := Lib.hid HX3.out.bel
  have HS3 : Hid (b2 = true → ∃ bs : Nat → Nat, YE = mapC (fun j => some (bs j)) (fun j => (E.getD j ez).t) ∧ ∀ j, j < 3 → SetAt W3 (bs j) (E.getD j ez).r) := Lib.hid (fun hh => by
    obtain ⟨bs, h1, h2⟩ := HYB.out hh
    exact ⟨bs, h1, fun j hj => ((h2 j hj).below HKW2.out).below HK3.out⟩)
  have HY3 := Lib.hid hY3
  have HW3 := Lib.hid hW3
  clear hb hY3 hW3 HMK3 q0 q1 q2 q3 hfi hcn hrl hRC
  have HTHX : Hid (W3.there X 0 Z.toArray.size) := Lib.hid (by rw [List.size_toArray]; exact HX3.out.th)
  have HZS : Hid (Z.toArray.size = 108) := Lib.hid (by rw [List.size_toArray, HZL.out])
  by_cases hall : b1 = true ∧ b2 = true ∧ b3 = true
  · obtain ⟨rfl, rfl, rfl⟩ := hall
    obtain ⟨bs, hye, hsets⟩ := HS3.out (by trivial)
    have hmi : memOk M = true ∧ isok I = true := by have := HV1.out.symm; rw [Bool.and_eq_true] at this; exact this
    have HVV : Hid (kvalid ⟨M, I, E, C⟩ = vB M I E C) := Lib.hid (kvalid_vB hmi.1 hmi.2 HV2.out.symm HV3.out.symm)
    have hte : T = flatL M ++ isC I := by rw [HTE.out, arrOf_ok hmi.2]; unfold tC; rw [mC_ok hmi.1]
    have hR1 : W3.rangeAt Y1 0 (flatL M ++ isC I) := by rw [← hte]; exact HT3.out.at0
    have HMA := Lib.hid (range_left hR1)
    have HMB : Hid (W3.rangeAt Y1 48 (isC I)) := Lib.hid (range_right (o2 := 48) hR1 (by rw [flat_len hmi.1]))
    have HAL : Hid ((flatL M).length = 48) := Lib.hid (flat_len hmi.1)
    have HBL : Hid ((isC I).length = 36) := Lib.hid (isC_36 (isok_len hmi.2))
    have HBK := Lib.hid (fun W => run_build_kernel (flatL M) (isC I) YE RC HAL.out HBL.out HYL.out HRL.out W)
    obtain ⟨L, hL⟩ : ∃ L, L = flatL M ++ (isC I ++ (YE ++ RC)) := ⟨_, rfl⟩
    have HKL : Hid (KL W3 M I E bs (ringC A fi cn) L) := Lib.hid ⟨hmi.1, hmi.2, by have := HV2.out.symm; unfold envB at this; rw [Bool.and_eq_true, decide_eq_true_eq] at this; exact this.2, by rw [hL, hye, ← HRE.out]; rfl, by rw [← HRE.out]; exact HRL.out, by rw [← HRE.out]; exact HRO.out, hsets⟩
    rw [← hL] at HBK
    have HLL := Lib.hid HKL.out.len
    have HLO := Lib.hid HKL.out.one
    have HLS : Hid (L.toArray.size = 108) := Lib.hid (by rw [List.size_toArray, HLL.out])
    obtain ⟨FA, hFA⟩ : ∃ FA, FA = flatL M := ⟨_, rfl⟩
    obtain ⟨FB, hFB⟩ : ∃ FB, FB = isC I := ⟨_, rfl⟩
    rw [← hFA] at HMA HAL HBK
    rw [← hFB] at HMB HBL HBK
    obtain ⟨Y4, hY4⟩ : ∃ Y, Y = W3.heap.size := ⟨_, rfl⟩
    obtain ⟨W4, hW4⟩ : ∃ W4, W4 = (W3.alloc (.cells Z.toArray 101)).setCells Y4 0 L := ⟨_, rfl⟩
    have HK4 : Hid (Below W3.heap.size W3 W4) := Lib.hid (by rw [hW4, hY4]; exact bel_var (Below.refl _ _) _ _ _)
    have HMK4 := Lib.hid (VarL.make (w := w) (w1 := W3) (L := L) (Z := Z.toArray) 101 HB3.out (by rw [List.size_toArray, HZL.out, HLL.out]))
    have HL4 : Hid (VarL w Y4 L W4) := Lib.hid (by rw [hW4, hY4]; exact HMK4.out.2)
    have HTH4 : Hid ((W3.alloc (.cells Z.toArray 101)).there Y4 0 L.toArray.size) := Lib.hid (by rw [hY4, List.size_toArray]; exact HMK4.out.1)
    have HX4 := Lib.hid (HX3.out.after HK4.out)
    have HKL4 := Lib.hid (HKL.out.below HK4.out)
    have HVA := Lib.hid (kvalid_any W4 M I E bs A fi cn L HKL4.out HRI.out.1 HRI.out.2.1 C HRI.out.2.2 HV3.out.symm)
    have HNE : Hid (X ≠ Y4) := Lib.hid (by rw [hY4]; have := HX3.out.hi; omega)
    obtain ⟨rv, hrv⟩ : ∃ r, r = vB M I E C := ⟨_, rfl⟩
    rw [← hrv] at HVA HVV
    have HY4 := Lib.hid hY4
    have HW4 := Lib.hid hW4
    clear hL hye hsets hmi hte hR1 hFA hFB hY4 hW4 HMK4 hrv
    go_wp2_with (first | ((with_reducible refine load_is 94 (.tmp 42) ?_); refine load_arr 94 (.tmp 42) Y1 0 FA _ rfl HMA.out Tryz.underlying94 rfl (info_mem HAL.out) ?_) | ((with_reducible refine load_is 96 (.tmp 44) ?_); refine load_arr 96 (.tmp 44) Y1 48 FB _ rfl HMB.out Tryz.underlying96 rfl (info_infos HBL.out) ?_) | ((with_reducible refine alloc_is 99 ?_); refine alloc_arr 99 zr.toArray ZR.out ?_; rw [← HY3.out]) | ((with_reducible refine store_is 99 (.tmp 8) (.tmp 29) ?_); refine store_arr 99 (.tmp 8) (.tmp 29) Y3 0 RC.toArray rfl rfl HTH3.out (info_ring HRS.out) HRO.out ?_; rw [show RC.toArray.toList = RC from rfl, ← HW3.out]) | ((with_reducible refine load_is 88 (.tmp 6) ?_); refine load_arr 88 (.tmp 6) Y2 0 YE _ rfl HE3.out.at0 Tryz.underlying88 rfl (info_envs HYL.out) ?_) | ((with_reducible refine load_is 99 (.tmp 8) ?_); refine load_arr 99 (.tmp 8) Y3 0 RC _ rfl HR3.out.at0 Tryz.underlying99 rfl (info_ring HRL.out) ?_) | ((with_reducible refine buildp_is 101 #[(0, .tmp 43), (1, .tmp 45), (2, .tmp 46), (3, .tmp 47)] ?_); refine build_run4 101 (.tmp 43) (.tmp 45) (.tmp 46) (.tmp 47) (.agg FA.toArray) (.agg FB.toArray) (.agg YE.toArray) (.agg RC.toArray) rfl rfl rfl rfl L.toArray HBK.out ?_) | ((with_reducible refine alloc_is 101 ?_); refine alloc_arr 101 Z.toArray HZ.out ?_; rw [← HY4.out]) | ((with_reducible refine store_is 101 (.tmp 10) (.tmp 48) ?_); refine store_arr 101 (.tmp 10) (.tmp 48) Y4 0 L.toArray rfl rfl HTH4.out (info_kernel HLS.out) HLO.out ?_; rw [show L.toArray.toList = L from rfl, ← HW4.out]) | ((with_reducible refine load_is 101 (.tmp 10) ?_); refine load_arr 101 (.tmp 10) Y4 0 L _ rfl HL4.out.at0 Tryz.underlying101 rfl (info_kernel HLL.out) ?_) | fail)
    refine HVA.out.mono ?_
    rintro _ W5 ⟨rfl, hb5⟩
    have HX5 := Lib.hid (HX4.out.after hb5)
    have HL5 := Lib.hid (HL4.out.after hb5)
    have HKL5 := Lib.hid (HKL4.out.below hb5)
    have HTX5 : Hid (W5.there X 0 108) := Lib.hid (by rw [← HZL.out]; exact HX5.out.th)
    clear hb5
    cases rv with
    | false =>
      have HBD := Lib.hid (HBAD.out W5 (.inl HX5.out) HVV.out)
      go_wp2_with (first | ((with_reducible refine build_is 101 ?_); refine build_run0 101 Z.toArray HBZ.out ?_) | ((with_reducible refine store_is 101 (.tmp 2) (.tmp 52) ?_); refine store_arr 101 (.tmp 2) (.tmp 52) X 0 Z.toArray rfl rfl (by rw [HZS.out]; exact HTX5.out) (info_kernel HZS.out) HZO.out ?_) | fail)
      refine bodyPost_ret (results_cell_mid rfl _ _ X 0 Z _ rfl HBD.out.1 Tryz.underlying101 rfl (info_kernel HZL.out)) rfl ?_
      exact HBD.out.2
    | true =>
      have HXF : Hid (VarL w X L (W5.setCells X 0 L)) := Lib.hid (HX5.out.set (by rw [HLL.out, HZL.out]))
      have HFIN : Hid (R (.returned (.tuple #[.agg L.toArray, .bool true])) (W5.setCells X 0 L)) := Lib.hid (by
        rw [HRR.out]
        refine ⟨L, by rw [HVV.out], HLL.out, HLO.out, HXF.out.bel, fun _ => ⟨bs, A, fi, cn, ⟨HKL5.out.m, HKL5.out.i, HKL5.out.n, HKL5.out.L, HKL5.out.r, HKL5.out.ro, fun j hj => (HKL5.out.set j hj).stored ((HKL5.out.set j hj).ne_there HTX5.out (by omega)) _⟩, HRI.out.1, HRI.out.2.1, HRI.out.2.2⟩⟩)
      go_wp2_with (first | ((with_reducible refine load_is 101 (.tmp 10) ?_); refine load_arr 101 (.tmp 10) Y4 0 L _ rfl HL5.out.at0 Tryz.underlying101 rfl (info_kernel HLL.out) ?_) | ((with_reducible refine store_is 101 (.tmp 2) (.tmp 53) ?_); refine store_arr 101 (.tmp 2) (.tmp 53) X 0 L.toArray rfl rfl (by rw [HLS.out]; exact HTX5.out) (info_kernel HLS.out) HLO.out ?_) | fail)
      refine bodyPost_ret (results_cell_mid rfl _ _ X 0 L _ rfl HXF.out.at0 Tryz.underlying101 rfl (info_kernel HLL.out)) rfl ?_
      exact HFIN.out
  · have HKB : Hid (kvalid ⟨M, I, E, C⟩ = false) := Lib.hid (kvalid_bad (by
      rw [← HV1.out, ← HV2.out, ← HV3.out]
      cases b1
      · exact .inl rfl
      · cases b2
        · exact .inr (.inl rfl)
        · cases b3
          · exact .inr (.inr rfl)
          · exact absurd ⟨rfl, rfl, rfl⟩ hall))
    have HBD := Lib.hid (HBAD.out W3 (.inl HX3.out) HKB.out)
    have HN3 : Hid (b1 = true → b2 = true → b3 = true → False) := Lib.hid (fun h1 h2 h3 => hall ⟨h1, h2, h3⟩)
    clear hall HS3 HYB
    cases b1
    · go_wp2_with (first | ((with_reducible refine alloc_is 99 ?_); refine alloc_arr 99 zr.toArray ZR.out ?_; rw [← HY3.out]) | ((with_reducible refine store_is 99 (.tmp 8) (.tmp 29) ?_); refine store_arr 99 (.tmp 8) (.tmp 29) Y3 0 RC.toArray rfl rfl HTH3.out (info_ring HRS.out) HRO.out ?_; rw [show RC.toArray.toList = RC from rfl, ← HW3.out]) | ((with_reducible refine build_is 101 ?_); refine build_run0 101 Z.toArray HBZ.out ?_) | ((with_reducible refine store_is 101 (.tmp 2) (.tmp 41) ?_); refine store_arr 101 (.tmp 2) (.tmp 41) X 0 Z.toArray rfl rfl HTHX.out (info_kernel HZS.out) HZO.out ?_) | fail)
      refine bodyPost_ret (results_cell_mid rfl _ _ X 0 Z _ rfl HBD.out.1 Tryz.underlying101 rfl (info_kernel HZL.out)) rfl ?_
      exact HBD.out.2
    · cases b2
      · go_wp2_with (first | ((with_reducible refine alloc_is 99 ?_); refine alloc_arr 99 zr.toArray ZR.out ?_; rw [← HY3.out]) | ((with_reducible refine store_is 99 (.tmp 8) (.tmp 29) ?_); refine store_arr 99 (.tmp 8) (.tmp 29) Y3 0 RC.toArray rfl rfl HTH3.out (info_ring HRS.out) HRO.out ?_; rw [show RC.toArray.toList = RC from rfl, ← HW3.out]) | ((with_reducible refine build_is 101 ?_); refine build_run0 101 Z.toArray HBZ.out ?_) | ((with_reducible refine store_is 101 (.tmp 2) (.tmp 41) ?_); refine store_arr 101 (.tmp 2) (.tmp 41) X 0 Z.toArray rfl rfl HTHX.out (info_kernel HZS.out) HZO.out ?_) | fail)
        refine bodyPost_ret (results_cell_mid rfl _ _ X 0 Z _ rfl HBD.out.1 Tryz.underlying101 rfl (info_kernel HZL.out)) rfl ?_
        exact HBD.out.2
      · cases b3
        · go_wp2_with (first | ((with_reducible refine alloc_is 99 ?_); refine alloc_arr 99 zr.toArray ZR.out ?_; rw [← HY3.out]) | ((with_reducible refine store_is 99 (.tmp 8) (.tmp 29) ?_); refine store_arr 99 (.tmp 8) (.tmp 29) Y3 0 RC.toArray rfl rfl HTH3.out (info_ring HRS.out) HRO.out ?_; rw [show RC.toArray.toList = RC from rfl, ← HW3.out]) | ((with_reducible refine build_is 101 ?_); refine build_run0 101 Z.toArray HBZ.out ?_) | ((with_reducible refine store_is 101 (.tmp 2) (.tmp 41) ?_); refine store_arr 101 (.tmp 2) (.tmp 41) X 0 Z.toArray rfl rfl HTHX.out (info_kernel HZS.out) HZO.out ?_) | fail)
          refine bodyPost_ret (results_cell_mid rfl _ _ X 0 Z _ rfl HBD.out.1 Tryz.underlying101 rfl (info_kernel HZL.out)) rfl ?_
          exact HBD.out.2
        · exact (HN3.out rfl rfl rfl).elim
end Go.Proofs.YtcmmlgdfhkcmoaaGreat
namespace Go.Proofs.YtcmmlgdfhkcmoaaGreat
open Go.ChangeShapes Go.WideShapes Go.ChangeAt Go.RowKit
set_option linter.unusedVariables false
set_option maxRecDepth 100000
theorem envsOk_bd {M : List (List Int)} {I : List IV} {E : List EV} (h : envsOk M I E = true) : E.length = 3 ∧ ∀ j, j < 3 → -1 ≤ (E.getD j ez).t ∧ (E.getD j ez).t ≤ 11 := by
  obtain ⟨h1, h2⟩ := envsOk_iff.1 h
  refine ⟨h2, fun j hj => ?_⟩
  have := (envOk_iff.1 (h1 (E.getD j ez) (by rw [getD_lt (by omega)]; exact List.getElem_mem _))).2.1
  exact this
set_option maxHeartbeats 2000000 in
theorem sKernelValid_any (w : World) (vm vi ve vc : Value) (K : KV) (h : Ks w vm vi ve vc K) (hs : ShortI K.i) (hse : Short3 K.e) :
    Calls Tryz.prog 23 #[kV vm vi ve vc] w (BRes (kvalid K) w) := by
  obtain ⟨M, I, E, C⟩ := K
  have HK := Lib.hid h
  have HKP := Lib.hid (fun t => KP.start w vm vi ve vc t)
  have H1 : Hid (∀ W, Below w.heap.size w W → Calls Tryz.prog 64 #[vm] W (BRes (memOk M) W)) := Lib.hid (fun W hW => (valid_any W vm M (h.m.below hW)).mono fun e w' hh => ⟨hh.1, by rw [← hh.2]; exact Below.refl _ _⟩)
  have H2 : Hid (∀ W, Below w.heap.size w W → Calls Tryz.prog 65 #[vi] W (BRes (isok I) W)) := Lib.hid (fun W hW => infosValid_any W vi I (h.i.below hW) hs)
  have H3 : Hid (∀ W, Below w.heap.size w W → Calls Tryz.prog 66 #[vc] W (BRes (cOk C) W)) := Lib.hid (fun W hW => cValid_any W vc C (h.c.below hW))
  have H4 : Hid (∀ W, Below w.heap.size w W → memOk M = true → isok I = true → Calls Tryz.prog 67 #[kV vm vi ve vc] W (BRes (envsOk M I E) W)) := Lib.hid (fun W hW hm hi => l21Envs_any W vm vi ve vc ⟨M, I, E, C⟩ (h.below hW) hm (isok_len hi) hs hse)
  have H5 : Hid (∀ W, Below w.heap.size w W → memOk M = true → isok I = true → Calls Tryz.prog 68 #[kV vm vi ve vc] W (BRes (tabsOk M I) W)) := Lib.hid (fun W hW hm hi => l21Tables_any W vm vi ve vc ⟨M, I, E, C⟩ (h.below hW) hm (isok_len hi) hs)
  have H6 : Hid (∀ W, Below w.heap.size w W → memOk M = true → isok I = true → envsOk M I E = true → Calls Tryz.prog 69 #[kV vm vi ve vc] W (BRes (refsOk M I E) W)) := Lib.hid (fun W hW hm hi he => l21Refs_any W vm vi ve vc ⟨M, I, E, C⟩ (h.below hW) hm (isok_len hi) (envsOk_bd he).1 (envsOk_bd he).2)
  have H7 : Hid (∀ W, Below w.heap.size w W → memOk M = true → cOk C = true → envsOk M I E = true → Calls Tryz.prog 70 #[kV vm vi ve vc] W (BRes (cacheOk M E C) W)) := Lib.hid (fun W hW hm hc he => l21Cache_any W vm vi ve vc ⟨M, I, E, C⟩ (h.below hW) hm hc (envsOk_bd he).1 (envsOk_bd he).2)
  rw [show kvalid ⟨M, I, E, C⟩ = (memOk M && (isok I && (cOk C && (envsOk M I E && (tabsOk M I && (refsOk M I E && cacheOk M E C)))))) from rfl]
  obtain ⟨b1, hb1⟩ : ∃ b, b = memOk M := ⟨_, rfl⟩
  rw [← hb1] at H1 H4 H5 H6 H7 ⊢
  obtain ⟨b2, hb2⟩ : ∃ b, b = isok I := ⟨_, rfl⟩
  rw [← hb2] at H2 H4 H5 H6 ⊢
  obtain ⟨b3, hb3⟩ : ∃ b, b = cOk C := ⟨_, rfl⟩
  rw [← hb3] at H3 H7 ⊢
  obtain ⟨b4, hb4⟩ : ∃ b, b = envsOk M I E := ⟨_, rfl⟩
  rw [← hb4] at H4 H6 H7 ⊢
  obtain ⟨b5, hb5⟩ : ∃ b, b = tabsOk M I := ⟨_, rfl⟩
  rw [← hb5] at H5 ⊢
  obtain ⟨b6, hb6⟩ : ∃ b, b = refsOk M I E := ⟨_, rfl⟩
  rw [← hb6] at H6 ⊢
  obtain ⟨b7, hb7⟩ : ∃ b, b = cacheOk M E C := ⟨_, rfl⟩
  rw [← hb7] at H7 ⊢
  clear h hs hse hb1 hb2 hb3 hb4 hb5 hb6 hb7
  go_enter Tryz.func23, Tryz.ntmps23
  obtain ⟨W0, hW0⟩ : ∃ W0, W0 = w.alloc (.cells #[vm, vi, ve, vc] 30) := ⟨_, rfl⟩
  have HP0 : Hid (KP w W0 vm vi ve vc) := Lib.hid (by rw [hW0]; exact HKP.out _)
  have HW0 := Lib.hid hW0
  clear hW0
  go_wp2_with fail
  rw [← HW0.out]
  refine (H1.out W0 HP0.out.bel).mono ?_
  rintro e W1 ⟨rfl, hb⟩
  have HP1 := Lib.hid (HP0.out.go hb)
  clear hb
  obtain ⟨q0, q1, q2, q3⟩ := HP1.out.cells
  cases b1 with
  | false =>
    go_wp2_with fail
    go_ret
    exact ⟨by simp, HP1.out.bel⟩
  | true =>
    go_wp2_with fail
    clear q0 q1 q2 q3
    refine (H2.out W1 HP1.out.bel).mono ?_
    rintro e W2 ⟨rfl, hb⟩
    have HP2 := Lib.hid (HP1.out.go hb)
    clear hb
    obtain ⟨q0, q1, q2, q3⟩ := HP2.out.cells
    cases b2 with
    | false =>
      go_wp2_with fail
      go_ret
      exact ⟨by simp, HP2.out.bel⟩
    | true =>
      go_wp2_with fail
      clear q0 q1 q2 q3
      refine (H3.out W2 HP2.out.bel).mono ?_
      rintro e W3 ⟨rfl, hb⟩
      have HP3 := Lib.hid (HP2.out.go hb)
      clear hb
      obtain ⟨q0, q1, q2, q3⟩ := HP3.out.cells
      cases b3 with
      | false =>
        go_wp2_with fail
        go_ret
        exact ⟨by simp, HP3.out.bel⟩
      | true =>
        go_wp2_with fail
        clear q0 q1 q2 q3
        refine (H4.out W3 HP3.out.bel (by trivial) (by trivial)).mono ?_
        rintro e W4 ⟨rfl, hb⟩
        have HP4 := Lib.hid (HP3.out.go hb)
        clear hb
        obtain ⟨q0, q1, q2, q3⟩ := HP4.out.cells
        cases b4 with
        | false =>
          go_wp2_with fail
          go_ret
          exact ⟨by simp, HP4.out.bel⟩
        | true =>
          go_wp2_with fail
          clear q0 q1 q2 q3
          refine (H5.out W4 HP4.out.bel (by trivial) (by trivial)).mono ?_
          rintro e W5 ⟨rfl, hb⟩
          have HP5 := Lib.hid (HP4.out.go hb)
          clear hb
          obtain ⟨q0, q1, q2, q3⟩ := HP5.out.cells
          cases b5 with
          | false =>
            go_wp2_with fail
            go_ret
            exact ⟨by simp, HP5.out.bel⟩
          | true =>
            go_wp2_with fail
            clear q0 q1 q2 q3
            refine (H6.out W5 HP5.out.bel (by trivial) (by trivial) (by trivial)).mono ?_
            rintro e W6 ⟨rfl, hb⟩
            have HP6 := Lib.hid (HP5.out.go hb)
            clear hb
            obtain ⟨q0, q1, q2, q3⟩ := HP6.out.cells
            cases b6 with
            | false =>
              go_wp2_with fail
              go_ret
              exact ⟨by simp, HP6.out.bel⟩
            | true =>
              go_wp2_with fail
              clear q0 q1 q2 q3
              refine (H7.out W6 HP6.out.bel (by trivial) (by trivial) (by trivial)).mono ?_
              rintro e W7 ⟨rfl, hb⟩
              have HP7 := Lib.hid (HP6.out.go hb)
              clear hb
              go_wp2_with fail
              go_ret
              exact ⟨by simp, HP7.out.bel⟩
end Go.Proofs.YtcmmlgdfhkcmoaaGreat
namespace Go.Proofs.YtcmmlgdfhkcmoaaGreat
open Go.ChangeShapes Go.WideShapes Go.ChangeAt Go.RowKit
set_option linter.unusedVariables false
set_option maxRecDepth 100000
theorem KP.root {w W : World} {vm vi ve vc : Value} {K : KV} (h : KP w W vm vi ve vc) (hk : Ks w vm vi ve vc K) {j : Nat} (hj : j < K.e.length) :
    ∃ be oe ce, ve = .slice (some ⟨be, oe, none⟩) K.e.length ce ∧ ce ≤ maxLen ∧ K.e.length ≤ ce ∧ be < w.heap.size ∧ W.cell? ⟨be, oe + j * 2 + 1, none⟩ = some (.int .i64 (K.e.getD j ez).t) := by
  obtain ⟨a, c, rfl, h1, h2, h3⟩ := hk.e
  obtain ⟨b, o, u, rfl, hc, hd, hu⟩ := h3 j hj
  exact ⟨b, o, c, rfl, h2, h1, cell_lt hd, (h.bel.cell (p := ⟨b, o + j * 2 + 1, none⟩) (cell_lt hd)).trans hd⟩
end Go.Proofs.YtcmmlgdfhkcmoaaGreat
namespace Go.Proofs.YtcmmlgdfhkcmoaaGreat
open Go.ChangeShapes Go.WideShapes Go.ChangeAt Go.RowKit
set_option linter.unusedVariables false
set_option maxRecDepth 100000
abbrev eV (u : Value) (t : Int) : Value := .agg #[u, .int .i64 t]
theorem szEnv_any (w : World) (u : Value) (t : Int) (xs : List Bs) (left : Int) (h : Strs w u xs) (hf : Fit xs) (h0 : 0 ≤ left) (h1 : left ≤ 1048576) :
    Calls Tryz.prog 152 #[eV u t, .int .i64 left] w fun e w' => ∃ r : Int, (r < 0 ∨ (0 ≤ r ∧ r + xs.length + totalS xs = left)) ∧ e = .returned (.int .i64 r) ∧ Below w.heap.size w w' := by
  have HB : Hid (∀ o, Below w.heap.size w (w.alloc o)) := Lib.hid (fun o => (Below.refl _ _).alloc (Nat.le_refl _) _)
  have HC : Hid (∀ o, Calls Tryz.prog 201 #[u, .int .i64 left] (w.alloc o) (LeftS xs left (w.alloc o))) := Lib.hid (fun o => szStringS_any _ u xs left (h.below ((Below.refl _ _).alloc (Nat.le_refl _) _)) hf h0 h1)
  unfold LeftS at HC
  clear h hf
  go_enter Tryz.func152, Tryz.ntmps152
  go_wp2_with fail
  refine (HC.out _).mono ?_
  rintro e w' ⟨r', hr', rfl, rfl⟩
  rcases hr' with hr' | hr'
  · go_wp2_with fail
    go_ret
    exact ⟨-1, .inl (by omega), rfl, HB.out _⟩
  · have hng : ¬ r' < 0 := by omega
    go_wp2_with fail
    go_ret
    exact ⟨r', .inr hr', rfl, HB.out _⟩
def Fit3 (es : List EV) : Prop := ∀ x ∈ es, Fit x.r
theorem Fit3.at {es : List EV} (h : Fit3 es) (i : Nat) : Fit (es.getD i ez).r := by
  by_cases hi : i < es.length
  · rw [getD_lt hi]; exact h _ (List.getElem_mem hi)
  · rw [List.getD, List.getElem?_eq_none (Nat.le_of_not_lt hi)]; exact fun x hx => by cases hx
def tot3 (es : List EV) : Nat := (es.map (fun x => x.r.length + totalS x.r)).sum
theorem tot3_snoc (es : List EV) (k : Nat) (h : k < es.length) : tot3 (es.take (k + 1)) = tot3 (es.take k) + ((es.getD k ez).r.length + totalS (es.getD k ez).r) := by
  rw [take_snoc_getD es k ez h]; simp [tot3]
theorem tot3_mem {es : List EV} {x : EV} (h : x ∈ es) : x.r.length + totalS x.r ≤ tot3 es := by
  induction es with
  | nil => cases h
  | cons y ys ih =>
    simp only [tot3, List.map_cons, List.sum_cons] at ih ⊢
    rcases List.mem_cons.1 h with e | h
    · subst e; omega
    · have := ih h; omega
def Left3 (es : List EV) (left : Int) (w : World) (e : Ending) (w' : World) : Prop :=
  ∃ r : Int, (r < 0 ∨ (0 ≤ r ∧ r + es.length + tot3 es = left)) ∧ e = .returned (.int .i64 r) ∧ Below w.heap.size w w'
theorem left3_neg {es : List EV} {left : Int} {w w' : World} (h : Below w.heap.size w w') : Left3 es left w (.returned (.int .i64 (-1))) w' := ⟨-1, .inl (by omega), rfl, h⟩
theorem szEnvS_any (w : World) (v : Value) (es : List EV) (left : Int) (h : Es w v es) (hf : Fit3 es) (h0 : 0 ≤ left) (h1 : left ≤ 1048576) :
    Calls Tryz.prog 94 #[v, .int .i64 left] w (Left3 es left w) := by
  obtain ⟨a, ca, rfl, hla, hma, hxa⟩ := h
  unfold maxLen at hma
  obtain ⟨n, hN⟩ : ∃ n, n = es.length := ⟨_, rfl⟩
  rw [← hN] at hla hxa ⊢
  have HN := Lib.hid hN
  have HF := Lib.hid hf
  have HX := Lib.hid hxa
  clear hN hf hxa
  by_cases hneg : left < (n : Int)
  · have hneg' : left - (n : Int) < 0 := by omega
    go_enter Tryz.func94, Tryz.ntmps94
    go_wp2
    go_ret
    exact left3_neg (Below.refl _ _)
  · have hpos : ¬ left - (n : Int) < 0 := by omega
    go_enter Tryz.func94, Tryz.ntmps94
    go_wp2
    go_loopw [1, 5] (fun l i wr => ∃ (k : Nat) (r : Int), k ≤ n ∧ i = .int .i64 k ∧ l = .int .i64 r ∧ 0 ≤ r ∧ r ≤ 1048576 ∧ Hid (r + n + tot3 (es.take k) = left) ∧ Hid (Below w.heap.size w wr)) (fun _ i _ => n - (intOf i).toNat)
    case atStart => exact ⟨0, left - n, Nat.zero_le _, rfl, rfl, by omega, by omega, Lib.hid (by simp [tot3]), Lib.hid (Below.refl _ _)⟩
    case round =>
      obtain ⟨k, r, hk, rfl, rfl, hr0, hr1, HT, HBW⟩ := hrel
      by_cases hlt : k < n
      · obtain ⟨b, o, u, rfl, hc0, hd0, hu⟩ := HX.out k hlt
        have hc := (HBW.out.cell (p := ⟨b, o + k * 2, none⟩) (cell_lt hc0)).trans hc0
        have hd := (HBW.out.cell (p := ⟨b, o + k * 2 + 1, none⟩) (cell_lt hd0)).trans hd0
        have HC := Lib.hid (szEnv_any wr u (es.getD k ez).t _ r (hu.below HBW.out) (HF.out.at k) hr0 hr1)
        have HS := Lib.hid (tot3_snoc es k (by have := HN.out; omega))
        generalize hx : es.getD k ez = x at HC HS hd
        clear hx hu hc0 hd0
        have hlt' : (k : Int) < (n : Int) := by omega
        go_wp2_with fail
        refine HC.out.mono ?_
        rintro e w' ⟨r', hr', rfl, hb⟩
        have HB2 := Lib.hid (HBW.out.trans (hb.mono HBW.out.size))
        clear hb
        rcases hr' with hr' | hr'
        · go_wp2_with fail
          go_ret
          exact left3_neg HB2.out
        · have hng : ¬ r' < 0 := by omega
          go_wp2_with fail
          go_roundw
          case rel => exact ⟨k + 1, r', by omega, by go_num, rfl, by omega, by omega, Lib.hid (by have h1 := HT.out; have h2 := HS.out; omega), HB2⟩
          case measure => simp [intOf]; omega
      · go_wp2
        go_ret
        have e : k = n := by omega
        subst e
        exact ⟨r, .inr ⟨by omega, by have := HT.out; rw [HN.out, List.take_length] at this; exact this⟩, rfl, HBW.out⟩
end Go.Proofs.YtcmmlgdfhkcmoaaGreat
namespace Go.Proofs.YtcmmlgdfhkcmoaaGreat
open Go.ChangeShapes Go.WideShapes Go.ChangeAt Go.RowKit
set_option linter.unusedVariables false
set_option maxRecDepth 100000
theorem addr_at {w : World} {a : Addr} {n : Nat} {f : Nat → Value} (h : ∀ i, i < n → w.cell? (a.add i) = some (f i)) (hn : 0 < n) : ∃ b o, a = ⟨b, o, none⟩ ∧ ∀ i, i < n → w.cell? ⟨b, o + i, none⟩ = some (f i) := by
  obtain ⟨b, o, s⟩ := a
  have h0 := h 0 hn
  have hs : s = none := by
    have : w.cell? ⟨b, o, s⟩ = some (f 0) := by simpa [Addr.add] using h0
    exact World.cell?_spot this
  subst hs
  refine ⟨b, o, rfl, fun i hi => ?_⟩
  have := h i hi
  have e : (⟨b, o, none⟩ : Addr).add i = ⟨b, o + i, none⟩ := by unfold Addr.add; split <;> simp_all
  rwa [e] at this
theorem rows_of_trod {H : Type} {enc : TypeId × Value → H} {P : Program} {w : World} {base : Nat} {held : Bool} {t e q : TypeId} {fuel : Nat} {a : Option Addr} {len cap : Nat} {x : DataW H × List MemPlace}
    (ht : P.underlying t = some (.slice e)) (he : P.underlying e = some (.slice q)) (hq : P.underlying q = some (.int .i64)) (ce : P.cellsOf e = 1) (cq : P.cellsOf q = 1)
    (h : DataW.trod enc P w base (fun _ => true) held fuel t (Value.slice a len cap).cells.toList = some x) : ∃ xss, Rows2 w (.slice a len cap) xss := by
  rcases Go.Deep.open_int_rows ht he hq ce cq h with ⟨hcs, _⟩ | ⟨a', len', cap', A, L, C, Z, hcs, _, hl, hm, _, hrow⟩
  · simp [Value.cells] at hcs
    obtain ⟨rfl, rfl, rfl⟩ := hcs
    exact ⟨[], none, 0, rfl, Nat.le_refl _, Nat.zero_le _, fun i hi => by simp at hi⟩
  · simp [Value.cells] at hcs
    obtain ⟨rfl, rfl, rfl⟩ := hcs
    have hlen : ((List.range len).map fun r => (Z r).take (L r)).length = len := by simp
    refine ⟨(List.range len).map fun r => (Z r).take (L r), some a', cap, by rw [hlen], by rw [hlen]; exact hl, hm, fun i hi => ?_⟩
    rw [hlen] at hi
    obtain ⟨b, o, rfl, hcells⟩ := addr_at (w := w) (n := cap) (f := fun r => .slice (A r) (L r) (C r)) (fun r hr => (hrow r hr).1) (by omega)
    obtain ⟨_, h1, h2, h3, _, _, h6⟩ := hrow i (by omega)
    have hg : ((List.range len).map fun r => (Z r).take (L r)).getD i [] = (Z i).take (L i) := by rw [getD_lt (by simpa using hi)]; simp
    have hzl : ((Z i).take (L i)).length = L i := by rw [List.length_take]; omega
    refine ⟨b, o, _, rfl, hcells i (by omega), ?_⟩
    rw [hg]
    refine ⟨A i, C i, by rw [hzl], by rw [hzl]; exact h1, h2, fun m hm' => ?_⟩
    rw [hzl] at hm'
    cases hA : A i with
    | none =>
      have := (hrow i (by omega)).2.2.2.2.2.1 hA
      omega
    | some a'' =>
      obtain ⟨_, h7⟩ := h6 a'' hA
      obtain ⟨g, p, rfl, hgc⟩ := addr_at (w := w) (n := C i) (f := fun c => .int .i64 ((Z i).getD c 0)) h7 (by omega)
      refine ⟨g, p, rfl, (hgc m (by omega)).trans ?_⟩
      congr 2
      rw [getD_lt (show m < (Z i).length by omega), getD_lt (show m < ((Z i).take (L i)).length by omega)]
      simp
end Go.Proofs.YtcmmlgdfhkcmoaaGreat
namespace Go.Proofs.YtcmmlgdfhkcmoaaGreat
open Go.ChangeShapes Go.WideShapes Go.ChangeAt Go.RowKit
set_option linter.unusedVariables false
set_option maxRecDepth 100000
theorem cs_of_trod {H : Type} {enc : TypeId × Value → H} {w : World} {base : Nat} {held : Bool} {fuel : Nat} {a : Option Addr} {len cap : Nat} {x : DataW H × List MemPlace}
    (h : DataW.trod enc Tryz.prog w base (fun _ => true) held fuel 70 (Value.slice a len cap).cells.toList = some x) : ∃ xs, Cs w (.slice a len cap) xs := by
  rcases Go.Deep.open_slice Tryz.underlying70 h with ⟨hcs, _⟩ | ⟨a', len', cap', m, n, D, Pl, hcs, _, hl, hm, hmm, _, hrow⟩
  · simp [Value.cells] at hcs
    obtain ⟨rfl, rfl, rfl⟩ := hcs
    exact ⟨[], none, 0, rfl, Nat.le_refl _, Nat.zero_le _, fun i hi => by simp at hi⟩
  · simp [Value.cells] at hcs
    obtain ⟨rfl, rfl, rfl⟩ := hcs
    have hmc : m = cap := by simpa using hmm
    have hce : Tryz.prog.cellsOf 203 = 4 := by kernel_rfl
    have hci : Tryz.prog.cellsOf 3 = 1 := by kernel_rfl
    have hcb : Tryz.prog.cellsOf 4 = 1 := by kernel_rfl
    have each : ∀ i, i < len → ∃ y : CV, w.cell? (a'.add (i * 4)) = some (.int .i64 y.e) ∧ w.cell? (a'.add (i * 4 + 1)) = some (.int .i64 y.p) ∧ w.cell? (a'.add (i * 4 + 2)) = some (.int .i64 y.f) ∧ w.cell? (a'.add (i * 4 + 3)) = some (.bool y.b) := by
      intro i hi
      obtain ⟨cs', h1, h2⟩ := hrow i (by omega)
      rw [hce] at h1
      obtain ⟨_, hlen, hcell⟩ := World.cells?_some h1
      obtain ⟨y0, y1, y2, y3, k, _, _, g0, g1, g2, g3⟩ := Go.Joins.trod_struct4 Tryz.underlying203 h2
      match cs', hlen with
      | [v0, v1, v2, v3], _ =>
        obtain ⟨n0, e0, _⟩ := DataW.trod_int Tryz.underlying3 g0
        obtain ⟨n1, e1, _⟩ := DataW.trod_int Tryz.underlying3 g1
        obtain ⟨n2, e2, _⟩ := DataW.trod_int Tryz.underlying3 g2
        obtain ⟨n3, e3, _⟩ := DataW.trod_bool Tryz.underlying4 g3
        rw [hci] at e0 e1 e2
        rw [hcb] at e3
        have q0 := hcell 0 (by omega)
        have q1 := hcell 1 (by omega)
        have q2 := hcell 2 (by omega)
        have q3 := hcell 3 (by omega)
        rw [Go.Deep.add_add] at q0 q1 q2 q3
        injection e0 with e0
        injection e1 with e1
        injection e2 with e2
        injection e3 with e3
        subst e0 e1 e2 e3
        exact ⟨⟨n0, n1, n2, n3⟩, q0, q1, q2, q3⟩
    obtain ⟨q, hq⟩ := Go.Deep.choose_lt each
    by_cases h0 : len = 0
    · subst h0
      exact ⟨[], some a', cap, rfl, by simp, hm, fun i hi => by simp at hi⟩
    · have hs : a'.spot = none := by
        have := (hq 0 (by omega)).1
        rw [Nat.zero_mul, show a'.add 0 = a' from rfl] at this
        exact World.cell?_spot this
      obtain ⟨b, o, s⟩ := a'
      simp only at hs
      subst hs
      refine ⟨(List.range len).map q, some ⟨b, o, none⟩, cap, by simp, by simpa using hl, hm, fun i hi => ⟨b, o, rfl, ?_⟩⟩
      have hi' : i < len := by simpa using hi
      have hg : ((List.range len).map q).getD i c0 = q i := by rw [getD_lt hi]; simp
      obtain ⟨r0, r1, r2, r3⟩ := hq i hi'
      rw [Addr.add_mid] at r0 r1 r2 r3
      rw [hg]
      exact ⟨r0, r1, r2, r3⟩
end Go.Proofs.YtcmmlgdfhkcmoaaGreat
namespace Go.Proofs.YtcmmlgdfhkcmoaaGreat
open Go.ChangeShapes Go.WideShapes Go.ChangeAt Go.RowKit
set_option linter.unusedVariables false
set_option maxRecDepth 100000
theorem is_of_trod {H : Type} {enc : TypeId × Value → H} {w : World} {base : Nat} {held : Bool} {fuel : Nat} {a : Option Addr} {len cap : Nat} {x : DataW H × List MemPlace}
    (h : DataW.trod enc Tryz.prog w base (fun _ => true) held fuel 68 (Value.slice a len cap).cells.toList = some x) : ∃ xs, Is w (.slice a len cap) xs ∧ FitI xs := by
  rcases Go.Deep.open_slice Tryz.underlying68 h with ⟨hcs, _⟩ | ⟨a', len', cap', m, n, D, Pl, hcs, _, hl, hm, hmm, _, hrow⟩
  · simp [Value.cells] at hcs
    obtain ⟨rfl, rfl, rfl⟩ := hcs
    exact ⟨[], ⟨none, 0, rfl, Nat.le_refl _, Nat.zero_le _, fun i hi => by simp at hi⟩, fun x hx => by cases hx⟩
  · simp [Value.cells] at hcs
    obtain ⟨rfl, rfl, rfl⟩ := hcs
    have hmc : m = cap := by simpa using hmm
    have hce : Tryz.prog.cellsOf 197 = 3 := by kernel_rfl
    have hci : Tryz.prog.cellsOf 3 = 1 := by kernel_rfl
    have hcb : Tryz.prog.cellsOf 9 = 1 := by kernel_rfl
    have each : ∀ i, i < len → ∃ y : IV, y.g.length ≤ maxLen ∧ w.cell? (a'.add (i * 3)) = some (.int .i64 y.k) ∧ w.cell? (a'.add (i * 3 + 1)) = some (.string ⟨y.g.toArray⟩) ∧ w.cell? (a'.add (i * 3 + 2)) = some (.int .i64 y.r) := by
      intro i hi
      obtain ⟨cs', h1, h2⟩ := hrow i (by omega)
      rw [hce] at h1
      obtain ⟨_, hlen, hcell⟩ := World.cells?_some h1
      obtain ⟨y0, y1, y2, k, _, _, g0, g1, g2⟩ := Go.Deep.trod_struct3 Tryz.underlying197 h2
      match cs', hlen with
      | [v0, v1, v2], _ =>
        obtain ⟨n0, e0, _⟩ := DataW.trod_int Tryz.underlying3 g0
        obtain ⟨s1, e1, _, hs1⟩ := DataW.trod_string Tryz.underlying9 g1
        obtain ⟨n2, e2, _⟩ := DataW.trod_int Tryz.underlying3 g2
        rw [hci] at e0 e2
        rw [hcb] at e1
        have q0 := hcell 0 (by omega)
        have q1 := hcell 1 (by omega)
        have q2 := hcell 2 (by omega)
        rw [Go.Deep.add_add] at q0 q1 q2
        injection e0 with e0
        injection e1 with e1
        injection e2 with e2
        subst e0 e1 e2
        exact ⟨⟨n0, s1.data.toList, n2⟩, by show s1.data.toList.length ≤ maxLen; rw [Array.length_toList]; exact hs1, q0, q1, q2⟩
    obtain ⟨q, hq⟩ := Go.Deep.choose_lt each
    by_cases h0 : len = 0
    · subst h0
      exact ⟨[], ⟨some a', cap, rfl, by simp, hm, fun i hi => by simp at hi⟩, fun x hx => by cases hx⟩
    · have hs : a'.spot = none := by
        have := (hq 0 (by omega)).2.1
        rw [Nat.zero_mul, show a'.add 0 = a' from rfl] at this
        exact World.cell?_spot this
      obtain ⟨b, o, s⟩ := a'
      simp only at hs
      subst hs
      refine ⟨(List.range len).map q, ⟨some ⟨b, o, none⟩, cap, by simp, by simpa using hl, hm, fun i hi => ⟨b, o, rfl, ?_⟩⟩, fun x hx => by
        obtain ⟨i, hi, rfl⟩ := List.mem_map.1 hx
        exact (hq i (by simpa using hi)).1⟩
      have hi' : i < len := by simpa using hi
      have hg : ((List.range len).map q).getD i iz = q i := by rw [getD_lt hi]; simp
      obtain ⟨_, r0, r1, r2⟩ := hq i hi'
      rw [Addr.add_mid] at r0 r1 r2
      rw [hg]
      exact ⟨r0, r1, r2⟩
end Go.Proofs.YtcmmlgdfhkcmoaaGreat
namespace Go.Proofs.YtcmmlgdfhkcmoaaGreat
open Go.ChangeShapes Go.WideShapes Go.ChangeAt Go.RowKit
set_option linter.unusedVariables false
set_option maxRecDepth 100000
theorem strs_of_trod {H : Type} {enc : TypeId × Value → H} {P : Program} {w : World} {base : Nat} {held : Bool} {t e : TypeId} {fuel : Nat} {a : Option Addr} {len cap : Nat} {x : DataW H × List MemPlace}
    (ht : P.underlying t = some (.slice e)) (he : P.underlying e = some .string) (ce : P.cellsOf e = 1)
    (h : DataW.trod enc P w base (fun _ => true) held fuel t (Value.slice a len cap).cells.toList = some x) : ∃ xs, Strs w (.slice a len cap) xs ∧ Fit xs := by
  rcases open_strings ht he ce h with ⟨hcs, _⟩ | ⟨x, l, c, ss, hcs, _, hl, hm, hz, _, hcell, hsz⟩
  · simp [Value.cells] at hcs
    obtain ⟨rfl, rfl, rfl⟩ := hcs
    exact ⟨[], ⟨none, 0, rfl, Nat.le_refl _, Nat.zero_le _, fun i hi => by simp at hi⟩, fun x hx => by cases hx⟩
  · simp [Value.cells] at hcs
    obtain ⟨rfl, rfl, rfl⟩ := hcs
    have hz' : ss.length = cap := by simpa using hz
    have hlen : ((ss.take len).map (fun s : ByteArray => s.data.toList)).length = len := by rw [List.length_map, List.length_take]; omega
    refine ⟨(ss.take len).map (fun s : ByteArray => s.data.toList), ⟨some x, cap, by rw [hlen], by rw [hlen]; exact hl, hm, fun i hi => ?_⟩, fun y hy => ?_⟩
    · rw [hlen] at hi
      obtain ⟨b, o, rfl, hcells⟩ := addr_at (w := w) (n := cap) (f := fun r => .string (ss.getD r ByteArray.empty)) (fun r hr => hcell r (by omega)) (by omega)
      refine ⟨b, o, rfl, (hcells i (by omega)).trans ?_⟩
      have e1 : ((ss.take len).map (fun s : ByteArray => s.data.toList)).getD i [] = (ss.getD i ByteArray.empty).data.toList := by
        rw [getD_lt (by rw [hlen]; exact hi), getD_lt (show i < ss.length by omega)]
        simp
      rw [e1]
    · obtain ⟨s, hs, rfl⟩ := List.mem_map.1 hy
      have := hsz s (List.mem_of_mem_take hs)
      show s.data.toList.length ≤ maxLen
      rw [Array.length_toList]; exact this
end Go.Proofs.YtcmmlgdfhkcmoaaGreat
namespace Go.Proofs.YtcmmlgdfhkcmoaaGreat
open Go.ChangeShapes Go.WideShapes Go.ChangeAt Go.RowKit
set_option linter.unusedVariables false
set_option maxRecDepth 100000
theorem slice_of_trod {H : Type} {enc : TypeId × Value → H} {P : Program} {w : World} {base : Nat} {held : Bool} {fuel : Nat} {t e : TypeId} {v : Value} {x : DataW H × List MemPlace}
    (ht : P.underlying t = some (.slice e)) (h : DataW.trod enc P w base (fun _ => true) held fuel t [v] = some x) : ∃ a len cap, v = .slice a len cap := by
  rcases Go.Deep.open_slice ht h with ⟨hcs, _⟩ | ⟨a', len', cap', m, n, D, Pl, hcs, _⟩
  · exact ⟨_, _, _, by simpa using hcs⟩
  · exact ⟨_, _, _, by simpa using hcs⟩
theorem es_of_trod {H : Type} {enc : TypeId × Value → H} {w : World} {base : Nat} {held : Bool} {fuel : Nat} {a : Option Addr} {len cap : Nat} {x : DataW H × List MemPlace}
    (h : DataW.trod enc Tryz.prog w base (fun _ => true) held fuel 69 (Value.slice a len cap).cells.toList = some x) : ∃ xs, Es w (.slice a len cap) xs ∧ Fit3 xs := by
  rcases Go.Deep.open_slice Tryz.underlying69 h with ⟨hcs, _⟩ | ⟨a', len', cap', m, n, D, Pl, hcs, _, hl, hm, hmm, _, hrow⟩
  · simp [Value.cells] at hcs
    obtain ⟨rfl, rfl, rfl⟩ := hcs
    exact ⟨[], ⟨none, 0, rfl, Nat.le_refl _, Nat.zero_le _, fun i hi => by simp at hi⟩, fun x hx => by cases hx⟩
  · simp [Value.cells] at hcs
    obtain ⟨rfl, rfl, rfl⟩ := hcs
    have hmc : m = cap := by simpa using hmm
    have hce : Tryz.prog.cellsOf 199 = 2 := by kernel_rfl
    have hci : Tryz.prog.cellsOf 3 = 1 := by kernel_rfl
    have hcb : Tryz.prog.cellsOf 35 = 1 := by kernel_rfl
    have each : ∀ i, i < len → ∃ (y : EV) (u : Value), Fit y.r ∧ w.cell? (a'.add (i * 2)) = some u ∧ w.cell? (a'.add (i * 2 + 1)) = some (.int .i64 y.t) ∧ Strs w u y.r := by
      intro i hi
      obtain ⟨cs', h1, h2⟩ := hrow i (by omega)
      rw [hce] at h1
      obtain ⟨_, hlen, hcell⟩ := World.cells?_some h1
      obtain ⟨y0, y1, k, _, _, g0, g1⟩ := trod_struct2 Tryz.underlying199 h2
      match cs', hlen with
      | [v0, v1], _ =>
        rw [hcb] at g0
        rw [hci] at g1
        obtain ⟨n1, e1, _⟩ := DataW.trod_int Tryz.underlying3 g1
        have g0' : DataW.trod enc Tryz.prog w base (fun _ => true) held k 35 [v0] = some y0 := g0
        obtain ⟨b, l, c, rfl⟩ := slice_of_trod Tryz.underlying35 g0'
        obtain ⟨ss, hs, hf⟩ := strs_of_trod Tryz.underlying35 Tryz.underlying9 (by kernel_rfl) (show DataW.trod enc Tryz.prog w base (fun _ => true) held k 35 (Value.slice b l c).cells.toList = some y0 from g0')
        have q0 := hcell 0 (by omega)
        have q1 := hcell 1 (by omega)
        rw [Go.Deep.add_add] at q0 q1
        injection e1 with e1
        subst e1
        exact ⟨⟨ss, n1⟩, _, hf, q0, q1, hs⟩
    haveI : Inhabited EV := ⟨ez⟩
    obtain ⟨q, hq⟩ := Go.Deep.choose_lt each
    by_cases h0 : len = 0
    · subst h0
      exact ⟨[], ⟨some a', cap, rfl, by simp, hm, fun i hi => by simp at hi⟩, fun x hx => by cases hx⟩
    · have hs : a'.spot = none := by
        obtain ⟨u, _, this, _⟩ := hq 0 (by omega)
        rw [Nat.zero_mul, show a'.add 0 = a' from rfl] at this
        exact World.cell?_spot this
      obtain ⟨b, o, s⟩ := a'
      simp only at hs
      subst hs
      refine ⟨(List.range len).map q, ⟨some ⟨b, o, none⟩, cap, by simp, by simpa using hl, hm, fun i hi => ?_⟩, fun x hx => by
        obtain ⟨i, hi, rfl⟩ := List.mem_map.1 hx
        exact (hq i (by simpa using hi)).choose_spec.1⟩
      have hi' : i < len := by simpa using hi
      have hg : ((List.range len).map q).getD i ez = q i := by rw [getD_lt hi]; simp
      obtain ⟨u, _, r0, r1, r2⟩ := hq i hi'
      rw [Addr.add_mid] at r0 r1
      rw [hg]
      exact ⟨b, o, u, rfl, r0, r1, r2⟩
theorem kV_of_trod {H : Type} {enc : TypeId × Value → H} {w : World} {r : Reach} {b0 base : Nat} {held : Bool} {v : Value} {d : DataW H} {p : List MemPlace}
    (hv : Value.okWide Tryz.prog w r b0 72 v) (h : DataW.Trod enc Tryz.prog w base (fun _ => true) held 72 v d p) : ∃ (v0 v1 v2 v3 : Value) (K : KV), v = kV v0 v1 v2 v3 ∧ Ks w v0 v1 v2 v3 K ∧ FitI K.i ∧ Fit3 K.e := by
  obtain ⟨v0, v1, v2, v3, y0, y1, y2, y3, n, rfl, _, _, g0, g1, g2, g3⟩ := Go.Joins.open_agg4 Tryz.underlying72 (by kernel_rfl) (by kernel_rfl) hv h
  obtain ⟨a0, l0, c0, rfl⟩ := slice_of_trod Tryz.underlying25 g0
  obtain ⟨a1, l1, c1, rfl⟩ := slice_of_trod Tryz.underlying68 g1
  obtain ⟨a2, l2, c2, rfl⟩ := slice_of_trod Tryz.underlying69 g2
  obtain ⟨a3, l3, c3, rfl⟩ := slice_of_trod Tryz.underlying70 g3
  obtain ⟨m, hm⟩ := rows_of_trod Tryz.underlying25 Tryz.underlying42 Tryz.underlying3 (by kernel_rfl) (by kernel_rfl) (show DataW.trod enc Tryz.prog w base (fun _ => true) held n 25 (Value.slice a0 l0 c0).cells.toList = some y0 from g0)
  obtain ⟨is, hi, fi⟩ := is_of_trod (show DataW.trod enc Tryz.prog w base (fun _ => true) held n 68 (Value.slice a1 l1 c1).cells.toList = some y1 from g1)
  obtain ⟨es, he, fe⟩ := es_of_trod (show DataW.trod enc Tryz.prog w base (fun _ => true) held n 69 (Value.slice a2 l2 c2).cells.toList = some y2 from g2)
  obtain ⟨cs, hc⟩ := cs_of_trod (show DataW.trod enc Tryz.prog w base (fun _ => true) held n 70 (Value.slice a3 l3 c3).cells.toList = some y3 from g3)
  exact ⟨_, _, _, _, ⟨m, is, es, cs⟩, rfl, ⟨hm, hi, he, hc⟩, fi, fe⟩
end Go.Proofs.YtcmmlgdfhkcmoaaGreat
namespace Go.Proofs.YtcmmlgdfhkcmoaaGreat
open Go.ChangeShapes Go.WideShapes Go.ChangeAt Go.RowKit
set_option linter.unusedVariables false
set_option maxRecDepth 100000
theorem reads_below {b : Bool} {w : World} {e : Ending} {w' : World} (h : Reads (.bool b) w e w') : e = .returned (.bool b) ∧ Below w.heap.size w w' := by
  obtain ⟨he, n, hw⟩ := h
  refine ⟨he, ?_⟩
  rw [hw]
  exact ⟨rfl, rfl, rfl, Nat.le_refl _, fun _ _ => rfl⟩
theorem two_first (w : World) (u a : Value) (t : TypeId) (o : Obj) : ((w.alloc (.cells #[u, a] t)).alloc o).cell? ⟨w.heap.size, 1, none⟩ = some a := by
  rw [World.cell?_alloc_past _ _ _ (by simp)]
  exact new_cell rfl
theorem two_second (w : World) (u a : Value) (t : TypeId) (o : Obj) : ((w.alloc o).alloc (.cells #[u, a] t)).cell? ⟨w.heap.size + 1, 1, none⟩ = some a := by
  have : ((w.alloc o).alloc (.cells #[u, a] t)).cell? ⟨(w.alloc o).heap.size, 1, none⟩ = some a := new_cell rfl
  rwa [World.size_alloc] at this
theorem eqEnv_any (w : World) (u v : Value) (x y : EV) (hu : Strs w u x.r) (hv : Strs w v y.r) :
    Calls Tryz.prog 158 #[eV u x.t, eV v y.t] w (BRes (decide (x = y)) w) := by
  obtain ⟨xr, xt⟩ := x
  obtain ⟨yr, yt⟩ := y
  dsimp only at hu hv ⊢
  have HB : Hid (∀ o1 o2, Below w.heap.size w ((w.alloc o1).alloc o2)) := Lib.hid (fun o1 o2 => ((Below.refl _ _).alloc (Nat.le_refl _) _).alloc (by simp) _)
  have HC : Hid (∀ o1 o2, Calls Tryz.prog 203 #[u, v] ((w.alloc o1).alloc o2) (BRes (decide (xr = yr)) ((w.alloc o1).alloc o2))) := Lib.hid (fun o1 o2 => (eqStringS_any _ u v xr yr (hu.below (HB.out o1 o2)) (hv.below (HB.out o1 o2))).mono fun e w' h => reads_below h)
  obtain ⟨r, hr⟩ : ∃ r, r = decide ((⟨xr, xt⟩ : EV) = ⟨yr, yt⟩) := ⟨_, rfl⟩
  have HR : Hid (r = (decide (xr = yr) && decide (xt = yt))) := Lib.hid (by rw [hr, Bool.eq_iff_iff]; simp)
  rw [← hr]
  obtain ⟨q, hq⟩ : ∃ q, q = decide (xr = yr) := ⟨_, rfl⟩
  rw [← hq] at HC HR
  clear hr hq hu hv
  unfold BRes at HC
  cases q with
  | false =>
    go_enter Tryz.func158, Tryz.ntmps158
    go_wp2_with fail
    refine (HC.out _ _).mono ?_
    rintro e w' ⟨rfl, hb⟩
    have B1 := Lib.hid ((HB.out _ _).trans (hb.mono (HB.out _ _).size))
    clear hb
    go_wp2_with fail
    go_ret
    exact ⟨by rw [HR.out]; rfl, B1.out⟩
  | true =>
    by_cases ht : xt = yt
    · have HT : Hid (r = true) := Lib.hid (by rw [HR.out, decide_eq_true ht]; rfl)
      have ht' : (xt != yt) = false := by simpa using ht
      clear ht
      go_enter Tryz.func158, Tryz.ntmps158
      go_wp2_with fail
      refine (HC.out _ _).mono ?_
      rintro e w' ⟨rfl, hb⟩
      have B1 := Lib.hid ((HB.out _ _).trans (hb.mono (HB.out _ _).size))
      have q1 := (hb.cell (p := ⟨w.heap.size, 1, none⟩) (by simp; omega)).trans (two_first w u (.int .i64 xt) _ _)
      have q2 := (hb.cell (p := ⟨w.heap.size + 1, 1, none⟩) (by simp)).trans (two_second w v (.int .i64 yt) _ _)
      clear hb
      go_wp2_with fail
      go_ret
      exact ⟨by rw [HT.out]; rfl, B1.out⟩
    · have HT : Hid (r = false) := Lib.hid (by rw [HR.out, decide_eq_false ht]; rfl)
      have ht' : (xt != yt) = true := by simpa using ht
      clear ht
      go_enter Tryz.func158, Tryz.ntmps158
      go_wp2_with fail
      refine (HC.out _ _).mono ?_
      rintro e w' ⟨rfl, hb⟩
      have B1 := Lib.hid ((HB.out _ _).trans (hb.mono (HB.out _ _).size))
      have q1 := (hb.cell (p := ⟨w.heap.size, 1, none⟩) (by simp; omega)).trans (two_first w u (.int .i64 xt) _ _)
      have q2 := (hb.cell (p := ⟨w.heap.size + 1, 1, none⟩) (by simp)).trans (two_second w v (.int .i64 yt) _ _)
      clear hb
      go_wp2_with fail
      go_ret
      exact ⟨by rw [HT.out]; rfl, B1.out⟩
theorem eqEnvS_any (w : World) (va vb : Value) (xs ys : List EV) (ha : Es w va xs) (hb : Es w vb ys) :
    Calls Tryz.prog 102 #[va, vb] w (BRes (decide (xs = ys)) w) := by
  obtain ⟨a, ca, rfl, hla, hma, hxa⟩ := ha
  obtain ⟨b, cb, rfl, hlb, hmb, hxb⟩ := hb
  unfold maxLen at hma hmb
  obtain ⟨r, hr⟩ : ∃ r, r = decide (xs = ys) := ⟨_, rfl⟩
  have HR := Lib.hid hr
  rw [← hr]
  clear hr
  by_cases hl : xs.length = ys.length
  · obtain ⟨n, hn⟩ : ∃ n, n = xs.length := ⟨_, rfl⟩
    have hn2 : ys.length = n := by omega
    rw [← hn] at hla hxa ⊢
    rw [hn2] at hlb hxb ⊢
    have HN := Lib.hid hn
    have HN2 := Lib.hid hn2
    have HA := Lib.hid hxa
    have HB := Lib.hid hxb
    clear hn hn2 hl hxa hxb
    go_enter Tryz.func102, Tryz.ntmps102
    go_wp2
    go_loopw [5] (fun i wr => ∃ k : Nat, k ≤ n ∧ i = .int .i64 k ∧ Hid (xs.take k = ys.take k) ∧ Hid (Below w.heap.size w wr)) (fun i _ => n - (intOf i).toNat)
    case atStart => exact ⟨0, Nat.zero_le _, rfl, Lib.hid rfl, Lib.hid (Below.refl _ _)⟩
    case round =>
      obtain ⟨k, hk, rfl, HT, HBW⟩ := hrel
      by_cases hlt : k < n
      · obtain ⟨ba, oa, ua, rfl, hca0, hda0, hia⟩ := HA.out k hlt
        obtain ⟨bb, ob, ub, rfl, hcb0, hdb0, hib⟩ := HB.out k hlt
        have hba := cell_lt hca0
        have hbb := cell_lt hcb0
        have hba1 := cell_lt hda0
        have hbb1 := cell_lt hdb0
        have HC := Lib.hid (eqEnv_any wr.drew ua ub (xs.getD k ez) (ys.getD k ez) (hia.below HBW.out.drew) (hib.below HBW.out.drew))
        generalize hx : xs.getD k ez = x at HC hda0
        generalize hy : ys.getD k ez = y at HC hdb0
        have HX := Lib.hid hx
        have HY := Lib.hid hy
        have FA0 := Lib.hid hca0
        have FA1 := Lib.hid hda0
        have FB0 := Lib.hid hcb0
        have FB1 := Lib.hid hdb0
        have FS : Hid (∀ w', Below w.heap.size w w' → w'.cell? ⟨ba, oa + k * 2, none⟩ = some ua ∧ w'.cell? ⟨ba, oa + k * 2 + 1, none⟩ = some (.int .i64 x.t) ∧ w'.cell? ⟨bb, ob + k * 2, none⟩ = some ub ∧ w'.cell? ⟨bb, ob + k * 2 + 1, none⟩ = some (.int .i64 y.t)) := Lib.hid (fun w' hw => ⟨(hw.cell hba).trans FA0.out, (hw.cell hba1).trans FA1.out, (hw.cell hbb).trans FB0.out, (hw.cell hbb1).trans FB1.out⟩)
        clear hx hy hia hib hca0 hda0 hcb0 hdb0 hba hbb hba1 hbb1
        have hlt' : (k : Int) < (n : Int) := by omega
        obtain ⟨q, hq⟩ : ∃ q, q = decide (x = y) := ⟨_, rfl⟩
        rw [← hq] at HC
        have HQ := Lib.hid hq
        clear hq
        unfold BRes at HC
        cases q with
        | true =>
          have HE : Hid (x = y) := Lib.hid (of_decide_eq_true HQ.out.symm)
          go_wp2_with fail
          refine wp_region_held_drew (S := fun w' => w'.cell? ⟨ba, oa + k * 2, none⟩ = some ua ∧ w'.cell? ⟨ba, oa + k * 2 + 1, none⟩ = some (.int .i64 x.t) ∧ w'.cell? ⟨bb, ob + k * 2, none⟩ = some ub ∧ w'.cell? ⟨bb, ob + k * 2 + 1, none⟩ = some (.int .i64 y.t)) (by kernel_rfl) (FS.out _ HBW.out.drew) (fun hHeld => ?_)
          refine wpAnyH_take (i := 0) (oi := { dst := some 17, op := .move (.tmp 0), type := _, pos := _, after := _, guard := none }) (v := .slice (some ⟨ba, oa, none⟩) n ca) rfl (by kernel_rfl) (by kernel_rfl) (by kernel_rfl) (fun _ _ _ h => h) (Or.inl ⟨by rfl, fun wh hSw => ?_⟩) hHeld ?_
          · (obtain ⟨s0, s1, t0, t1⟩ := hSw; go_simp)
          try simp only [Act.put, List.setIfInBounds_toArray, List.set_cons_zero, List.set_cons_succ]
          refine wpAnyH_take (i := 1) (oi := { dst := some 18, op := .move (.tmp 5), type := _, pos := _, after := _, guard := none }) (v := .int .i64 (k : Int)) rfl (by kernel_rfl) (by kernel_rfl) (by kernel_rfl) (fun _ _ _ h => h) (Or.inl ⟨by rfl, fun wh hSw => ?_⟩) hHeld ?_
          · (obtain ⟨s0, s1, t0, t1⟩ := hSw; go_simp)
          try simp only [Act.put, List.setIfInBounds_toArray, List.set_cons_zero, List.set_cons_succ]
          refine wpAnyH_take (i := 2) (oi := { dst := some 19, op := .indexAddr 27 (.tmp 17) (.tmp 18), type := _, pos := _, after := _, guard := none }) (v := .pointer (some ⟨ba, oa + k * 2, none⟩)) rfl (by kernel_rfl) (by kernel_rfl) (by kernel_rfl) (fun _ _ _ h => h) (Or.inl ⟨by rfl, fun wh hSw => ?_⟩) hHeld ?_
          · (obtain ⟨s0, s1, t0, t1⟩ := hSw; go_simp)
          try simp only [Act.put, List.setIfInBounds_toArray, List.set_cons_zero, List.set_cons_succ]
          refine wpAnyH_take (i := 3) (oi := { dst := some 20, op := .load 37 (.tmp 19), type := _, pos := _, after := _, guard := none }) (v := eV ua x.t) rfl (by kernel_rfl) (by kernel_rfl) (by kernel_rfl) (fun _ _ _ h => h) (Or.inl ⟨by rfl, fun wh hSw => ?_⟩) hHeld ?_
          · (obtain ⟨s0, s1, t0, t1⟩ := hSw; go_simp)
          try simp only [Act.put, List.setIfInBounds_toArray, List.set_cons_zero, List.set_cons_succ]
          refine wpAnyH_take (i := 4) (oi := { dst := some 21, op := .move (.tmp 1), type := _, pos := _, after := _, guard := none }) (v := .slice (some ⟨bb, ob, none⟩) n cb) rfl (by kernel_rfl) (by kernel_rfl) (by kernel_rfl) (fun _ _ _ h => h) (Or.inl ⟨by rfl, fun wh hSw => ?_⟩) hHeld ?_
          · (obtain ⟨s0, s1, t0, t1⟩ := hSw; go_simp)
          try simp only [Act.put, List.setIfInBounds_toArray, List.set_cons_zero, List.set_cons_succ]
          refine wpAnyH_take (i := 5) (oi := { dst := some 22, op := .move (.tmp 5), type := _, pos := _, after := _, guard := none }) (v := .int .i64 (k : Int)) rfl (by kernel_rfl) (by kernel_rfl) (by kernel_rfl) (fun _ _ _ h => h) (Or.inl ⟨by rfl, fun wh hSw => ?_⟩) hHeld ?_
          · (obtain ⟨s0, s1, t0, t1⟩ := hSw; go_simp)
          try simp only [Act.put, List.setIfInBounds_toArray, List.set_cons_zero, List.set_cons_succ]
          refine wpAnyH_take (i := 6) (oi := { dst := some 23, op := .indexAddr 27 (.tmp 21) (.tmp 22), type := _, pos := _, after := _, guard := none }) (v := .pointer (some ⟨bb, ob + k * 2, none⟩)) rfl (by kernel_rfl) (by kernel_rfl) (by kernel_rfl) (fun _ _ _ h => h) (Or.inl ⟨by rfl, fun wh hSw => ?_⟩) hHeld ?_
          · (obtain ⟨s0, s1, t0, t1⟩ := hSw; go_simp)
          try simp only [Act.put, List.setIfInBounds_toArray, List.set_cons_zero, List.set_cons_succ]
          refine wpAnyH_take (i := 7) (oi := { dst := some 24, op := .load 37 (.tmp 23), type := _, pos := _, after := _, guard := none }) (v := eV ub y.t) rfl (by kernel_rfl) (by kernel_rfl) (by kernel_rfl) (fun _ _ _ h => h) (Or.inl ⟨by rfl, fun wh hSw => ?_⟩) hHeld ?_
          · (obtain ⟨s0, s1, t0, t1⟩ := hSw; go_simp)
          try simp only [Act.put, List.setIfInBounds_toArray, List.set_cons_zero, List.set_cons_succ]
          refine wpAnyH_ready (rs := [8]) (by kernel_rfl) (by simp) ?_
          refine AllReadyH.cons (o := { dst := some 25, op := .call { callee := .value (.func 158), args := #[.tmp 20, .tmp 24], argTypes := #[37, 37] }, type := _, pos := _, after := _, guard := none }) rfl (fun K hK => ?_) AllReadyH.nil
          go_simp
          refine HC.out.mono ?_
          rintro e w1 ⟨rfl, hb1⟩
          have HB1 := Lib.hid ((HBW.out.drew).trans (hb1.mono HBW.out.size))
          clear hb1
          try go_simp
          refine hK.out _ _ ?_ (fun hHeld => ?_)
          · exact FS.out _ HB1.out
          clear hK K
          try simp only [Act.put, List.setIfInBounds_toArray, List.set_cons_zero, List.set_cons_succ]
          refine wpAnyH_take (i := 9) (oi := { dst := some 26, op := .unOp .not 4 (.tmp 25), type := _, pos := _, after := _, guard := none }) (v := .bool false) rfl (by kernel_rfl) (by kernel_rfl) (by kernel_rfl) (fun _ _ _ h => h) (Or.inl ⟨by rfl, fun wh hSw => ?_⟩) hHeld ?_
          · (obtain ⟨s0, s1, t0, t1⟩ := hSw; go_simp)
          try simp only [Act.put, List.setIfInBounds_toArray, List.set_cons_zero, List.set_cons_succ]
          refine wpAnyH_done (by kernel_rfl) ?_ _
          go_wp2
          go_roundw
          case rel => exact ⟨k + 1, by omega, by go_num, Lib.hid (take_eq_succ (d := ez) (HN.out.symm.trans HN2.out.symm) (by have := HN.out; omega) HT.out (HX.out.trans (HE.out.trans HY.out.symm))), HB1⟩
          case measure => simp [intOf]; omega
        | false =>
          have HE : Hid (¬ x = y) := Lib.hid (of_decide_eq_false HQ.out.symm)
          go_wp2_with fail
          refine wp_region_held_drew (S := fun w' => w'.cell? ⟨ba, oa + k * 2, none⟩ = some ua ∧ w'.cell? ⟨ba, oa + k * 2 + 1, none⟩ = some (.int .i64 x.t) ∧ w'.cell? ⟨bb, ob + k * 2, none⟩ = some ub ∧ w'.cell? ⟨bb, ob + k * 2 + 1, none⟩ = some (.int .i64 y.t)) (by kernel_rfl) (FS.out _ HBW.out.drew) (fun hHeld => ?_)
          refine wpAnyH_take (i := 0) (oi := { dst := some 17, op := .move (.tmp 0), type := _, pos := _, after := _, guard := none }) (v := .slice (some ⟨ba, oa, none⟩) n ca) rfl (by kernel_rfl) (by kernel_rfl) (by kernel_rfl) (fun _ _ _ h => h) (Or.inl ⟨by rfl, fun wh hSw => ?_⟩) hHeld ?_
          · (obtain ⟨s0, s1, t0, t1⟩ := hSw; go_simp)
          try simp only [Act.put, List.setIfInBounds_toArray, List.set_cons_zero, List.set_cons_succ]
          refine wpAnyH_take (i := 1) (oi := { dst := some 18, op := .move (.tmp 5), type := _, pos := _, after := _, guard := none }) (v := .int .i64 (k : Int)) rfl (by kernel_rfl) (by kernel_rfl) (by kernel_rfl) (fun _ _ _ h => h) (Or.inl ⟨by rfl, fun wh hSw => ?_⟩) hHeld ?_
          · (obtain ⟨s0, s1, t0, t1⟩ := hSw; go_simp)
          try simp only [Act.put, List.setIfInBounds_toArray, List.set_cons_zero, List.set_cons_succ]
          refine wpAnyH_take (i := 2) (oi := { dst := some 19, op := .indexAddr 27 (.tmp 17) (.tmp 18), type := _, pos := _, after := _, guard := none }) (v := .pointer (some ⟨ba, oa + k * 2, none⟩)) rfl (by kernel_rfl) (by kernel_rfl) (by kernel_rfl) (fun _ _ _ h => h) (Or.inl ⟨by rfl, fun wh hSw => ?_⟩) hHeld ?_
          · (obtain ⟨s0, s1, t0, t1⟩ := hSw; go_simp)
          try simp only [Act.put, List.setIfInBounds_toArray, List.set_cons_zero, List.set_cons_succ]
          refine wpAnyH_take (i := 3) (oi := { dst := some 20, op := .load 37 (.tmp 19), type := _, pos := _, after := _, guard := none }) (v := eV ua x.t) rfl (by kernel_rfl) (by kernel_rfl) (by kernel_rfl) (fun _ _ _ h => h) (Or.inl ⟨by rfl, fun wh hSw => ?_⟩) hHeld ?_
          · (obtain ⟨s0, s1, t0, t1⟩ := hSw; go_simp)
          try simp only [Act.put, List.setIfInBounds_toArray, List.set_cons_zero, List.set_cons_succ]
          refine wpAnyH_take (i := 4) (oi := { dst := some 21, op := .move (.tmp 1), type := _, pos := _, after := _, guard := none }) (v := .slice (some ⟨bb, ob, none⟩) n cb) rfl (by kernel_rfl) (by kernel_rfl) (by kernel_rfl) (fun _ _ _ h => h) (Or.inl ⟨by rfl, fun wh hSw => ?_⟩) hHeld ?_
          · (obtain ⟨s0, s1, t0, t1⟩ := hSw; go_simp)
          try simp only [Act.put, List.setIfInBounds_toArray, List.set_cons_zero, List.set_cons_succ]
          refine wpAnyH_take (i := 5) (oi := { dst := some 22, op := .move (.tmp 5), type := _, pos := _, after := _, guard := none }) (v := .int .i64 (k : Int)) rfl (by kernel_rfl) (by kernel_rfl) (by kernel_rfl) (fun _ _ _ h => h) (Or.inl ⟨by rfl, fun wh hSw => ?_⟩) hHeld ?_
          · (obtain ⟨s0, s1, t0, t1⟩ := hSw; go_simp)
          try simp only [Act.put, List.setIfInBounds_toArray, List.set_cons_zero, List.set_cons_succ]
          refine wpAnyH_take (i := 6) (oi := { dst := some 23, op := .indexAddr 27 (.tmp 21) (.tmp 22), type := _, pos := _, after := _, guard := none }) (v := .pointer (some ⟨bb, ob + k * 2, none⟩)) rfl (by kernel_rfl) (by kernel_rfl) (by kernel_rfl) (fun _ _ _ h => h) (Or.inl ⟨by rfl, fun wh hSw => ?_⟩) hHeld ?_
          · (obtain ⟨s0, s1, t0, t1⟩ := hSw; go_simp)
          try simp only [Act.put, List.setIfInBounds_toArray, List.set_cons_zero, List.set_cons_succ]
          refine wpAnyH_take (i := 7) (oi := { dst := some 24, op := .load 37 (.tmp 23), type := _, pos := _, after := _, guard := none }) (v := eV ub y.t) rfl (by kernel_rfl) (by kernel_rfl) (by kernel_rfl) (fun _ _ _ h => h) (Or.inl ⟨by rfl, fun wh hSw => ?_⟩) hHeld ?_
          · (obtain ⟨s0, s1, t0, t1⟩ := hSw; go_simp)
          try simp only [Act.put, List.setIfInBounds_toArray, List.set_cons_zero, List.set_cons_succ]
          refine wpAnyH_ready (rs := [8]) (by kernel_rfl) (by simp) ?_
          refine AllReadyH.cons (o := { dst := some 25, op := .call { callee := .value (.func 158), args := #[.tmp 20, .tmp 24], argTypes := #[37, 37] }, type := _, pos := _, after := _, guard := none }) rfl (fun K hK => ?_) AllReadyH.nil
          go_simp
          refine HC.out.mono ?_
          rintro e w1 ⟨rfl, hb1⟩
          have HB1 := Lib.hid ((HBW.out.drew).trans (hb1.mono HBW.out.size))
          clear hb1
          try go_simp
          refine hK.out _ _ ?_ (fun hHeld => ?_)
          · exact FS.out _ HB1.out
          clear hK K
          try simp only [Act.put, List.setIfInBounds_toArray, List.set_cons_zero, List.set_cons_succ]
          refine wpAnyH_take (i := 9) (oi := { dst := some 26, op := .unOp .not 4 (.tmp 25), type := _, pos := _, after := _, guard := none }) (v := .bool true) rfl (by kernel_rfl) (by kernel_rfl) (by kernel_rfl) (fun _ _ _ h => h) (Or.inl ⟨by rfl, fun wh hSw => ?_⟩) hHeld ?_
          · (obtain ⟨s0, s1, t0, t1⟩ := hSw; go_simp)
          try simp only [Act.put, List.setIfInBounds_toArray, List.set_cons_zero, List.set_cons_succ]
          refine wpAnyH_done (by kernel_rfl) ?_ _
          go_wp2
          go_ret
          exact ⟨by rw [HR.out, decide_eq_false (ne_of_getD (d := ez) (k := k) (fun h => HE.out (HX.out.symm.trans (h.trans HY.out))))]; rfl, HB1.out⟩
      · go_wp2
        go_ret
        exact ⟨by rw [HR.out, decide_eq_true (eq_of_take (HN.out.symm.trans HN2.out.symm) (by have := HN.out; omega) HT.out)]; rfl, HBW.out⟩
  · have hne : ((xs.length : Int) != (ys.length : Int)) = true := by simp; omega
    have HL := Lib.hid hl
    clear hl
    go_enter Tryz.func102, Tryz.ntmps102
    go_wp2
    go_ret
    exact ⟨by rw [HR.out, decide_eq_false (fun h => HL.out (by rw [h]))]; rfl, Below.refl _ _⟩
end Go.Proofs.YtcmmlgdfhkcmoaaGreat
namespace Go.Proofs.YtcmmlgdfhkcmoaaGreat
open Go.ChangeShapes Go.WideShapes Go.ChangeAt Go.RowKit
set_option linter.unusedVariables false
set_option maxRecDepth 100000
theorem evInfo : (Tryz.prog.info? 37).map (fun i => (i.zero, i.size, i.bytes)) = some (some (.agg #[.slice none 0 0, .int .i64 0]), 2, 32) := by kernel_rfl
def ToE (x : EV) (w : World) (e : Ending) (w' : World) : Prop :=
  e = .returned (eV (.slice (some ⟨w.heap.size + 3, 0, none⟩) x.r.length x.r.length) x.t) ∧ StrsW w' (w.heap.size + 3) (w.heap.size + 4) (.slice (some ⟨w.heap.size + 3, 0, none⟩) x.r.length x.r.length) x.r ∧ Below w.heap.size w w' ∧ w'.heap.size = w.heap.size + 4
theorem toEnv_any (w : World) (u : Value) (x : EV) (hu : Strs w u x.r) (hn : x.r.length ≤ 1048576) : Calls Tryz.prog 155 #[eV u x.t] w (ToE x w) := by
  obtain ⟨xr, xt⟩ := x
  dsimp only at hu hn
  have HB : Hid (∀ o1 o2 o3, Below w.heap.size w (((w.alloc o1).alloc o2).alloc o3)) := Lib.hid (fun o1 o2 o3 => (((Below.refl _ _).alloc (Nat.le_refl _) _).alloc (by simp) _).alloc (by simp; omega) _)
  have HC : Hid (∀ o1 o2 o3, Calls Tryz.prog 202 #[u] (((w.alloc o1).alloc o2).alloc o3) (ToStrs xr (((w.alloc o1).alloc o2).alloc o3))) := Lib.hid (fun o1 o2 o3 => toStringS_any _ u xr (hu.below (HB.out o1 o2 o3)) hn)
  obtain ⟨X, hX⟩ : ∃ X, X = w.heap.size := ⟨_, rfl⟩
  clear hu
  go_enter Tryz.func155, Tryz.ntmps155
  go_wp2_with fail
  refine (HC.out _ _ _).mono ?_
  rintro e w' ⟨v, rfl, hs, hb, hz, hv⟩
  have hsz : (((w.alloc (.cells #[u, .int .i64 xt] 199)).alloc (.cells #[.slice none 0 0, .int .i64 0] 37)).alloc (.cells #[.slice none 0 0, .int .i64 0] 37)).heap.size = w.heap.size + 3 := by simp
  rw [hsz] at hs hb hz hv
  have q1 : w'.cell? ⟨w.heap.size, 1, none⟩ = some (.int .i64 xt) := (hb.cell (p := ⟨w.heap.size, 1, none⟩) (by simp)).trans (by
    rw [World.cell?_alloc_past _ _ _ (by simp; omega), World.cell?_alloc_past _ _ _ (by simp)]
    exact new_cell rfl)
  have hx : ∀ (W : World) (b : Nat) (c : Array Value) (t : TypeId), b = W.heap.size → b < w.heap.size + 3 → ((((w.alloc (.cells #[u, .int .i64 xt] 199)).alloc (.cells #[.slice none 0 0, .int .i64 0] 37)).alloc (.cells #[.slice none 0 0, .int .i64 0] 37)).heap[b]? = (W.alloc (.cells c t)).heap[b]?) → ∀ j v, c[j]? = some v → w'.cell? ⟨b, j, none⟩ = some v ∧ w'.frozen? ⟨b, j, none⟩ = false := fun W b c t e hb3 hh j v hj => by
    have hbl := (hb.block b hb3).trans hh
    subst e
    exact ⟨(World.cell?_of_block hbl).trans (new_cell hj), (World.frozen?_of_block hbl).trans (World.frozen?_alloc_at _ _ _ _ rfl)⟩
  have k2 := hx ((w.alloc (.cells #[u, .int .i64 xt] 199)).alloc (.cells #[.slice none 0 0, .int .i64 0] 37)) (w.heap.size + 1 + 1) #[.slice none 0 0, .int .i64 0] 37 (by simp) (by omega) rfl
  have k1 := hx (w.alloc (.cells #[u, .int .i64 xt] 199)) (w.heap.size + 1) #[.slice none 0 0, .int .i64 0] 37 (by simp) (by omega) (Below.heap_alloc _ _ _ (by simp))
  have hw := HB.out (.cells #[u, .int .i64 xt] 199) (.cells #[.slice none 0 0, .int .i64 0] 37) (.cells #[.slice none 0 0, .int .i64 0] 37)
  have HB2 : Hid (Below w.heap.size w w') := Lib.hid (hw.trans (hb.mono (by omega)))
  have HS : Hid (StrsW w' (w.heap.size + 3) (w.heap.size + 4) v xr) := Lib.hid hs
  have HZ : Hid (w'.heap.size = w.heap.size + 4) := Lib.hid hz
  obtain ⟨c20, f20⟩ := k2 0 _ rfl
  obtain ⟨c21, f21⟩ := k2 1 _ rfl
  obtain ⟨c10, f10⟩ := k1 0 _ rfl
  obtain ⟨c11, f11⟩ := k1 1 _ rfl
  clear hx k1 k2 hw hb hs hz hsz HB HC
  subst hv
  go_wp2_with fail
  have hr : World.rangeAt ((((w'.setCell ⟨w.heap.size + 1 + 1, 0, none⟩ (.slice (some ⟨w.heap.size + 3, 0, none⟩) xr.length xr.length)).setCell ⟨w.heap.size + 1 + 1, 1, none⟩ (.int .i64 xt)).setCell ⟨w.heap.size + 1, 0, none⟩ (.slice (some ⟨w.heap.size + 3, 0, none⟩) xr.length xr.length)).setCell ⟨w.heap.size + 1, 1, none⟩ (.int .i64 xt)) (w.heap.size + 1) 0 [.slice (some ⟨w.heap.size + 3, 0, none⟩) xr.length xr.length, .int .i64 xt] := fun j v hj => by
    have hj2 : j < 2 := (List.getElem?_eq_some_iff.1 hj).1
    obtain rfl | rfl : j = 0 ∨ j = 1 := by omega
    · cases hj; go_simp
    · cases hj; go_simp
  refine bodyPost_ret (results_one_mid rfl _ _ (w.heap.size + 1) 0 _ _ rfl hr Tryz.underlying37 rfl (by kernel_rfl)) rfl ?_
  have hB : ∀ (b : Nat), w.heap.size + 3 ≤ b → ∀ (a1 a2 a3 a4 : Value), ((((w'.setCell ⟨w.heap.size + 1 + 1, 0, none⟩ a1).setCell ⟨w.heap.size + 1 + 1, 1, none⟩ a2).setCell ⟨w.heap.size + 1, 0, none⟩ a3).setCell ⟨w.heap.size + 1, 1, none⟩ a4).heap[b]? = w'.heap[b]? := fun b hb a1 a2 a3 a4 => by
    rw [Below.heap_setCell _ _ _ _ (by show b ≠ w.heap.size + 1; omega), Below.heap_setCell _ _ _ _ (by show b ≠ w.heap.size + 1; omega), Below.heap_setCell _ _ _ _ (by show b ≠ w.heap.size + 1 + 1; omega), Below.heap_setCell _ _ _ _ (by show b ≠ w.heap.size + 1 + 1; omega)]
  refine ⟨rfl, HS.out.of_blocks (fun b h0 h1 => hB b h0 _ _ _ _), ?_, ?_⟩
  · exact (((HB2.out.setCell (p := ⟨w.heap.size + 1 + 1, 0, none⟩) (by show w.heap.size ≤ w.heap.size + 1 + 1; omega) _).setCell (p := ⟨w.heap.size + 1 + 1, 1, none⟩) (by show w.heap.size ≤ w.heap.size + 1 + 1; omega) _).setCell (p := ⟨w.heap.size + 1, 0, none⟩) (by show w.heap.size ≤ w.heap.size + 1; omega) _).setCell (p := ⟨w.heap.size + 1, 1, none⟩) (by show w.heap.size ≤ w.heap.size + 1; omega) _
  · have := HZ.out
    simpa [World.setCell] using this
end Go.Proofs.YtcmmlgdfhkcmoaaGreat
namespace Go.Proofs.YtcmmlgdfhkcmoaaGreat
open Go.ChangeShapes Go.WideShapes Go.ChangeAt Go.RowKit
set_option linter.unusedVariables false
set_option maxRecDepth 100000
structure PairW (w : World) (b o : Nat) (u : Value) (t : Int) : Prop where
  c0 : w.cell? ⟨b, o, none⟩ = some u
  c1 : w.cell? ⟨b, o + 1, none⟩ = some (.int .i64 t)
  fr : ∀ j, j < 2 → w.frozen? ⟨b, o + j, none⟩ = false
theorem PairW.block {w w' : World} {b o : Nat} {u : Value} {t : Int} (h : PairW w b o u t) (e : w'.heap[b]? = w.heap[b]?) : PairW w' b o u t :=
  ⟨(World.cell?_of_block e).trans h.c0, (World.cell?_of_block e).trans h.c1, fun j hj => (World.frozen?_of_block e).trans (h.fr j hj)⟩
theorem PairW.there {w : World} {b o : Nat} {u : Value} {t : Int} (h : PairW w b o u t) : w.there b o 2 := fun j hj => by
  refine ⟨?_, h.fr j hj⟩
  obtain rfl | rfl : j = 0 ∨ j = 1 := by omega
  · rw [Nat.add_zero, h.c0]; rfl
  · rw [h.c1]; rfl
theorem PairW.stored {w : World} {b o : Nat} {u : Value} {t : Int} (h : w.there b o 2) : PairW (w.setCells b o [u, .int .i64 t]) b o u t := by
  have hr := World.rangeAt_setCells_same w b o [u, .int .i64 t] h
  exact ⟨hr 0 _ rfl, hr 1 _ rfl, fun j hj => by rw [World.frozen?_setCells]; exact (h j hj).2⟩
theorem PairW.apart {w : World} {b b' o o' : Nat} {u : Value} {t : Int} {vs : List Value} (h : PairW w b' o' u t) (ha : b' ≠ b ∨ o' + 2 ≤ o ∨ o + vs.length ≤ o') : PairW (w.setCells b o vs) b' o' u t := by
  have hr : w.rangeAt b' o' [u, .int .i64 t] := fun j v hv => by
    have hj : j < 2 := (List.getElem?_eq_some_iff.1 hv).1
    obtain rfl | rfl : j = 0 ∨ j = 1 := by omega
    · cases hv; exact h.c0
    · cases hv; exact h.c1
  have h2 := World.rangeAt_setCells_apart hr b o vs ha
  exact ⟨h2 0 _ rfl, h2 1 _ rfl, fun j hj => by rw [World.frozen?_setCells]; exact h.fr j hj⟩
def topE (es : List EV) (Y k j : Nat) : Value := if j < k then .slice (some ⟨Y + 3 + 4 * j, 0, none⟩) (es.getD j ez).r.length (es.getD j ez).r.length else .slice none 0 0
def topT (es : List EV) (k j : Nat) : Int := if j < k then (es.getD j ez).t else 0
theorem topE_self {es : List EV} {Y k : Nat} : topE es Y (k + 1) k = .slice (some ⟨Y + 3 + 4 * k, 0, none⟩) (es.getD k ez).r.length (es.getD k ez).r.length := by unfold topE; rw [if_pos (by omega)]
theorem topT_self {es : List EV} {k : Nat} : topT es (k + 1) k = (es.getD k ez).t := by unfold topT; rw [if_pos (by omega)]
theorem topE_other {es : List EV} {Y k j : Nat} (h : j ≠ k) : topE es Y (k + 1) j = topE es Y k j := by
  unfold topE
  by_cases h2 : j < k
  · rw [if_pos h2, if_pos (by omega)]
  · rw [if_neg h2, if_neg (by omega)]
theorem topT_other {es : List EV} {k j : Nat} (h : j ≠ k) : topT es (k + 1) j = topT es k j := by
  unfold topT
  by_cases h2 : j < k
  · rw [if_pos h2, if_pos (by omega)]
  · rw [if_neg h2, if_neg (by omega)]
def ToEs (es : List EV) (w : World) (e : Ending) (w' : World) : Prop :=
  ∃ v, e = .returned v ∧ EsW w' w.heap.size w'.heap.size v es ∧ Below w.heap.size w w' ∧ v = .slice (some ⟨w.heap.size, 0, none⟩) es.length es.length ∧ w.heap.size < w'.heap.size
theorem esW_mk {w : World} {X Y : Nat} {es : List EV} (hn : es.length ≤ 1048576) (hXY : X < Y) (hX : w.heap.size = Y + 4 * es.length)
    (h1 : ∀ j, j < es.length → PairW w X (0 + j * 2) (topE es Y es.length j) (topT es es.length j))
    (h2 : ∀ j, j < es.length → StrsW w (Y + 3 + 4 * j) (Y + 4 + 4 * j) (.slice (some ⟨Y + 3 + 4 * j, 0, none⟩) (es.getD j ez).r.length (es.getD j ez).r.length) (es.getD j ez).r) :
    EsW w X w.heap.size (.slice (some ⟨X, 0, none⟩) es.length es.length) es := by
  have hE : ∀ j, j < es.length → topE es Y es.length j = .slice (some ⟨Y + 3 + 4 * j, 0, none⟩) (es.getD j ez).r.length (es.getD j ez).r.length := fun j hj => by unfold topE; rw [if_pos hj]
  have hT : ∀ j, j < es.length → topT es es.length j = (es.getD j ez).t := fun j hj => by unfold topT; rw [if_pos hj]
  refine ⟨some ⟨X, 0, none⟩, es.length, fun j => some ⟨Y + 3 + 4 * j, 0, none⟩, fun j => (es.getD j ez).r.length, rfl, Nat.le_refl _, by unfold maxLen; omega, ⟨fun j hj => ?_, fun j hj i hi => ?_, fun j hj j' hj' hne _ _ g p g' p' e e' => ?_⟩, fun j hj => ?_⟩
  · have h := h1 j hj
    rw [hE j hj] at h
    obtain ⟨a, c, ea, _, hc, _⟩ := h2 j hj
    cases ea
    exact ⟨X, 0, rfl, Nat.le_refl _, by omega, h.c0, Nat.le_refl _, hc, h.fr 0 (by omega)⟩
  · obtain ⟨a, c, ea, _, _, hr⟩ := h2 j hj
    cases ea
    obtain ⟨g, p, e, hg0, hg1, hcell, hfr⟩ := hr i hi
    cases e
    exact ⟨_, _, rfl, by omega, by omega, hcell, hfr, fun b o eb => by cases eb; omega⟩
  · cases e; cases e'; omega
  · have h := h1 j hj
    rw [hT j hj] at h
    exact ⟨X, 0, rfl, Nat.le_refl _, by omega, h.c1, h.fr 1 (by omega)⟩
set_option maxHeartbeats 1000000 in
theorem toEnvS_any (w : World) (v : Value) (es : List EV) (h : Es w v es) (hn : es.length ≤ 1048576) (hr : ∀ j, j < es.length → (es.getD j ez).r.length ≤ 1048576) :
    Calls Tryz.prog 98 #[v] w (ToEs es w) := by
  obtain ⟨i0, hi, hz0, hz1, hz2⟩ := info_parts evInfo
  have HI := Lib.hid hi
  have HZ0 := Lib.hid hz0
  have HZ1 := Lib.hid hz1
  have HZ2 := Lib.hid hz2
  clear hi hz0 hz1 hz2
  obtain ⟨a, ca, rfl, hla, hma, hxa⟩ := h
  unfold maxLen at hma
  obtain ⟨n, hN⟩ : ∃ n, n = es.length := ⟨_, rfl⟩
  have HXA := Lib.hid hxa
  have HR := Lib.hid hr
  rw [← hN] at hla hn ⊢
  have HN := Lib.hid hN
  clear hN hxa hr
  go_enter Tryz.func98, Tryz.ntmps98
  go_wp2_with (at_make; refine wpList_make_full _ rfl (.tmp 6) (.tmp 6) 27 rfl w.heap.size 37 i0 (.agg #[.slice none 0 0, .int .i64 0]) 2 Tryz.underlying27 HI.out HZ0.out HZ1.out .i64 .i64 _ _ n rfl rfl rfl rfl (by rw [HZ2.out]; omega) (by unfold maxLen; omega) (Nat.le_refl _) ?_; intro w1 hown hg)
  have HST : Hid (∀ j, j < n → PairW w1 w.heap.size (0 + j * 2) (topE es w1.heap.size 0 j) (topT es 0 j)) := Lib.hid (fun i hi => by
    have hc : ∀ j v, j < 2 → (#[Value.slice none 0 0, .int .i64 0] : Array Value)[j]? = some v → w1.cell? ⟨w.heap.size, 0 + i * 2 + j, none⟩ = some v := fun j v hj hv => by
      have := hown.cells (g := w.heap.size) rfl (i * 2 + j) v (by
        rw [Array.getElem?_toList]
        unfold madeCells
        rw [Array.getElem?_map, Array.getElem?_range, if_pos (by omega)]
        simp only [Option.map_some, Value.cells]
        rw [← hv]
        have e : (i * 2 + j) % 2 = j := by omega
        simp only [List.size_toArray, List.length_cons, List.length_nil, e]
        obtain rfl | rfl : j = 0 ∨ j = 1 := by omega
        all_goals simp)
      rw [add0] at this
      rw [Nat.zero_add]
      exact this
    exact ⟨hc 0 _ (by omega) rfl, hc 1 _ (by omega) rfl, fun j _ => hown.frozenAt _⟩)
  have HB1 : Hid (Below w.heap.size w w1) := Lib.hid ((Below.refl _ _).grown hg (Nat.le_refl _) (fun k e => by cases e))
  have HS1 : Hid (w.heap.size < w1.heap.size) := Lib.hid (hown.lt _ rfl).2
  obtain ⟨Y, hY⟩ : ∃ Y, Y = w1.heap.size := ⟨_, rfl⟩
  rw [← hY] at HST HS1
  have HY := Lib.hid hY
  clear hown hg hY
  go_loopw [4] (fun i wr => ∃ k : Nat, k ≤ n ∧ i = .int .i64 k ∧ Hid (Below w.heap.size w wr) ∧ Hid (wr.heap.size = Y + 4 * k) ∧ Hid (∀ j, j < n → PairW wr w.heap.size (0 + j * 2) (topE es Y k j) (topT es k j)) ∧ Hid (∀ j, j < k → StrsW wr (Y + 3 + 4 * j) (Y + 4 + 4 * j) (.slice (some ⟨Y + 3 + 4 * j, 0, none⟩) (es.getD j ez).r.length (es.getD j ez).r.length) (es.getD j ez).r)) (fun i _ => n - (intOf i).toNat)
  case atStart => exact ⟨0, Nat.zero_le _, rfl, HB1, Lib.hid (by have := HY.out; omega), HST, Lib.hid (fun j hj => by omega)⟩
  case round =>
    obtain ⟨k, hk, rfl, HBW, HSW, HFW, HRW⟩ := hrel
    by_cases hlt : k < n
    · obtain ⟨b, o, u, rfl, hc0, hd0, hu⟩ := HXA.out k (by have := HN.out; omega)
      have hc := (HBW.out.cell (p := ⟨b, o + k * 2, none⟩) (cell_lt hc0)).trans hc0
      have hd := (HBW.out.cell (p := ⟨b, o + k * 2 + 1, none⟩) (cell_lt hd0)).trans hd0
      have HC : Hid (Calls Tryz.prog 155 #[eV u (es.getD k ez).t] wr (ToE (es.getD k ez) wr)) := Lib.hid (toEnv_any wr u (es.getD k ez) (hu.below HBW.out) (HR.out k (by have := HN.out; omega)))
      generalize hx : es.getD k ez = x at HC hd
      have HX := Lib.hid hx
      clear hx hc0 hd0 hu
      have hlt' : (k : Int) < (n : Int) := by omega
      go_wp2_with fail
      refine HC.out.mono ?_
      rintro e w2 ⟨rfl, hs2, hb2, hz2⟩
      rw [HSW.out] at hs2 hb2 hz2
      have HS2 := Lib.hid hs2
      have HZ2' : Hid (w2.heap.size = Y + 4 * (k + 1)) := Lib.hid (by omega)
      have HB2 := Lib.hid (HBW.out.trans (hb2.mono (by have := HS1.out; omega)))
      have HF2 : Hid (∀ j, j < n → PairW w2 w.heap.size (0 + j * 2) (topE es Y k j) (topT es k j)) := Lib.hid (fun j hj => (HFW.out j hj).block (hb2.block _ (by have := HS1.out; omega)))
      have HR2 : Hid (∀ j, j < k → StrsW w2 (Y + 3 + 4 * j) (Y + 4 + 4 * j) (.slice (some ⟨Y + 3 + 4 * j, 0, none⟩) (es.getD j ez).r.length (es.getD j ez).r.length) (es.getD j ez).r) := Lib.hid (fun j hj => (HRW.out j hj).of_blocks (fun b h0 h1 => hb2.block _ (by omega)))
      have HT : Hid (w2.there w.heap.size (k * 2) 2) := Lib.hid (by
        have h := HF2.out k hlt
        rw [Nat.zero_add] at h
        exact h.there)
      obtain ⟨G, hG⟩ : ∃ G, G = wr.heap.size + 3 := ⟨_, rfl⟩
      have hG2 : wr.heap.size + 3 = Y + 3 + 4 * k := by have := HSW.out; omega
      rw [← hG]
      rw [← hG] at hG2
      have HG := Lib.hid hG2
      clear hb2 hs2 hz2 hG hG2
      go_wp2_with ((with_reducible refine store_is 37 (.tmp 21) (.tmp 20) ?_); refine store_arr 37 (.tmp 21) (.tmp 20) w.heap.size (k * 2) #[.slice (some ⟨G, 0, none⟩) x.r.length x.r.length, .int .i64 x.t] rfl rfl HT.out (by kernel_rfl) (by simp [Value.oneCell']) ?_)
      go_roundw
      case rel =>
        have hoff : ∀ (vs : List Value) (b : Nat), Y ≤ b → (w2.setCells w.heap.size (k * 2) vs).heap[b]? = w2.heap[b]? := fun vs b hb => heap_setCells_other w2 _ _ _ _ _ (by have := HS1.out; omega)
        refine ⟨k + 1, by omega, by go_num, Lib.hid (Below.setCells HB2.out _ (Nat.le_refl _) _ _ _ HB2.out), Lib.hid (by rw [size_setCells]; exact HZ2'.out), Lib.hid (fun i hi => ?_), Lib.hid (fun i hi => ?_)⟩
        · by_cases hik : i = k
          · subst hik
            rw [topE_self, topT_self, Nat.zero_add, HX.out, ← HG.out]
            exact PairW.stored HT.out
          · rw [topE_other hik, topT_other hik]
            exact (HF2.out i hi).apart (.inr (by show 0 + i * 2 + 2 ≤ k * 2 ∨ k * 2 + 2 ≤ 0 + i * 2; omega))
        · refine StrsW.of_blocks ?_ (fun b h0 h1 => hoff _ b (by omega))
          by_cases hik : i = k
          · subst hik
            have h := HS2.out
            rw [HX.out]
            rw [← HG.out]
            have e1 : Y + 4 * i + 3 = G := by have := HG.out; omega
            have e2 : Y + 4 * i + 4 = Y + 4 + 4 * i := by omega
            rw [e1, e2] at h
            exact h
          · exact HR2.out i (by omega)
      case measure => simp [intOf]; omega
    · have ek : k = n := by omega
      subst ek
      go_wp2
      go_ret
      have hx := esW_mk (w := wr) (X := w.heap.size) (Y := Y) (es := es) (by have := HN.out; omega) HS1.out (by rw [← HN.out]; exact HSW.out) (by rw [← HN.out]; exact HFW.out) (by rw [← HN.out]; exact HRW.out)
      rw [← HN.out] at hx
      refine ⟨_, rfl, hx, HBW.out, ?_, by have h1 := HS1.out; have h2 := HSW.out; omega⟩
      rw [← HN.out]
      rfl
end Go.Proofs.YtcmmlgdfhkcmoaaGreat
namespace Go.Proofs.YtcmmlgdfhkcmoaaGreat
open Go.ChangeShapes Go.WideShapes Go.ChangeAt Go.RowKit
set_option linter.unusedVariables false
set_option maxRecDepth 100000
theorem matW_own {w : World} {g : Nat} {v : Value} {xss : List (List Int)} (h : OwnRows w g v xss) : MatW w g (g + 1 + xss.length) v xss := by
  have hl := h.2.1
  obtain ⟨rfl, hm⟩ := h.mat
  exact ⟨_, _, _, _, rfl, Nat.le_refl _, hl, hm⟩
theorem size_set (W : World) (p : Addr) (v : Value) : (W.setCell p v).heap.size = W.heap.size := by simp [World.setCell]
theorem chg_refl (lo hi : Nat) (w : World) : Chg lo hi w w := ⟨rfl, rfl, rfl, Nat.le_refl _, fun _ _ _ => rfl⟩
theorem FourW.of_block {w w' : World} {b o : Nat} {x : CV} (h : FourW w b o x) (e : w'.heap[b]? = w.heap[b]?) : FourW w' b o x := h.block e
theorem CsW.chg {lo hi B0 B1 : Nat} {w w' : World} {v : Value} {xs : List CV} (h : CsW w B0 B1 v xs) (c : Chg lo hi w w') (hB : B1 ≤ w.heap.size) (hh : B1 ≤ lo ∨ hi ≤ B0) : CsW w' B0 B1 v xs := by
  obtain ⟨a, cap, rfl, h1, h2, h3⟩ := h
  refine ⟨a, cap, rfl, h1, h2, fun i hi => ?_⟩
  obtain ⟨g, p, e, hg0, hg1, hf⟩ := h3 i hi
  exact ⟨g, p, e, hg0, hg1, hf.block (c.block g (by omega) (by omega))⟩
structure KsW (w : World) (B0 B1 B2 B3 B4 : Nat) (vm vi ve vc : Value) (K : KV) : Prop where
  m : MatW w B0 B1 vm K.m
  i : IsW w B1 B2 vi K.i
  e : EsW w B2 B3 ve K.e
  c : CsW w B3 B4 vc K.c
theorem KsW.ks {w : World} {B0 B1 B2 B3 B4 : Nat} {vm vi ve vc : Value} {K : KV} (h : KsW w B0 B1 B2 B3 B4 vm vi ve vc K) : Ks w vm vi ve vc K :=
  ⟨h.m.rows, h.i.is, h.e.es, h.c.cs⟩
structure KF (w W : World) (vs os : Nat → Value) : Prop where
  bel : Below w.heap.size w W
  sz : w.heap.size + 3 ≤ W.heap.size
  par : ∀ j, j < 4 → W.cell? ⟨w.heap.size, j, none⟩ = some (vs j)
  out : ∀ j, j < 4 → W.cell? ⟨w.heap.size + 1 + 1, j, none⟩ = some (os j) ∧ W.frozen? ⟨w.heap.size + 1 + 1, j, none⟩ = false
  res : ∀ j, j < 4 → W.cell? ⟨w.heap.size + 1, j, none⟩ = some (.slice none 0 0) ∧ W.frozen? ⟨w.heap.size + 1, j, none⟩ = false
theorem KF.below {w W W' : World} {vs os : Nat → Value} (h : KF w W vs os) (hb : Below W.heap.size W W') : KF w W' vs os := by
  have e : ∀ b, b < w.heap.size + 3 → W'.heap[b]? = W.heap[b]? := fun b hl => hb.block b (by have := h.sz; omega)
  have e0 := e w.heap.size (by omega)
  have e1 := e (w.heap.size + 1) (by omega)
  have e2 := e (w.heap.size + 1 + 1) (by omega)
  exact ⟨h.bel.trans (hb.mono h.bel.size), Nat.le_trans h.sz hb.size, fun j hj => (World.cell?_of_block e0).trans (h.par j hj), fun j hj => ⟨(World.cell?_of_block e2).trans (h.out j hj).1, (World.frozen?_of_block e2).trans (h.out j hj).2⟩, fun j hj => ⟨(World.cell?_of_block e1).trans (h.res j hj).1, (World.frozen?_of_block e1).trans (h.res j hj).2⟩⟩
theorem KF.put {w W : World} {vs os : Nat → Value} (h : KF w W vs os) (j : Nat) (hj : j < 4) (v : Value) : KF w (W.setCell ⟨w.heap.size + 1 + 1, j, none⟩ v) vs (fun i => if i = j then v else os i) := by
  refine ⟨h.bel.setCell (p := ⟨w.heap.size + 1 + 1, j, none⟩) (by show w.heap.size ≤ w.heap.size + 1 + 1; omega) _, by have := h.sz; simpa [World.setCell] using this, fun i hi => (cell_set_other (.inl (by omega))).trans (h.par i hi), fun i hi => ⟨?_, (frozen_set _).trans (h.out i hi).2⟩, fun i hi => ⟨(cell_set_other (.inl (by omega))).trans (h.res i hi).1, (frozen_set _).trans (h.res i hi).2⟩⟩
  by_cases e : i = j
  · subst e
    rw [if_pos rfl]
    exact cell_set_same (h.out i hi).1
  · rw [if_neg e]
    exact (cell_set_other (.inr e)).trans (h.out i hi).1
end Go.Proofs.YtcmmlgdfhkcmoaaGreat
