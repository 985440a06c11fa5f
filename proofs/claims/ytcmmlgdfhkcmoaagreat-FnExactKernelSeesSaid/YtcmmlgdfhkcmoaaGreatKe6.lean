/- What the proofs stand on, part 6. -/
import Derived.Test.YtcmmlgdfhkcmoaaGreatRows
import Derived.Test.YtcmmlgdfhkcmoaaGreatKe1
import Derived.Test.YtcmmlgdfhkcmoaaGreatKe2
import Derived.Test.YtcmmlgdfhkcmoaaGreatKe3
import Derived.Test.YtcmmlgdfhkcmoaaGreatKe4
import Derived.Test.YtcmmlgdfhkcmoaaGreatKe5
set_option linter.unusedSimpArgs false
set_option linter.unusedVariables false
namespace Go.Proofs.YtcmmlgdfhkcmoaaGreat
open Go.ChangeShapes Go.WideShapes Go.ChangeAt Go.RowKit Go.Maps
set_option linter.unusedVariables false
set_option linter.unusedSimpArgs false
set_option maxRecDepth 100000
set_option maxHeartbeats 4000000 in
theorem good_any (W : World) (X N : Nat) (M : List (List Int)) (I : List IV) (E : List EV) (bs : Nat → Nat) (R L : List Value) (h : KC W X M I E bs R L) (hkn : W.rangeAt N 0 (tC M I)) (hN : N < W.heap.size) (f : Nat) (hf : f < 12) :
    Calls Tryz.prog 175 #[.int .i64 f, .pointer (some ⟨N, 0, none⟩), .pointer (some ⟨X, 0, none⟩)] W (BRes (!isTab (I.getD f iz).k || tgood M I (f : Int) (I.getD f iz).k [[]]) W) := by
  have hil := isok_len h.l.i
  have hish := isok_short h.l.i
  have HTT : Hid ((tC M I).length = 84) := Lib.hid (tC_len M hil)
  have hk := (h.tri hf).c0
  obtain ⟨kd, hkd⟩ : ∃ kd, kd = (I.getD f iz).k := ⟨_, rfl⟩
  rw [← hkd] at hk ⊢
  have HRU : Hid (∀ Q v, Strs Q v [[]] → Calls Tryz.prog 77 #[.agg (tC M I).toArray, .int .i64 (f : Int), .int .i64 kd, v] Q (RuleR I (f : Int) kd [[]] Q)) := Lib.hid (fun Q v hv => rule_any Q M I hil v [[]] (f : Int) kd hv short_mt)
  have HRO : Hid (rok8 (f : Int) kd [[]] = isTab kd) := Lib.hid (by
    unfold rok8
    rw [show rvs [[]] = true from rvs_nil, show inR (f : Int) 0 11 = true from inR_iff.2 (by omega), Bool.true_and, Bool.true_and])
  have HAA : Hid (isTab kd = true → ∀ Q b, SetAt Q b [[]] → Calls Tryz.prog 78 #[.agg (rcC I (f : Int) (tneeds kd) (some b)).toArray, .agg ((M.getD f []).map (Value.int .i64)).toArray] Q (BRes (tgood M I (f : Int) kd [[]]) Q)) := Lib.hid (fun ht Q b hs => by
    rw [← rall_good (xss := M) (ys := I) (n := f) (rs := [[]]) ht]
    exact allowsAll_any Q I hil hish (f : Int) (tneeds kd) (M.getD f []) (mem_row h.l.m hf) (fun i hi => mem_word h.l.m hf hi) b [[]] hs)
  unfold RuleR at HRU
  rw [HRO.out] at HRU
  have HRW : Hid (∀ Q, Below W.heap.size W Q → Q.rangeAt X (f * 4) ((M.getD f []).map (Value.int .i64))) := Lib.hid (fun Q hQ => (h.below hQ).row hf)
  have HMLL : Hid (((M.getD f []).map (Value.int .i64)).length = 4) := Lib.hid (by rw [List.length_map]; exact mem_row h.l.m hf)
  obtain ⟨T, hT⟩ : ∃ T, T = tC M I := ⟨_, rfl⟩
  rw [← hT] at HTT HRU hkn
  obtain ⟨RW, hRW⟩ : ∃ RW, RW = (M.getD f []).map (Value.int .i64) := ⟨_, rfl⟩
  rw [← hRW] at HAA HRW HMLL
  obtain ⟨tg, htg⟩ : ∃ tg, tg = tgood M I (f : Int) kd [[]] := ⟨_, rfl⟩
  rw [← htg] at HAA ⊢
  have FS : Hid (∀ Q, Below W.heap.size W Q → Q.rangeAt N 0 T ∧ Q.cell? ⟨X, 48 + f * 3, none⟩ = some (.int .i64 kd)) := Lib.hid (fun Q hQ => ⟨range_blocks hkn (hQ.block _ hN), (hQ.cell (p := ⟨X, 48 + f * 3, none⟩) (cell_lt hk)).trans hk⟩)
  have FT : Hid (∀ Q c C, Below W.heap.size W Q → Q.rangeAt c 0 C → Q.rangeAt c 0 C ∧ Q.rangeAt X (f * 4) RW) := Lib.hid (fun Q c C hQ hc => ⟨hc, HRW.out Q hQ⟩)
  have HIF := run_indexAt_off (P := Tryz.prog) 96 12 46 3 Tryz.underlying96 size_info (by omega) X 48 f hf
  have HXM := run_indexAt_arr (P := Tryz.prog) 94 12 92 4 Tryz.underlying94 size_words (by omega) X f hf
  have HLX := Lib.hid h.lt
  have HLT : Hid (∀ Q : World, Q.rangeAt N 0 T → (do let l ← Instr.loadAt 126 (.pointer (some ⟨N, 0, none⟩)); pure (Next.value l) : Sem Next).run Tryz.prog Q = .ok (.value (.agg T.toArray)) Q) := Lib.hid (fun Q hh => load_run 126 N 0 T _ hh Tryz.underlying126 rfl (info_tables HTT.out))
  have HLW : Hid (∀ Q : World, Q.rangeAt X (f * 4) RW → (do let l ← Instr.loadAt 92 (.pointer (some ⟨X, f * 4, none⟩)); pure (Next.value l) : Sem Next).run Tryz.prog Q = .ok (.value (.agg RW.toArray)) Q) := Lib.hid (fun Q hh => load_run 92 X (f * 4) RW _ hh Tryz.underlying92 rfl (by rw [HMLL.out]; exact info_words))
  have HLR : Hid (∀ (Q : World) (c : Nat) (C : List Value), C.length = 39 → Q.rangeAt c 0 C → (do let l ← Instr.loadAt 130 (.pointer (some ⟨c, 0, none⟩)); pure (Next.value l) : Sem Next).run Tryz.prog Q = .ok (.value (.agg C.toArray)) Q) := Lib.hid (fun Q c C hl hh => load_run 130 c 0 C _ hh Tryz.underlying130 rfl (info_rule hl))
  have ZR := Lib.hid zero_rule
  have ZRS := Lib.hid Z39_len
  obtain ⟨zr, hzr⟩ : ∃ z, z = Z39 := ⟨_, rfl⟩
  rw [← hzr] at ZR ZRS
  have hf0 : (0 : Int) ≤ (f : Int) := by omega
  have hf12 : (f : Int) < 12 := by omega
  clear hkd hT hRW htg hzr hkn h hil hish hf HRW
  obtain ⟨tb, htb⟩ : ∃ tb, tb = isTab kd := ⟨_, rfl⟩
  rw [← htb] at HRU HAA HRO ⊢
  clear htb
  cases tb with
  | false =>
    go_enter Tryz.func175, Tryz.ntmps175
    go_wp2_with fail
    refine wp_region_held_drew (S := fun w' => w'.rangeAt N 0 T ∧ w'.cell? ⟨X, 48 + f * 3, none⟩ = some (.int .i64 kd)) (by kernel_rfl) (FS.out _ (Below.refl _ _).drew) (fun hHeld => ?_)
    refine anyH_gen _ (fun QA hgen => ?_)
    have HBA := Lib.hid (by rw [hgen]; exact (Below.refl W.heap.size W).drew : Below W.heap.size W QA)
    rw [← hgen] at hHeld
    clear hgen
    refine wpAnyH_take (i := 0) (oi := { dst := some 8, op := .load 126 (.tmp 1), type := _, pos := _, after := _, guard := none }) (v := .agg T.toArray) rfl (by kernel_rfl) (by kernel_rfl) (by kernel_rfl) (fun _ _ _ h => h) (Or.inl ⟨by rfl, fun wh hSw => ?_⟩) hHeld ?_
    · (simp only [execOp]; exact HLT.out _ hSw.1)
    try simp only [Act.put, List.setIfInBounds_toArray, List.set_cons_zero, List.set_cons_succ]
    refine wpAnyH_take (i := 1) (oi := { dst := some 9, op := .move (.tmp 0), type := _, pos := _, after := _, guard := none }) (v := .int .i64 (f : Int)) rfl (by kernel_rfl) (by kernel_rfl) (by kernel_rfl) (fun _ _ _ h => h) (Or.inl ⟨by rfl, fun wh hSw => ?_⟩) hHeld ?_
    · (obtain ⟨s0, s1⟩ := hSw; go_simp)
    try simp only [Act.put, List.setIfInBounds_toArray, List.set_cons_zero, List.set_cons_succ]
    refine wpAnyH_take (i := 2) (oi := { dst := some 10, op := .move (.tmp 0), type := _, pos := _, after := _, guard := none }) (v := .int .i64 (f : Int)) rfl (by kernel_rfl) (by kernel_rfl) (by kernel_rfl) (fun _ _ _ h => h) (Or.inl ⟨by rfl, fun wh hSw => ?_⟩) hHeld ?_
    · (obtain ⟨s0, s1⟩ := hSw; go_simp)
    try simp only [Act.put, List.setIfInBounds_toArray, List.set_cons_zero, List.set_cons_succ]
    refine wpAnyH_take (i := 3) (oi := { dst := some 11, op := .fieldAddr 101 (.tmp 2) 1, type := _, pos := _, after := _, guard := none }) (v := .pointer (some ⟨X, 48, none⟩)) rfl (by kernel_rfl) (by kernel_rfl) (by kernel_rfl) (fun _ _ _ h => h) (Or.inl ⟨by rfl, fun wh hSw => ?_⟩) hHeld ?_
    · (obtain ⟨s0, s1⟩ := hSw; go_simp)
    try simp only [Act.put, List.setIfInBounds_toArray, List.set_cons_zero, List.set_cons_succ]
    refine wpAnyH_take (i := 4) (oi := { dst := some 12, op := .indexAddr 96 (.tmp 11) (.tmp 10), type := _, pos := _, after := _, guard := none }) (v := .pointer (some ⟨X, 48 + f * 3, none⟩)) rfl (by kernel_rfl) (by kernel_rfl) (by kernel_rfl) (fun _ _ _ h => h) (Or.inl ⟨by rfl, fun wh hSw => ?_⟩) hHeld ?_
    · (obtain ⟨s0, s1⟩ := hSw; go_simp)
    try simp only [Act.put, List.setIfInBounds_toArray, List.set_cons_zero, List.set_cons_succ]
    refine wpAnyH_take (i := 5) (oi := { dst := some 13, op := .fieldAddr 46 (.tmp 12) 0, type := _, pos := _, after := _, guard := none }) (v := .pointer (some ⟨X, 48 + f * 3, none⟩)) rfl (by kernel_rfl) (by kernel_rfl) (by kernel_rfl) (fun _ _ _ h => h) (Or.inl ⟨by rfl, fun wh hSw => ?_⟩) hHeld ?_
    · (obtain ⟨s0, s1⟩ := hSw; go_simp)
    try simp only [Act.put, List.setIfInBounds_toArray, List.set_cons_zero, List.set_cons_succ]
    refine wpAnyH_take (i := 6) (oi := { dst := some 14, op := .load 3 (.tmp 13), type := _, pos := _, after := _, guard := none }) (v := .int .i64 kd) rfl (by kernel_rfl) (by kernel_rfl) (by kernel_rfl) (fun _ _ _ h => h) (Or.inl ⟨by rfl, fun wh hSw => ?_⟩) hHeld ?_
    · (obtain ⟨s0, s1⟩ := hSw; go_simp)
    try simp only [Act.put, List.setIfInBounds_toArray, List.set_cons_zero, List.set_cons_succ]
    refine wpAnyH_ready (rs := [7, 12]) (by kernel_rfl) (by simp) ?_
    refine AllReadyH.cons (o := { dst := some 15, op := .buildSlice 35 1 #[(0, .const (.string { data := #[] }))], type := _, pos := _, after := _, guard := none }) rfl (fun K hK => ?_) (AllReadyH.cons (o := { dst := some 5, op := .alloc 130, type := _, pos := _, after := _, guard := none }) rfl (fun K hK => ?_) AllReadyH.nil)
    · go_simp
      refine hK.out _ _ ?_ (fun hHeld => ?_)
      · exact FS.out _ (HBA.out.alloc HBA.out.size _)
      clear hK K
      try simp only [Act.put, List.setIfInBounds_toArray, List.set_cons_zero, List.set_cons_succ]
      refine anyH_gen _ (fun Q1 hW => ?_)
      have HB1 : Hid (Below W.heap.size W Q1) := Lib.hid (by rw [hW]; exact HBA.out.alloc HBA.out.size _)
      have HL1 : Hid (QA.heap.size < Q1.heap.size) := Lib.hid (by rw [hW]; simp)
      have HV1 : Hid (Strs Q1 (.slice (some ⟨QA.heap.size, 0, none⟩) 1 1) [[]]) := Lib.hid (by rw [hW]; exact strs_mt QA _)
      rw [← hW] at hHeld
      clear hW
      refine wpAnyH_ready (rs := [8, 12]) (by kernel_rfl) (by simp) ?_
      refine AllReadyH.cons (o := { dst := some 16, op := .call { callee := .value (.func 77), args := #[.tmp 8, .tmp 9, .tmp 14, .tmp 15], argTypes := #[126, 3, 3, 35] }, type := _, pos := _, after := _, guard := none }) rfl (fun K hK => ?_) (AllReadyH.cons (o := { dst := some 5, op := .alloc 130, type := _, pos := _, after := _, guard := none }) rfl (fun K hK => ?_) AllReadyH.nil)
      · go_simp
        refine (HRU.out Q1 _ HV1.out).mono ?_
        rintro _ Q2 ⟨CC, rfl, hcl, hco, hcr, hb⟩
        have HB2 : Hid (Below W.heap.size W Q2) := Lib.hid (HB1.out.trans (hb.mono HB1.out.size))
        have HCL := Lib.hid hcl
        have HCZ : Hid (CC.toArray.size = 39) := Lib.hid (by rw [List.size_toArray, hcl])
        have HCO := Lib.hid hco
        clear hb hcl hco hcr
        try go_simp
        refine hK.out _ _ ?_ (fun hHeld => ?_)
        · exact FS.out _ HB2.out
        clear hK K
        try simp only [Act.put, List.setIfInBounds_toArray, List.set_cons_zero, List.set_cons_succ]
        refine wpAnyH_take (i := 9) (oi := { dst := some 7, op := .move (.tmp 16), type := _, pos := _, after := _, guard := none }) (v := .tuple #[.agg CC.toArray, .bool false]) rfl (by kernel_rfl) (by kernel_rfl) (by kernel_rfl) (fun _ _ _ h => h) (Or.inl ⟨by rfl, fun wh hSw => ?_⟩) hHeld ?_
        · (obtain ⟨s0, s1⟩ := hSw; go_simp)
        try simp only [Act.put, List.setIfInBounds_toArray, List.set_cons_zero, List.set_cons_succ]
        refine wpAnyH_take (i := 10) (oi := { dst := some 17, op := .extract (.tmp 7) 0, type := _, pos := _, after := _, guard := none }) (v := .agg CC.toArray) rfl (by kernel_rfl) (by kernel_rfl) (by kernel_rfl) (fun _ _ _ h => h) (Or.inl ⟨by rfl, fun wh hSw => ?_⟩) hHeld ?_
        · (obtain ⟨s0, s1⟩ := hSw; go_simp)
        try simp only [Act.put, List.setIfInBounds_toArray, List.set_cons_zero, List.set_cons_succ]
        refine wpAnyH_take (i := 11) (oi := { dst := some 18, op := .extract (.tmp 7) 1, type := _, pos := _, after := _, guard := none }) (v := .bool false) rfl (by kernel_rfl) (by kernel_rfl) (by kernel_rfl) (fun _ _ _ h => h) (Or.inl ⟨by rfl, fun wh hSw => ?_⟩) hHeld ?_
        · (obtain ⟨s0, s1⟩ := hSw; go_simp)
        try simp only [Act.put, List.setIfInBounds_toArray, List.set_cons_zero, List.set_cons_succ]
        refine wpAnyH_ready (rs := [12]) (by kernel_rfl) (by simp) ?_
        refine AllReadyH.cons (o := { dst := some 5, op := .alloc 130, type := _, pos := _, after := _, guard := none }) rfl (fun K hK => ?_) AllReadyH.nil
        rw [if_pos (by rfl)]
        refine wp_alloc_mid 130 rfl zr.toArray ZR.out ?_
        refine hK.out _ _ ?_ (fun hHeld => ?_)
        · exact FS.out _ (HB2.out.alloc HB2.out.size _)
        clear hK K
        try simp only [Act.put, List.setIfInBounds_toArray, List.set_cons_zero, List.set_cons_succ]
        refine anyH_gen _ (fun Q3 hW => ?_)
        have HB3 : Hid (Below W.heap.size W Q3) := Lib.hid (by rw [hW]; exact HB2.out.alloc HB2.out.size _)
        have HT3 : Hid (Q3.there Q2.heap.size 0 39) := Lib.hid (by rw [hW]; exact there_row (heap_alloc_new Q2 _) (by rw [List.size_toArray, ZRS.out]; omega))
        have HL3 : Hid (Q2.heap.size < Q3.heap.size) := Lib.hid (by rw [hW]; simp)
        have HO3 : Hid (W.heap.size ≤ Q2.heap.size) := Lib.hid HB2.out.size
        rw [← hW] at hHeld
        clear hW
        refine wpAnyH_ready (rs := [13]) (by kernel_rfl) (by simp) ?_
        refine AllReadyH.cons (o := { dst := none, op := .store 130 (.tmp 5) (.tmp 17), type := _, pos := _, after := _, guard := none }) rfl (fun K hK => ?_) AllReadyH.nil
        rw [if_pos (by rfl)]
        refine wp_store_mid 130 (.tmp 5) (.tmp 17) rfl Q2.heap.size 0 CC.toArray rfl rfl (by rw [HCZ.out]; exact HT3.out) (info_rule HCZ.out) HCO.out ?_
        rw [show CC.toArray.toList = CC from rfl]
        refine hK.out _ _ ?_ (fun hHeld => ?_)
        · exact FS.out _ (Below.setCells (Below.refl W.heap.size W) _ HO3.out _ _ _ HB3.out)
        clear hK K
        try simp only [Act.put, List.setIfInBounds_toArray, List.set_cons_zero, List.set_cons_succ]
        refine anyH_gen _ (fun Q4 hW => ?_)
        have HB4 : Hid (Below W.heap.size W Q4) := Lib.hid (by rw [hW]; exact (Below.setCells (Below.refl W.heap.size W) _ HO3.out _ _ _ HB3.out))
        have HR4 : Hid (Q4.rangeAt (Q2.heap.size) 0 CC) := Lib.hid (by rw [hW]; exact World.rangeAt_setCells_same _ _ _ _ (by rw [HCL.out]; exact HT3.out))
        have HM4 : Hid (Q2.heap.size < Q4.heap.size) := Lib.hid (by rw [hW, size_setCells]; exact HL3.out)
        rw [← hW] at hHeld
        clear hW
        refine wpAnyH_take (i := 14) (oi := { dst := some 6, op := .assign (.tmp 18), type := _, pos := _, after := _, guard := none }) (v := .bool false) rfl (by kernel_rfl) (by kernel_rfl) (by kernel_rfl) (fun _ _ _ h => h) (Or.inl ⟨by rfl, fun wh hSw => ?_⟩) hHeld ?_
        · (obtain ⟨s0, s1⟩ := hSw; go_simp)
        try simp only [Act.put, List.setIfInBounds_toArray, List.set_cons_zero, List.set_cons_succ]
        refine wpAnyH_done (by kernel_rfl) ?_ _
        have HRE := Lib.hid HR4.out
        have HBE := Lib.hid HB4.out
        have HLE := Lib.hid HM4.out
        have HHE := Lib.hid hHeld
        go_wp2_with fail
        refine wp_region_held_drew (S := fun w' => w'.rangeAt (Q2.heap.size) 0 CC ∧ w'.rangeAt X (f * 4) RW) (by kernel_rfl) (FT.out _ _ _ HBE.out.drew (range_blocks HRE.out rfl)) (fun hHeld => ?_)
        refine wpAnyH_take (i := 0) (oi := { dst := some 19, op := .move (.tmp 6), type := _, pos := _, after := _, guard := none }) (v := .bool false) rfl (by kernel_rfl) (by kernel_rfl) (by kernel_rfl) (fun _ _ _ h => h) (Or.inl ⟨by rfl, fun wh hSw => ?_⟩) hHeld ?_
        · (go_simp)
        try simp only [Act.put, List.setIfInBounds_toArray, List.set_cons_zero, List.set_cons_succ]
        refine wpAnyH_take (i := 1) (oi := { dst := some 20, op := .unOp .not 4 (.tmp 19), type := _, pos := _, after := _, guard := none }) (v := .bool true) rfl (by kernel_rfl) (by kernel_rfl) (by kernel_rfl) (fun _ _ _ h => h) (Or.inl ⟨by rfl, fun wh hSw => ?_⟩) hHeld ?_
        · (go_simp)
        try simp only [Act.put, List.setIfInBounds_toArray, List.set_cons_zero, List.set_cons_succ]
        refine wpAnyH_take (i := 2) (oi := { dst := some 21, op := .move (.tmp 20), type := _, pos := _, after := _, guard := none }) (v := .bool true) rfl (by kernel_rfl) (by kernel_rfl) (by kernel_rfl) (fun _ _ _ h => h) (Or.inl ⟨by rfl, fun wh hSw => ?_⟩) hHeld ?_
        · (go_simp)
        try simp only [Act.put, List.setIfInBounds_toArray, List.set_cons_zero, List.set_cons_succ]
        refine wpAnyH_take (i := 3) (oi := { dst := some 22, op := .load 130 (.tmp 5), type := _, pos := _, after := _, guard := some (2, false) }) (v := undef) rfl (by kernel_rfl) (by kernel_rfl) (by kernel_rfl) (fun _ _ _ h => h) (Or.inr ⟨by rfl, rfl⟩) hHeld ?_
        try simp only [Act.put, List.setIfInBounds_toArray, List.set_cons_zero, List.set_cons_succ]
        refine wpAnyH_take (i := 4) (oi := { dst := some 23, op := .move (.tmp 0), type := _, pos := _, after := _, guard := some (2, false) }) (v := undef) rfl (by kernel_rfl) (by kernel_rfl) (by kernel_rfl) (fun _ _ _ h => h) (Or.inr ⟨by rfl, rfl⟩) hHeld ?_
        try simp only [Act.put, List.setIfInBounds_toArray, List.set_cons_zero, List.set_cons_succ]
        refine wpAnyH_take (i := 5) (oi := { dst := some 24, op := .fieldAddr 101 (.tmp 2) 0, type := _, pos := _, after := _, guard := some (2, false) }) (v := undef) rfl (by kernel_rfl) (by kernel_rfl) (by kernel_rfl) (fun _ _ _ h => h) (Or.inr ⟨by rfl, rfl⟩) hHeld ?_
        try simp only [Act.put, List.setIfInBounds_toArray, List.set_cons_zero, List.set_cons_succ]
        refine wpAnyH_take (i := 6) (oi := { dst := some 25, op := .indexAddr 94 (.tmp 24) (.tmp 23), type := _, pos := _, after := _, guard := some (2, false) }) (v := undef) rfl (by kernel_rfl) (by kernel_rfl) (by kernel_rfl) (fun _ _ _ h => h) (Or.inr ⟨by rfl, rfl⟩) hHeld ?_
        try simp only [Act.put, List.setIfInBounds_toArray, List.set_cons_zero, List.set_cons_succ]
        refine wpAnyH_take (i := 7) (oi := { dst := some 26, op := .load 92 (.tmp 25), type := _, pos := _, after := _, guard := some (2, false) }) (v := undef) rfl (by kernel_rfl) (by kernel_rfl) (by kernel_rfl) (fun _ _ _ h => h) (Or.inr ⟨by rfl, rfl⟩) hHeld ?_
        try simp only [Act.put, List.setIfInBounds_toArray, List.set_cons_zero, List.set_cons_succ]
        refine wpAnyH_take (i := 8) (oi := { dst := some 27, op := .call { callee := .value (.func 78), args := #[.tmp 22, .tmp 26], argTypes := #[130, 92] }, type := _, pos := _, after := _, guard := some (2, false) }) (v := undef) rfl (by kernel_rfl) (by kernel_rfl) (by kernel_rfl) (fun _ _ _ h => h) (Or.inr ⟨by rfl, rfl⟩) hHeld ?_
        try simp only [Act.put, List.setIfInBounds_toArray, List.set_cons_zero, List.set_cons_succ]
        refine wpAnyH_take (i := 9) (oi := { dst := some 28, op := .pick (.tmp 21) (.const (.bool true)) (.tmp 27), type := _, pos := _, after := _, guard := none }) (v := .bool true) rfl (by kernel_rfl) (by kernel_rfl) (by kernel_rfl) (fun _ _ _ h => h) (Or.inl ⟨by rfl, fun wh hSw => ?_⟩) hHeld ?_
        · (go_simp)
        try simp only [Act.put, List.setIfInBounds_toArray, List.set_cons_zero, List.set_cons_succ]
        refine wpAnyH_take (i := 10) (oi := { dst := some 4, op := .assign (.tmp 28), type := _, pos := _, after := _, guard := none }) (v := .bool true) rfl (by kernel_rfl) (by kernel_rfl) (by kernel_rfl) (fun _ _ _ h => h) (Or.inl ⟨by rfl, fun wh hSw => ?_⟩) hHeld ?_
        · (go_simp)
        try simp only [Act.put, List.setIfInBounds_toArray, List.set_cons_zero, List.set_cons_succ]
        refine wpAnyH_done (by kernel_rfl) ?_ _
        go_wp2_with fail
        go_ret
        exact ⟨by simp, HBE.out.drew⟩
      · rw [if_pos (by rfl)]
        refine wp_alloc_mid 130 rfl zr.toArray ZR.out ?_
        refine hK.out _ _ ?_ (fun hHeld => ?_)
        · exact FS.out _ (HB1.out.alloc HB1.out.size _)
        clear hK K
        try simp only [Act.put, List.setIfInBounds_toArray, List.set_cons_zero, List.set_cons_succ]
        refine anyH_gen _ (fun Q5 hW => ?_)
        have HB5 : Hid (Below W.heap.size W Q5) := Lib.hid (by rw [hW]; exact HB1.out.alloc HB1.out.size _)
        have HT5 : Hid (Q5.there Q1.heap.size 0 39) := Lib.hid (by rw [hW]; exact there_row (heap_alloc_new Q1 _) (by rw [List.size_toArray, ZRS.out]; omega))
        have HL5 : Hid (Q1.heap.size < Q5.heap.size) := Lib.hid (by rw [hW]; simp)
        have HO5 : Hid (W.heap.size ≤ Q1.heap.size) := Lib.hid HB1.out.size
        have HV5 : Hid (Strs Q5 (.slice (some ⟨QA.heap.size, 0, none⟩) 1 1) [[]]) := Lib.hid (HV1.out.below (by rw [hW]; exact ((Below.refl Q1.heap.size Q1).alloc (Nat.le_refl _) _)))
        rw [← hW] at hHeld
        clear hW
        refine wpAnyH_ready (rs := [8]) (by kernel_rfl) (by simp) ?_
        refine AllReadyH.cons (o := { dst := some 16, op := .call { callee := .value (.func 77), args := #[.tmp 8, .tmp 9, .tmp 14, .tmp 15], argTypes := #[126, 3, 3, 35] }, type := _, pos := _, after := _, guard := none }) rfl (fun K hK => ?_) AllReadyH.nil
        go_simp
        refine (HRU.out Q5 _ HV5.out).mono ?_
        rintro _ Q6 ⟨CC, rfl, hcl, hco, hcr, hb⟩
        have HB6 : Hid (Below W.heap.size W Q6) := Lib.hid (HB5.out.trans (hb.mono HB5.out.size))
        have HCL := Lib.hid hcl
        have HCZ : Hid (CC.toArray.size = 39) := Lib.hid (by rw [List.size_toArray, hcl])
        have HCO := Lib.hid hco
        have HT6 : Hid (Q6.there Q1.heap.size 0 39) := Lib.hid (there_blocks HT5.out (hb.block _ HL5.out))
        have HM6 : Hid (Q1.heap.size < Q6.heap.size) := Lib.hid (Nat.lt_of_lt_of_le HL5.out hb.size)
        clear hb hcl hco hcr
        try go_simp
        refine hK.out _ _ ?_ (fun hHeld => ?_)
        · exact FS.out _ HB6.out
        clear hK K
        try simp only [Act.put, List.setIfInBounds_toArray, List.set_cons_zero, List.set_cons_succ]
        refine wpAnyH_take (i := 9) (oi := { dst := some 7, op := .move (.tmp 16), type := _, pos := _, after := _, guard := none }) (v := .tuple #[.agg CC.toArray, .bool false]) rfl (by kernel_rfl) (by kernel_rfl) (by kernel_rfl) (fun _ _ _ h => h) (Or.inl ⟨by rfl, fun wh hSw => ?_⟩) hHeld ?_
        · (obtain ⟨s0, s1⟩ := hSw; go_simp)
        try simp only [Act.put, List.setIfInBounds_toArray, List.set_cons_zero, List.set_cons_succ]
        refine wpAnyH_take (i := 10) (oi := { dst := some 17, op := .extract (.tmp 7) 0, type := _, pos := _, after := _, guard := none }) (v := .agg CC.toArray) rfl (by kernel_rfl) (by kernel_rfl) (by kernel_rfl) (fun _ _ _ h => h) (Or.inl ⟨by rfl, fun wh hSw => ?_⟩) hHeld ?_
        · (obtain ⟨s0, s1⟩ := hSw; go_simp)
        try simp only [Act.put, List.setIfInBounds_toArray, List.set_cons_zero, List.set_cons_succ]
        refine wpAnyH_take (i := 11) (oi := { dst := some 18, op := .extract (.tmp 7) 1, type := _, pos := _, after := _, guard := none }) (v := .bool false) rfl (by kernel_rfl) (by kernel_rfl) (by kernel_rfl) (fun _ _ _ h => h) (Or.inl ⟨by rfl, fun wh hSw => ?_⟩) hHeld ?_
        · (obtain ⟨s0, s1⟩ := hSw; go_simp)
        try simp only [Act.put, List.setIfInBounds_toArray, List.set_cons_zero, List.set_cons_succ]
        refine wpAnyH_ready (rs := [13]) (by kernel_rfl) (by simp) ?_
        refine AllReadyH.cons (o := { dst := none, op := .store 130 (.tmp 5) (.tmp 17), type := _, pos := _, after := _, guard := none }) rfl (fun K hK => ?_) AllReadyH.nil
        rw [if_pos (by rfl)]
        refine wp_store_mid 130 (.tmp 5) (.tmp 17) rfl Q1.heap.size 0 CC.toArray rfl rfl (by rw [HCZ.out]; exact HT6.out) (info_rule HCZ.out) HCO.out ?_
        rw [show CC.toArray.toList = CC from rfl]
        refine hK.out _ _ ?_ (fun hHeld => ?_)
        · exact FS.out _ (Below.setCells (Below.refl W.heap.size W) _ HO5.out _ _ _ HB6.out)
        clear hK K
        try simp only [Act.put, List.setIfInBounds_toArray, List.set_cons_zero, List.set_cons_succ]
        refine anyH_gen _ (fun Q7 hW => ?_)
        have HB7 : Hid (Below W.heap.size W Q7) := Lib.hid (by rw [hW]; exact (Below.setCells (Below.refl W.heap.size W) _ HO5.out _ _ _ HB6.out))
        have HR7 : Hid (Q7.rangeAt (Q1.heap.size) 0 CC) := Lib.hid (by rw [hW]; exact World.rangeAt_setCells_same _ _ _ _ (by rw [HCL.out]; exact HT6.out))
        have HM7 : Hid (Q1.heap.size < Q7.heap.size) := Lib.hid (by rw [hW, size_setCells]; exact HM6.out)
        rw [← hW] at hHeld
        clear hW
        refine wpAnyH_take (i := 14) (oi := { dst := some 6, op := .assign (.tmp 18), type := _, pos := _, after := _, guard := none }) (v := .bool false) rfl (by kernel_rfl) (by kernel_rfl) (by kernel_rfl) (fun _ _ _ h => h) (Or.inl ⟨by rfl, fun wh hSw => ?_⟩) hHeld ?_
        · (obtain ⟨s0, s1⟩ := hSw; go_simp)
        try simp only [Act.put, List.setIfInBounds_toArray, List.set_cons_zero, List.set_cons_succ]
        refine wpAnyH_done (by kernel_rfl) ?_ _
        have HRE := Lib.hid HR7.out
        have HBE := Lib.hid HB7.out
        have HLE := Lib.hid HM7.out
        have HHE := Lib.hid hHeld
        go_wp2_with fail
        refine wp_region_held_drew (S := fun w' => w'.rangeAt (Q1.heap.size) 0 CC ∧ w'.rangeAt X (f * 4) RW) (by kernel_rfl) (FT.out _ _ _ HBE.out.drew (range_blocks HRE.out rfl)) (fun hHeld => ?_)
        refine wpAnyH_take (i := 0) (oi := { dst := some 19, op := .move (.tmp 6), type := _, pos := _, after := _, guard := none }) (v := .bool false) rfl (by kernel_rfl) (by kernel_rfl) (by kernel_rfl) (fun _ _ _ h => h) (Or.inl ⟨by rfl, fun wh hSw => ?_⟩) hHeld ?_
        · (go_simp)
        try simp only [Act.put, List.setIfInBounds_toArray, List.set_cons_zero, List.set_cons_succ]
        refine wpAnyH_take (i := 1) (oi := { dst := some 20, op := .unOp .not 4 (.tmp 19), type := _, pos := _, after := _, guard := none }) (v := .bool true) rfl (by kernel_rfl) (by kernel_rfl) (by kernel_rfl) (fun _ _ _ h => h) (Or.inl ⟨by rfl, fun wh hSw => ?_⟩) hHeld ?_
        · (go_simp)
        try simp only [Act.put, List.setIfInBounds_toArray, List.set_cons_zero, List.set_cons_succ]
        refine wpAnyH_take (i := 2) (oi := { dst := some 21, op := .move (.tmp 20), type := _, pos := _, after := _, guard := none }) (v := .bool true) rfl (by kernel_rfl) (by kernel_rfl) (by kernel_rfl) (fun _ _ _ h => h) (Or.inl ⟨by rfl, fun wh hSw => ?_⟩) hHeld ?_
        · (go_simp)
        try simp only [Act.put, List.setIfInBounds_toArray, List.set_cons_zero, List.set_cons_succ]
        refine wpAnyH_take (i := 3) (oi := { dst := some 22, op := .load 130 (.tmp 5), type := _, pos := _, after := _, guard := some (2, false) }) (v := undef) rfl (by kernel_rfl) (by kernel_rfl) (by kernel_rfl) (fun _ _ _ h => h) (Or.inr ⟨by rfl, rfl⟩) hHeld ?_
        try simp only [Act.put, List.setIfInBounds_toArray, List.set_cons_zero, List.set_cons_succ]
        refine wpAnyH_take (i := 4) (oi := { dst := some 23, op := .move (.tmp 0), type := _, pos := _, after := _, guard := some (2, false) }) (v := undef) rfl (by kernel_rfl) (by kernel_rfl) (by kernel_rfl) (fun _ _ _ h => h) (Or.inr ⟨by rfl, rfl⟩) hHeld ?_
        try simp only [Act.put, List.setIfInBounds_toArray, List.set_cons_zero, List.set_cons_succ]
        refine wpAnyH_take (i := 5) (oi := { dst := some 24, op := .fieldAddr 101 (.tmp 2) 0, type := _, pos := _, after := _, guard := some (2, false) }) (v := undef) rfl (by kernel_rfl) (by kernel_rfl) (by kernel_rfl) (fun _ _ _ h => h) (Or.inr ⟨by rfl, rfl⟩) hHeld ?_
        try simp only [Act.put, List.setIfInBounds_toArray, List.set_cons_zero, List.set_cons_succ]
        refine wpAnyH_take (i := 6) (oi := { dst := some 25, op := .indexAddr 94 (.tmp 24) (.tmp 23), type := _, pos := _, after := _, guard := some (2, false) }) (v := undef) rfl (by kernel_rfl) (by kernel_rfl) (by kernel_rfl) (fun _ _ _ h => h) (Or.inr ⟨by rfl, rfl⟩) hHeld ?_
        try simp only [Act.put, List.setIfInBounds_toArray, List.set_cons_zero, List.set_cons_succ]
        refine wpAnyH_take (i := 7) (oi := { dst := some 26, op := .load 92 (.tmp 25), type := _, pos := _, after := _, guard := some (2, false) }) (v := undef) rfl (by kernel_rfl) (by kernel_rfl) (by kernel_rfl) (fun _ _ _ h => h) (Or.inr ⟨by rfl, rfl⟩) hHeld ?_
        try simp only [Act.put, List.setIfInBounds_toArray, List.set_cons_zero, List.set_cons_succ]
        refine wpAnyH_take (i := 8) (oi := { dst := some 27, op := .call { callee := .value (.func 78), args := #[.tmp 22, .tmp 26], argTypes := #[130, 92] }, type := _, pos := _, after := _, guard := some (2, false) }) (v := undef) rfl (by kernel_rfl) (by kernel_rfl) (by kernel_rfl) (fun _ _ _ h => h) (Or.inr ⟨by rfl, rfl⟩) hHeld ?_
        try simp only [Act.put, List.setIfInBounds_toArray, List.set_cons_zero, List.set_cons_succ]
        refine wpAnyH_take (i := 9) (oi := { dst := some 28, op := .pick (.tmp 21) (.const (.bool true)) (.tmp 27), type := _, pos := _, after := _, guard := none }) (v := .bool true) rfl (by kernel_rfl) (by kernel_rfl) (by kernel_rfl) (fun _ _ _ h => h) (Or.inl ⟨by rfl, fun wh hSw => ?_⟩) hHeld ?_
        · (go_simp)
        try simp only [Act.put, List.setIfInBounds_toArray, List.set_cons_zero, List.set_cons_succ]
        refine wpAnyH_take (i := 10) (oi := { dst := some 4, op := .assign (.tmp 28), type := _, pos := _, after := _, guard := none }) (v := .bool true) rfl (by kernel_rfl) (by kernel_rfl) (by kernel_rfl) (fun _ _ _ h => h) (Or.inl ⟨by rfl, fun wh hSw => ?_⟩) hHeld ?_
        · (go_simp)
        try simp only [Act.put, List.setIfInBounds_toArray, List.set_cons_zero, List.set_cons_succ]
        refine wpAnyH_done (by kernel_rfl) ?_ _
        go_wp2_with fail
        go_ret
        exact ⟨by simp, HBE.out.drew⟩
    · rw [if_pos (by rfl)]
      refine wp_alloc_mid 130 rfl zr.toArray ZR.out ?_
      refine hK.out _ _ ?_ (fun hHeld => ?_)
      · exact FS.out _ (HBA.out.alloc HBA.out.size _)
      clear hK K
      try simp only [Act.put, List.setIfInBounds_toArray, List.set_cons_zero, List.set_cons_succ]
      refine anyH_gen _ (fun Q8 hW => ?_)
      have HB8 : Hid (Below W.heap.size W Q8) := Lib.hid (by rw [hW]; exact HBA.out.alloc HBA.out.size _)
      have HT8 : Hid (Q8.there QA.heap.size 0 39) := Lib.hid (by rw [hW]; exact there_row (heap_alloc_new QA _) (by rw [List.size_toArray, ZRS.out]; omega))
      have HL8 : Hid (QA.heap.size < Q8.heap.size) := Lib.hid (by rw [hW]; simp)
      have HO8 : Hid (W.heap.size ≤ QA.heap.size) := Lib.hid HBA.out.size
      rw [← hW] at hHeld
      clear hW
      refine wpAnyH_ready (rs := [7]) (by kernel_rfl) (by simp) ?_
      refine AllReadyH.cons (o := { dst := some 15, op := .buildSlice 35 1 #[(0, .const (.string { data := #[] }))], type := _, pos := _, after := _, guard := none }) rfl (fun K hK => ?_) AllReadyH.nil
      go_simp
      refine hK.out _ _ ?_ (fun hHeld => ?_)
      · exact FS.out _ (HB8.out.alloc HB8.out.size _)
      clear hK K
      try simp only [Act.put, List.setIfInBounds_toArray, List.set_cons_zero, List.set_cons_succ]
      refine anyH_gen _ (fun Q9 hW => ?_)
      have HB9 : Hid (Below W.heap.size W Q9) := Lib.hid (by rw [hW]; exact HB8.out.alloc HB8.out.size _)
      have HL9 : Hid (Q8.heap.size < Q9.heap.size) := Lib.hid (by rw [hW]; simp)
      have HT9 : Hid (Q9.there QA.heap.size 0 39) := Lib.hid (there_blocks HT8.out (by rw [hW]; exact ((Below.refl Q8.heap.size Q8).alloc (Nat.le_refl _) _).block _ HL8.out))
      have HM9 : Hid (QA.heap.size < Q9.heap.size) := Lib.hid (Nat.lt_trans HL8.out HL9.out)
      have HV9 : Hid (Strs Q9 (.slice (some ⟨Q8.heap.size, 0, none⟩) 1 1) [[]]) := Lib.hid (by rw [hW]; exact strs_mt Q8 _)
      rw [← hW] at hHeld
      clear hW
      refine wpAnyH_ready (rs := [8]) (by kernel_rfl) (by simp) ?_
      refine AllReadyH.cons (o := { dst := some 16, op := .call { callee := .value (.func 77), args := #[.tmp 8, .tmp 9, .tmp 14, .tmp 15], argTypes := #[126, 3, 3, 35] }, type := _, pos := _, after := _, guard := none }) rfl (fun K hK => ?_) AllReadyH.nil
      go_simp
      refine (HRU.out Q9 _ HV9.out).mono ?_
      rintro _ Q10 ⟨CC, rfl, hcl, hco, hcr, hb⟩
      have HB10 : Hid (Below W.heap.size W Q10) := Lib.hid (HB9.out.trans (hb.mono HB9.out.size))
      have HCL := Lib.hid hcl
      have HCZ : Hid (CC.toArray.size = 39) := Lib.hid (by rw [List.size_toArray, hcl])
      have HCO := Lib.hid hco
      have HT10 : Hid (Q10.there QA.heap.size 0 39) := Lib.hid (there_blocks HT9.out (hb.block _ HM9.out))
      have HM10 : Hid (QA.heap.size < Q10.heap.size) := Lib.hid (Nat.lt_of_lt_of_le HM9.out hb.size)
      clear hb hcl hco hcr
      try go_simp
      refine hK.out _ _ ?_ (fun hHeld => ?_)
      · exact FS.out _ HB10.out
      clear hK K
      try simp only [Act.put, List.setIfInBounds_toArray, List.set_cons_zero, List.set_cons_succ]
      refine wpAnyH_take (i := 9) (oi := { dst := some 7, op := .move (.tmp 16), type := _, pos := _, after := _, guard := none }) (v := .tuple #[.agg CC.toArray, .bool false]) rfl (by kernel_rfl) (by kernel_rfl) (by kernel_rfl) (fun _ _ _ h => h) (Or.inl ⟨by rfl, fun wh hSw => ?_⟩) hHeld ?_
      · (obtain ⟨s0, s1⟩ := hSw; go_simp)
      try simp only [Act.put, List.setIfInBounds_toArray, List.set_cons_zero, List.set_cons_succ]
      refine wpAnyH_take (i := 10) (oi := { dst := some 17, op := .extract (.tmp 7) 0, type := _, pos := _, after := _, guard := none }) (v := .agg CC.toArray) rfl (by kernel_rfl) (by kernel_rfl) (by kernel_rfl) (fun _ _ _ h => h) (Or.inl ⟨by rfl, fun wh hSw => ?_⟩) hHeld ?_
      · (obtain ⟨s0, s1⟩ := hSw; go_simp)
      try simp only [Act.put, List.setIfInBounds_toArray, List.set_cons_zero, List.set_cons_succ]
      refine wpAnyH_take (i := 11) (oi := { dst := some 18, op := .extract (.tmp 7) 1, type := _, pos := _, after := _, guard := none }) (v := .bool false) rfl (by kernel_rfl) (by kernel_rfl) (by kernel_rfl) (fun _ _ _ h => h) (Or.inl ⟨by rfl, fun wh hSw => ?_⟩) hHeld ?_
      · (obtain ⟨s0, s1⟩ := hSw; go_simp)
      try simp only [Act.put, List.setIfInBounds_toArray, List.set_cons_zero, List.set_cons_succ]
      refine wpAnyH_ready (rs := [13]) (by kernel_rfl) (by simp) ?_
      refine AllReadyH.cons (o := { dst := none, op := .store 130 (.tmp 5) (.tmp 17), type := _, pos := _, after := _, guard := none }) rfl (fun K hK => ?_) AllReadyH.nil
      rw [if_pos (by rfl)]
      refine wp_store_mid 130 (.tmp 5) (.tmp 17) rfl QA.heap.size 0 CC.toArray rfl rfl (by rw [HCZ.out]; exact HT10.out) (info_rule HCZ.out) HCO.out ?_
      rw [show CC.toArray.toList = CC from rfl]
      refine hK.out _ _ ?_ (fun hHeld => ?_)
      · exact FS.out _ (Below.setCells (Below.refl W.heap.size W) _ HO8.out _ _ _ HB10.out)
      clear hK K
      try simp only [Act.put, List.setIfInBounds_toArray, List.set_cons_zero, List.set_cons_succ]
      refine anyH_gen _ (fun Q11 hW => ?_)
      have HB11 : Hid (Below W.heap.size W Q11) := Lib.hid (by rw [hW]; exact (Below.setCells (Below.refl W.heap.size W) _ HO8.out _ _ _ HB10.out))
      have HR11 : Hid (Q11.rangeAt (QA.heap.size) 0 CC) := Lib.hid (by rw [hW]; exact World.rangeAt_setCells_same _ _ _ _ (by rw [HCL.out]; exact HT10.out))
      have HM11 : Hid (QA.heap.size < Q11.heap.size) := Lib.hid (by rw [hW, size_setCells]; exact HM10.out)
      rw [← hW] at hHeld
      clear hW
      refine wpAnyH_take (i := 14) (oi := { dst := some 6, op := .assign (.tmp 18), type := _, pos := _, after := _, guard := none }) (v := .bool false) rfl (by kernel_rfl) (by kernel_rfl) (by kernel_rfl) (fun _ _ _ h => h) (Or.inl ⟨by rfl, fun wh hSw => ?_⟩) hHeld ?_
      · (obtain ⟨s0, s1⟩ := hSw; go_simp)
      try simp only [Act.put, List.setIfInBounds_toArray, List.set_cons_zero, List.set_cons_succ]
      refine wpAnyH_done (by kernel_rfl) ?_ _
      have HRE := Lib.hid HR11.out
      have HBE := Lib.hid HB11.out
      have HLE := Lib.hid HM11.out
      have HHE := Lib.hid hHeld
      go_wp2_with fail
      refine wp_region_held_drew (S := fun w' => w'.rangeAt (QA.heap.size) 0 CC ∧ w'.rangeAt X (f * 4) RW) (by kernel_rfl) (FT.out _ _ _ HBE.out.drew (range_blocks HRE.out rfl)) (fun hHeld => ?_)
      refine wpAnyH_take (i := 0) (oi := { dst := some 19, op := .move (.tmp 6), type := _, pos := _, after := _, guard := none }) (v := .bool false) rfl (by kernel_rfl) (by kernel_rfl) (by kernel_rfl) (fun _ _ _ h => h) (Or.inl ⟨by rfl, fun wh hSw => ?_⟩) hHeld ?_
      · (go_simp)
      try simp only [Act.put, List.setIfInBounds_toArray, List.set_cons_zero, List.set_cons_succ]
      refine wpAnyH_take (i := 1) (oi := { dst := some 20, op := .unOp .not 4 (.tmp 19), type := _, pos := _, after := _, guard := none }) (v := .bool true) rfl (by kernel_rfl) (by kernel_rfl) (by kernel_rfl) (fun _ _ _ h => h) (Or.inl ⟨by rfl, fun wh hSw => ?_⟩) hHeld ?_
      · (go_simp)
      try simp only [Act.put, List.setIfInBounds_toArray, List.set_cons_zero, List.set_cons_succ]
      refine wpAnyH_take (i := 2) (oi := { dst := some 21, op := .move (.tmp 20), type := _, pos := _, after := _, guard := none }) (v := .bool true) rfl (by kernel_rfl) (by kernel_rfl) (by kernel_rfl) (fun _ _ _ h => h) (Or.inl ⟨by rfl, fun wh hSw => ?_⟩) hHeld ?_
      · (go_simp)
      try simp only [Act.put, List.setIfInBounds_toArray, List.set_cons_zero, List.set_cons_succ]
      refine wpAnyH_take (i := 3) (oi := { dst := some 22, op := .load 130 (.tmp 5), type := _, pos := _, after := _, guard := some (2, false) }) (v := undef) rfl (by kernel_rfl) (by kernel_rfl) (by kernel_rfl) (fun _ _ _ h => h) (Or.inr ⟨by rfl, rfl⟩) hHeld ?_
      try simp only [Act.put, List.setIfInBounds_toArray, List.set_cons_zero, List.set_cons_succ]
      refine wpAnyH_take (i := 4) (oi := { dst := some 23, op := .move (.tmp 0), type := _, pos := _, after := _, guard := some (2, false) }) (v := undef) rfl (by kernel_rfl) (by kernel_rfl) (by kernel_rfl) (fun _ _ _ h => h) (Or.inr ⟨by rfl, rfl⟩) hHeld ?_
      try simp only [Act.put, List.setIfInBounds_toArray, List.set_cons_zero, List.set_cons_succ]
      refine wpAnyH_take (i := 5) (oi := { dst := some 24, op := .fieldAddr 101 (.tmp 2) 0, type := _, pos := _, after := _, guard := some (2, false) }) (v := undef) rfl (by kernel_rfl) (by kernel_rfl) (by kernel_rfl) (fun _ _ _ h => h) (Or.inr ⟨by rfl, rfl⟩) hHeld ?_
      try simp only [Act.put, List.setIfInBounds_toArray, List.set_cons_zero, List.set_cons_succ]
      refine wpAnyH_take (i := 6) (oi := { dst := some 25, op := .indexAddr 94 (.tmp 24) (.tmp 23), type := _, pos := _, after := _, guard := some (2, false) }) (v := undef) rfl (by kernel_rfl) (by kernel_rfl) (by kernel_rfl) (fun _ _ _ h => h) (Or.inr ⟨by rfl, rfl⟩) hHeld ?_
      try simp only [Act.put, List.setIfInBounds_toArray, List.set_cons_zero, List.set_cons_succ]
      refine wpAnyH_take (i := 7) (oi := { dst := some 26, op := .load 92 (.tmp 25), type := _, pos := _, after := _, guard := some (2, false) }) (v := undef) rfl (by kernel_rfl) (by kernel_rfl) (by kernel_rfl) (fun _ _ _ h => h) (Or.inr ⟨by rfl, rfl⟩) hHeld ?_
      try simp only [Act.put, List.setIfInBounds_toArray, List.set_cons_zero, List.set_cons_succ]
      refine wpAnyH_take (i := 8) (oi := { dst := some 27, op := .call { callee := .value (.func 78), args := #[.tmp 22, .tmp 26], argTypes := #[130, 92] }, type := _, pos := _, after := _, guard := some (2, false) }) (v := undef) rfl (by kernel_rfl) (by kernel_rfl) (by kernel_rfl) (fun _ _ _ h => h) (Or.inr ⟨by rfl, rfl⟩) hHeld ?_
      try simp only [Act.put, List.setIfInBounds_toArray, List.set_cons_zero, List.set_cons_succ]
      refine wpAnyH_take (i := 9) (oi := { dst := some 28, op := .pick (.tmp 21) (.const (.bool true)) (.tmp 27), type := _, pos := _, after := _, guard := none }) (v := .bool true) rfl (by kernel_rfl) (by kernel_rfl) (by kernel_rfl) (fun _ _ _ h => h) (Or.inl ⟨by rfl, fun wh hSw => ?_⟩) hHeld ?_
      · (go_simp)
      try simp only [Act.put, List.setIfInBounds_toArray, List.set_cons_zero, List.set_cons_succ]
      refine wpAnyH_take (i := 10) (oi := { dst := some 4, op := .assign (.tmp 28), type := _, pos := _, after := _, guard := none }) (v := .bool true) rfl (by kernel_rfl) (by kernel_rfl) (by kernel_rfl) (fun _ _ _ h => h) (Or.inl ⟨by rfl, fun wh hSw => ?_⟩) hHeld ?_
      · (go_simp)
      try simp only [Act.put, List.setIfInBounds_toArray, List.set_cons_zero, List.set_cons_succ]
      refine wpAnyH_done (by kernel_rfl) ?_ _
      go_wp2_with fail
      go_ret
      exact ⟨by simp, HBE.out.drew⟩
  | true =>
    go_enter Tryz.func175, Tryz.ntmps175
    go_wp2_with fail
    refine wp_region_held_drew (S := fun w' => w'.rangeAt N 0 T ∧ w'.cell? ⟨X, 48 + f * 3, none⟩ = some (.int .i64 kd)) (by kernel_rfl) (FS.out _ (Below.refl _ _).drew) (fun hHeld => ?_)
    refine anyH_gen _ (fun QA hgen => ?_)
    have HBA := Lib.hid (by rw [hgen]; exact (Below.refl W.heap.size W).drew : Below W.heap.size W QA)
    rw [← hgen] at hHeld
    clear hgen
    refine wpAnyH_take (i := 0) (oi := { dst := some 8, op := .load 126 (.tmp 1), type := _, pos := _, after := _, guard := none }) (v := .agg T.toArray) rfl (by kernel_rfl) (by kernel_rfl) (by kernel_rfl) (fun _ _ _ h => h) (Or.inl ⟨by rfl, fun wh hSw => ?_⟩) hHeld ?_
    · (simp only [execOp]; exact HLT.out _ hSw.1)
    try simp only [Act.put, List.setIfInBounds_toArray, List.set_cons_zero, List.set_cons_succ]
    refine wpAnyH_take (i := 1) (oi := { dst := some 9, op := .move (.tmp 0), type := _, pos := _, after := _, guard := none }) (v := .int .i64 (f : Int)) rfl (by kernel_rfl) (by kernel_rfl) (by kernel_rfl) (fun _ _ _ h => h) (Or.inl ⟨by rfl, fun wh hSw => ?_⟩) hHeld ?_
    · (obtain ⟨s0, s1⟩ := hSw; go_simp)
    try simp only [Act.put, List.setIfInBounds_toArray, List.set_cons_zero, List.set_cons_succ]
    refine wpAnyH_take (i := 2) (oi := { dst := some 10, op := .move (.tmp 0), type := _, pos := _, after := _, guard := none }) (v := .int .i64 (f : Int)) rfl (by kernel_rfl) (by kernel_rfl) (by kernel_rfl) (fun _ _ _ h => h) (Or.inl ⟨by rfl, fun wh hSw => ?_⟩) hHeld ?_
    · (obtain ⟨s0, s1⟩ := hSw; go_simp)
    try simp only [Act.put, List.setIfInBounds_toArray, List.set_cons_zero, List.set_cons_succ]
    refine wpAnyH_take (i := 3) (oi := { dst := some 11, op := .fieldAddr 101 (.tmp 2) 1, type := _, pos := _, after := _, guard := none }) (v := .pointer (some ⟨X, 48, none⟩)) rfl (by kernel_rfl) (by kernel_rfl) (by kernel_rfl) (fun _ _ _ h => h) (Or.inl ⟨by rfl, fun wh hSw => ?_⟩) hHeld ?_
    · (obtain ⟨s0, s1⟩ := hSw; go_simp)
    try simp only [Act.put, List.setIfInBounds_toArray, List.set_cons_zero, List.set_cons_succ]
    refine wpAnyH_take (i := 4) (oi := { dst := some 12, op := .indexAddr 96 (.tmp 11) (.tmp 10), type := _, pos := _, after := _, guard := none }) (v := .pointer (some ⟨X, 48 + f * 3, none⟩)) rfl (by kernel_rfl) (by kernel_rfl) (by kernel_rfl) (fun _ _ _ h => h) (Or.inl ⟨by rfl, fun wh hSw => ?_⟩) hHeld ?_
    · (obtain ⟨s0, s1⟩ := hSw; go_simp)
    try simp only [Act.put, List.setIfInBounds_toArray, List.set_cons_zero, List.set_cons_succ]
    refine wpAnyH_take (i := 5) (oi := { dst := some 13, op := .fieldAddr 46 (.tmp 12) 0, type := _, pos := _, after := _, guard := none }) (v := .pointer (some ⟨X, 48 + f * 3, none⟩)) rfl (by kernel_rfl) (by kernel_rfl) (by kernel_rfl) (fun _ _ _ h => h) (Or.inl ⟨by rfl, fun wh hSw => ?_⟩) hHeld ?_
    · (obtain ⟨s0, s1⟩ := hSw; go_simp)
    try simp only [Act.put, List.setIfInBounds_toArray, List.set_cons_zero, List.set_cons_succ]
    refine wpAnyH_take (i := 6) (oi := { dst := some 14, op := .load 3 (.tmp 13), type := _, pos := _, after := _, guard := none }) (v := .int .i64 kd) rfl (by kernel_rfl) (by kernel_rfl) (by kernel_rfl) (fun _ _ _ h => h) (Or.inl ⟨by rfl, fun wh hSw => ?_⟩) hHeld ?_
    · (obtain ⟨s0, s1⟩ := hSw; go_simp)
    try simp only [Act.put, List.setIfInBounds_toArray, List.set_cons_zero, List.set_cons_succ]
    refine wpAnyH_ready (rs := [7, 12]) (by kernel_rfl) (by simp) ?_
    refine AllReadyH.cons (o := { dst := some 15, op := .buildSlice 35 1 #[(0, .const (.string { data := #[] }))], type := _, pos := _, after := _, guard := none }) rfl (fun K hK => ?_) (AllReadyH.cons (o := { dst := some 5, op := .alloc 130, type := _, pos := _, after := _, guard := none }) rfl (fun K hK => ?_) AllReadyH.nil)
    · go_simp
      refine hK.out _ _ ?_ (fun hHeld => ?_)
      · exact FS.out _ (HBA.out.alloc HBA.out.size _)
      clear hK K
      try simp only [Act.put, List.setIfInBounds_toArray, List.set_cons_zero, List.set_cons_succ]
      refine anyH_gen _ (fun Q1 hW => ?_)
      have HB1 : Hid (Below W.heap.size W Q1) := Lib.hid (by rw [hW]; exact HBA.out.alloc HBA.out.size _)
      have HL1 : Hid (QA.heap.size < Q1.heap.size) := Lib.hid (by rw [hW]; simp)
      have HV1 : Hid (Strs Q1 (.slice (some ⟨QA.heap.size, 0, none⟩) 1 1) [[]]) := Lib.hid (by rw [hW]; exact strs_mt QA _)
      rw [← hW] at hHeld
      clear hW
      refine wpAnyH_ready (rs := [8, 12]) (by kernel_rfl) (by simp) ?_
      refine AllReadyH.cons (o := { dst := some 16, op := .call { callee := .value (.func 77), args := #[.tmp 8, .tmp 9, .tmp 14, .tmp 15], argTypes := #[126, 3, 3, 35] }, type := _, pos := _, after := _, guard := none }) rfl (fun K hK => ?_) (AllReadyH.cons (o := { dst := some 5, op := .alloc 130, type := _, pos := _, after := _, guard := none }) rfl (fun K hK => ?_) AllReadyH.nil)
      · go_simp
        refine (HRU.out Q1 _ HV1.out).mono ?_
        rintro _ Q2 ⟨CC, rfl, hcl, hco, hcr, hb⟩
        have HB2 : Hid (Below W.heap.size W Q2) := Lib.hid (HB1.out.trans (hb.mono HB1.out.size))
        have HCL := Lib.hid hcl
        have HCZ : Hid (CC.toArray.size = 39) := Lib.hid (by rw [List.size_toArray, hcl])
        have HCO := Lib.hid hco
        obtain ⟨bm, hce, hcs⟩ := hcr (by trivial)
        have HCE := Lib.hid hce
        have HS2 := Lib.hid hcs
        clear hce hcs
        clear hb hcl hco hcr
        try go_simp
        refine hK.out _ _ ?_ (fun hHeld => ?_)
        · exact FS.out _ HB2.out
        clear hK K
        try simp only [Act.put, List.setIfInBounds_toArray, List.set_cons_zero, List.set_cons_succ]
        refine wpAnyH_take (i := 9) (oi := { dst := some 7, op := .move (.tmp 16), type := _, pos := _, after := _, guard := none }) (v := .tuple #[.agg CC.toArray, .bool true]) rfl (by kernel_rfl) (by kernel_rfl) (by kernel_rfl) (fun _ _ _ h => h) (Or.inl ⟨by rfl, fun wh hSw => ?_⟩) hHeld ?_
        · (obtain ⟨s0, s1⟩ := hSw; go_simp)
        try simp only [Act.put, List.setIfInBounds_toArray, List.set_cons_zero, List.set_cons_succ]
        refine wpAnyH_take (i := 10) (oi := { dst := some 17, op := .extract (.tmp 7) 0, type := _, pos := _, after := _, guard := none }) (v := .agg CC.toArray) rfl (by kernel_rfl) (by kernel_rfl) (by kernel_rfl) (fun _ _ _ h => h) (Or.inl ⟨by rfl, fun wh hSw => ?_⟩) hHeld ?_
        · (obtain ⟨s0, s1⟩ := hSw; go_simp)
        try simp only [Act.put, List.setIfInBounds_toArray, List.set_cons_zero, List.set_cons_succ]
        refine wpAnyH_take (i := 11) (oi := { dst := some 18, op := .extract (.tmp 7) 1, type := _, pos := _, after := _, guard := none }) (v := .bool true) rfl (by kernel_rfl) (by kernel_rfl) (by kernel_rfl) (fun _ _ _ h => h) (Or.inl ⟨by rfl, fun wh hSw => ?_⟩) hHeld ?_
        · (obtain ⟨s0, s1⟩ := hSw; go_simp)
        try simp only [Act.put, List.setIfInBounds_toArray, List.set_cons_zero, List.set_cons_succ]
        refine wpAnyH_ready (rs := [12]) (by kernel_rfl) (by simp) ?_
        refine AllReadyH.cons (o := { dst := some 5, op := .alloc 130, type := _, pos := _, after := _, guard := none }) rfl (fun K hK => ?_) AllReadyH.nil
        rw [if_pos (by rfl)]
        refine wp_alloc_mid 130 rfl zr.toArray ZR.out ?_
        refine hK.out _ _ ?_ (fun hHeld => ?_)
        · exact FS.out _ (HB2.out.alloc HB2.out.size _)
        clear hK K
        try simp only [Act.put, List.setIfInBounds_toArray, List.set_cons_zero, List.set_cons_succ]
        refine anyH_gen _ (fun Q3 hW => ?_)
        have HB3 : Hid (Below W.heap.size W Q3) := Lib.hid (by rw [hW]; exact HB2.out.alloc HB2.out.size _)
        have HT3 : Hid (Q3.there Q2.heap.size 0 39) := Lib.hid (by rw [hW]; exact there_row (heap_alloc_new Q2 _) (by rw [List.size_toArray, ZRS.out]; omega))
        have HL3 : Hid (Q2.heap.size < Q3.heap.size) := Lib.hid (by rw [hW]; simp)
        have HO3 : Hid (W.heap.size ≤ Q2.heap.size) := Lib.hid HB2.out.size
        have HS3 : Hid (SetAt Q3 bm [[]]) := Lib.hid (by rw [hW]; exact HS2.out.below ((Below.refl Q2.heap.size Q2).alloc (Nat.le_refl _) _))
        rw [← hW] at hHeld
        clear hW
        refine wpAnyH_ready (rs := [13]) (by kernel_rfl) (by simp) ?_
        refine AllReadyH.cons (o := { dst := none, op := .store 130 (.tmp 5) (.tmp 17), type := _, pos := _, after := _, guard := none }) rfl (fun K hK => ?_) AllReadyH.nil
        rw [if_pos (by rfl)]
        refine wp_store_mid 130 (.tmp 5) (.tmp 17) rfl Q2.heap.size 0 CC.toArray rfl rfl (by rw [HCZ.out]; exact HT3.out) (info_rule HCZ.out) HCO.out ?_
        rw [show CC.toArray.toList = CC from rfl]
        refine hK.out _ _ ?_ (fun hHeld => ?_)
        · exact FS.out _ (Below.setCells (Below.refl W.heap.size W) _ HO3.out _ _ _ HB3.out)
        clear hK K
        try simp only [Act.put, List.setIfInBounds_toArray, List.set_cons_zero, List.set_cons_succ]
        refine anyH_gen _ (fun Q4 hW => ?_)
        have HB4 : Hid (Below W.heap.size W Q4) := Lib.hid (by rw [hW]; exact (Below.setCells (Below.refl W.heap.size W) _ HO3.out _ _ _ HB3.out))
        have HR4 : Hid (Q4.rangeAt (Q2.heap.size) 0 CC) := Lib.hid (by rw [hW]; exact World.rangeAt_setCells_same _ _ _ _ (by rw [HCL.out]; exact HT3.out))
        have HM4 : Hid (Q2.heap.size < Q4.heap.size) := Lib.hid (by rw [hW, size_setCells]; exact HL3.out)
        have HS4 : Hid (SetAt Q4 bm [[]]) := Lib.hid (by rw [hW]; exact HS3.out.stored (HS3.out.ne_there HT3.out (by omega)) _)
        rw [← hW] at hHeld
        clear hW
        refine wpAnyH_take (i := 14) (oi := { dst := some 6, op := .assign (.tmp 18), type := _, pos := _, after := _, guard := none }) (v := .bool true) rfl (by kernel_rfl) (by kernel_rfl) (by kernel_rfl) (fun _ _ _ h => h) (Or.inl ⟨by rfl, fun wh hSw => ?_⟩) hHeld ?_
        · (obtain ⟨s0, s1⟩ := hSw; go_simp)
        try simp only [Act.put, List.setIfInBounds_toArray, List.set_cons_zero, List.set_cons_succ]
        refine wpAnyH_done (by kernel_rfl) ?_ _
        have HRE := Lib.hid HR4.out
        have HBE := Lib.hid HB4.out
        have HLE := Lib.hid HM4.out
        have HHE := Lib.hid hHeld
        have HSE := Lib.hid HS4.out
        go_wp2_with fail
        have HA := Lib.hid (HAA.out (by trivial) Q4.drew bm (HSE.out.below (Below.refl _ _).drew))
        rw [← HCE.out] at HA
        refine wp_region_held_drew (S := fun w' => w'.rangeAt (Q2.heap.size) 0 CC ∧ w'.rangeAt X (f * 4) RW) (by kernel_rfl) (FT.out _ _ _ HBE.out.drew (range_blocks HRE.out rfl)) (fun hHeld => ?_)
        refine wpAnyH_take (i := 0) (oi := { dst := some 19, op := .move (.tmp 6), type := _, pos := _, after := _, guard := none }) (v := .bool true) rfl (by kernel_rfl) (by kernel_rfl) (by kernel_rfl) (fun _ _ _ h => h) (Or.inl ⟨by rfl, fun wh hSw => ?_⟩) hHeld ?_
        · (go_simp)
        try simp only [Act.put, List.setIfInBounds_toArray, List.set_cons_zero, List.set_cons_succ]
        refine wpAnyH_take (i := 1) (oi := { dst := some 20, op := .unOp .not 4 (.tmp 19), type := _, pos := _, after := _, guard := none }) (v := .bool false) rfl (by kernel_rfl) (by kernel_rfl) (by kernel_rfl) (fun _ _ _ h => h) (Or.inl ⟨by rfl, fun wh hSw => ?_⟩) hHeld ?_
        · (go_simp)
        try simp only [Act.put, List.setIfInBounds_toArray, List.set_cons_zero, List.set_cons_succ]
        refine wpAnyH_take (i := 2) (oi := { dst := some 21, op := .move (.tmp 20), type := _, pos := _, after := _, guard := none }) (v := .bool false) rfl (by kernel_rfl) (by kernel_rfl) (by kernel_rfl) (fun _ _ _ h => h) (Or.inl ⟨by rfl, fun wh hSw => ?_⟩) hHeld ?_
        · (go_simp)
        try simp only [Act.put, List.setIfInBounds_toArray, List.set_cons_zero, List.set_cons_succ]
        refine wpAnyH_take (i := 3) (oi := { dst := some 22, op := .load 130 (.tmp 5), type := _, pos := _, after := _, guard := some (2, false) }) (v := .agg CC.toArray) rfl (by kernel_rfl) (by kernel_rfl) (by kernel_rfl) (fun _ _ _ h => h) (Or.inl ⟨by rfl, fun wh hSw => ?_⟩) hHeld ?_
        · (simp only [execOp]; exact HLR.out _ _ _ HCL.out hSw.1)
        try simp only [Act.put, List.setIfInBounds_toArray, List.set_cons_zero, List.set_cons_succ]
        refine wpAnyH_take (i := 4) (oi := { dst := some 23, op := .move (.tmp 0), type := _, pos := _, after := _, guard := some (2, false) }) (v := .int .i64 (f : Int)) rfl (by kernel_rfl) (by kernel_rfl) (by kernel_rfl) (fun _ _ _ h => h) (Or.inl ⟨by rfl, fun wh hSw => ?_⟩) hHeld ?_
        · (go_simp)
        try simp only [Act.put, List.setIfInBounds_toArray, List.set_cons_zero, List.set_cons_succ]
        refine wpAnyH_take (i := 5) (oi := { dst := some 24, op := .fieldAddr 101 (.tmp 2) 0, type := _, pos := _, after := _, guard := some (2, false) }) (v := .pointer (some ⟨X, 0, none⟩)) rfl (by kernel_rfl) (by kernel_rfl) (by kernel_rfl) (fun _ _ _ h => h) (Or.inl ⟨by rfl, fun wh hSw => ?_⟩) hHeld ?_
        · (go_simp)
        try simp only [Act.put, List.setIfInBounds_toArray, List.set_cons_zero, List.set_cons_succ]
        refine wpAnyH_take (i := 6) (oi := { dst := some 25, op := .indexAddr 94 (.tmp 24) (.tmp 23), type := _, pos := _, after := _, guard := some (2, false) }) (v := .pointer (some ⟨X, f * 4, none⟩)) rfl (by kernel_rfl) (by kernel_rfl) (by kernel_rfl) (fun _ _ _ h => h) (Or.inl ⟨by rfl, fun wh hSw => ?_⟩) hHeld ?_
        · (go_simp)
        try simp only [Act.put, List.setIfInBounds_toArray, List.set_cons_zero, List.set_cons_succ]
        refine wpAnyH_take (i := 7) (oi := { dst := some 26, op := .load 92 (.tmp 25), type := _, pos := _, after := _, guard := some (2, false) }) (v := .agg RW.toArray) rfl (by kernel_rfl) (by kernel_rfl) (by kernel_rfl) (fun _ _ _ h => h) (Or.inl ⟨by rfl, fun wh hSw => ?_⟩) hHeld ?_
        · (simp only [execOp]; exact HLW.out _ hSw.2)
        try simp only [Act.put, List.setIfInBounds_toArray, List.set_cons_zero, List.set_cons_succ]
        refine wpAnyH_ready (rs := [8]) (by kernel_rfl) (by simp) ?_
        refine AllReadyH.cons (o := { dst := some 27, op := .call { callee := .value (.func 78), args := #[.tmp 22, .tmp 26], argTypes := #[130, 92] }, type := _, pos := _, after := _, guard := some (2, false) }) rfl (fun K hK => ?_) AllReadyH.nil
        go_simp
        refine HA.out.mono ?_
        rintro _ wz ⟨rfl, hbz⟩
        have HBZ : Hid (Below Q4.heap.size Q4 wz) := Lib.hid ((Below.refl Q4.heap.size Q4).drew.trans (hbz.mono (Nat.le_refl _)))
        have HBF := Lib.hid (HBE.out.trans (HBZ.out.mono HBE.out.size))
        clear hbz
        try go_simp
        refine hK.out _ _ ?_ (fun hHeld => ?_)
        · exact FT.out _ _ _ HBF.out (range_blocks HRE.out (HBZ.out.block _ HLE.out))
        clear hK K
        try simp only [Act.put, List.setIfInBounds_toArray, List.set_cons_zero, List.set_cons_succ]
        refine wpAnyH_take (i := 9) (oi := { dst := some 28, op := .pick (.tmp 21) (.const (.bool true)) (.tmp 27), type := _, pos := _, after := _, guard := none }) (v := .bool tg) rfl (by kernel_rfl) (by kernel_rfl) (by kernel_rfl) (fun _ _ _ h => h) (Or.inl ⟨by rfl, fun wh hSw => ?_⟩) hHeld ?_
        · (go_simp)
        try simp only [Act.put, List.setIfInBounds_toArray, List.set_cons_zero, List.set_cons_succ]
        refine wpAnyH_take (i := 10) (oi := { dst := some 4, op := .assign (.tmp 28), type := _, pos := _, after := _, guard := none }) (v := .bool tg) rfl (by kernel_rfl) (by kernel_rfl) (by kernel_rfl) (fun _ _ _ h => h) (Or.inl ⟨by rfl, fun wh hSw => ?_⟩) hHeld ?_
        · (go_simp)
        try simp only [Act.put, List.setIfInBounds_toArray, List.set_cons_zero, List.set_cons_succ]
        refine wpAnyH_done (by kernel_rfl) ?_ _
        go_wp2_with fail
        go_ret
        exact ⟨by simp, HBF.out⟩
      · rw [if_pos (by rfl)]
        refine wp_alloc_mid 130 rfl zr.toArray ZR.out ?_
        refine hK.out _ _ ?_ (fun hHeld => ?_)
        · exact FS.out _ (HB1.out.alloc HB1.out.size _)
        clear hK K
        try simp only [Act.put, List.setIfInBounds_toArray, List.set_cons_zero, List.set_cons_succ]
        refine anyH_gen _ (fun Q5 hW => ?_)
        have HB5 : Hid (Below W.heap.size W Q5) := Lib.hid (by rw [hW]; exact HB1.out.alloc HB1.out.size _)
        have HT5 : Hid (Q5.there Q1.heap.size 0 39) := Lib.hid (by rw [hW]; exact there_row (heap_alloc_new Q1 _) (by rw [List.size_toArray, ZRS.out]; omega))
        have HL5 : Hid (Q1.heap.size < Q5.heap.size) := Lib.hid (by rw [hW]; simp)
        have HO5 : Hid (W.heap.size ≤ Q1.heap.size) := Lib.hid HB1.out.size
        have HV5 : Hid (Strs Q5 (.slice (some ⟨QA.heap.size, 0, none⟩) 1 1) [[]]) := Lib.hid (HV1.out.below (by rw [hW]; exact ((Below.refl Q1.heap.size Q1).alloc (Nat.le_refl _) _)))
        rw [← hW] at hHeld
        clear hW
        refine wpAnyH_ready (rs := [8]) (by kernel_rfl) (by simp) ?_
        refine AllReadyH.cons (o := { dst := some 16, op := .call { callee := .value (.func 77), args := #[.tmp 8, .tmp 9, .tmp 14, .tmp 15], argTypes := #[126, 3, 3, 35] }, type := _, pos := _, after := _, guard := none }) rfl (fun K hK => ?_) AllReadyH.nil
        go_simp
        refine (HRU.out Q5 _ HV5.out).mono ?_
        rintro _ Q6 ⟨CC, rfl, hcl, hco, hcr, hb⟩
        have HB6 : Hid (Below W.heap.size W Q6) := Lib.hid (HB5.out.trans (hb.mono HB5.out.size))
        have HCL := Lib.hid hcl
        have HCZ : Hid (CC.toArray.size = 39) := Lib.hid (by rw [List.size_toArray, hcl])
        have HCO := Lib.hid hco
        obtain ⟨bm, hce, hcs⟩ := hcr (by trivial)
        have HCE := Lib.hid hce
        have HS6 := Lib.hid hcs
        clear hce hcs
        have HT6 : Hid (Q6.there Q1.heap.size 0 39) := Lib.hid (there_blocks HT5.out (hb.block _ HL5.out))
        have HM6 : Hid (Q1.heap.size < Q6.heap.size) := Lib.hid (Nat.lt_of_lt_of_le HL5.out hb.size)
        clear hb hcl hco hcr
        try go_simp
        refine hK.out _ _ ?_ (fun hHeld => ?_)
        · exact FS.out _ HB6.out
        clear hK K
        try simp only [Act.put, List.setIfInBounds_toArray, List.set_cons_zero, List.set_cons_succ]
        refine wpAnyH_take (i := 9) (oi := { dst := some 7, op := .move (.tmp 16), type := _, pos := _, after := _, guard := none }) (v := .tuple #[.agg CC.toArray, .bool true]) rfl (by kernel_rfl) (by kernel_rfl) (by kernel_rfl) (fun _ _ _ h => h) (Or.inl ⟨by rfl, fun wh hSw => ?_⟩) hHeld ?_
        · (obtain ⟨s0, s1⟩ := hSw; go_simp)
        try simp only [Act.put, List.setIfInBounds_toArray, List.set_cons_zero, List.set_cons_succ]
        refine wpAnyH_take (i := 10) (oi := { dst := some 17, op := .extract (.tmp 7) 0, type := _, pos := _, after := _, guard := none }) (v := .agg CC.toArray) rfl (by kernel_rfl) (by kernel_rfl) (by kernel_rfl) (fun _ _ _ h => h) (Or.inl ⟨by rfl, fun wh hSw => ?_⟩) hHeld ?_
        · (obtain ⟨s0, s1⟩ := hSw; go_simp)
        try simp only [Act.put, List.setIfInBounds_toArray, List.set_cons_zero, List.set_cons_succ]
        refine wpAnyH_take (i := 11) (oi := { dst := some 18, op := .extract (.tmp 7) 1, type := _, pos := _, after := _, guard := none }) (v := .bool true) rfl (by kernel_rfl) (by kernel_rfl) (by kernel_rfl) (fun _ _ _ h => h) (Or.inl ⟨by rfl, fun wh hSw => ?_⟩) hHeld ?_
        · (obtain ⟨s0, s1⟩ := hSw; go_simp)
        try simp only [Act.put, List.setIfInBounds_toArray, List.set_cons_zero, List.set_cons_succ]
        refine wpAnyH_ready (rs := [13]) (by kernel_rfl) (by simp) ?_
        refine AllReadyH.cons (o := { dst := none, op := .store 130 (.tmp 5) (.tmp 17), type := _, pos := _, after := _, guard := none }) rfl (fun K hK => ?_) AllReadyH.nil
        rw [if_pos (by rfl)]
        refine wp_store_mid 130 (.tmp 5) (.tmp 17) rfl Q1.heap.size 0 CC.toArray rfl rfl (by rw [HCZ.out]; exact HT6.out) (info_rule HCZ.out) HCO.out ?_
        rw [show CC.toArray.toList = CC from rfl]
        refine hK.out _ _ ?_ (fun hHeld => ?_)
        · exact FS.out _ (Below.setCells (Below.refl W.heap.size W) _ HO5.out _ _ _ HB6.out)
        clear hK K
        try simp only [Act.put, List.setIfInBounds_toArray, List.set_cons_zero, List.set_cons_succ]
        refine anyH_gen _ (fun Q7 hW => ?_)
        have HB7 : Hid (Below W.heap.size W Q7) := Lib.hid (by rw [hW]; exact (Below.setCells (Below.refl W.heap.size W) _ HO5.out _ _ _ HB6.out))
        have HR7 : Hid (Q7.rangeAt (Q1.heap.size) 0 CC) := Lib.hid (by rw [hW]; exact World.rangeAt_setCells_same _ _ _ _ (by rw [HCL.out]; exact HT6.out))
        have HM7 : Hid (Q1.heap.size < Q7.heap.size) := Lib.hid (by rw [hW, size_setCells]; exact HM6.out)
        have HS7 : Hid (SetAt Q7 bm [[]]) := Lib.hid (by rw [hW]; exact HS6.out.stored (HS6.out.ne_there HT6.out (by omega)) _)
        rw [← hW] at hHeld
        clear hW
        refine wpAnyH_take (i := 14) (oi := { dst := some 6, op := .assign (.tmp 18), type := _, pos := _, after := _, guard := none }) (v := .bool true) rfl (by kernel_rfl) (by kernel_rfl) (by kernel_rfl) (fun _ _ _ h => h) (Or.inl ⟨by rfl, fun wh hSw => ?_⟩) hHeld ?_
        · (obtain ⟨s0, s1⟩ := hSw; go_simp)
        try simp only [Act.put, List.setIfInBounds_toArray, List.set_cons_zero, List.set_cons_succ]
        refine wpAnyH_done (by kernel_rfl) ?_ _
        have HRE := Lib.hid HR7.out
        have HBE := Lib.hid HB7.out
        have HLE := Lib.hid HM7.out
        have HHE := Lib.hid hHeld
        have HSE := Lib.hid HS7.out
        go_wp2_with fail
        have HA := Lib.hid (HAA.out (by trivial) Q7.drew bm (HSE.out.below (Below.refl _ _).drew))
        rw [← HCE.out] at HA
        refine wp_region_held_drew (S := fun w' => w'.rangeAt (Q1.heap.size) 0 CC ∧ w'.rangeAt X (f * 4) RW) (by kernel_rfl) (FT.out _ _ _ HBE.out.drew (range_blocks HRE.out rfl)) (fun hHeld => ?_)
        refine wpAnyH_take (i := 0) (oi := { dst := some 19, op := .move (.tmp 6), type := _, pos := _, after := _, guard := none }) (v := .bool true) rfl (by kernel_rfl) (by kernel_rfl) (by kernel_rfl) (fun _ _ _ h => h) (Or.inl ⟨by rfl, fun wh hSw => ?_⟩) hHeld ?_
        · (go_simp)
        try simp only [Act.put, List.setIfInBounds_toArray, List.set_cons_zero, List.set_cons_succ]
        refine wpAnyH_take (i := 1) (oi := { dst := some 20, op := .unOp .not 4 (.tmp 19), type := _, pos := _, after := _, guard := none }) (v := .bool false) rfl (by kernel_rfl) (by kernel_rfl) (by kernel_rfl) (fun _ _ _ h => h) (Or.inl ⟨by rfl, fun wh hSw => ?_⟩) hHeld ?_
        · (go_simp)
        try simp only [Act.put, List.setIfInBounds_toArray, List.set_cons_zero, List.set_cons_succ]
        refine wpAnyH_take (i := 2) (oi := { dst := some 21, op := .move (.tmp 20), type := _, pos := _, after := _, guard := none }) (v := .bool false) rfl (by kernel_rfl) (by kernel_rfl) (by kernel_rfl) (fun _ _ _ h => h) (Or.inl ⟨by rfl, fun wh hSw => ?_⟩) hHeld ?_
        · (go_simp)
        try simp only [Act.put, List.setIfInBounds_toArray, List.set_cons_zero, List.set_cons_succ]
        refine wpAnyH_take (i := 3) (oi := { dst := some 22, op := .load 130 (.tmp 5), type := _, pos := _, after := _, guard := some (2, false) }) (v := .agg CC.toArray) rfl (by kernel_rfl) (by kernel_rfl) (by kernel_rfl) (fun _ _ _ h => h) (Or.inl ⟨by rfl, fun wh hSw => ?_⟩) hHeld ?_
        · (simp only [execOp]; exact HLR.out _ _ _ HCL.out hSw.1)
        try simp only [Act.put, List.setIfInBounds_toArray, List.set_cons_zero, List.set_cons_succ]
        refine wpAnyH_take (i := 4) (oi := { dst := some 23, op := .move (.tmp 0), type := _, pos := _, after := _, guard := some (2, false) }) (v := .int .i64 (f : Int)) rfl (by kernel_rfl) (by kernel_rfl) (by kernel_rfl) (fun _ _ _ h => h) (Or.inl ⟨by rfl, fun wh hSw => ?_⟩) hHeld ?_
        · (go_simp)
        try simp only [Act.put, List.setIfInBounds_toArray, List.set_cons_zero, List.set_cons_succ]
        refine wpAnyH_take (i := 5) (oi := { dst := some 24, op := .fieldAddr 101 (.tmp 2) 0, type := _, pos := _, after := _, guard := some (2, false) }) (v := .pointer (some ⟨X, 0, none⟩)) rfl (by kernel_rfl) (by kernel_rfl) (by kernel_rfl) (fun _ _ _ h => h) (Or.inl ⟨by rfl, fun wh hSw => ?_⟩) hHeld ?_
        · (go_simp)
        try simp only [Act.put, List.setIfInBounds_toArray, List.set_cons_zero, List.set_cons_succ]
        refine wpAnyH_take (i := 6) (oi := { dst := some 25, op := .indexAddr 94 (.tmp 24) (.tmp 23), type := _, pos := _, after := _, guard := some (2, false) }) (v := .pointer (some ⟨X, f * 4, none⟩)) rfl (by kernel_rfl) (by kernel_rfl) (by kernel_rfl) (fun _ _ _ h => h) (Or.inl ⟨by rfl, fun wh hSw => ?_⟩) hHeld ?_
        · (go_simp)
        try simp only [Act.put, List.setIfInBounds_toArray, List.set_cons_zero, List.set_cons_succ]
        refine wpAnyH_take (i := 7) (oi := { dst := some 26, op := .load 92 (.tmp 25), type := _, pos := _, after := _, guard := some (2, false) }) (v := .agg RW.toArray) rfl (by kernel_rfl) (by kernel_rfl) (by kernel_rfl) (fun _ _ _ h => h) (Or.inl ⟨by rfl, fun wh hSw => ?_⟩) hHeld ?_
        · (simp only [execOp]; exact HLW.out _ hSw.2)
        try simp only [Act.put, List.setIfInBounds_toArray, List.set_cons_zero, List.set_cons_succ]
        refine wpAnyH_ready (rs := [8]) (by kernel_rfl) (by simp) ?_
        refine AllReadyH.cons (o := { dst := some 27, op := .call { callee := .value (.func 78), args := #[.tmp 22, .tmp 26], argTypes := #[130, 92] }, type := _, pos := _, after := _, guard := some (2, false) }) rfl (fun K hK => ?_) AllReadyH.nil
        go_simp
        refine HA.out.mono ?_
        rintro _ wz ⟨rfl, hbz⟩
        have HBZ : Hid (Below Q7.heap.size Q7 wz) := Lib.hid ((Below.refl Q7.heap.size Q7).drew.trans (hbz.mono (Nat.le_refl _)))
        have HBF := Lib.hid (HBE.out.trans (HBZ.out.mono HBE.out.size))
        clear hbz
        try go_simp
        refine hK.out _ _ ?_ (fun hHeld => ?_)
        · exact FT.out _ _ _ HBF.out (range_blocks HRE.out (HBZ.out.block _ HLE.out))
        clear hK K
        try simp only [Act.put, List.setIfInBounds_toArray, List.set_cons_zero, List.set_cons_succ]
        refine wpAnyH_take (i := 9) (oi := { dst := some 28, op := .pick (.tmp 21) (.const (.bool true)) (.tmp 27), type := _, pos := _, after := _, guard := none }) (v := .bool tg) rfl (by kernel_rfl) (by kernel_rfl) (by kernel_rfl) (fun _ _ _ h => h) (Or.inl ⟨by rfl, fun wh hSw => ?_⟩) hHeld ?_
        · (go_simp)
        try simp only [Act.put, List.setIfInBounds_toArray, List.set_cons_zero, List.set_cons_succ]
        refine wpAnyH_take (i := 10) (oi := { dst := some 4, op := .assign (.tmp 28), type := _, pos := _, after := _, guard := none }) (v := .bool tg) rfl (by kernel_rfl) (by kernel_rfl) (by kernel_rfl) (fun _ _ _ h => h) (Or.inl ⟨by rfl, fun wh hSw => ?_⟩) hHeld ?_
        · (go_simp)
        try simp only [Act.put, List.setIfInBounds_toArray, List.set_cons_zero, List.set_cons_succ]
        refine wpAnyH_done (by kernel_rfl) ?_ _
        go_wp2_with fail
        go_ret
        exact ⟨by simp, HBF.out⟩
    · rw [if_pos (by rfl)]
      refine wp_alloc_mid 130 rfl zr.toArray ZR.out ?_
      refine hK.out _ _ ?_ (fun hHeld => ?_)
      · exact FS.out _ (HBA.out.alloc HBA.out.size _)
      clear hK K
      try simp only [Act.put, List.setIfInBounds_toArray, List.set_cons_zero, List.set_cons_succ]
      refine anyH_gen _ (fun Q8 hW => ?_)
      have HB8 : Hid (Below W.heap.size W Q8) := Lib.hid (by rw [hW]; exact HBA.out.alloc HBA.out.size _)
      have HT8 : Hid (Q8.there QA.heap.size 0 39) := Lib.hid (by rw [hW]; exact there_row (heap_alloc_new QA _) (by rw [List.size_toArray, ZRS.out]; omega))
      have HL8 : Hid (QA.heap.size < Q8.heap.size) := Lib.hid (by rw [hW]; simp)
      have HO8 : Hid (W.heap.size ≤ QA.heap.size) := Lib.hid HBA.out.size
      rw [← hW] at hHeld
      clear hW
      refine wpAnyH_ready (rs := [7]) (by kernel_rfl) (by simp) ?_
      refine AllReadyH.cons (o := { dst := some 15, op := .buildSlice 35 1 #[(0, .const (.string { data := #[] }))], type := _, pos := _, after := _, guard := none }) rfl (fun K hK => ?_) AllReadyH.nil
      go_simp
      refine hK.out _ _ ?_ (fun hHeld => ?_)
      · exact FS.out _ (HB8.out.alloc HB8.out.size _)
      clear hK K
      try simp only [Act.put, List.setIfInBounds_toArray, List.set_cons_zero, List.set_cons_succ]
      refine anyH_gen _ (fun Q9 hW => ?_)
      have HB9 : Hid (Below W.heap.size W Q9) := Lib.hid (by rw [hW]; exact HB8.out.alloc HB8.out.size _)
      have HL9 : Hid (Q8.heap.size < Q9.heap.size) := Lib.hid (by rw [hW]; simp)
      have HT9 : Hid (Q9.there QA.heap.size 0 39) := Lib.hid (there_blocks HT8.out (by rw [hW]; exact ((Below.refl Q8.heap.size Q8).alloc (Nat.le_refl _) _).block _ HL8.out))
      have HM9 : Hid (QA.heap.size < Q9.heap.size) := Lib.hid (Nat.lt_trans HL8.out HL9.out)
      have HV9 : Hid (Strs Q9 (.slice (some ⟨Q8.heap.size, 0, none⟩) 1 1) [[]]) := Lib.hid (by rw [hW]; exact strs_mt Q8 _)
      rw [← hW] at hHeld
      clear hW
      refine wpAnyH_ready (rs := [8]) (by kernel_rfl) (by simp) ?_
      refine AllReadyH.cons (o := { dst := some 16, op := .call { callee := .value (.func 77), args := #[.tmp 8, .tmp 9, .tmp 14, .tmp 15], argTypes := #[126, 3, 3, 35] }, type := _, pos := _, after := _, guard := none }) rfl (fun K hK => ?_) AllReadyH.nil
      go_simp
      refine (HRU.out Q9 _ HV9.out).mono ?_
      rintro _ Q10 ⟨CC, rfl, hcl, hco, hcr, hb⟩
      have HB10 : Hid (Below W.heap.size W Q10) := Lib.hid (HB9.out.trans (hb.mono HB9.out.size))
      have HCL := Lib.hid hcl
      have HCZ : Hid (CC.toArray.size = 39) := Lib.hid (by rw [List.size_toArray, hcl])
      have HCO := Lib.hid hco
      obtain ⟨bm, hce, hcs⟩ := hcr (by trivial)
      have HCE := Lib.hid hce
      have HS10 := Lib.hid hcs
      clear hce hcs
      have HT10 : Hid (Q10.there QA.heap.size 0 39) := Lib.hid (there_blocks HT9.out (hb.block _ HM9.out))
      have HM10 : Hid (QA.heap.size < Q10.heap.size) := Lib.hid (Nat.lt_of_lt_of_le HM9.out hb.size)
      clear hb hcl hco hcr
      try go_simp
      refine hK.out _ _ ?_ (fun hHeld => ?_)
      · exact FS.out _ HB10.out
      clear hK K
      try simp only [Act.put, List.setIfInBounds_toArray, List.set_cons_zero, List.set_cons_succ]
      refine wpAnyH_take (i := 9) (oi := { dst := some 7, op := .move (.tmp 16), type := _, pos := _, after := _, guard := none }) (v := .tuple #[.agg CC.toArray, .bool true]) rfl (by kernel_rfl) (by kernel_rfl) (by kernel_rfl) (fun _ _ _ h => h) (Or.inl ⟨by rfl, fun wh hSw => ?_⟩) hHeld ?_
      · (obtain ⟨s0, s1⟩ := hSw; go_simp)
      try simp only [Act.put, List.setIfInBounds_toArray, List.set_cons_zero, List.set_cons_succ]
      refine wpAnyH_take (i := 10) (oi := { dst := some 17, op := .extract (.tmp 7) 0, type := _, pos := _, after := _, guard := none }) (v := .agg CC.toArray) rfl (by kernel_rfl) (by kernel_rfl) (by kernel_rfl) (fun _ _ _ h => h) (Or.inl ⟨by rfl, fun wh hSw => ?_⟩) hHeld ?_
      · (obtain ⟨s0, s1⟩ := hSw; go_simp)
      try simp only [Act.put, List.setIfInBounds_toArray, List.set_cons_zero, List.set_cons_succ]
      refine wpAnyH_take (i := 11) (oi := { dst := some 18, op := .extract (.tmp 7) 1, type := _, pos := _, after := _, guard := none }) (v := .bool true) rfl (by kernel_rfl) (by kernel_rfl) (by kernel_rfl) (fun _ _ _ h => h) (Or.inl ⟨by rfl, fun wh hSw => ?_⟩) hHeld ?_
      · (obtain ⟨s0, s1⟩ := hSw; go_simp)
      try simp only [Act.put, List.setIfInBounds_toArray, List.set_cons_zero, List.set_cons_succ]
      refine wpAnyH_ready (rs := [13]) (by kernel_rfl) (by simp) ?_
      refine AllReadyH.cons (o := { dst := none, op := .store 130 (.tmp 5) (.tmp 17), type := _, pos := _, after := _, guard := none }) rfl (fun K hK => ?_) AllReadyH.nil
      rw [if_pos (by rfl)]
      refine wp_store_mid 130 (.tmp 5) (.tmp 17) rfl QA.heap.size 0 CC.toArray rfl rfl (by rw [HCZ.out]; exact HT10.out) (info_rule HCZ.out) HCO.out ?_
      rw [show CC.toArray.toList = CC from rfl]
      refine hK.out _ _ ?_ (fun hHeld => ?_)
      · exact FS.out _ (Below.setCells (Below.refl W.heap.size W) _ HO8.out _ _ _ HB10.out)
      clear hK K
      try simp only [Act.put, List.setIfInBounds_toArray, List.set_cons_zero, List.set_cons_succ]
      refine anyH_gen _ (fun Q11 hW => ?_)
      have HB11 : Hid (Below W.heap.size W Q11) := Lib.hid (by rw [hW]; exact (Below.setCells (Below.refl W.heap.size W) _ HO8.out _ _ _ HB10.out))
      have HR11 : Hid (Q11.rangeAt (QA.heap.size) 0 CC) := Lib.hid (by rw [hW]; exact World.rangeAt_setCells_same _ _ _ _ (by rw [HCL.out]; exact HT10.out))
      have HM11 : Hid (QA.heap.size < Q11.heap.size) := Lib.hid (by rw [hW, size_setCells]; exact HM10.out)
      have HS11 : Hid (SetAt Q11 bm [[]]) := Lib.hid (by rw [hW]; exact HS10.out.stored (HS10.out.ne_there HT10.out (by omega)) _)
      rw [← hW] at hHeld
      clear hW
      refine wpAnyH_take (i := 14) (oi := { dst := some 6, op := .assign (.tmp 18), type := _, pos := _, after := _, guard := none }) (v := .bool true) rfl (by kernel_rfl) (by kernel_rfl) (by kernel_rfl) (fun _ _ _ h => h) (Or.inl ⟨by rfl, fun wh hSw => ?_⟩) hHeld ?_
      · (obtain ⟨s0, s1⟩ := hSw; go_simp)
      try simp only [Act.put, List.setIfInBounds_toArray, List.set_cons_zero, List.set_cons_succ]
      refine wpAnyH_done (by kernel_rfl) ?_ _
      have HRE := Lib.hid HR11.out
      have HBE := Lib.hid HB11.out
      have HLE := Lib.hid HM11.out
      have HHE := Lib.hid hHeld
      have HSE := Lib.hid HS11.out
      go_wp2_with fail
      have HA := Lib.hid (HAA.out (by trivial) Q11.drew bm (HSE.out.below (Below.refl _ _).drew))
      rw [← HCE.out] at HA
      refine wp_region_held_drew (S := fun w' => w'.rangeAt (QA.heap.size) 0 CC ∧ w'.rangeAt X (f * 4) RW) (by kernel_rfl) (FT.out _ _ _ HBE.out.drew (range_blocks HRE.out rfl)) (fun hHeld => ?_)
      refine wpAnyH_take (i := 0) (oi := { dst := some 19, op := .move (.tmp 6), type := _, pos := _, after := _, guard := none }) (v := .bool true) rfl (by kernel_rfl) (by kernel_rfl) (by kernel_rfl) (fun _ _ _ h => h) (Or.inl ⟨by rfl, fun wh hSw => ?_⟩) hHeld ?_
      · (go_simp)
      try simp only [Act.put, List.setIfInBounds_toArray, List.set_cons_zero, List.set_cons_succ]
      refine wpAnyH_take (i := 1) (oi := { dst := some 20, op := .unOp .not 4 (.tmp 19), type := _, pos := _, after := _, guard := none }) (v := .bool false) rfl (by kernel_rfl) (by kernel_rfl) (by kernel_rfl) (fun _ _ _ h => h) (Or.inl ⟨by rfl, fun wh hSw => ?_⟩) hHeld ?_
      · (go_simp)
      try simp only [Act.put, List.setIfInBounds_toArray, List.set_cons_zero, List.set_cons_succ]
      refine wpAnyH_take (i := 2) (oi := { dst := some 21, op := .move (.tmp 20), type := _, pos := _, after := _, guard := none }) (v := .bool false) rfl (by kernel_rfl) (by kernel_rfl) (by kernel_rfl) (fun _ _ _ h => h) (Or.inl ⟨by rfl, fun wh hSw => ?_⟩) hHeld ?_
      · (go_simp)
      try simp only [Act.put, List.setIfInBounds_toArray, List.set_cons_zero, List.set_cons_succ]
      refine wpAnyH_take (i := 3) (oi := { dst := some 22, op := .load 130 (.tmp 5), type := _, pos := _, after := _, guard := some (2, false) }) (v := .agg CC.toArray) rfl (by kernel_rfl) (by kernel_rfl) (by kernel_rfl) (fun _ _ _ h => h) (Or.inl ⟨by rfl, fun wh hSw => ?_⟩) hHeld ?_
      · (simp only [execOp]; exact HLR.out _ _ _ HCL.out hSw.1)
      try simp only [Act.put, List.setIfInBounds_toArray, List.set_cons_zero, List.set_cons_succ]
      refine wpAnyH_take (i := 4) (oi := { dst := some 23, op := .move (.tmp 0), type := _, pos := _, after := _, guard := some (2, false) }) (v := .int .i64 (f : Int)) rfl (by kernel_rfl) (by kernel_rfl) (by kernel_rfl) (fun _ _ _ h => h) (Or.inl ⟨by rfl, fun wh hSw => ?_⟩) hHeld ?_
      · (go_simp)
      try simp only [Act.put, List.setIfInBounds_toArray, List.set_cons_zero, List.set_cons_succ]
      refine wpAnyH_take (i := 5) (oi := { dst := some 24, op := .fieldAddr 101 (.tmp 2) 0, type := _, pos := _, after := _, guard := some (2, false) }) (v := .pointer (some ⟨X, 0, none⟩)) rfl (by kernel_rfl) (by kernel_rfl) (by kernel_rfl) (fun _ _ _ h => h) (Or.inl ⟨by rfl, fun wh hSw => ?_⟩) hHeld ?_
      · (go_simp)
      try simp only [Act.put, List.setIfInBounds_toArray, List.set_cons_zero, List.set_cons_succ]
      refine wpAnyH_take (i := 6) (oi := { dst := some 25, op := .indexAddr 94 (.tmp 24) (.tmp 23), type := _, pos := _, after := _, guard := some (2, false) }) (v := .pointer (some ⟨X, f * 4, none⟩)) rfl (by kernel_rfl) (by kernel_rfl) (by kernel_rfl) (fun _ _ _ h => h) (Or.inl ⟨by rfl, fun wh hSw => ?_⟩) hHeld ?_
      · (go_simp)
      try simp only [Act.put, List.setIfInBounds_toArray, List.set_cons_zero, List.set_cons_succ]
      refine wpAnyH_take (i := 7) (oi := { dst := some 26, op := .load 92 (.tmp 25), type := _, pos := _, after := _, guard := some (2, false) }) (v := .agg RW.toArray) rfl (by kernel_rfl) (by kernel_rfl) (by kernel_rfl) (fun _ _ _ h => h) (Or.inl ⟨by rfl, fun wh hSw => ?_⟩) hHeld ?_
      · (simp only [execOp]; exact HLW.out _ hSw.2)
      try simp only [Act.put, List.setIfInBounds_toArray, List.set_cons_zero, List.set_cons_succ]
      refine wpAnyH_ready (rs := [8]) (by kernel_rfl) (by simp) ?_
      refine AllReadyH.cons (o := { dst := some 27, op := .call { callee := .value (.func 78), args := #[.tmp 22, .tmp 26], argTypes := #[130, 92] }, type := _, pos := _, after := _, guard := some (2, false) }) rfl (fun K hK => ?_) AllReadyH.nil
      go_simp
      refine HA.out.mono ?_
      rintro _ wz ⟨rfl, hbz⟩
      have HBZ : Hid (Below Q11.heap.size Q11 wz) := Lib.hid ((Below.refl Q11.heap.size Q11).drew.trans (hbz.mono (Nat.le_refl _)))
      have HBF := Lib.hid (HBE.out.trans (HBZ.out.mono HBE.out.size))
      clear hbz
      try go_simp
      refine hK.out _ _ ?_ (fun hHeld => ?_)
      · exact FT.out _ _ _ HBF.out (range_blocks HRE.out (HBZ.out.block _ HLE.out))
      clear hK K
      try simp only [Act.put, List.setIfInBounds_toArray, List.set_cons_zero, List.set_cons_succ]
      refine wpAnyH_take (i := 9) (oi := { dst := some 28, op := .pick (.tmp 21) (.const (.bool true)) (.tmp 27), type := _, pos := _, after := _, guard := none }) (v := .bool tg) rfl (by kernel_rfl) (by kernel_rfl) (by kernel_rfl) (fun _ _ _ h => h) (Or.inl ⟨by rfl, fun wh hSw => ?_⟩) hHeld ?_
      · (go_simp)
      try simp only [Act.put, List.setIfInBounds_toArray, List.set_cons_zero, List.set_cons_succ]
      refine wpAnyH_take (i := 10) (oi := { dst := some 4, op := .assign (.tmp 28), type := _, pos := _, after := _, guard := none }) (v := .bool tg) rfl (by kernel_rfl) (by kernel_rfl) (by kernel_rfl) (fun _ _ _ h => h) (Or.inl ⟨by rfl, fun wh hSw => ?_⟩) hHeld ?_
      · (go_simp)
      try simp only [Act.put, List.setIfInBounds_toArray, List.set_cons_zero, List.set_cons_succ]
      refine wpAnyH_done (by kernel_rfl) ?_ _
      go_wp2_with fail
      go_ret
      exact ⟨by simp, HBF.out⟩
end Go.Proofs.YtcmmlgdfhkcmoaaGreat
namespace Go.Proofs.YtcmmlgdfhkcmoaaGreat
open Go.ChangeShapes Go.WideShapes Go.ChangeAt Go.RowKit Go.Shelf
attribute [local go_sem] Oper.semAt_some
set_option linter.unusedVariables false
set_option maxRecDepth 100000
structure BelX (n : Nat) (r : Option Nat) (w w' : World) : Prop where
  os : w'.os = w.os
  tape : w'.tape = w.tape
  output : w'.output = w.output
  size : w.heap.size ≤ w'.heap.size
  block : ∀ k, k < n → some k ≠ r → w'.heap[k]? = w.heap[k]?
theorem BelX.refl (n : Nat) (r : Option Nat) (w : World) : BelX n r w w := ⟨rfl, rfl, rfl, Nat.le_refl _, fun _ _ _ => rfl⟩
theorem BelX.trans {n : Nat} {r : Option Nat} {a b c : World} (h : BelX n r a b) (k : BelX n r b c) : BelX n r a c :=
  ⟨k.os.trans h.os, k.tape.trans h.tape, k.output.trans h.output, Nat.le_trans h.size k.size, fun i hi hr => (k.block i hi hr).trans (h.block i hi hr)⟩
theorem BelX.of_below {n : Nat} {r : Option Nat} {w w' : World} (h : Below n w w') : BelX n r w w' := ⟨h.os, h.tape, h.output, h.size, fun k hk _ => h.block k hk⟩
theorem BelX.grown {n : Nat} {r row : Option Nat} {w a b : World} (h : BelX n r w a) (hg : a.grownBy b row) (hn : n ≤ a.heap.size) (hr : ∀ k, row = some k → n ≤ k ∨ some k = r) : BelX n r w b :=
  ⟨hg.os.trans h.os, hg.tape.trans h.tape, hg.output.trans h.output, Nat.le_trans h.size hg.size, fun k hk hkr => (hg.block k (by omega) (fun e => by
    rcases hr k e.symm with h1 | h1
    · omega
    · exact hkr h1)).trans (h.block k hk hkr)⟩
theorem belX_t {n : Nat} {r : Option Nat} {A B C : World} (h : BelX n r A B) (k : BelX n r B C) : BelX n r A C := h.trans k
theorem belX_b {n : Nat} {r : Option Nat} {w : World} (hn : n ≤ w.heap.size) (W : World) (l : Nat) (o o' : Obj) (hl : w.heap.size ≤ l) (h : W.heap[l]? = some o) (h1 : o.isCells = false) (h2 : o.isWalk = false) : BelX n r W (W.putObj l o') := BelX.of_below (belowK_b hn W l o o' hl h h1 h2)
theorem ownFrom_belX {β : Type} {n B : Nat} {r : Option Nat} {w₀ : World} (hn : n ≤ w₀.heap.size) (hB : n ≤ B) : OwnFrom B (fun (_ : β) W => BelX n r w₀ W) :=
  fun _ _ _ _ hs hg hr => hs.grown hg (Nat.le_trans hn hs.size) (fun k e => .inl (Nat.le_trans hB (hr k e).1))
set_option maxRecDepth 100000 in
set_option maxHeartbeats 2000000 in
theorem named_stopsX {Kp : World → World → Prop} (n Bw : Nat) (row : List Int) (h4 : row.length = 4) (hb : ∀ i, i < 4 → 0 ≤ row.getD i 0 ∧ row.getD i 0 ≤ 9999) (w : World) (hB : Bw < w.heap.size) (hc : w.heap[Bw]? = some (.cells (rowC row) 92 (0, 0))) :
    SeqStopsK Fence.wide n Tryz.prog 147 #[.pointer (some ⟨Bw, 0, none⟩)] (fun k : Fin 12 => #[.int .i64 (k.val : Int)]) Kp (fun xs => finI xs = named row) (fun _ => True) 4 w := by
  intro l J Jx W hW hJ hJx hY h0
  have hcW := (hW.block Bw (by omega)).trans hc
  obtain ⟨x0, x1, x2, x3, rfl⟩ : ∃ x0 x1 x2 x3, row = [x0, x1, x2, x3] := by
    match row, h4 with
    | [x0, x1, x2, x3], _ => exact ⟨x0, x1, x2, x3, rfl⟩
  have k0 : W.cell? ⟨Bw, 0, none⟩ = some (.int .i64 x0) := by rw [cell_of_row W Bw 0 _ _ _ hcW]; rfl
  have k1 : W.cell? ⟨Bw, 1, none⟩ = some (.int .i64 x1) := by rw [cell_of_row W Bw 1 _ _ _ hcW]; rfl
  have k2 : W.cell? ⟨Bw, 2, none⟩ = some (.int .i64 x2) := by rw [cell_of_row W Bw 2 _ _ _ hcW]; rfl
  have k3 : W.cell? ⟨Bw, 3, none⟩ = some (.int .i64 x3) := by rw [cell_of_row W Bw 3 _ _ _ hcW]; rfl
  have HB := Lib.hid hb
  have HY := Lib.hid hY
  clear hcW hc hb hY
  refine callsIn_of_wp Tryz.func147 rfl trivial ?_ rfl
  simp only [Tryz.ntmps147, List.size_toArray, List.length_cons, List.length_nil, Nat.reduceAdd, Nat.reduceSub, Array.replicate_succ, Array.replicate_zero, List.push_toArray, List.append_toArray, List.nil_append, List.cons_append]
  gi_wp2
  gi_loopw [7] (fun p wr => ∃ k : Nat, k ≤ 4 ∧ p = .int .i64 (k : Int) ∧ ∃ pre, finI pre = named ([x0, x1, x2, x3].take k) ∧ J pre wr) (fun p wr => 4 - (intOf p).toNat)
  case atStart => exact ⟨0, by omega, rfl, [], rfl, h0⟩
  case round =>
    obtain ⟨k, hk, rfl, pre, hpre, hJk⟩ := hrel
    by_cases hk4 : k = 4
    · subst hk4
      gi_wp2
      go_end0
      exact ⟨⟨_, rfl⟩, .inl ⟨pre, hpre, hJk⟩⟩
    · have hkl : k < 4 := by omega
      obtain ⟨x, hxd⟩ : ∃ x, [x0, x1, x2, x3].getD k 0 = x := ⟨_, rfl⟩
      have hb := HB.out k hkl
      rw [hxd] at hb
      have hsn := named_snoc [x0, x1, x2, x3] k hkl
      rw [hxd] at hsn
      have hpl : pre.length < 4 := by
        have := named_len ([x0, x1, x2, x3].take k)
        rw [List.length_take, ← hpre] at this
        simp only [finI, List.length_map] at this
        omega
      have hix : ∀ W : World, (Instr.index 92 (.agg #[.int .i64 x0, .int .i64 x1, .int .i64 x2, .int .i64 x3]) (.int .i64 (k : Int))).run Tryz.prog W = .ok (.int .i64 x) W := by
        obtain rfl | rfl | rfl | rfl : k = 0 ∨ k = 1 ∨ k = 2 ∨ k = 3 := by omega
        · subst hxd; exact fun _ => by kernel_rfl
        · subst hxd; exact fun _ => by kernel_rfl
        · subst hxd; exact fun _ => by kernel_rfl
        · subst hxd; exact fun _ => by kernel_rfl
      by_cases hg : goodB x
      · rw [if_pos hg] at hsn
        obtain ⟨fn, tmps, assign, body, hy, hR⟩ := HY.out pre (frF hg) wr hJk hpl
        rw [frF_val hg] at hy
        gi_wp2_with (first
          | (refine ⟨trivial, (fun h => by cases h), ?_⟩; gi_at_call 138; refine (callsIn_wide.2 (names_yes _ _ hg)).mono ?_; rintro e w' ⟨rfl, rfl⟩)
          | (refine ⟨trivial, (fun h => by cases h), ?_⟩; gi_at_call 139; refine (callsIn_wide.2 (frame_of _ _ hb.1 hb.2)).mono ?_; rintro e w' ⟨rfl, rfl⟩))
        refine ⟨(fun h => by cases h), ?_⟩
        refine hR.mono ?_
        rintro e W' (⟨rfl, hJ', hk'⟩ | ⟨rfl, hJx'⟩)
        · gi_wp2
          go_roundw
          case rel => exact ⟨k + 1, by omega, by simp, pre ++ [frF hg], by rw [finI_snoc, hsn, hpre, frF_val hg], hJ'⟩
          case measure => simp [intOf]; omega
        · gi_wp2
          refine bodyPost_ret (results_none rfl _ _ _) rfl ?_
          exact ⟨⟨_, rfl⟩, .inr ⟨_, trivial, hJx'⟩⟩
      · rw [if_neg hg, List.append_nil] at hsn
        gi_wp2_with (first
          | (refine ⟨trivial, (fun h => by cases h), ?_⟩; gi_at_call 138; refine (callsIn_wide.2 (names_no _ _ hg hb.1 hb.2)).mono ?_; rintro e w' ⟨rfl, rfl⟩)
          | ((with_reducible refine And.intro ?_ ?_); (exact trivial)))
        refine ⟨(fun _ h => by cases h), ?_⟩
        gi_wp2
        go_roundw
        case rel => exact ⟨k + 1, by omega, by simp, pre, by rw [hpre, hsn], hJk⟩
        case measure => simp [intOf]; omega
set_option maxRecDepth 100000 in
set_option maxHeartbeats 2000000 in
theorem all_stopsX (r : Option Nat) (n Bt Bm Bw : Nat) (xss : List (List Int)) (hm : memOk xss = true) (row : List Int) (h4 : row.length = 4) (hrb : ∀ i, i < 4 → 0 ≤ row.getD i 0 ∧ row.getD i 0 ≤ 9999) (w : World)
    (hBt : Bt < w.heap.size) (hBm : Bm < w.heap.size) (hrm : some Bm ≠ r) (hBw : Bw < w.heap.size)
    (hcw : w.heap[Bw]? = some (.cells (rowC row) 92 (0, 0)))
    (hct : w.cell? ⟨Bt, 0, none⟩ = some (.func (.func 147) #[] #[.pointer (some ⟨Bw, 0, none⟩)]))
    (hcm : w.rangeAt Bm 0 (flatL xss)) :
    SeqD 1 Fence.wide (n + 6) Tryz.prog 148 #[.pointer (some ⟨Bt, 0, none⟩), .pointer (some ⟨Bm, 0, none⟩)] (fun k : Fin 12 => #[.int .i64 (k.val : Int)]) (BelX w.heap.size r) (fun xs => finI xs = flat xss (named row)) 16 w := by
  intro l J W hW hJ hY h0
  have hctW := (hW.cell (p := ⟨Bt, 0, none⟩) hBt).trans hct
  have hcta := fun ob => (World.cell?_alloc_lt W ob ⟨Bt, 0, none⟩ (cell_lt hctW)).trans hctW
  have HM := Lib.hid hm
  have HY := Lib.hid hY
  have HJ := Lib.hid hJ
  have HCM : Hid (∀ i, i < 12 → w.rangeAt Bm (i * 4) ((xss.getD i []).map (Value.int .i64))) := Lib.hid (fun i hi j v hv => by
    have h4 := mem_row hm hi
    have hj : j < 4 := by
      have := (List.getElem?_eq_some_iff.1 hv).1
      rwa [List.length_map, h4] at this
    have h1 := flat_get xss (fun i hi => mem_row hm (by have := mem_len hm; omega)) (i := i) (j := j) (by have := mem_len hm; omega) hj
    have h2 := hcm (i * 4 + j) _ h1
    rw [Nat.zero_add] at h2
    rw [h2, ← hv, List.getElem?_map, List.getElem?_eq_getElem (by rw [h4]; exact hj), getD_lt (l := xss.getD i []) (i := j) (by rw [h4]; exact hj)]
    rfl)
  have HW := Lib.hid hW
  have HNS := Lib.hid (fun m => named_stopsX (Kp := BelX w.heap.size r) m Bw row h4 hrb w hBw hcw)
  have HNL : Hid ((named row).length ≤ 4) := Lib.hid (by have := named_len row; omega)
  clear hm hY hJ hcm hcw hct hrb hW
  refine callsIn_of_wp_marks Tryz.func148 rfl trivial ?_ rfl
  simp only [Tryz.ntmps148, List.size_toArray, List.length_cons, List.length_nil, Nat.reduceAdd, Nat.reduceSub, Array.replicate_succ, Array.replicate_zero, List.push_toArray, List.append_toArray, List.nil_append, List.cons_append]
  gi_wp2
  obtain ⟨y, hy⟩ : ∃ y : Value, y = .func (.yield l) #[] #[] := ⟨_, rfl⟩
  have hbx := Boxed.new W 142 y
  rw [hy] at hbx
  have hsz := HW.out.size
  obtain ⟨w1, hw1⟩ : ∃ w1, w1 = W.alloc (.cells #[.func (.yield l) #[] #[]] 142) := ⟨_, rfl⟩
  have hB1 : Below w.heap.size W w1 := by rw [hw1]; exact (Below.refl _ _).alloc hsz _
  have hs1 : w1.heap.size = W.heap.size + 1 := by rw [hw1]; simp
  have hJ1 : J [] w1 := by rw [hw1]; exact HJ.out.alloc _ h0
  rw [← hw1] at hbx ⊢
  clear hw1 h0 hy y
  refine range_slot 4 rfl (by omega) (gf := 147) (lb := #[.pointer (some ⟨Bw, 0, none⟩)]) rfl trivial (enters_of Tryz.func147 (by kernel_rfl) rfl)
    (HNS.out _) (fun W => BelX.refl _ _ W) belX_t (belX_b (by omega)) (HW.out.trans hB1) (by simp)
    (fun pre A => ((∃ out, finI out = flat xss (finI pre) ∧ J out A) ∧ Boxed A W.heap.size 142 (.func (.yield l) #[] #[])) ∧ BelX w.heap.size r W A) (fun _ _ _ => False)
    (OwnFrom.and (OwnFrom.and (fun s A B r hs hg hr => by
        obtain ⟨out, e, hj⟩ := hs
        exact ⟨out, e, HJ.out out A B r hj hg (fun k ek => ⟨by have := (hr k ek).1; omega, (hr k ek).2⟩)⟩) (Own.from (boxed_own _ _ _) _)) (ownFrom_belX hsz (by omega)))
    (fun _ _ _ _ _ hs _ _ => hs) ⟨⟨⟨[], rfl, hJ1⟩, hbx⟩, BelX.of_below hB1⟩ ?body ?done ?stop
  case body =>
    rintro l1 pre x W1 hl1 ⟨r1, hr1⟩ ⟨⟨⟨out, hout, hJ2⟩, hbox⟩, hB2⟩ hlt
    have hix : ∀ W : World, (Instr.indexAt 94 (.pointer (some ⟨Bm, 0, none⟩)) (.int .i64 (x.val : Int))).run Tryz.prog W = .ok (.pointer (some ⟨Bm, x.val * 4, none⟩)) W := fun W => run_indexAt_arr 94 12 92 4 Tryz.underlying94 size_words (by omega) _ x.val x.isLt W
    obtain ⟨row2, hrow2⟩ : ∃ row2, row2 = xss.getD x.val [] := ⟨_, rfl⟩
    have h42 : row2.length = 4 := by rw [hrow2]; exact mem_row HM.out x.isLt
    have hrb2 : ∀ i, i < 4 → 0 ≤ row2.getD i 0 ∧ row2.getD i 0 ≤ 9999 := by rw [hrow2]; exact fun i hi => wd_bounds HM.out x.isLt hi
    have HRW2 := Lib.hid hrow2
    clear hrow2
    have HROW2 : Hid (W1.rangeAt Bm (x.val * 4) (row2.map (Value.int .i64))) := Lib.hid (by
      rw [HRW2.out]
      exact range_blocks (HCM.out _ x.isLt) (((BelX.of_below HW.out).trans hB2).block _ hBm hrm))
    gi_wp2_with ((with_reducible refine load_isI 92 (.tmp 9) ?_); refine load_arrI 92 (.tmp 9) Bm (x.val * 4) (row2.map (Value.int .i64)) _ rfl HROW2.out Tryz.underlying92 rfl (by rw [List.length_map, h42]; exact info_words) ?_)
    refine ⟨trivial, (CallsIn.inRound l1 (callsIn_wide.2 (named_make W1 _ (by simp [h42]) (row_one row2)))).mono ?_⟩
    rintro e W3 ⟨rfl, hW3⟩
    have HW3 := Lib.hid hW3
    clear hW3
    gi_wp2_with fail
    have hsz3 : W3.heap.size = W1.heap.size + 1 := by rw [HW3.out]; simp
    have hsW := hB2.size
    have hsW' : w.heap.size ≤ W1.heap.size := by omega
    have hBW3 : Below w.heap.size W1 W3 := by rw [HW3.out]; exact (Below.refl _ _).alloc hsW' _
    have hKW3 : KeepsFrom w1.heap.size W1 W3 := by rw [HW3.out]; exact (KeepsOthers.alloc _ _).from _
    have hJ3 : J out W3 := by rw [HW3.out]; exact HJ.out.alloc _ hJ2
    have hbox3 : Boxed W3 W.heap.size 142 (.func (.yield l) #[] #[]) := by rw [HW3.out]; exact hbox.alloc _
    have hc3 : W3.heap[W1.heap.size]? = some (.cells (rowC row2) 92 (0, 0)) := by rw [HW3.out]; exact World.alloc_heap_new W1 _
    have hr3 : W3.heap[l1]? = some (.loop r1) := by rw [HW3.out]; exact (Below.heap_alloc W1 _ l1 (Array.getElem?_eq_some_iff.1 hr1).1).trans hr1
    have hol : out.length ≤ 4 * pre.length := by
      have h1 := flat_len3 xss HM.out (finI pre) (fin_rng pre)
      rw [← hout, fin_len, fin_len] at h1
      exact h1
    refine range_slotN (l₀ := l1) (r₀ := r1) 5 rfl hr3 (by omega) (gf := 147) (lb := #[.pointer (some ⟨W1.heap.size, 0, none⟩)]) rfl trivial (enters_of Tryz.func147 (by kernel_rfl) rfl)
      ((named_stopsX (Kp := BelX w.heap.size r) _ W1.heap.size row2 h42 hrb2 W3 (by omega) hc3).inRound l1) (fun W => BelX.refl _ _ W) belX_t (belX_b (by omega)) (Below.refl _ _) (by simp)
      (fun pre' A => ((∃ out', finI out' = flat xss (finI pre) ++ finI pre' ∧ J out' A) ∧ Boxed A W.heap.size 142 (.func (.yield l) #[] #[])) ∧ (BelX w.heap.size r W1 A ∧ KeepsFrom w1.heap.size W1 A)) (fun _ _ _ => False)
      (OwnFrom.and (OwnFrom.and (fun s A B r hs hg hr => by
          obtain ⟨out', e, hj⟩ := hs
          exact ⟨out', e, HJ.out out' A B r hj hg (fun k ek => ⟨by have := (hr k ek).1; omega, (hr k ek).2⟩)⟩) (Own.from (boxed_own _ _ _) _)) (OwnFrom.and (ownFrom_belX hsW' (by omega)) (ownFrom_keepsFrom (by omega))))
      (fun _ _ _ _ _ hs _ _ => hs) ⟨⟨⟨out, by rw [hout, show finI [] = [] from rfl, List.append_nil], hJ3⟩, hbox3⟩, BelX.of_below hBW3, hKW3⟩ ?body2 ?done2 ?stop2
    case body2 =>
      rintro l2 pre' y W4 hl2 _ ⟨⟨⟨out', hout', hJ4⟩, hbox4⟩, hB4, hK4⟩ hlt'
      have hc4 := hbox4.cell
      have hlo : out'.length < 16 := by
        have h1 := congrArg List.length hout'
        rw [List.length_append, fin_len, fin_len, ← hout, fin_len] at h1
        omega
      obtain ⟨fn, tmps, asg, bd, hy, hR⟩ := HY.out out' y W4 hJ4 hlo (by have := hbox4.lt; omega)
      have HR := Lib.hid hR
      have HB4 := Lib.hid hB4
      have HK4 := Lib.hid hK4
      have HBX := Lib.hid hbox4
      have HOUT := Lib.hid hout'
      clear hR hB4 hK4 hbox4 hout' hJ4
      gi_wp2
      refine (round_any _ HR.out).mono ?_
      rintro e W5 ⟨rfl, hJ5, hk5, hkf5, hli5⟩
      have HF := Lib.hid hkf5
      have HJ5 := Lib.hid hJ5
      have HK5 := Lib.hid hk5
      have HBX5 : Hid (Boxed W5 W.heap.size 142 (.func (.yield l) #[] #[])) := Lib.hid ((hli5 _ (Nat.le_refl _) (by omega)).trans HBX.out)
      clear hJ5 hk5 hkf5 hli5
      have hsub : ∀ {B : Nat}, W.heap.size ≤ B → KeepsFrom B W4 W5 := fun h => ⟨HF.out.size, fun k o hB => HF.out.same k o (by omega)⟩
      gi_wp2
      refine ⟨hsub (by omega), HK5.out, ⟨⟨out' ++ [y], ?_, HJ5.out⟩, HBX5.out⟩, HB4.out.trans HK5.out, HK4.out.trans (hsub (by omega))⟩
      rw [finI_snoc, finI_snoc, HOUT.out, List.append_assoc]
    case done2 =>
      rintro ys A hys ⟨⟨⟨out', hout', hJ4⟩, hbox4⟩, hB4, hK4⟩
      gi_wp2
      refine ⟨hK4, hB4, ⟨⟨out', ?_, hJ4⟩, hbox4⟩, hB2.trans hB4⟩
      have e : flat xss (finI (pre ++ [x])) = flat xss (finI pre) ++ named row2 := by rw [finI_snoc, flat_add, HRW2.out]
      rw [e, ← hys]
      exact hout'
    case stop2 =>
      rintro c pre' A _ h
      exact h.elim
  case done =>
    rintro D ys A hD hys ⟨⟨⟨out, hout, hJ5⟩, hbox⟩, hB⟩ hK
    have HJ5 := Lib.hid hJ5
    gi_wp2
    refine ⟨by simp, .inl ⟨_, _, rfl, run_takeDeferred hK, ?_⟩⟩
    refine ⟨_, results_none rfl _ _ _, ⟨_, rfl⟩, out, by rw [hout, hys], ?_⟩
    exact HJ.out.putObj _ HJ5.out (by omega) hK rfl
  case stop =>
    rintro D c pre A _ _ h _
    exact h.elim
end Go.Proofs.YtcmmlgdfhkcmoaaGreat
namespace Go.Proofs.YtcmmlgdfhkcmoaaGreat
open Go.ChangeShapes Go.WideShapes Go.ChangeAt Go.RowKit Go.Shelf
set_option linter.unusedVariables false
set_option maxRecDepth 100000
attribute [local go_sem] Oper.semAt_some
theorem values_make (w : World) (a : Option Addr) (n c : Nat) : Calls Tryz.prog 133 #[.slice a n c] w fun e w' => e = .returned (.func (.func 192) #[] #[.pointer (some ⟨w.heap.size, 0, none⟩)]) ∧ w' = w.alloc (.cells #[.slice a n c] 42) := by
  go_enter Tryz.func133, Tryz.ntmps133
  go_wp2
  go_ret
  exact ⟨rfl, rfl⟩
set_option maxHeartbeats 2000000 in
theorem values_stops (n Bv : Nat) (ys : List Int) (hy : ∀ y ∈ ys, 0 ≤ y ∧ y < 12) (w : World) (a : Option Addr) (cap : Nat) (hv : Ints w (.slice a ys.length cap) ys) (hB : Bv < w.heap.size) (hc : w.cell? ⟨Bv, 0, none⟩ = some (.slice a ys.length cap)) :
    SeqStopsK Fence.wide n Tryz.prog 192 #[.pointer (some ⟨Bv, 0, none⟩)] (fun k : Fin 12 => #[.int .i64 (k.val : Int)]) (Below w.heap.size) (fun xs => finI xs = ys) (fun _ => True) ys.length w := by
  intro l J Jx W hW hJ hJx hY h0
  obtain ⟨a', cap', e', h1, h2, h3⟩ := hv
  injection e' with e1 e2 e3
  subst e1
  subst e3
  unfold maxLen at h2
  have hcW := (hW.cell (p := ⟨Bv, 0, none⟩) hB).trans hc
  have HY := Lib.hid hY
  have HX := Lib.hid h3
  have HYB := Lib.hid hy
  have HW := Lib.hid hW
  obtain ⟨m, hm⟩ : ∃ m, m = ys.length := ⟨_, rfl⟩
  rw [← hm] at h1 hcW HY
  have HM := Lib.hid hm
  clear hc hY h3 hy hW hm e2
  refine callsIn_of_wp Tryz.func192 rfl trivial ?_ rfl
  simp only [Tryz.ntmps192, List.size_toArray, List.length_cons, List.length_nil, Nat.reduceAdd, Nat.reduceSub, Array.replicate_succ, Array.replicate_zero, List.push_toArray, List.append_toArray, List.nil_append, List.cons_append]
  gi_wp2
  gi_loopw [7] (fun p wr => ∃ k : Nat, k ≤ m ∧ p = .int .i64 (k : Int) ∧ Hid (Below w.heap.size W wr) ∧ ∃ pre, finI pre = ys.take k ∧ J pre wr) (fun p wr => m - (intOf p).toNat)
  case atStart => exact ⟨0, by omega, rfl, Lib.hid (Below.refl _ _), [], rfl, h0⟩
  case round =>
    obtain ⟨k, hk, rfl, HBW, pre, hpre, hJk⟩ := hrel
    by_cases hk4 : k = m
    · subst hk4
      rw [take_all HM.out] at hpre
      gi_wp2
      go_end0
      exact ⟨⟨_, rfl⟩, .inl ⟨pre, hpre, hJk⟩⟩
    · have hkl : k < m := by omega
      have hkl' : (k : Int) < (m : Int) := by omega
      obtain ⟨g, o, rfl, hcx⟩ := HX.out k (by have := HM.out; omega)
      have hc := ((HW.out.trans HBW.out).cell (p := ⟨g, o + k, none⟩) (cell_lt hcx)).trans hcx
      have hyb := HYB.out (ys.getD k 0) (by rw [getD_lt (by have := HM.out; omega)]; exact List.getElem_mem _)
      have htk := take_snoc_getD ys k 0 (by have := HM.out; omega)
      obtain ⟨y, hyy⟩ : ∃ y, y = ys.getD k 0 := ⟨_, rfl⟩
      rw [← hyy] at hc hyb htk
      clear hcx hyy
      have hpl : pre.length < m := by
        have h5 := congrArg List.length hpre
        rw [List.length_take] at h5
        simp only [finI, List.length_map] at h5
        have := HM.out
        omega
      have hfv : ((⟨y.toNat, by omega⟩ : Fin 12).val : Int) = y := by show ((y.toNat : Nat) : Int) = y; omega
      obtain ⟨fn, tmps, assign, body, hy, hR⟩ := HY.out pre ⟨y.toNat, by omega⟩ wr hJk hpl
      rw [hfv] at hy
      have HTK := Lib.hid htk
      clear htk
      gi_wp2
      refine ⟨(fun h => by cases h), hR.mono ?_⟩
      rintro e W' (⟨rfl, hJ', hk'⟩ | ⟨rfl, hJx'⟩)
      · gi_wp2
        go_roundw
        case rel => exact ⟨k + 1, by omega, by simp, Lib.hid (HBW.out.trans hk'), pre ++ [⟨y.toNat, by omega⟩], by rw [finI_snoc, HTK.out, hpre, hfv], hJ'⟩
        case measure => simp [intOf]; omega
      · gi_wp2
        refine bodyPost_ret (results_none rfl _ _ _) rfl ?_
        exact ⟨⟨_, rfl⟩, .inr ⟨_, trivial, hJx'⟩⟩
theorem each_values (w : World) (Bv : Nat) (ys : List Int) (hy : ∀ y ∈ ys, 0 ≤ y ∧ y < 12) (hl : ys.length ≤ 1000) (a : Option Addr) (cap : Nat) (hv : Ints w (.slice a ys.length cap) ys) (hB : Bv < w.heap.size) (hc : w.cell? ⟨Bv, 0, none⟩ = some (.slice a ys.length cap)) :
    Calls Tryz.prog 85 #[.func (.func 192) #[] #[.pointer (some ⟨Bv, 0, none⟩)]] w (NewR (srt ys 12) w) := by
  refine (once_of_iter (d := 0) (N := ys.length) (S := fun xs => finI xs = ys) 20 hl (fun xs hx => ?_) w (enters_of Tryz.func192 (by kernel_rfl) rfl)
    (SeqD.of_stops (values_stops 20 Bv ys hy w a cap hv hB hc))).mono ?_
  · have h1 := congrArg List.length hx
    rw [fin_len] at h1
    omega
  · rintro e w' ⟨xs, v, rfl, hx, hi, hb⟩
    rw [hx] at hi
    exact ⟨v, rfl, hi, hb⟩
end Go.Proofs.YtcmmlgdfhkcmoaaGreat
namespace Go.Proofs.YtcmmlgdfhkcmoaaGreat
open Go.ChangeShapes Go.WideShapes Go.ChangeAt Go.RowKit Go.Shelf
set_option linter.unusedVariables false
attribute [local go_sem] Oper.semAt_some
theorem boxed_appendedX {W w1 : World} {n0 n1 B M d b0 : Nat} {r : Option Nat} {t e : TypeId} {v v' : Value} {k m : Nat} {xs ys : List Value} {tmp : Obj}
    (hv : Boxed W B t v) (hte : t ≠ e) (hrow : W.ownsRow b0 e 1 v k xs) (hr : ∀ q, v.ownBlock = some q → some q = r ∨ n1 ≤ q) (h0 : n0 ≤ B) (hBM : B < M) (hM : M + d ≤ n1) (hn1 : n1 ≤ W.heap.size) (hrn : ∀ q, r = some q → q < n0)
    (hown' : w1.ownsRow b0 e 1 v' m ys) (hgrow : (W.alloc tmp).grownBy w1 v.ownBlock) :
    Boxed w1 B t v ∧ Boxed (w1.setCell ⟨B, 0, none⟩ v') B t v' ∧ (w1.setCell ⟨B, 0, none⟩ v').ownsRow b0 e 1 v' m ys ∧ KeepsOthers W (w1.setCell ⟨B, 0, none⟩ v') ∧ BelX n0 r W (w1.setCell ⟨B, 0, none⟩ v') ∧ Lies M d W (w1.setCell ⟨B, 0, none⟩ v') := by
  obtain ⟨h1, h2, h3, h4, h5⟩ := hv.appended hte (own_lower hrow (Nat.zero_le _)) (Nat.zero_le _) (Nat.zero_le _) (own_lower hown' (Nat.zero_le _)) hgrow
  have hB := hv.lt
  refine ⟨h1, h2, hown'.kept (grownBy_setCell' w1 B v') (.inr (h1.not_row hte hown').symm), h4, ⟨h5.os, h5.tape, h5.output, h5.size, fun k hk hkr => ?_⟩, fun k hk hkM => ?_⟩
  · rw [Below.heap_setCell _ _ _ k (by show k ≠ B; omega), hgrow.block k (by simp; omega) (fun e => ?_), Below.heap_alloc _ _ _ (by omega)]
    rcases hr k e.symm with h | h
    · exact hkr h
    · omega
  · by_cases hkW : k < W.heap.size
    · rw [Below.heap_setCell _ _ _ k (by show k ≠ B; omega), hgrow.block k (by simp; omega) (fun e => ?_), Below.heap_alloc _ _ _ hkW]
      rcases hr k e.symm with h | h
      · have := hrn k h.symm
        omega
      · omega
    · exact absurd hkM (by omega)
def GaveX (S : List (Fin 12) → Prop) (ps : List Int) (b0 : Nat) (r : Option Nat) (w : World) (e : Ending) (w' : World) : Prop := ∃ xs v, e = .returned v ∧ S xs ∧ xs.length ≤ 1000 ∧ w'.ownsRow b0 3 1 v (ps.length + (finI xs).length) ((ps ++ finI xs).map (.int .i64)) ∧ BelX w.heap.size r w w' ∧ (∀ q, v.ownBlock = some q → some q = r ∨ w.heap.size ≤ q)
set_option maxRecDepth 100000 in
set_option maxHeartbeats 2000000 in
theorem appendSeqX_in {d N g b0 : Nat} {lb : Array Value} (a0 : Option Addr) (n0 c0 : Nat) (ps : List Int) (hpl0 : ps.length ≤ 1000) {S : List (Fin 12) → Prop} (n : Nat) (hN : N ≤ 1000) (hS : ∀ xs, S xs → xs.length ≤ 1000) (w : World) (hown0 : w.ownsRow b0 3 1 (.slice a0 n0 c0) ps.length (ps.map (.int .i64))) (hb00 : b0 ≤ w.heap.size) (eg : ∀ args w, (callFunc g args).run Tryz.prog w = .ok (.enter g args) w)
    (hseq : SeqD d Fence.wide n Tryz.prog g lb (fun k : Fin 12 => #[.int .i64 (k.val : Int)]) (BelX w.heap.size (Value.slice a0 n0 c0).ownBlock) S N w) :
    CallsIn Fence.wide (n + 1) Tryz.prog 132 #[.slice a0 n0 c0, .func (.func g) #[] lb] w (GaveX S ps b0 (Value.slice a0 n0 c0).ownBlock w) := by
  obtain ⟨i0, hi, hz0, hz1, hz2⟩ := info_parts intInfo
  have HI := Lib.hid hi
  have HZ0 := Lib.hid hz0
  have HZ1 := Lib.hid hz1
  have HZ2 := Lib.hid hz2
  have HS := Lib.hid hS
  have HRL : Hid (∀ q, (Value.slice a0 n0 c0).ownBlock = some q → q < w.heap.size) := Lib.hid (fun q hq => (hown0.lt q hq).2)
  have HOW0 := Lib.hid hown0
  clear hown0
  obtain ⟨r, hr⟩ : ∃ r, r = (Value.slice a0 n0 c0).ownBlock := ⟨_, rfl⟩
  rw [← hr] at hseq HRL ⊢
  have HR := Lib.hid hr
  clear hr
  have HSEQ := Lib.hid hseq
  clear hi hz0 hz1 hz2 hS hseq
  refine callsIn_of_wp_marks Tryz.func132 rfl trivial ?_ rfl
  simp only [Tryz.ntmps132, List.size_toArray, List.length_cons, List.length_nil, Nat.reduceAdd, Nat.reduceSub, Array.replicate_succ, Array.replicate_zero, List.push_toArray, List.append_toArray, List.nil_append, List.cons_append]
  gi_wp2
  have bO := Boxed.new w 42 (.slice a0 n0 c0)
  have hB0 : Below w.heap.size w (w.alloc (.cells #[.slice a0 n0 c0] 42)) := (Below.refl _ w).alloc (Nat.le_refl _) _
  refine range_slotD (d := d) 5 rfl (by omega) (gf := g) (lb := lb) rfl trivial eg HSEQ.out belX_t (belX_b (by simp)) hB0 (by simp)
    (fun pre W => (∃ v, Boxed W w.heap.size 42 v ∧ W.ownsRow b0 3 1 v (ps.length + pre.length) ((ps ++ finI pre).map (.int .i64)) ∧ (∀ q, v.ownBlock = some q → some q = r ∨ w.heap.size + 3 + d ≤ q)) ∧ BelX w.heap.size r w W)
    (OwnFrom.and (Own.from (holdsRow_own b0 w.heap.size 42 3 1 (fun pre => ps.length + pre.length) (fun pre => (ps ++ finI pre).map (.int .i64)) (fun _ v => ∀ q, v.ownBlock = some q → some q = r ∨ w.heap.size + 3 + d ≤ q)) _) (ownFrom_belX (Nat.le_refl _) (by simp)))
    ⟨⟨_, bO, by rw [show finI [] = [] from rfl, List.append_nil]; exact HOW0.out.alloc _, fun q hq => .inl (by rw [HR.out]; exact hq.symm)⟩, BelX.of_below hB0⟩ ?body ?done
  case body =>
    rintro l pre x W hl _ ⟨⟨v, hv, hrow, hvr⟩, hB⟩ hlt hsz
    rw [World.size_alloc] at hsz
    have hc := hv.cell
    have HROW := Lib.hid hrow
    have HV := Lib.hid hv
    have HBB := Lib.hid hB
    have HVR := Lib.hid hvr
    have hpl : pre.length ≤ 1000 := by omega
    clear hrow hv hB hvr
    gi_wp2_with (gi_at_builtin; refine wpListIn_append_own_at _ rfl (.tmp 8) (.tmp 10) 42 rfl b0 3 i0 (.int .i64 0) 1 8 Tryz.underlying42 HI.out HZ0.out HZ1.out HZ2.out rfl (by decide) _ _ _ rfl (HROW.out.alloc _) ⟨W.heap.size, 0, none⟩ 1 1 [.int .i64 (x.val : Int)] rfl rfl (cell_one_new _ _ _) (by intro u hu; simp at hu; subst hu; rfl) (by unfold maxLen; omega) (by omega) (by have := HBB.out.size; simp; omega) ?_; intro v' w1 hown' hgrow _ hblk; obtain ⟨g', cap', rfl⟩ := ownsRow_succ hown'; obtain ⟨hv1, hv2, hr2, hk2, hb2, hl2⟩ := boxed_appendedX (n0 := w.heap.size) (M := w.heap.size + 3) (d := d) HV.out (by decide) HROW.out HVR.out (Nat.le_refl _) (by omega) (Nat.le_refl _) (by omega) HRL.out hown' hgrow; have hc1 := hv1.cell; have hf1 := hv1.frozen)
    exact ⟨hk2.from _, ⟨_, hv2, by have h9 := hr2; simp only [finI_snoc, List.map_append, List.append_assoc] at h9 ⊢; exact h9, fun q hq => by
      rcases hblk with hb | hb
      · exact HVR.out q (hb.symm.trans hq)
      · rw [hq] at hb
        injection hb with hb
        rw [World.size_alloc] at hb
        exact .inr (by omega)⟩, HBB.out.trans hb2⟩
  case done =>
    rintro D xs W hD hSx ⟨⟨v, hv, hrow, hvr⟩, hB⟩ hK
    have hc := hv.cell
    have HROW := Lib.hid hrow
    have HBB := Lib.hid hB
    have HKK := Lib.hid hK
    have HSX := Lib.hid hSx
    have HVR := Lib.hid hvr
    clear hrow hB hSx hv hvr
    gi_wp2
    refine ⟨by simp, .inl ⟨_, _, rfl, run_takeDeferred hK, ?_⟩⟩
    refine ⟨_, results_tmp rfl _ _ _, xs, v, rfl, HSX.out, HS.out _ HSX.out, by have h9 := ownsRow_putObj HROW.out (Obj.deferred none) HKK.out rfl; simp only [finI, List.length_map, List.map_append] at h9 ⊢; exact h9, HBB.out.trans (belX_b (w := w) (Nat.le_refl _) W D _ _ (by simp at hD; omega) HKK.out rfl rfl), fun q hq => by
      rcases HVR.out q hq with h | h
      · exact .inl h
      · exact .inr (by omega)⟩
end Go.Proofs.YtcmmlgdfhkcmoaaGreat
namespace Go.Proofs.YtcmmlgdfhkcmoaaGreat
open Go.ChangeShapes Go.WideShapes Go.ChangeAt Go.RowKit Go.Maps Go.Shelf
set_option linter.unusedVariables false
set_option linter.unusedSimpArgs false
set_option maxRecDepth 100000
theorem BelX.low {n : Nat} {r : Option Nat} {w w' : World} (h : BelX n r w w') {m : Nat} (hm : m ≤ n) (hr : ∀ q, r = some q → m ≤ q) : Below m w w' :=
  ⟨h.os, h.tape, h.output, h.size, fun k hk => h.block k (by omega) (fun e => by have := hr k e.symm; omega)⟩
theorem srt_congr {l l' : List Int} (h : ∀ x, x ∈ l ↔ x ∈ l') : srt l 12 = srt l' 12 := by
  unfold srt
  refine congrArg _ (List.filter_congr (fun f _ => ?_))
  simp only [h]
theorem reach_row {M : List (List Int)} {f : Nat} (hm : memOk M = true) : reach M (f : Int) = srt (([(f : Int)] ++ named (M.getD f [])) ++ flat M (named (M.getD f []))) 12 := by
  unfold reach
  rw [if_neg (by omega)]
  refine srt_congr (fun x => ?_)
  rw [frs_eq M f _ rfl, show tabs M (f : Int) = srt (named (M.getD f [])) 12 from by unfold tabs rw4; simp]
  simp only [List.cons_append, List.nil_append, List.mem_cons, List.mem_append]
  have h1 : ∀ {l : List Int}, (∀ y ∈ l, 0 ≤ y ∧ y < 12) → (x ∈ srt l 12 ↔ x ∈ l) := fun hl => ⟨fun h => (srt_mem h).2.2, fun h => mem_srt (hl x h).1 (hl x h).2 h⟩
  rw [h1 (fun y hy => named_rng hy), h1 (fun y hy => by
    unfold flat at hy
    obtain ⟨t, _, ht⟩ := List.mem_flatMap.1 hy
    exact named_rng ht)]
theorem flat_in {M : List (List Int)} {ts : List Int} : ∀ y ∈ flat M ts, 0 ≤ y ∧ y < 12 := fun y hy => by
  unfold flat at hy
  obtain ⟨t, _, ht⟩ := List.mem_flatMap.1 hy
  exact named_rng ht
theorem ownsRow_form {w : World} {B : Nat} {e : TypeId} {v : Value} {n : Nat} {x : List Value} (h : w.ownsRow B e 1 v n x) (hn : 0 < n) : ∃ g c, v = .slice (some ⟨g, 0, none⟩) n c ∧ v.ownBlock = some g ∧ B ≤ g ∧ g < w.heap.size := by
  rcases h.2 with ⟨_, hz⟩ | ⟨g, cap, cur, e, hb, hbl, _⟩
  · omega
  · exact ⟨g, cap, e, by rw [e]; rfl, hb, (Array.getElem?_eq_some_iff.1 hbl).1⟩
theorem own_after {w w' : World} {B : Nat} {e : TypeId} {v : Value} {n : Nat} {x : List Value} (h : w.ownsRow B e 1 v n x) (hb : Below w.heap.size w w') : w'.ownsRow B e 1 v n x := own_below h hb
set_option maxHeartbeats 4000000 in
theorem kreach_any (w : World) (M : List (List Int)) (I : List IV) (E : List EV) (bs : Nat → Nat) (R L : List Value) (h : KL w M I E bs R L) (j : Nat) (hj : j < 3) (hb : -1 ≤ (E.getD j ez).t ∧ (E.getD j ez).t ≤ 11) :
    Calls Tryz.prog 72 #[.agg L.toArray, .int .i64 j] w (NewR (reach M (E.getD j ez).t) w) := by
  have HKC := Lib.hid (h.box 101)
  have HM := Lib.hid h.m
  obtain ⟨W0, hW0⟩ : ∃ W0, W0 = w.alloc (.cells L.toArray 101) := ⟨_, rfl⟩
  rw [← hW0] at HKC
  have HB0 : Hid (Below w.heap.size w W0) := Lib.hid (by rw [hW0]; exact (Below.refl _ _).alloc (Nat.le_refl _) _)
  have HZ0 : Hid (w.heap.size < W0.heap.size) := Lib.hid HKC.out.lt
  have HW0 := Lib.hid hW0
  have hrt := HKC.out.root hj
  have HIX := run_indexAt_off (P := Tryz.prog) 88 3 86 2 Tryz.underlying88 size_env (by omega) w.heap.size 84 j hj
  obtain ⟨t, ht⟩ : ∃ t, t = (E.getD j ez).t := ⟨_, rfl⟩
  rw [← ht] at hrt hb ⊢
  have hj0 : (0 : Int) ≤ (j : Int) := by omega
  have hj3 : (j : Int) < 3 := by omega
  clear hW0 h ht hj
  by_cases h1 : t = -1
  · subst h1
    rw [show reach M (-1) = [] from rfl]
    clear hb
    go_enter Tryz.func72, Tryz.ntmps72
    go_wp2_with (first | ((with_reducible refine box_is 101 (.tmp 0) ?_); refine box_arr 101 (.tmp 0) L.toArray rfl ?_; rw [← HW0.out]) | fail)
    go_ret
    exact ⟨_, rfl, nil_intsW, HB0.out⟩
  · obtain ⟨f, rfl⟩ := Int.eq_ofNat_of_zero_le (show 0 ≤ t by omega)
    have hf12 : f < 12 := by omega
    have hf0 : (0 : Int) ≤ (f : Int) := by omega
    have hf12' : (f : Int) < 12 := by omega
    have hne : ((f : Int) == -1) = false := by simp
    have HXM := run_indexAt_arr (P := Tryz.prog) 94 12 92 4 Tryz.underlying94 size_words (by omega) w.heap.size f hf12
    have HRW := Lib.hid (HKC.out.row hf12)
    have HME : Hid (∀ Q : World, Q.heap[w.heap.size]? = W0.heap[w.heap.size]? → Q.rangeAt w.heap.size 0 (flatL M)) := Lib.hid (fun Q hQ => range_blocks HKC.out.mem hQ)
    have HFL : Hid ((flatL M).length = 48) := Lib.hid (flat_len HM.out)
    have HFO : Hid ((flatL M).toArray.all (·.oneCell') = true) := Lib.hid (flat_one M)
    have HR4 : Hid ((M.getD f []).length = 4) := Lib.hid (mem_row HM.out hf12)
    have HRB : Hid (∀ i, i < 4 → 0 ≤ (M.getD f []).getD i 0 ∧ (M.getD f []).getD i 0 ≤ 9999) := Lib.hid (fun i hi => mem_word HM.out hf12 hi)
    have HRE := Lib.hid (reach_row (M := M) (f := f) HM.out)
    obtain ⟨row, hrow⟩ : ∃ row, row = M.getD f [] := ⟨_, rfl⟩
    rw [← hrow] at HRW HR4 HRB HRE
    have HNB : Hid (∀ y ∈ named row, 0 ≤ y ∧ y < 12) := Lib.hid (fun y hy => named_rng hy)
    have HNL : Hid ((named row).length ≤ 4) := Lib.hid (by have := named_len row; have := HR4.out; omega)
    have HFB : Hid (∀ y ∈ flat M (named row), 0 ≤ y ∧ y < 12) := Lib.hid flat_in
    have HFN : Hid ((flat M (named row)).length ≤ 16) := Lib.hid (by have := flat_len3 M HM.out (named row) (fun t ht => named_rng ht); have := HNL.out; omega)
    have HC4 : Hid ((row.map (Value.int .i64)).length = 4) := Lib.hid (by rw [List.length_map]; exact HR4.out)
    have HMK := Lib.hid (fun W => named_make W (row.map (Value.int .i64)).toArray (by rw [List.size_toArray]; exact HC4.out) (row_one row))
    obtain ⟨RW, hRW⟩ : ∃ RW, RW = row.map (Value.int .i64) := ⟨_, rfl⟩
    have HAM := Lib.hid (fun W (lb : Array Value) => all_make W (flatL M).toArray 147 lb (by rw [List.size_toArray]; exact HFL.out) HFO.out)
    obtain ⟨FM, hFM⟩ : ∃ FM, FM = flatL M := ⟨_, rfl⟩
    have HFM := Lib.hid hFM
    rw [← hRW] at HRW HC4 HMK
    rw [← hFM] at HME HFL HFO HAM
    have HRWE := Lib.hid hRW
    have HIW : Hid ((Tryz.prog.info? 92).map (·.size) = some RW.length) := Lib.hid (by rw [HC4.out]; exact info_words)
    have HLM : Hid (∀ Q : World, Q.rangeAt w.heap.size 0 FM → (do let l ← Instr.loadAt 94 (.pointer (some ⟨w.heap.size, 0, none⟩)); pure (Next.value l) : Sem Next).run Tryz.prog Q = .ok (.value (.agg FM.toArray)) Q) := Lib.hid (fun Q hh => load_run 94 w.heap.size 0 FM _ hh Tryz.underlying94 rfl (info_mem HFL.out))
    clear hrow hRW hFM h1 hb HKC
    go_enter Tryz.func72, Tryz.ntmps72
    go_wp2_with (first | ((with_reducible refine box_is 101 (.tmp 0) ?_); refine box_arr 101 (.tmp 0) L.toArray rfl ?_; rw [← HW0.out]) | ((with_reducible refine load_is 92 (.tmp 17) ?_); refine load_arr 92 (.tmp 17) w.heap.size (f * 4) RW _ rfl HRW.out Tryz.underlying92 rfl HIW.out ?_) | fail)
    refine (HMK.out _).mono ?_
    rintro _ W1 ⟨rfl, hW1⟩
    have HB1 : Hid (Below W0.heap.size W0 W1) := Lib.hid (by rw [hW1]; exact (Below.refl _ _).alloc (Nat.le_refl _) _)
    have HCW : Hid (W1.heap[W0.heap.size]? = some (.cells (rowC row) 92 (0, 0))) := Lib.hid (by rw [hW1]; unfold rowC; rw [← HRWE.out]; exact heap_alloc_new W0 _)
    have HZ1 : Hid (W0.heap.size < W1.heap.size) := Lib.hid (by rw [hW1]; simp)
    have HMX1 : Hid (W1.heap[w.heap.size]? = W0.heap[w.heap.size]?) := Lib.hid (HB1.out.block _ HZ0.out)
    clear hW1
    go_wp2_with fail
    refine wp_region_held_drew (S := fun w' => w'.rangeAt w.heap.size 0 FM) (by kernel_rfl) (HME.out _ HMX1.out) (fun hHeld => ?_)
    refine anyH_gen _ (fun QA hgen => ?_)
    have HBA := Lib.hid (by rw [hgen]; exact (Below.refl W1.heap.size W1).drew : Below W1.heap.size W1 QA)
    rw [← hgen] at hHeld
    clear hgen
    refine wpAnyH_take (i := 0) (oi := { dst := some 20, op := .move (.tmp 5), type := _, pos := _, after := _, guard := none }) (v := .int .i64 (f : Int)) rfl (by kernel_rfl) (by kernel_rfl) (by kernel_rfl) (fun _ _ _ h => h) (Or.inl ⟨by rfl, fun wh hSw => ?_⟩) hHeld ?_
    · (go_simp)
    try simp only [Act.put, List.setIfInBounds_toArray, List.set_cons_zero, List.set_cons_succ]
    refine wpAnyH_take (i := 2) (oi := { dst := some 22, op := .move (.tmp 6), type := _, pos := _, after := _, guard := none }) (v := .func (.func 147) #[] #[.pointer (some ⟨W0.heap.size, 0, none⟩)]) rfl (by kernel_rfl) (by kernel_rfl) (by kernel_rfl) (fun _ _ _ h => h) (Or.inl ⟨by rfl, fun wh hSw => ?_⟩) hHeld ?_
    · (go_simp)
    try simp only [Act.put, List.setIfInBounds_toArray, List.set_cons_zero, List.set_cons_succ]
    refine wpAnyH_take (i := 4) (oi := { dst := some 24, op := .fieldAddr 101 (.tmp 2) 0, type := _, pos := _, after := _, guard := none }) (v := .pointer (some ⟨w.heap.size, 0, none⟩)) rfl (by kernel_rfl) (by kernel_rfl) (by kernel_rfl) (fun _ _ _ h => h) (Or.inl ⟨by rfl, fun wh hSw => ?_⟩) hHeld ?_
    · (go_simp)
    try simp only [Act.put, List.setIfInBounds_toArray, List.set_cons_zero, List.set_cons_succ]
    refine wpAnyH_take (i := 5) (oi := { dst := some 25, op := .load 94 (.tmp 24), type := _, pos := _, after := _, guard := none }) (v := .agg FM.toArray) rfl (by kernel_rfl) (by kernel_rfl) (by kernel_rfl) (fun _ _ _ h => h) (Or.inl ⟨by rfl, fun wh hSw => ?_⟩) hHeld ?_
    · (simp only [execOp]; exact HLM.out _ hSw)
    try simp only [Act.put, List.setIfInBounds_toArray, List.set_cons_zero, List.set_cons_succ]
    refine wpAnyH_take (i := 6) (oi := { dst := some 26, op := .move (.tmp 6), type := _, pos := _, after := _, guard := none }) (v := .func (.func 147) #[] #[.pointer (some ⟨W0.heap.size, 0, none⟩)]) rfl (by kernel_rfl) (by kernel_rfl) (by kernel_rfl) (fun _ _ _ h => h) (Or.inl ⟨by rfl, fun wh hSw => ?_⟩) hHeld ?_
    · (go_simp)
    try simp only [Act.put, List.setIfInBounds_toArray, List.set_cons_zero, List.set_cons_succ]
    refine wpAnyH_ready (rs := [1]) (by kernel_rfl) (by simp) ?_
    refine AllReadyH.cons (o := { dst := some 21, op := .buildSlice 42 1 #[(0, .tmp 20)], type := _, pos := _, after := _, guard := none }) rfl (fun K hK => ?_) AllReadyH.nil
    go_simp
    refine hK.out _ _ ?_ (fun hHeld => ?_)
    · exact HME.out _ ((HBA.out.alloc HBA.out.size _).block _ (by have := HZ0.out; have := HZ1.out; omega) |>.trans HMX1.out)
    clear hK K
    try simp only [Act.put, List.setIfInBounds_toArray, List.set_cons_zero, List.set_cons_succ]
    refine anyH_gen _ (fun Q1 hW => ?_)
    have HO1 : Hid (OwnI QA (.slice (some ⟨QA.heap.size, 0, none⟩) 1 1) [(f : Int)] Q1) := Lib.hid (by rw [hW]; exact OwnI.one QA f)
    have HBQ1 : Hid (Below W1.heap.size W1 Q1) := Lib.hid (by rw [hW]; exact HBA.out.alloc HBA.out.size _)
    have HCW1 : Hid (Q1.heap[W0.heap.size]? = some (.cells (rowC row) 92 (0, 0))) := Lib.hid ((HBQ1.out.block _ HZ1.out).trans HCW.out)
    have HMQ1 : Hid (Q1.heap[w.heap.size]? = W0.heap[w.heap.size]?) := Lib.hid ((HBQ1.out.block _ (by have := HZ0.out; have := HZ1.out; omega)).trans HMX1.out)
    have HZQ1 : Hid (QA.heap.size < Q1.heap.size) := Lib.hid (by rw [hW]; simp)
    rw [← hW] at hHeld
    clear hW
    refine wpAnyH_ready (rs := [3]) (by kernel_rfl) (by simp) ?_
    refine AllReadyH.cons (o := { dst := some 23, op := .call { callee := .value (.func 132), args := #[.tmp 21, .tmp 22], argTypes := #[42, 145] }, type := _, pos := _, after := _, guard := none }) rfl (fun K hK => ?_) AllReadyH.nil
    go_simp
    refine (callsIn_wide.1 (appendSeqX_in (d := 0) (N := 4) (b0 := w.heap.size) (S := fun xs => finI xs = named row) (some ⟨QA.heap.size, 0, none⟩) 1 1 [(f : Int)] (by simp) 20 (by omega) (fun xs hx => by have h7 := congrArg List.length hx; rw [fin_len] at h7; have := HNL.out; omega) Q1 (own_lower HO1.out.own (by have := HB0.out.size; have := HB1.out.size; have := HBA.out.size; omega)) (by have := HB0.out.size; have := HB1.out.size; have := HBQ1.out.size; omega) (enters_of Tryz.func147 (by kernel_rfl) rfl) (SeqD.of_stops (named_stopsX 20 W0.heap.size row HR4.out HRB.out Q1 (by have := HZ1.out; have := HBQ1.out.size; omega) HCW1.out)))).mono ?_
    rintro _ Q2 ⟨xs1, v1, rfl, hxs, hxl, ho1, hbx, hblk⟩
    rw [hxs] at ho1
    obtain ⟨g1, c1, rfl, hv1, hg10, hg11⟩ := ownsRow_form ho1 (by simp; omega)
    have HBX1 : Hid (BelX Q1.heap.size (some QA.heap.size) Q1 Q2) := Lib.hid hbx
    have HOW1 := Lib.hid ho1
    have HG1 : Hid (w.heap.size ≤ g1 ∧ g1 < Q2.heap.size) := Lib.hid ⟨hg10, hg11⟩
    have HBLK : Hid (g1 = QA.heap.size ∨ Q1.heap.size ≤ g1) := Lib.hid ((hblk g1 hv1).imp (fun h => Option.some.inj h) id)
    have HMNE : Hid (w.heap.size < g1) := Lib.hid (by have := HBLK.out; have := HZ0.out; have := HZ1.out; have := HBA.out.size; have := HBQ1.out.size; omega)
    have HCW2 : Hid (Q2.heap[W0.heap.size]? = some (.cells (rowC row) 92 (0, 0))) := Lib.hid ((HBX1.out.block _ (by have := HZ1.out; have := HBQ1.out.size; omega) (fun e => by injection e with e; have := HZ1.out; have := HBA.out.size; omega)).trans HCW1.out)
    have HMQ2 : Hid (Q2.heap[w.heap.size]? = W0.heap[w.heap.size]?) := Lib.hid ((HBX1.out.block _ (by have := HZ0.out; have := HZ1.out; have := HBQ1.out.size; omega) (fun e => by injection e with e; have := HZ0.out; have := HZ1.out; have := HBA.out.size; omega)).trans HMQ1.out)
    have HB2 : Hid (Below w.heap.size w Q2) := Lib.hid (((HB0.out.trans (HB1.out.mono HB0.out.size)).trans (HBQ1.out.mono (by have := HB0.out.size; have := HB1.out.size; omega))).trans (HBX1.out.low (by have := HB0.out.size; have := HB1.out.size; have := HBQ1.out.size; omega) (fun q hq => by injection hq with hq; have := HB0.out.size; have := HB1.out.size; have := HBA.out.size; omega)))
    clear hxs hxl ho1 hbx hblk hv1 hg10 hg11 hHeld
    try go_simp
    refine hK.out _ _ ?_ (fun hHeld => ?_)
    · exact HME.out _ HMQ2.out
    clear hK K
    try simp only [Act.put, List.setIfInBounds_toArray, List.set_cons_zero, List.set_cons_succ]
    refine wpAnyH_ready (rs := [7]) (by kernel_rfl) (by simp) ?_
    refine AllReadyH.cons (o := { dst := some 27, op := .call { callee := .value (.func 87), args := #[.tmp 25, .tmp 26], argTypes := #[94, 145] }, type := _, pos := _, after := _, guard := none }) rfl (fun K hK => ?_) AllReadyH.nil
    go_simp
    refine (HAM.out Q2 _).mono ?_
    rintro _ Q3 ⟨rfl, hQ3⟩
    have HBQ3 : Hid (Below Q2.heap.size Q2 Q3) := Lib.hid (by rw [hQ3]; exact ((Below.refl _ _).alloc (Nat.le_refl _) _).alloc (by simp) _)
    have HZ3 : Hid (Q3.heap.size = Q2.heap.size + 2) := Lib.hid (by rw [hQ3]; simp)
    have HCT3 : Hid (Q3.cell? ⟨Q2.heap.size + 1, 0, none⟩ = some (.func (.func 147) #[] #[.pointer (some ⟨W0.heap.size, 0, none⟩)])) := Lib.hid (by rw [hQ3]; have := new_cell (w := Q2.alloc (.cells FM.toArray 94)) (t := 145) (j := 0) (cs := #[.func (.func 147) #[] #[.pointer (some ⟨W0.heap.size, 0, none⟩)]]) (v := .func (.func 147) #[] #[.pointer (some ⟨W0.heap.size, 0, none⟩)]) rfl; rwa [World.size_alloc] at this)
    have HCM3 : Hid (Q3.rangeAt Q2.heap.size 0 (flatL M)) := Lib.hid (by rw [hQ3, ← HFM.out]; exact range_blocks (range_row (heap_alloc_new Q2 _)) (Below.heap_alloc _ _ _ (by simp)))
    have HCW3 : Hid (Q3.heap[W0.heap.size]? = some (.cells (rowC row) 92 (0, 0))) := Lib.hid ((HBQ3.out.block _ (Array.getElem?_eq_some_iff.1 HCW2.out).1).trans HCW2.out)
    have HMQ3 : Hid (Q3.heap[w.heap.size]? = W0.heap[w.heap.size]?) := Lib.hid ((HBQ3.out.block _ (by have := HB2.out.size; have := HG1.out; omega)).trans HMQ2.out)
    have HB3 : Hid (Below w.heap.size w Q3) := Lib.hid (HB2.out.trans (HBQ3.out.mono HB2.out.size))
    clear hQ3 hHeld
    try go_simp
    refine hK.out _ _ ?_ (fun hHeld => ?_)
    · exact HME.out _ HMQ3.out
    clear hK K
    try simp only [Act.put, List.setIfInBounds_toArray, List.set_cons_zero, List.set_cons_succ]
    refine wpAnyH_ready (rs := [8]) (by kernel_rfl) (by simp) ?_
    refine AllReadyH.cons (o := { dst := some 28, op := .call { callee := .value (.func 132), args := #[.tmp 23, .tmp 27], argTypes := #[42, 145] }, type := _, pos := _, after := _, guard := none }) rfl (fun K hK => ?_) AllReadyH.nil
    go_simp
    refine (callsIn_wide.1 (appendSeqX_in (d := 1) (N := 16) (b0 := w.heap.size) (S := fun xs => finI xs = flat M (named row)) (some ⟨g1, 0, none⟩) _ c1 ([(f : Int)] ++ named row) (by simp; have := HNL.out; omega) (20 + 6) (by omega) (fun xs hx => by have h7 := congrArg List.length hx; rw [fin_len] at h7; have := HFN.out; omega) Q3 (own_after (by simpa [Nat.add_comm] using HOW1.out) HBQ3.out) (by have := HB3.out.size; omega) (enters_of Tryz.func148 (by kernel_rfl) rfl) (all_stopsX (some g1) 20 (Q2.heap.size + 1) Q2.heap.size W0.heap.size M HM.out row HR4.out HRB.out Q3 (by have := HZ3.out; omega) (by have := HZ3.out; omega) (fun e => by injection e with e; have := HG1.out; omega) (by have := HZ1.out; have := HBQ1.out.size; have := HBX1.out.size; have := HZ3.out; omega) HCW3.out HCT3.out HCM3.out))).mono ?_
    rintro _ Q4 ⟨xs2, v2, rfl, hxs, hxl, ho2, hbx, hblk⟩
    rw [hxs] at ho2
    obtain ⟨g2, c2, rfl, hv2, hg20, hg21⟩ := ownsRow_form ho2 (by simp; omega)
    have HB4 : Hid (Below w.heap.size w Q4) := Lib.hid (HB3.out.trans (hbx.low (by have := HB3.out.size; omega) (fun q hq => by have hq2 : some g1 = some q := hq; injection hq2 with hq2; have := HG1.out; omega)))
    have HMQ4 : Hid (Q4.heap[w.heap.size]? = W0.heap[w.heap.size]?) := Lib.hid ((hbx.block _ (by have := HB2.out.size; have := HG1.out; have := HZ3.out; omega) (fun e => by have hq2 : some w.heap.size = some g1 := e; injection hq2 with hq2; have := HMNE.out; omega)).trans HMQ3.out)
    obtain ⟨n2, hn2⟩ : ∃ n, n = ([(f : Int)] ++ named row).length + (flat M (named row)).length := ⟨_, rfl⟩
    have HI4 : Hid (Ints Q4 (.slice (some ⟨g2, 0, none⟩) n2 c2) (([(f : Int)] ++ named row) ++ flat M (named row))) := Lib.hid (by have h9 := ho2; rw [← @List.length_append _ ([(f : Int)] ++ named row) (flat M (named row))] at h9; rw [hn2, ← @List.length_append _ ([(f : Int)] ++ named row) (flat M (named row))]; exact ints_of_own h9)
    have HN2 : Hid (n2 = (([(f : Int)] ++ named row) ++ flat M (named row)).length) := Lib.hid (hn2.trans (@List.length_append _ ([(f : Int)] ++ named row) (flat M (named row))).symm)
    rw [← hn2]
    have HYB : Hid (∀ y ∈ ([(f : Int)] ++ named row) ++ flat M (named row), 0 ≤ y ∧ y < 12) := Lib.hid (fun y hy => (List.mem_append.1 hy).elim (fun hy => (List.mem_append.1 hy).elim (fun hy => by rw [List.mem_singleton.1 hy]; exact ⟨by omega, by omega⟩) (fun hy => HNB.out y hy)) (fun hy => HFB.out y hy))
    have HYL : Hid ((([(f : Int)] ++ named row) ++ flat M (named row)).length ≤ 1000) := Lib.hid (by simp only [List.length_append, List.length_singleton]; have := HNL.out; have := HFN.out; omega)
    clear hxs hxl ho2 hbx hblk hv2 hg20 hg21 hn2 hHeld
    try go_simp
    refine hK.out _ _ ?_ (fun hHeld => ?_)
    · exact HME.out _ HMQ4.out
    clear hK K
    try simp only [Act.put, List.setIfInBounds_toArray, List.set_cons_zero, List.set_cons_succ]
    refine wpAnyH_take (i := 9) (oi := { dst := some 7, op := .assign (.tmp 28), type := _, pos := _, after := _, guard := none }) (v := .slice (some ⟨g2, 0, none⟩) n2 c2) rfl (by kernel_rfl) (by kernel_rfl) (by kernel_rfl) (fun _ _ _ h => h) (Or.inl ⟨by rfl, fun wh hSw => ?_⟩) hHeld ?_
    · (go_simp)
    try simp only [Act.put, List.setIfInBounds_toArray, List.set_cons_zero, List.set_cons_succ]
    refine wpAnyH_done (by kernel_rfl) ?_ _
    have HS5 := Lib.hid (values_make Q4 (some ⟨g2, 0, none⟩) n2 c2)
    go_wp2_with fail
    refine HS5.out.mono ?_
    rintro _ Q5 ⟨rfl, hQ5⟩
    have HBQ5 : Hid (Below Q4.heap.size Q4 Q5) := Lib.hid (by rw [hQ5]; exact (Below.refl _ _).alloc (Nat.le_refl _) _)
    have HEV := Lib.hid (each_values Q5 Q4.heap.size _ HYB.out HYL.out (some ⟨g2, 0, none⟩) c2 (by have h9 := Ints.below (B := 0) HI4.out HBQ5.out; rwa [HN2.out] at h9) (by rw [hQ5]; simp) (by rw [hQ5, ← HN2.out]; exact new_cell rfl))
    rw [← HRE.out] at HEV
    have HB5 : Hid (Below w.heap.size w Q5) := Lib.hid (HB4.out.trans (HBQ5.out.mono HB4.out.size))
    clear hQ5
    go_wp2_with fail
    refine HEV.out.mono ?_
    rintro _ Q6 ⟨v6, rfl, hi6, hb6⟩
    have HI6 := Lib.hid hi6
    have HB6 := Lib.hid (HB5.out.trans (hb6.mono HB5.out.size))
    clear hi6 hb6
    go_wp2_with fail
    go_ret
    exact ⟨_, rfl, HI6.out.lower HB5.out.size, HB6.out⟩
end Go.Proofs.YtcmmlgdfhkcmoaaGreat
namespace Go.Proofs.YtcmmlgdfhkcmoaaGreat
open Go.ChangeShapes Go.WideShapes Go.ChangeAt Go.RowKit Go.Maps Go.Shelf
set_option linter.unusedVariables false
set_option linter.unusedSimpArgs false
set_option maxRecDepth 100000
set_option maxHeartbeats 1000000 in
theorem all_any (gf : FuncId) (lb : Array Value) (p : Nat → Bool) (m : Nat) (hm : m ≤ 1000) (w : World)
    (hcf : ∀ (args : Array Value) (w : World), (callFunc gf args).run Tryz.prog w = .ok (.enter gf args) w)
    (hG : ∀ W, Below w.heap.size w W → ∀ k, k < m → Calls Tryz.prog gf (#[.int .i64 (k : Int)] ++ lb) W (BRes (p k) W)) :
    Calls Tryz.prog 180 #[.int .i64 (m : Int), .func (.func gf) #[] lb] w (BRes ((List.range m).all p) w) := by
  have HG := Lib.hid hG
  have HNO : Hid (∀ k, k < m → p k = false → (List.range m).all p = false) := Lib.hid (fun k hk hp => by
    rw [Bool.eq_false_iff]
    intro hh
    have := List.all_eq_true.1 hh k (List.mem_range.2 hk)
    rw [hp] at this
    cases this)
  have HYES : Hid ((∀ k, k < m → p k = true) → (List.range m).all p = true) := Lib.hid (fun hh => List.all_eq_true.2 (fun k hk => hh k (List.mem_range.1 hk)))
  generalize (List.range m).all p = r at HNO HYES ⊢
  have hm' : (m : Int) ≤ 1000 := by omega
  clear hG
  go_enter Tryz.func180, Tryz.ntmps180
  go_wp2_with fail
  go_loopw [7] (fun i wr => ∃ k : Nat, k ≤ m ∧ i = .int .i64 k ∧ Hid (Below w.heap.size w wr) ∧ Hid (∀ t, t < k → p t = true)) (fun i _ => m - (intOf i).toNat)
  case atStart => exact ⟨0, Nat.zero_le _, rfl, Lib.hid (Below.refl _ _), Lib.hid (fun t ht => by omega)⟩
  case round =>
    obtain ⟨k, hk, rfl, HB, HP⟩ := hrel
    by_cases hlt : k < m
    · have hlt' : (k : Int) < (m : Int) := by omega
      have HC := Lib.hid (HG.out wr HB.out k hlt)
      have HNX := Lib.hid (HNO.out k hlt)
      have HPX : Hid (p k = true → ∀ t, t < k + 1 → p t = true) := Lib.hid (fun hb t ht => by
        by_cases e : t = k
        · subst e; exact hb
        · exact HP.out t (by omega))
      generalize p k = q at HC HNX HPX
      go_wp2_with fail
      refine HC.out.mono ?_
      rintro _ w1 ⟨rfl, hb1⟩
      have HB1 := Lib.hid (HB.out.trans (hb1.mono HB.out.size))
      clear hb1
      cases q with
      | false =>
        go_wp2_with fail
        go_ret
        exact ⟨by rw [HNX.out (by trivial)]; rfl, HB1.out⟩
      | true =>
        go_wp2_with fail
        go_roundw
        case rel => exact ⟨k + 1, by omega, by go_num, HB1, Lib.hid (HPX.out (by trivial))⟩
        case measure => simp [intOf]; omega
    · have e : k = m := by omega
      subst e
      go_wp2_with fail
      go_ret
      exact ⟨by rw [HYES.out HP.out]; rfl, HB.out⟩
set_option maxHeartbeats 1000000 in
theorem indexFunc_any (gf : FuncId) (lb : Array Value) (p : Int → Bool) (w : World) (v : Value) (xs : List Int) (hv : Ints w v xs) (hl : xs.length ≤ 1000)
    (hcf : ∀ (args : Array Value) (w : World), (callFunc gf args).run Tryz.prog w = .ok (.enter gf args) w)
    (hG : ∀ W, Below w.heap.size w W → ∀ x, x ∈ xs → Calls Tryz.prog gf (#[.int .i64 x] ++ lb) W (BRes (p x) W)) :
    Calls Tryz.prog 207 #[v, .func (.func gf) #[] lb] w fun e w' => ∃ i : Int, e = .returned (.int .i64 i) ∧ (decide (0 ≤ i) = xs.any p) ∧ Below w.heap.size w w' := by
  obtain ⟨a, ca, rfl, h1, h2, h3⟩ := hv
  unfold maxLen at h2
  obtain ⟨m, hM⟩ : ∃ m, m = xs.length := ⟨_, rfl⟩
  rw [← hM] at h1 h3 hl ⊢
  have HM := Lib.hid hM
  have HX := Lib.hid h3
  have hmem : ∀ k, k < m → xs.getD k 0 ∈ xs := fun k hk => by
    rw [getD_lt (by omega)]
    exact List.getElem_mem _
  have HG : Hid (∀ W, Below w.heap.size w W → ∀ k, k < m → Calls Tryz.prog gf (#[.int .i64 (xs.getD k 0)] ++ lb) W (BRes (p (xs.getD k 0)) W)) := Lib.hid (fun W hW k hk => hG W hW (xs.getD k 0) (hmem k hk))
  have HYES : Hid (∀ k, k < m → p (xs.getD k 0) = true → xs.any p = true) := Lib.hid (fun k hk hp => List.any_eq_true.2 ⟨xs.getD k 0, hmem k hk, hp⟩)
  have HNO : Hid ((∀ k, k < m → p (xs.getD k 0) = false) → xs.any p = false) := Lib.hid (fun hh => by
    rw [Bool.eq_false_iff]
    intro ha
    obtain ⟨x, hx, hp⟩ := List.any_eq_true.1 ha
    obtain ⟨k, hk, rfl⟩ := List.getElem_of_mem hx
    have := hh k (by omega)
    rw [getD_lt hk, hp] at this
    cases this)
  generalize xs.any p = r at HNO HYES ⊢
  have hm' : (m : Int) ≤ 1000 := by omega
  clear hG h3 hM hmem
  go_enter Tryz.func207, Tryz.ntmps207
  go_wp2_with fail
  go_loopw [8] (fun i wr => ∃ k : Nat, k ≤ m ∧ i = .int .i64 k ∧ Hid (Below w.heap.size w wr) ∧ Hid (∀ t, t < k → p (xs.getD t 0) = false)) (fun i _ => m - (intOf i).toNat)
  case atStart => exact ⟨0, Nat.zero_le _, rfl, Lib.hid (Below.refl _ _), Lib.hid (fun t ht => by omega)⟩
  case round =>
    obtain ⟨k, hk, rfl, HB, HP⟩ := hrel
    by_cases hlt : k < m
    · have hlt' : (k : Int) < (m : Int) := by omega
      have hk0 : (0 : Int) ≤ (k : Int) := by omega
      obtain ⟨b, o, rfl, hc0⟩ := HX.out k hlt
      have hc := (HB.out.cell (p := ⟨b, o + k, none⟩) (cell_lt hc0)).trans hc0
      have HC := Lib.hid (HG.out wr HB.out k hlt)
      have HNX := Lib.hid (HYES.out k hlt)
      have HPX : Hid (p (xs.getD k 0) = false → ∀ t, t < k + 1 → p (xs.getD t 0) = false) := Lib.hid (fun hb t ht => by
        by_cases e : t = k
        · subst e; exact hb
        · exact HP.out t (by omega))
      obtain ⟨x, hx⟩ : ∃ x, x = xs.getD k 0 := ⟨_, rfl⟩
      rw [← hx] at hc HC HNX HPX
      generalize p x = q at HC HNX HPX
      clear hx hc0
      go_wp2_with fail
      refine HC.out.mono ?_
      rintro _ w1 ⟨rfl, hb1⟩
      have HB1 := Lib.hid (HB.out.trans (hb1.mono HB.out.size))
      clear hb1
      cases q with
      | true =>
        go_wp2_with fail
        go_ret
        exact ⟨(k : Int), rfl, by rw [HNX.out (by trivial)]; exact decide_eq_true hk0, HB1.out⟩
      | false =>
        go_wp2_with fail
        go_roundw
        case rel => exact ⟨k + 1, by omega, by go_num, HB1, Lib.hid (HPX.out (by trivial))⟩
        case measure => simp [intOf]; omega
    · have e : k = m := by omega
      subst e
      go_wp2_with fail
      go_ret
      exact ⟨-1, rfl, by rw [HNO.out HP.out]; rfl, HB.out⟩
theorem contains_any (gf : FuncId) (lb : Array Value) (p : Int → Bool) (w : World) (v : Value) (xs : List Int) (hv : Ints w v xs) (hl : xs.length ≤ 1000)
    (hcf : ∀ (args : Array Value) (w : World), (callFunc gf args).run Tryz.prog w = .ok (.enter gf args) w)
    (hG : ∀ W, Below w.heap.size w W → ∀ x, x ∈ xs → Calls Tryz.prog gf (#[.int .i64 x] ++ lb) W (BRes (p x) W)) :
    Calls Tryz.prog 173 #[v, .func (.func gf) #[] lb] w (BRes (xs.any p) w) := by
  have HI := Lib.hid (indexFunc_any gf lb p w v xs hv hl hcf hG)
  generalize xs.any p = r at HI ⊢
  obtain ⟨a, ca, rfl, -, -, -⟩ := hv
  clear hG hcf
  go_enter Tryz.func173, Tryz.ntmps173
  go_wp2_with fail
  refine HI.out.mono ?_
  rintro _ w1 ⟨i, rfl, hi, hb⟩
  have HB := Lib.hid hb
  have HD := Lib.hid hi
  clear hb hi
  go_wp2_with fail
  go_ret
  exact ⟨by rw [← HD.out]; rfl, HB.out⟩
end Go.Proofs.YtcmmlgdfhkcmoaaGreat
namespace Go.Proofs.YtcmmlgdfhkcmoaaGreat
open Go.ChangeShapes Go.WideShapes Go.ChangeAt Go.RowKit Go.Maps Go.Shelf
set_option linter.unusedVariables false
set_option linter.unusedSimpArgs false
set_option maxRecDepth 100000
set_option maxHeartbeats 1000000 in
theorem notAllowed_any (W : World) (X V : Nat) (M : List (List Int)) (I : List IV) (E : List EV) (bs : Nat → Nat) (R L : List Value) (h : KC W X M I E bs R L) (j : Nat) (hj : j < 3) (hv : W.cell? ⟨V, 0, none⟩ = some (.int .i64 (j : Int))) (f : Nat) (hf : f < 12) :
    Calls Tryz.prog 174 #[.int .i64 (f : Int), .pointer (some ⟨X, 0, none⟩), .pointer (some ⟨V, 0, none⟩)] W (BRes (!may0 (E.getD j ez).r (I.getD f iz).g) W) := by
  have hm := h.map hj
  have hg := (h.tri hf).c1
  have HS := Lib.hid (h.l.set j hj)
  have HAL : Hid (∀ Q, Below W.heap.size W Q → Calls Tryz.prog 75 #[.map (some (bs j)), .string ⟨(I.getD f iz).g.toArray⟩] Q (Says (may0 (E.getD j ez).r (I.getD f iz).g) Q)) := Lib.hid (fun Q hQ => allow_any Q (bs j) _ _ (HS.out.below hQ) ((isok_short h.l.i).at f))
  have HIX := run_indexAt_off (P := Tryz.prog) 88 3 86 2 Tryz.underlying88 size_env (by omega) X 84 j hj
  have HIF := run_indexAt_off (P := Tryz.prog) 96 12 46 3 Tryz.underlying96 size_info (by omega) X 48 f hf
  have hj0 : (0 : Int) ≤ (j : Int) := by omega
  have hj3 : (j : Int) < 3 := by omega
  have hf0 : (0 : Int) ≤ (f : Int) := by omega
  have hf12 : (f : Int) < 12 := by omega
  obtain ⟨b, hb⟩ : ∃ b, b = bs j := ⟨_, rfl⟩
  obtain ⟨g, hgg⟩ : ∃ g, g = (I.getD f iz).g := ⟨_, rfl⟩
  obtain ⟨rs, hrs⟩ : ∃ rs, rs = (E.getD j ez).r := ⟨_, rfl⟩
  rw [← hb] at hm HAL
  rw [← hgg] at hg HAL ⊢
  rw [← hrs] at HAL ⊢
  have FS : Hid (∀ Q, Below W.heap.size W Q → Q.cell? ⟨V, 0, none⟩ = some (.int .i64 (j : Int)) ∧ Q.cell? ⟨X, 84 + j * 2, none⟩ = some (.map (some b)) ∧ Q.cell? ⟨X, 48 + f * 3 + 1, none⟩ = some (.string ⟨g.toArray⟩)) := Lib.hid (fun Q hQ => ⟨(hQ.cell (p := ⟨V, 0, none⟩) (cell_lt hv)).trans hv, (hQ.cell (p := ⟨X, 84 + j * 2, none⟩) (cell_lt hm)).trans hm, (hQ.cell (p := ⟨X, 48 + f * 3 + 1, none⟩) (cell_lt hg)).trans hg⟩)
  have HA := Lib.hid (HAL.out W.drew (Below.refl _ _).drew)
  generalize may0 rs g = q at HA ⊢
  clear h hb hgg hrs HS HAL hv hm hg hj hf
  go_enter Tryz.func174, Tryz.ntmps174
  go_wp2_with fail
  refine wp_region_held_drew (S := fun w' => w'.cell? ⟨V, 0, none⟩ = some (.int .i64 (j : Int)) ∧ w'.cell? ⟨X, 84 + j * 2, none⟩ = some (.map (some b)) ∧ w'.cell? ⟨X, 48 + f * 3 + 1, none⟩ = some (.string ⟨g.toArray⟩)) (by kernel_rfl) (FS.out _ (Below.refl _ _).drew) (fun hHeld => ?_)
  refine wpAnyH_take (i := 0) (oi := { dst := some 5, op := .load 3 (.tmp 2), type := _, pos := _, after := _, guard := none }) (v := .int .i64 (j : Int)) rfl (by kernel_rfl) (by kernel_rfl) (by kernel_rfl) (fun _ _ _ h => h) (Or.inl ⟨by rfl, fun wh hSw => ?_⟩) hHeld ?_
  · (obtain ⟨s0, s1, s2⟩ := hSw; go_simp)
  try simp only [Act.put, List.setIfInBounds_toArray, List.set_cons_zero, List.set_cons_succ]
  refine wpAnyH_take (i := 1) (oi := { dst := some 6, op := .fieldAddr 101 (.tmp 1) 2, type := _, pos := _, after := _, guard := none }) (v := .pointer (some ⟨X, 84, none⟩)) rfl (by kernel_rfl) (by kernel_rfl) (by kernel_rfl) (fun _ _ _ h => h) (Or.inl ⟨by rfl, fun wh hSw => ?_⟩) hHeld ?_
  · (obtain ⟨s0, s1, s2⟩ := hSw; go_simp)
  try simp only [Act.put, List.setIfInBounds_toArray, List.set_cons_zero, List.set_cons_succ]
  refine wpAnyH_take (i := 2) (oi := { dst := some 7, op := .indexAddr 88 (.tmp 6) (.tmp 5), type := _, pos := _, after := _, guard := none }) (v := .pointer (some ⟨X, 84 + j * 2, none⟩)) rfl (by kernel_rfl) (by kernel_rfl) (by kernel_rfl) (fun _ _ _ h => h) (Or.inl ⟨by rfl, fun wh hSw => ?_⟩) hHeld ?_
  · (obtain ⟨s0, s1, s2⟩ := hSw; go_simp)
  try simp only [Act.put, List.setIfInBounds_toArray, List.set_cons_zero, List.set_cons_succ]
  refine wpAnyH_take (i := 3) (oi := { dst := some 8, op := .fieldAddr 86 (.tmp 7) 0, type := _, pos := _, after := _, guard := none }) (v := .pointer (some ⟨X, 84 + j * 2, none⟩)) rfl (by kernel_rfl) (by kernel_rfl) (by kernel_rfl) (fun _ _ _ h => h) (Or.inl ⟨by rfl, fun wh hSw => ?_⟩) hHeld ?_
  · (obtain ⟨s0, s1, s2⟩ := hSw; go_simp)
  try simp only [Act.put, List.setIfInBounds_toArray, List.set_cons_zero, List.set_cons_succ]
  refine wpAnyH_take (i := 4) (oi := { dst := some 9, op := .load 84 (.tmp 8), type := _, pos := _, after := _, guard := none }) (v := .map (some b)) rfl (by kernel_rfl) (by kernel_rfl) (by kernel_rfl) (fun _ _ _ h => h) (Or.inl ⟨by rfl, fun wh hSw => ?_⟩) hHeld ?_
  · (obtain ⟨s0, s1, s2⟩ := hSw; go_simp)
  try simp only [Act.put, List.setIfInBounds_toArray, List.set_cons_zero, List.set_cons_succ]
  refine wpAnyH_take (i := 5) (oi := { dst := some 10, op := .move (.tmp 0), type := _, pos := _, after := _, guard := none }) (v := .int .i64 (f : Int)) rfl (by kernel_rfl) (by kernel_rfl) (by kernel_rfl) (fun _ _ _ h => h) (Or.inl ⟨by rfl, fun wh hSw => ?_⟩) hHeld ?_
  · (obtain ⟨s0, s1, s2⟩ := hSw; go_simp)
  try simp only [Act.put, List.setIfInBounds_toArray, List.set_cons_zero, List.set_cons_succ]
  refine wpAnyH_take (i := 6) (oi := { dst := some 11, op := .fieldAddr 101 (.tmp 1) 1, type := _, pos := _, after := _, guard := none }) (v := .pointer (some ⟨X, 48, none⟩)) rfl (by kernel_rfl) (by kernel_rfl) (by kernel_rfl) (fun _ _ _ h => h) (Or.inl ⟨by rfl, fun wh hSw => ?_⟩) hHeld ?_
  · (obtain ⟨s0, s1, s2⟩ := hSw; go_simp)
  try simp only [Act.put, List.setIfInBounds_toArray, List.set_cons_zero, List.set_cons_succ]
  refine wpAnyH_take (i := 7) (oi := { dst := some 12, op := .indexAddr 96 (.tmp 11) (.tmp 10), type := _, pos := _, after := _, guard := none }) (v := .pointer (some ⟨X, 48 + f * 3, none⟩)) rfl (by kernel_rfl) (by kernel_rfl) (by kernel_rfl) (fun _ _ _ h => h) (Or.inl ⟨by rfl, fun wh hSw => ?_⟩) hHeld ?_
  · (obtain ⟨s0, s1, s2⟩ := hSw; go_simp)
  try simp only [Act.put, List.setIfInBounds_toArray, List.set_cons_zero, List.set_cons_succ]
  refine wpAnyH_take (i := 8) (oi := { dst := some 13, op := .fieldAddr 46 (.tmp 12) 1, type := _, pos := _, after := _, guard := none }) (v := .pointer (some ⟨X, 48 + f * 3 + 1, none⟩)) rfl (by kernel_rfl) (by kernel_rfl) (by kernel_rfl) (fun _ _ _ h => h) (Or.inl ⟨by rfl, fun wh hSw => ?_⟩) hHeld ?_
  · (obtain ⟨s0, s1, s2⟩ := hSw; go_simp)
  try simp only [Act.put, List.setIfInBounds_toArray, List.set_cons_zero, List.set_cons_succ]
  refine wpAnyH_take (i := 9) (oi := { dst := some 14, op := .load 9 (.tmp 13), type := _, pos := _, after := _, guard := none }) (v := .string ⟨g.toArray⟩) rfl (by kernel_rfl) (by kernel_rfl) (by kernel_rfl) (fun _ _ _ h => h) (Or.inl ⟨by rfl, fun wh hSw => ?_⟩) hHeld ?_
  · (obtain ⟨s0, s1, s2⟩ := hSw; go_simp)
  try simp only [Act.put, List.setIfInBounds_toArray, List.set_cons_zero, List.set_cons_succ]
  refine wpAnyH_ready (rs := [10]) (by kernel_rfl) (by simp) ?_
  refine AllReadyH.cons (o := { dst := some 15, op := .call { callee := .value (.func 75), args := #[.tmp 9, .tmp 14], argTypes := #[84, 9] }, type := _, pos := _, after := _, guard := none }) rfl (fun K hK => ?_) AllReadyH.nil
  go_simp
  refine HA.out.mono ?_
  rintro _ w' ⟨rfl, rfl⟩
  try go_simp
  refine hK.out _ _ ?_ (fun hHeld => ?_)
  · exact hHeld
  clear hK K
  try simp only [Act.put, List.setIfInBounds_toArray, List.set_cons_zero, List.set_cons_succ]
  refine wpAnyH_take (i := 11) (oi := { dst := some 16, op := .unOp .not 4 (.tmp 15), type := _, pos := _, after := _, guard := none }) (v := .bool (!q)) rfl (by kernel_rfl) (by kernel_rfl) (by kernel_rfl) (fun _ _ _ h => h) (Or.inl ⟨by rfl, fun wh hSw => ?_⟩) hHeld ?_
  · (obtain ⟨s0, s1, s2⟩ := hSw; go_simp)
  try simp only [Act.put, List.setIfInBounds_toArray, List.set_cons_zero, List.set_cons_succ]
  refine wpAnyH_take (i := 12) (oi := { dst := some 4, op := .assign (.tmp 16), type := _, pos := _, after := _, guard := none }) (v := .bool (!q)) rfl (by kernel_rfl) (by kernel_rfl) (by kernel_rfl) (fun _ _ _ h => h) (Or.inl ⟨by rfl, fun wh hSw => ?_⟩) hHeld ?_
  · (obtain ⟨s0, s1, s2⟩ := hSw; go_simp)
  try simp only [Act.put, List.setIfInBounds_toArray, List.set_cons_zero, List.set_cons_succ]
  refine wpAnyH_done (by kernel_rfl) ?_ _
  go_wp2_with fail
  go_ret
  exact ⟨rfl, (Below.refl _ _).drew⟩
set_option maxHeartbeats 1000000 in
theorem allowed_any (W : World) (X : Nat) (M : List (List Int)) (I : List IV) (E : List EV) (bs : Nat → Nat) (R L : List Value) (h : KC W X M I E bs R L) (j : Nat) (hj : j < 3) (hb : -1 ≤ (E.getD j ez).t ∧ (E.getD j ez).t ≤ 11) :
    Calls Tryz.prog 172 #[.int .i64 (j : Int), .pointer (some ⟨X, 0, none⟩)] W (BRes (alw I (reach M (E.getD j ez).t) (E.getD j ez).r) W) := by
  obtain ⟨W1, hW1⟩ : ∃ W1, W1 = W.alloc (.cells #[.int .i64 (j : Int)] 3) := ⟨_, rfl⟩
  have HB1 : Hid (Below W.heap.size W W1) := Lib.hid (by rw [hW1]; exact (Below.refl _ _).alloc (Nat.le_refl _) _)
  have HV1 : Hid (W1.cell? ⟨W.heap.size, 0, none⟩ = some (.int .i64 (j : Int))) := Lib.hid (by rw [hW1]; exact new_cell rfl)
  have HKC := Lib.hid (h.below HB1.out)
  have HW1 := Lib.hid hW1
  have HLL := Lib.hid h.l.len
  have HRE := Lib.hid (kreach_any W1 M I E bs R L HKC.out.l j hj hb)
  have HNA : Hid (∀ Q, Below W1.heap.size W1 Q → ∀ x, x ∈ reach M (E.getD j ez).t → Calls Tryz.prog 174 (#[.int .i64 x] ++ #[.pointer (some ⟨X, 0, none⟩), .pointer (some ⟨W.heap.size, 0, none⟩)]) Q (BRes (!may0 (E.getD j ez).r (I.getD x.toNat iz).g) Q)) := Lib.hid (fun Q hQ x hx => by
    obtain ⟨x0, x12⟩ := reach_in hx
    obtain ⟨f, rfl⟩ := Int.eq_ofNat_of_zero_le x0
    rw [Int.toNat_natCast]
    exact notAllowed_any Q X W.heap.size M I E bs R L (HKC.out.below hQ) j hj ((hQ.cell (p := ⟨W.heap.size, 0, none⟩) (cell_lt HV1.out)).trans HV1.out) f (by omega))
  have HAW : Hid (alw I (reach M (E.getD j ez).t) (E.getD j ez).r = !((reach M (E.getD j ez).t).any (fun x => !may0 (E.getD j ez).r (I.getD x.toNat iz).g))) := Lib.hid (by
    unfold alw
    rw [Bool.eq_iff_iff]
    simp)
  have HRL : Hid ((reach M (E.getD j ez).t).length ≤ 1000) := Lib.hid (by have := reach_len M (E.getD j ez).t; omega)
  rw [HAW.out]
  obtain ⟨fs, hfs⟩ : ∃ fs, fs = reach M (E.getD j ez).t := ⟨_, rfl⟩
  rw [← hfs] at HRE HNA HRL ⊢
  have HCT := Lib.hid (fun Q v (hQ : Below W1.heap.size W1 Q) (hv : Ints Q v fs) => contains_any 174 #[.pointer (some ⟨X, 0, none⟩), .pointer (some ⟨W.heap.size, 0, none⟩)] (fun x => !may0 (E.getD j ez).r (I.getD x.toNat iz).g) Q v fs hv HRL.out (enters_of Tryz.func174 (by kernel_rfl) rfl) (fun Q' hQ' x hx => HNA.out Q' (hQ.trans (hQ'.mono hQ.size)) x hx))
  generalize (fs.any fun x => !may0 (E.getD j ez).r (I.getD x.toNat iz).g) = q at HCT ⊢
  have HAT := Lib.hid HKC.out.at0
  have hz1 : W.heap.size < W1.heap.size := by rw [hW1]; simp
  have hv1 := HV1.out
  clear h hW1 hfs HKC hb HAW HNA
  go_enter Tryz.func172, Tryz.ntmps172
  go_wp2_with (first | ((with_reducible refine load_is 101 (.tmp 1) ?_); rw [← HW1.out]; refine load_arr 101 (.tmp 1) X 0 L _ rfl HAT.out Tryz.underlying101 rfl (info_kernel HLL.out) ?_) | fail)
  refine HRE.out.mono ?_
  rintro _ W2 ⟨v2, rfl, hi2, hb2⟩
  have HB2 := Lib.hid hb2
  have HC2 := Lib.hid (HCT.out W2 v2 hb2 hi2.ints)
  clear hi2 hb2
  go_wp2_with fail
  refine HC2.out.mono ?_
  rintro _ W3 ⟨rfl, hb3⟩
  have HB3 := Lib.hid ((HB1.out.trans (HB2.out.mono HB1.out.size)).trans (hb3.mono (by have := HB1.out.size; have := HB2.out.size; omega)))
  clear hb3
  go_wp2_with fail
  go_ret
  exact ⟨rfl, HB3.out⟩
end Go.Proofs.YtcmmlgdfhkcmoaaGreat
namespace Go.Proofs.YtcmmlgdfhkcmoaaGreat
open Go.ChangeShapes Go.WideShapes Go.ChangeAt Go.RowKit Go.Maps Go.Shelf
set_option linter.unusedVariables false
set_option linter.unusedSimpArgs false
set_option maxRecDepth 100000
set_option maxHeartbeats 1000000 in
theorem ktables_any (w : World) (M : List (List Int)) (I : List IV) (E : List EV) (bs : Nat → Nat) (R L : List Value) (h : KL w M I E bs R L) :
    Calls Tryz.prog 170 #[.agg L.toArray] w fun e w' => e = .returned (.agg (tC M I).toArray) ∧ Below w.heap.size w w' := by
  have HKC := Lib.hid (h.box 101)
  obtain ⟨W0, hW0⟩ : ∃ W0, W0 = w.alloc (.cells L.toArray 101) := ⟨_, rfl⟩
  rw [← hW0] at HKC
  have HB0 : Hid (Below w.heap.size w W0) := Lib.hid (by rw [hW0]; exact (Below.refl _ _).alloc (Nat.le_refl _) _)
  have HTC : Hid (tC M I = flatL M ++ isC I) := Lib.hid (by unfold tC; rw [mC_ok h.m])
  rw [HTC.out]
  have HAL : Hid ((flatL M).length = 48) := Lib.hid (flat_len h.m)
  have HBL : Hid ((isC I).length = 36) := Lib.hid (isC_36 (isok_len h.i))
  have HTO : Hid ((flatL M ++ isC I).toArray.all (·.oneCell') = true) := Lib.hid (by rw [← HTC.out]; exact tC_one M I)
  have HBT := Lib.hid (fun W => run_build_tables (flatL M) (isC I) HAL.out HBL.out W)
  have ZT := Lib.hid zero_tables
  have HZL := Lib.hid Z84_len
  obtain ⟨zt, hzt⟩ : ∃ z, z = Z84 := ⟨_, rfl⟩
  rw [← hzt] at ZT HZL
  obtain ⟨W1, hW1⟩ : ∃ W1, W1 = W0.alloc (.cells zt.toArray 126) := ⟨_, rfl⟩
  have HB1 : Hid (Below W0.heap.size W0 W1) := Lib.hid (by rw [hW1]; exact (Below.refl _ _).alloc (Nat.le_refl _) _)
  have HMA : Hid (W1.rangeAt w.heap.size 0 (flatL M)) := Lib.hid (HKC.out.below HB1.out).mem
  have HMB : Hid (W1.rangeAt w.heap.size 48 (isC I)) := Lib.hid (HKC.out.below HB1.out).inf
  obtain ⟨A, hA⟩ : ∃ A, A = flatL M := ⟨_, rfl⟩
  obtain ⟨B, hB⟩ : ∃ B, B = isC I := ⟨_, rfl⟩
  rw [← hA] at HAL HTO HBT HMA ⊢
  rw [← hB] at HBL HTO HBT HMB ⊢
  have HTZ : Hid ((A ++ B).toArray.size = 84) := Lib.hid (by rw [List.size_toArray, List.length_append, HAL.out, HBL.out])
  have HTH : Hid (W1.there W0.heap.size 0 (A ++ B).toArray.size) := Lib.hid (by rw [hW1, HTZ.out]; exact there_row (heap_alloc_new W0 _) (by rw [List.size_toArray, HZL.out]; exact Nat.le_refl _))
  obtain ⟨W2, hW2⟩ : ∃ W2, W2 = W1.setCells W0.heap.size 0 (A ++ B) := ⟨_, rfl⟩
  have HR2 : Hid (W2.rangeAt W0.heap.size 0 (A ++ B)) := Lib.hid (by rw [hW2]; exact World.rangeAt_setCells_same _ _ _ _ HTH.out)
  have HB2 : Hid (Below w.heap.size w W2) := Lib.hid (by rw [hW2]; exact Below.setCells (Below.refl _ _) _ HB0.out.size _ _ _ (HB0.out.trans (HB1.out.mono HB0.out.size)))
  have HTL : Hid ((A ++ B).length = 84) := Lib.hid (by rw [List.length_append, HAL.out, HBL.out])
  have HW0 := Lib.hid hW0
  have HW1 := Lib.hid hW1
  have HW2 := Lib.hid hW2
  clear hW0 hW1 hW2 hA hB hzt h HKC
  go_enter Tryz.func170, Tryz.ntmps170
  go_wp2_with (first | ((with_reducible refine box_is 101 (.tmp 0) ?_); refine box_arr 101 (.tmp 0) L.toArray rfl ?_; rw [← HW0.out]) | ((with_reducible refine alloc_is 126 ?_); refine alloc_arr 126 zt.toArray ZT.out ?_; rw [← HW1.out]) | ((with_reducible refine load_is 94 (.tmp 3) ?_); refine load_arr 94 (.tmp 3) w.heap.size 0 A _ rfl HMA.out Tryz.underlying94 rfl (info_mem HAL.out) ?_) | ((with_reducible refine load_is 96 (.tmp 5) ?_); refine load_arr 96 (.tmp 5) w.heap.size 48 B _ rfl HMB.out Tryz.underlying96 rfl (info_infos HBL.out) ?_) | ((with_reducible refine buildp_is 126 #[(0, .tmp 4), (1, .tmp 6)] ?_); refine build_run2 126 (.tmp 4) (.tmp 6) (.agg A.toArray) (.agg B.toArray) rfl rfl (A ++ B).toArray HBT.out ?_) | ((with_reducible refine store_is 126 (.tmp 2) (.tmp 7) ?_); refine store_arr 126 (.tmp 2) (.tmp 7) W0.heap.size 0 (A ++ B).toArray rfl rfl HTH.out (info_tables HTZ.out) HTO.out ?_; rw [show (A ++ B).toArray.toList = A ++ B from rfl, ← HW2.out]) | fail)
  refine bodyPost_ret (results_one_mid rfl _ _ W0.heap.size 0 (A ++ B) _ rfl HR2.out Tryz.underlying126 rfl (info_tables HTL.out)) rfl ?_
  exact ⟨rfl, HB2.out⟩
end Go.Proofs.YtcmmlgdfhkcmoaaGreat
namespace Go.Proofs.YtcmmlgdfhkcmoaaGreat
open Go.ChangeShapes Go.WideShapes Go.ChangeAt Go.RowKit Go.Maps Go.Shelf
set_option linter.unusedVariables false
set_option linter.unusedSimpArgs false
set_option maxRecDepth 100000
def vB (M : List (List Int)) (I : List IV) (E : List EV) (C : List CV) : Bool :=
  (List.range 3).all (fun j => rootB I (E.getD j ez).t) && ((List.range 3).all (fun j => alw I (reach M (E.getD j ez).t) (E.getD j ez).r) && ((List.range 12).all (fun f => !isTab (I.getD f iz).k || tgood M I (f : Int) (I.getD f iz).k [[]]) && ((List.range 12).all (fun f => decide ((I.getD f iz).r = ((cntN M I f 12 + cntE E 3 f : Nat) : Int))) && (List.range C.length).all (fun i => cach1 M E (C.getD i c0)))))
theorem rootB_bd {I : List IV} {t : Int} (h : rootB I t = true) : -1 ≤ t ∧ t ≤ 11 := by
  unfold rootB at h
  rw [Bool.or_eq_true, decide_eq_true_eq, Bool.and_eq_true, inR_iff] at h
  omega
theorem OwnC.ne_block {w0 w : World} {v : Value} {ys : List CV} {b : Nat} {D : Array Value} {t : TypeId} {fr : Nat × Nat} (h : OwnC w0 v ys w) (hb : w.heap[b]? = some (.cells D t fr)) (ht : t ≠ 55) : v.ownBlock ≠ some b := by
  intro e
  rcases h.own.2 with ⟨e1, _⟩ | ⟨g, cap, cur, e1, _, hbl, _⟩
  · exact h.nn e1
  · rw [e1] at e
    have e2 : g = b := by simpa [Value.ownBlock] using e
    subst e2
    rw [hb] at hbl
    simp at hbl
    exact ht hbl.2.1
theorem two_stores {w0 Q : World} {v : Value} {C : List CV} {u b : Nat} {x : Value} {zu UC : List Value} {cu : Nat → Int} (ho : OwnC w0 v C Q) (hu : Q.heap[u]? = some (.cells zu.toArray 140 (0, 0))) (hb : Q.heap[b]? = some (.cells #[x] 28 (0, 0))) (hz : zu.length = 12) (hE : UC = uC cu) :
    Us ((Q.setCells u 0 UC).setCell ⟨b, 0, none⟩ v) u cu ∧ ((Q.setCells u 0 UC).setCell ⟨b, 0, none⟩ v).cell? ⟨b, 0, none⟩ = some v ∧ Cs ((Q.setCells u 0 UC).setCell ⟨b, 0, none⟩ v) v C := by
  have hne : u ≠ b := by
    rintro rfl
    rw [hu] at hb
    have := congrArg (fun o => match o with | some (Obj.cells _ t _) => t | _ => 0) hb
    exact absurd this (show ¬ ((140 : Nat) = 28) by decide)
  have hg1 := ho.ne_block hu (by decide)
  have hg2 := ho.ne_block hb (by decide)
  have hth : Q.there u 0 UC.length := there_row hu (by rw [List.size_toArray, hz, hE, uC_len]; exact Nat.le_refl _)
  have hbx : (Q.setCells u 0 UC).cell? ⟨b, 0, none⟩ = some x := by
    rw [World.cell?_of_block (heap_setCells_other Q u UC 0 Q b (by omega)), cell_of_row Q b 0 _ _ _ hb]; rfl
  refine ⟨?_, cell_set_same hbx, ?_⟩
  · refine Us.block (w := Q.setCells u 0 UC) (Us.of_range ?_ ?_) (Below.heap_setCell _ _ _ u (by show u ≠ b; exact hne))
    · rw [← hE]; exact World.rangeAt_setCells_same _ _ _ _ hth
    · have h2 := World.there_setCells hth u 0 UC
      rwa [show UC.length = 12 from by rw [hE, uC_len]] at h2
  · obtain ⟨a, cap, e, h1, h2, h3⟩ := ho.cs
    refine ⟨a, cap, e, h1, h2, fun i hi => ?_⟩
    obtain ⟨g, o, e2, hf⟩ := h3 i hi
    have hgg : v.ownBlock = some g := by
      rcases ho.own.2 with ⟨e1, _⟩ | ⟨g', cap', cur, e1, _, _, _⟩
      · exact absurd e1 ho.nn
      · rw [e1] at e
        injection e with e3
        rw [e2] at e3
        injection e3 with e3
        injection e3 with e3
        rw [e1, ← e3]; rfl
    have hgu : g ≠ u := fun h => hg1 (by rw [hgg, h])
    have hgb : g ≠ b := fun h => hg2 (by rw [hgg, h])
    have hbk : ((Q.setCells u 0 UC).setCell ⟨b, 0, none⟩ v).heap[g]? = Q.heap[g]? := (Below.heap_setCell _ _ _ g (by show g ≠ b; exact hgb)).trans (heap_setCells_other Q u UC 0 Q g (by omega))
    exact ⟨g, o, e2, ⟨(World.cell?_of_block hbk).trans hf.c0, (World.cell?_of_block hbk).trans hf.c1, (World.cell?_of_block hbk).trans hf.c2, (World.cell?_of_block hbk).trans hf.c3⟩⟩
end Go.Proofs.YtcmmlgdfhkcmoaaGreat
