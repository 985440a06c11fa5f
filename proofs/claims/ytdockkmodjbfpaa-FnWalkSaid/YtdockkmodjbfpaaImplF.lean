/- What the program's WalkFrames returns at all arguments. -/
import Derived.Test.YtdockkmodjbfpaaImplT
import Derived.Deep.RegionHeld
namespace Go.Proofs.Ytdockkmodjbfpaa
open Go.ChangeShapes Go.WideShapes Go.ChangeAt Go.RowKit Go.Shelf
set_option linter.unusedVariables false

theorem load_run {P : Program} {W : World} (ty : TypeId) (b o : Nat) (cs : List Value) (d : TypeDesc) (hc : W.rangeAt b o cs) (hu : P.underlying ty = some d) (hd : d.isRow = true) (hi : (P.info? ty).map (·.size) = some cs.length) :
    (do let l ← Instr.loadAt ty (.pointer (some ⟨b, o, none⟩)); pure (Next.value l) : Sem Next).run P W = .ok (.value (.agg cs.toArray)) W := by
  simp only [Instr.loadAt, Instr.sureAddr, Sem.run_bind, Sem.run_pure, Result.andThen_ok, run_loadVar_mid W b o ty cs d hc hu hd hi]
set_option maxRecDepth 100000 in
set_option maxHeartbeats 2000000 in
theorem ifrms_any (w : World) (v : Value) (xss : List (List Int)) (r : Int) (h : Rows2 w v xss) :
    Calls Try.prog 26 #[v, .int .i64 r] w (NewR (frmF xss r) w) := by
  have hc := memoryOf_any h
  by_cases hm : memOk xss = true
  · rw [hm] at hc
    have HM := Lib.hid hm
    have hs : (flatL xss).length = 48 := flat_len hm
    have ho : (flatL xss).toArray.all (·.oneCell') = true := flat_one xss
    obtain ⟨cs, hcs⟩ : ∃ cs, cs = flatL xss := ⟨_, rfl⟩
    replace hc : Calls Try.prog 44 #[v] w (ArrRes w cs.toArray true) := by rw [hcs]; exact hc
    rw [← hcs] at hs ho
    have HC := Lib.hid hc
    have HS := Lib.hid hs
    have HO := Lib.hid ho
    have HCS := Lib.hid hcs
    clear hc hs ho h hcs hm
    obtain ⟨z48, hz48⟩ : ∃ z, z = zero48 := ⟨_, rfl⟩
    have ZM := Lib.hid zero_mem
    have ZS := Lib.hid zero_size
    rw [← hz48] at ZM ZS
    clear hz48
    by_cases hr : 0 ≤ r ∧ r < 12
    · obtain ⟨k, rfl⟩ : ∃ k : Nat, r = (k : Int) := ⟨r.toNat, by omega⟩
      have hk : k < 12 := by omega
      obtain ⟨row, hrow⟩ : ∃ row, row = xss.getD k [] := ⟨_, rfl⟩
      have h4 : row.length = 4 := by rw [hrow]; exact mem_row HM.out hk
      have hrb : ∀ i, i < 4 → 0 ≤ row.getD i 0 ∧ row.getD i 0 ≤ 9999 := by rw [hrow]; exact fun i hi => wd_bounds HM.out hk hi
      have HF : Hid (frmF xss (k : Int) = srt (flat xss (named row)) 12) := Lib.hid (by unfold frmF; rw [if_pos ⟨HM.out, hr⟩]; exact frs_eq xss k row hrow)
      have HRB := Lib.hid hrb
      have HRW := Lib.hid hrow
      have HB : ∀ w, Calls Try.prog 45 #[.int .i64 (k : Int), .int .i64 12] w fun e w' => e = .returned (.bool true) ∧ w = w' := fun w => by
        have := below_any w (k : Int) 12
        rwa [blw_yes hr] at this
      clear hrb hrow
      go_enter Try.func26, Try.ntmps26
      go_wp2_with fail
      refine HC.out.mono ?_
      rintro e w1 ⟨rfl, hb1⟩
      have HLD := Lib.hid (Laid.make (w := w) (cs := cs) (z := z48) (t := 60) hb1 ZS.out HS.out)
      obtain ⟨wl, hwl⟩ : ∃ wl, wl = (w1.alloc (.cells z48 60)).setCells w1.heap.size 0 cs.toArray.toList := ⟨_, rfl⟩
      have HWL : Hid (wl = (w1.alloc (.cells z48 60)).setCells w1.heap.size 0 cs) := Lib.hid hwl
      rw [← HWL.out] at HLD
      have hix := run_indexAt_arr (P := Try.prog) 60 12 58 4 Try.underlying60 size_words (by omega) w1.heap.size k hk
      have HROW : Hid (wl.rangeAt w1.heap.size (k * 4) (row.map (Value.int .i64))) := Lib.hid (by
        have h1 : Laid w w1.heap.size (flatL xss) wl := by rw [← HCS.out]; exact HLD.out
        have h2 := h1.part (mem_len HM.out) (fun i hi => mem_row HM.out hi) hk
        rw [HRW.out]
        exact h2)
      go_wp2_with (first | ((with_reducible refine alloc_is 60 ?_); refine alloc_arr 60 z48 ZM.out ?_) | ((with_reducible refine store_is 60 (.tmp 5) (.tmp 10) ?_); refine store_arr 60 (.tmp 5) (.tmp 10) w1.heap.size 0 cs.toArray rfl rfl (there_row (heap_alloc_new w1 _) (by rw [ZS.out, List.size_toArray, HS.out]; omega)) (info_mem (by rw [List.size_toArray, HS.out])) HO.out ?_; rw [← hwl]; clear hwl) | (go_at_call 45; refine (HB _).mono ?_; rintro e w' ⟨rfl, rfl⟩))
      refine wp_region_held_drew (S := fun w' => w'.rangeAt w1.heap.size 0 cs ∧ w'.rangeAt w1.heap.size (k * 4) (row.map (Value.int .i64))) (by kernel_rfl) ⟨HLD.out.row, HROW.out⟩ (fun hHeld => ?_)
      refine wpAnyH_take (i := 0) (oi := { dst := some 19, op := .load 60 (.tmp 5), type := _, pos := _, after := _, guard := none }) (v := .agg cs.toArray) rfl (by kernel_rfl) (by kernel_rfl) (by kernel_rfl) (fun _ _ _ h => h) (Or.inl ⟨by rfl, fun wh hSw => ?_⟩) hHeld ?_
      · (simp only [execOp]; exact load_run 60 w1.heap.size 0 cs _ hSw.1 Try.underlying60 rfl (info_mem HS.out))
      try simp only [Act.put, List.setIfInBounds_toArray, List.set_cons_zero, List.set_cons_succ]
      refine wpAnyH_take (i := 1) (oi := { dst := some 20, op := .move (.tmp 1), type := _, pos := _, after := _, guard := none }) (v := .int .i64 (k : Int)) rfl (by kernel_rfl) (by kernel_rfl) (by kernel_rfl) (fun _ _ _ h => h) (Or.inl ⟨by rfl, fun wh hSw => ?_⟩) hHeld ?_
      · (go_simp)
      try simp only [Act.put, List.setIfInBounds_toArray, List.set_cons_zero, List.set_cons_succ]
      refine wpAnyH_take (i := 2) (oi := { dst := some 21, op := .indexAddr 60 (.tmp 5) (.tmp 20), type := _, pos := _, after := _, guard := none }) (v := .pointer (some ⟨w1.heap.size, k * 4, none⟩)) rfl (by kernel_rfl) (by kernel_rfl) (by kernel_rfl) (fun _ _ _ h => h) (Or.inl ⟨by rfl, fun wh hSw => ?_⟩) hHeld ?_
      · (simp only [execOp]; go_simp)
      try simp only [Act.put, List.setIfInBounds_toArray, List.set_cons_zero, List.set_cons_succ]
      refine wpAnyH_take (i := 3) (oi := { dst := some 22, op := .load 58 (.tmp 21), type := _, pos := _, after := _, guard := none }) (v := .agg (row.map (Value.int .i64)).toArray) rfl (by kernel_rfl) (by kernel_rfl) (by kernel_rfl) (fun _ _ _ h => h) (Or.inl ⟨by rfl, fun wh hSw => ?_⟩) hHeld ?_
      · (simp only [execOp]; exact load_run 58 w1.heap.size (k * 4) (row.map (Value.int .i64)) _ hSw.2 Try.underlying58 rfl (by rw [List.length_map, h4]; exact info_words))
      try simp only [Act.put, List.setIfInBounds_toArray, List.set_cons_zero, List.set_cons_succ]
      refine wpAnyH_ready (rs := [4]) (by kernel_rfl) (by simp) ?_
      refine AllReadyH.cons (o := { dst := some 23, op := .call { callee := .value (.func 53), args := #[.tmp 22], argTypes := #[58] }, type := _, pos := _, after := _, guard := none }) rfl (fun K hK => ?_) AllReadyH.nil
      go_simp
      refine (named_make _ _ (by simp [h4]) (row_one row)).mono ?_
      rintro e w3 ⟨rfl, hw3⟩
      have HW3 := Lib.hid hw3
      clear hw3
      have HS3 : Hid (w3.heap.size = wl.heap.size + 1) := Lib.hid (by rw [HW3.out]; simp)
      try go_simp
      refine hK.out _ _ ?_ (fun hHeld => ?_)
      · exact ⟨range_blocks HLD.out.row (by rw [HW3.out]; exact Below.heap_alloc _ _ _ HLD.out.hi), range_blocks HROW.out (by rw [HW3.out]; exact Below.heap_alloc _ _ _ HLD.out.hi)⟩
      clear hK K
      try simp only [Act.put, List.setIfInBounds_toArray, List.set_cons_zero, List.set_cons_succ]
      refine wpAnyH_ready (rs := [5]) (by kernel_rfl) (by simp) ?_
      refine AllReadyH.cons (o := { dst := some 24, op := .call { callee := .value (.func 56), args := #[.tmp 19, .tmp 23], argTypes := #[60, 70] }, type := _, pos := _, after := _, guard := none }) rfl (fun K hK => ?_) AllReadyH.nil
      go_simp
      refine (all_make _ cs.toArray _ _ (by rw [List.size_toArray, HS.out]) HO.out).mono ?_
      rintro e w4 ⟨rfl, hw4⟩
      have HW4 := Lib.hid hw4
      clear hw4
      have HS4 : Hid (w4.heap.size = w3.heap.size + 2) := Lib.hid (by rw [HW4.out]; simp)
      have HB4 : Hid (Below w.heap.size w w4) := Lib.hid (by rw [HW4.out, HW3.out]; exact ((HLD.out.bel.drew.alloc HLD.out.bel.size _).alloc (by have := HLD.out.bel.size; simp; omega) _).alloc (by have := HLD.out.bel.size; simp; omega) _)
      have HOLD : Hid (∀ b, b < wl.heap.size → w4.heap[b]? = wl.heap[b]?) := Lib.hid (fun b hb => by rw [HW4.out, Below.heap_alloc _ _ _ (by rw [World.size_alloc, HS3.out]; omega), Below.heap_alloc _ _ _ (by rw [HS3.out]; omega), HW3.out, Below.heap_alloc wl.drew _ _ hb]; rfl)
      have HCW : Hid (w4.heap[wl.heap.size]? = some (.cells (rowC row) 58 (0, 0))) := Lib.hid (by rw [HW4.out, Below.heap_alloc _ _ _ (by rw [World.size_alloc, HS3.out]; omega), Below.heap_alloc _ _ _ (by rw [HS3.out]; omega), HW3.out]; exact World.alloc_heap_new wl.drew _)
      have HCT : Hid (w4.cell? ⟨w3.heap.size + 1, 0, none⟩ = some (.func (.func 68) #[] #[.pointer (some ⟨wl.heap.size, 0, none⟩)])) := Lib.hid (by rw [HW4.out]; have := cell_one_new (w3.alloc (.cells cs.toArray 60)) (.func (.func 68) #[] #[.pointer (some ⟨wl.heap.size, 0, none⟩)]) 70 0 _ rfl; rw [World.size_alloc] at this; exact this)
      have HCM : Hid (w4.rangeAt w3.heap.size 0 (flatL xss)) := Lib.hid (by rw [← HCS.out]; exact range_row (C := cs.toArray) (by rw [HW4.out, Below.heap_alloc _ _ _ (by simp)]; exact World.alloc_heap_new w3 _))
      try go_simp
      refine hK.out _ _ ?_ (fun hHeld => ?_)
      · exact ⟨range_blocks HLD.out.row (HOLD.out _ HLD.out.hi), range_blocks HROW.out (HOLD.out _ HLD.out.hi)⟩
      clear hK K
      try simp only [Act.put, List.setIfInBounds_toArray, List.set_cons_zero, List.set_cons_succ]
      refine wpAnyH_ready (rs := [6]) (by kernel_rfl) (by simp) ?_
      refine AllReadyH.cons (o := { dst := some 25, op := .call { callee := .value (.func 52), args := #[.tmp 24], argTypes := #[70] }, type := _, pos := _, after := _, guard := none }) rfl (fun K hK => ?_) AllReadyH.nil
      go_simp
      refine (each_all w4 (w3.heap.size + 1) w3.heap.size wl.heap.size xss HM.out row h4 HRB.out (by rw [HS4.out]; omega) (by rw [HS4.out]; omega) (by rw [HS4.out, HS3.out]; omega) HCW.out HCT.out HCM.out).mono ?_
      rintro e w5 ⟨v6, rfl, hi5, hb5⟩
      have HI5 := Lib.hid (hi5.lower (B0' := w.heap.size) HB4.out.size)
      have HB5 := Lib.hid (HB4.out.trans (hb5.mono HB4.out.size))
      have HO5 : Hid (∀ b, b < wl.heap.size → w5.heap[b]? = wl.heap[b]?) := Lib.hid (fun b hb => (hb5.block b (by rw [HS4.out, HS3.out]; omega)).trans (HOLD.out b hb))
      clear hi5 hb5
      try go_simp
      refine hK.out _ _ ?_ (fun hHeld => ?_)
      · exact ⟨range_blocks HLD.out.row (HO5.out _ HLD.out.hi), range_blocks HROW.out (HO5.out _ HLD.out.hi)⟩
      clear hK K
      try simp only [Act.put, List.setIfInBounds_toArray, List.set_cons_zero, List.set_cons_succ]
      refine wpAnyH_take (i := 7) (oi := { dst := some 4, op := .assign (.tmp 25), type := _, pos := _, after := _, guard := none }) (v := v6) rfl (by kernel_rfl) (by kernel_rfl) (by kernel_rfl) (fun _ _ _ h => h) (Or.inl ⟨by rfl, fun wh hSw => ?_⟩) hHeld ?_
      · (go_simp)
      try simp only [Act.put, List.setIfInBounds_toArray, List.set_cons_zero, List.set_cons_succ]
      refine wpAnyH_done (by kernel_rfl) ?_ _
      go_wp2_with fail
      go_ret
      rw [HF.out]
      exact ⟨_, rfl, HI5.out, HB5.out⟩
    · have HF : Hid (frmF xss r = []) := Lib.hid (by unfold frmF; rw [if_neg (fun hh => hr hh.2)])
      have HB : ∀ w, Calls Try.prog 45 #[.int .i64 r, .int .i64 12] w fun e w' => e = .returned (.bool false) ∧ w = w' := fun w => by
        have := below_any w r 12
        rwa [blw_no hr] at this
      go_enter Try.func26, Try.ntmps26
      go_wp2_with fail
      refine HC.out.mono ?_
      rintro e w1 ⟨rfl, hb1⟩
      have HLD := Lib.hid (Laid.make (w := w) (cs := cs) (z := z48) (t := 60) hb1 ZS.out HS.out)
      go_wp2_with (first | ((with_reducible refine alloc_is 60 ?_); refine alloc_arr 60 z48 ZM.out ?_) | ((with_reducible refine store_is 60 (.tmp 5) (.tmp 10) ?_); refine store_arr 60 (.tmp 5) (.tmp 10) w1.heap.size 0 cs.toArray rfl rfl (there_row (heap_alloc_new w1 _) (by rw [ZS.out, List.size_toArray, HS.out]; omega)) (info_mem (by rw [List.size_toArray, HS.out])) HO.out ?_) | (go_at_call 45; refine (HB _).mono ?_; rintro e w' ⟨rfl, rfl⟩))
      go_ret
      rw [HF.out]
      exact ⟨_, rfl, nil_intsW, HLD.out.bel⟩
  · have hf : memOk xss = false := by simpa using hm
    rw [hf] at hc
    have HF : Hid (frmF xss r = []) := Lib.hid (by unfold frmF; rw [if_neg (fun hh => hm hh.1)])
    replace hc : Calls Try.prog 44 #[v] w (ArrRes w zero48 false) := hc
    obtain ⟨z48, hz48⟩ : ∃ z, z = zero48 := ⟨_, rfl⟩
    have ZM := Lib.hid zero_mem
    have ZS := Lib.hid zero_size
    have ZO := Lib.hid zero_one
    rw [← hz48] at ZM ZS ZO hc
    have HC := Lib.hid hc
    clear hz48 hc hm hf h
    go_enter Try.func26, Try.ntmps26
    go_wp2_with fail
    refine HC.out.mono ?_
    rintro e w1 ⟨rfl, hb1⟩
    have HLD := Lib.hid (Laid.make (w := w) (cs := z48.toList) (z := z48) (t := 60) hb1 ZS.out (by rw [Array.length_toList, ZS.out]))
    go_wp2_with (first | ((with_reducible refine alloc_is 60 ?_); refine alloc_arr 60 z48 ZM.out ?_) | ((with_reducible refine store_is 60 (.tmp 5) (.tmp 10) ?_); refine store_arr 60 (.tmp 5) (.tmp 10) w1.heap.size 0 z48 rfl rfl (there_row (heap_alloc_new w1 _) (by rw [ZS.out]; omega)) (info_mem ZS.out) ZO.out ?_))
    go_ret
    rw [HF.out]
    exact ⟨_, rfl, nil_intsW, HLD.out.bel⟩
end Go.Proofs.Ytdockkmodjbfpaa
