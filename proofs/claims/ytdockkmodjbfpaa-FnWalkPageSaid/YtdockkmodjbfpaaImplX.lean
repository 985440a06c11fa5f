/- What the program's Walk returns at all arguments, out of its walk in a memory. -/
import Derived.Test.YtdockkmodjbfpaaImplW
import Derived.Test.YtdockkmodjbfpaaSWalk
namespace Go.Proofs.Ytdockkmodjbfpaa
open Go.ChangeShapes Go.WideShapes Go.ChangeAt Go.RowKit Go.Shelf
set_option linter.unusedVariables false

theorem mw_any (w : World) (xss : List (List Int)) (r a : Int) (h : wOk xss r a) :
    Calls Try.prog 46 #[.agg (flatL xss).toArray, .int .i64 r, .int .i64 (a / 16), .int .i64 (a / 4 % 4), .int .i64 (a % 4)] w (WalkRes w (walkF xss r a)) := by
  have hk := h
  obtain ⟨hm, ⟨hr0, hr1⟩, ha0, ha1⟩ := h
  have hs : (flatL xss).length = 48 := flat_len hm
  have ho : (flatL xss).toArray.all (·.oneCell') = true := flat_one xss
  obtain ⟨n, rfl⟩ := Int.eq_ofNat_of_zero_le hr0
  obtain ⟨i, hi⟩ := Int.eq_ofNat_of_zero_le (show 0 ≤ a / 16 by omega)
  obtain ⟨j, hj⟩ := Int.eq_ofNat_of_zero_le (show 0 ≤ a / 4 % 4 by omega)
  have hfg : ∀ i j, i < 12 → j < 4 → (flatL xss)[i * 4 + j]? = some (.int .i64 (wd xss i j)) := fun i j hi hj => flat_get xss (fun i hi => mem_row hm (by have := mem_len hm; omega)) (by have := mem_len hm; omega) hj
  have hxe : wd xss n i = top xss n a := by unfold top; rw [hi]; simp
  have hx := hfg n i (by omega) (by omega)
  have hxb := wd_bounds hm (i := n) (j := i) (by omega) (by omega)
  rw [hxe] at hx hxb
  by_cases hg : goodB (top xss n a)
  · obtain ⟨f, hf⟩ := Int.eq_ofNat_of_zero_le (good_frame hg).1
    have hf12 := (good_frame hg).2
    have hye : wd xss f j = low xss n a := by unfold low; rw [hf, hj]; simp
    have hy := hfg f j (by omega) (by omega)
    have hyb := wd_bounds hm (i := f) (j := j) (by omega) (by omega)
    rw [hye] at hy hyb
    by_cases hl : goodB (low xss n a)
    · have e : walkF xss n a = ⟨low xss n a / 4, a % 4, decide (top xss n a % 4 = 3) && decide (low xss n a % 4 = 3), 0⟩ := by unfold walkF; rw [if_pos hk, if_pos hg, if_pos hl]
      rw [e, hi, hj]
      exact mw_done w _ hs ho n i j f _ _ _ (by omega) (by omega) hx hxb.1 hxb.2 hg (by omega) hf (by omega) hy hyb.1 hyb.2 hl
    · have e : walkF xss n a = ⟨0, 0, false, 2⟩ := by unfold walkF; rw [if_pos hk, if_pos hg, if_neg hl]
      rw [e, hi, hj]
      exact mw_low w _ hs ho n i j f _ _ _ (by omega) (by omega) hx hxb.1 hxb.2 hg (by omega) hf (by omega) hy hyb.1 hyb.2 hl
  · have e : walkF xss n a = ⟨0, 0, false, 1⟩ := by unfold walkF; rw [if_pos hk, if_neg hg]
    rw [e, hi]
    exact mw_top w _ hs ho n i _ _ _ (by omega) (by omega) hx hxb.1 hxb.2 hg
theorem walk_bad {xss : List (List Int)} {r a : Int} (h : ¬ wOk xss r a) : walkF xss r a = ⟨0, 0, false, 3⟩ := by unfold walkF; rw [if_neg h]

theorem info_place : (Try.prog.info? 27).map (·.size) = some 3 := by kernel_rfl
/-- the world where the memory is laid into a variable, and the result's own place is there -/
structure InW (w : World) (B : Nat) (cs : List Value) (wl : World) : Prop where
  bel : Below w.heap.size w wl
  row : wl.rangeAt B 0 cs
  res : wl.there w.heap.size 0 3
theorem InW.make {w w1 : World} {cs : List Value} {z : Array Value} {t : TypeId} (hb : Below (w.alloc (.cells #[.int .i64 0, .int .i64 0, .bool false] 27)).heap.size (w.alloc (.cells #[.int .i64 0, .int .i64 0, .bool false] 27)) w1) (hz : z.size = 48) (hc : cs.length = 48) :
    InW w w1.heap.size cs ((w1.alloc (.cells z t)).setCells w1.heap.size 0 cs) := by
  have h := Laid.make (t := t) hb hz hc
  refine ⟨((Below.refl _ w).alloc (Nat.le_refl _) _).trans (h.bel.mono (by simp)), h.row, ?_⟩
  have h1 : (w.alloc (.cells #[.int .i64 0, .int .i64 0, .bool false] 27)).there w.heap.size 0 3 := there_row (heap_alloc_new w _) (by simp)
  exact there_blocks h1 (h.bel.block _ (by simp))
theorem InW.done {w w2 wl : World} {B : Nat} {cs : List Value} {ys : List Value} (h : InW w B cs wl) (hb : Below wl.heap.size wl w2) (hs : w.heap.size < wl.heap.size) (hy : ys.length = 3) :
    Below w.heap.size w (w2.setCells w.heap.size 0 ys) ∧ (w2.setCells w.heap.size 0 ys).rangeAt w.heap.size 0 ys := by
  refine ⟨Below.setCells (Below.refl _ _) _ (Nat.le_refl _) _ _ _ (h.bel.trans (hb.mono h.bel.size)), World.rangeAt_setCells_same _ _ _ _ ?_⟩
  rw [hy]
  exact there_blocks h.res (hb.block _ hs)
set_option maxRecDepth 100000 in
set_option maxHeartbeats 2000000 in
theorem iwalk_any (w : World) (v : Value) (xss : List (List Int)) (r a : Int) (h : Rows2 w v xss) :
    Calls Try.prog 13 #[v, .int .i64 r, .int .i64 a] w (WalkRes w (walkF xss r a)) := by
  have H := Lib.hid h
  obtain ⟨ok, hok⟩ : ∃ ok, ok = memOk xss := ⟨_, rfl⟩
  obtain ⟨cs, hcs⟩ : ∃ cs : Array Value, cs = (bif memOk xss then (flatL xss).toArray else zero48) := ⟨_, rfl⟩
  have hs : cs.size = 48 := by
    rw [hcs]
    cases hm : memOk xss
    · exact zero_size
    · have := flat_len hm
      simpa using this
  have ho : cs.all (·.oneCell') = true := by
    rw [hcs]
    cases hm : memOk xss
    · exact zero_one
    · exact flat_one xss
  have HS := Lib.hid hs
  have HO := Lib.hid ho
  have HCS := Lib.hid hcs
  have HOK := Lib.hid hok
  clear hs ho h hcs hok
  obtain ⟨z48, hz48⟩ : ∃ z, z = zero48 := ⟨_, rfl⟩
  have ZM := Lib.hid zero_mem
  have ZS := Lib.hid zero_size
  rw [← hz48] at ZM ZS
  clear hz48
  obtain ⟨wv, hwv⟩ : ∃ wv, wv = walkF xss r a := ⟨_, rfl⟩
  rw [← hwv]
  have HWV := Lib.hid hwv
  clear hwv
  have hs3 : (w.alloc (.cells #[.int .i64 0, .int .i64 0, .bool false] 27)).heap.size = w.heap.size + 1 := by simp
  obtain ⟨R, HRR⟩ : ∃ R : Ending → World → Prop, Hid (R = WalkRes w wv) := ⟨_, Lib.hid rfl⟩
  rw [← HRR.out]
  have hcp : Calls Try.prog 44 #[v] (w.alloc (.cells #[.int .i64 0, .int .i64 0, .bool false] 27)) (ArrRes (w.alloc (.cells #[.int .i64 0, .int .i64 0, .bool false] 27)) cs ok) := by
    have := memoryOf_any (Rows2.below H.out ((Below.refl _ _).alloc (Nat.le_refl _) (.cells #[.int .i64 0, .int .i64 0, .bool false] 27)))
    rwa [← HCS.out, ← HOK.out] at this
  have HC := Lib.hid hcp
  clear hcp H
  by_cases ha : 0 ≤ a ∧ a < 64
  · have HA := Lib.hid (fun w => aI_yes a w ha.1 ha.2)
    cases ok with
    | false =>
      have hw : wv = ⟨0, 0, false, 3⟩ := by rw [HWV.out]; exact walk_bad (fun hh => by have := HOK.out; rw [hh.1] at this; cases this)
      have HWV := Lib.hid hw
      clear hw ha
      go_enter Try.func13, Try.ntmps13
      go_wp2_with fail
      refine HC.out.mono ?_
      rintro e w1 ⟨rfl, hb1⟩
      obtain ⟨wl, hwl⟩ : ∃ wl, wl = (w1.alloc (.cells z48 60)).setCells w1.heap.size 0 cs.toList := ⟨_, rfl⟩
      have HIN : Hid (InW w w1.heap.size cs.toList wl) := Lib.hid (by rw [hwl]; exact InW.make hb1 ZS.out (by rw [Array.length_toList, HS.out]))
      have HSZ : Hid (w.heap.size < wl.heap.size) := Lib.hid (by rw [hwl]; have := hb1.size; simp at this; rw [size_setCells]; simp; omega)
      go_wp2_with (first | ((with_reducible refine alloc_is 60 ?_); refine alloc_arr 60 z48 ZM.out ?_) | ((with_reducible refine store_is 60 (.tmp 8) (.tmp 17) ?_); refine store_arr 60 (.tmp 8) (.tmp 17) w1.heap.size 0 cs rfl rfl (there_row (heap_alloc_new w1 _) (by rw [ZS.out, HS.out]; omega)) (info_mem HS.out) HO.out ?_; rw [← hwl]; clear hwl) | (go_at_call 15; refine (HA.out _).mono ?_; rintro e w' ⟨rfl, rfl⟩) | ((with_reducible refine store_is 27 (.tmp 6) (.tmp 37) ?_); have HD := Lib.hid (HIN.out.done (ys := [.int .i64 (0), .int .i64 (0), .bool false]) (Below.refl _ _) HSZ.out rfl); refine store_arr 27 (.tmp 6) (.tmp 37) w.heap.size 0 #[.int .i64 (0), .int .i64 (0), .bool false] rfl rfl HIN.out.res info_place (by kernel_rfl) ?_))
      refine bodyPost_ret (results_cell_mid rfl _ _ w.heap.size 0 [.int .i64 (0), .int .i64 (0), .bool false] _ rfl HD.out.2 Try.underlying27 rfl (by kernel_rfl)) rfl ?_
      rw [HRR.out, HWV.out]
      exact ⟨rfl, HD.out.1⟩
    | true =>
      by_cases hr : 0 ≤ r ∧ r < 12
      · have hk : wOk xss r a := ⟨HOK.out.symm, hr, ha⟩
        have HB : Hid (∀ w, Calls Try.prog 45 #[.int .i64 r, .int .i64 12] w fun e w' => e = .returned (.bool true) ∧ w = w') := Lib.hid (fun w => by
          have := below_any w r 12
          rwa [blw_yes hr] at this)
        have hcs : cs = (flatL xss).toArray := by rw [HCS.out, ← HOK.out]; rfl
        have HMW := Lib.hid (fun w => mw_any w xss r a hk)
        rw [← hcs, ← HWV.out] at HMW
        obtain ⟨f, t, b, c⟩ := wv
        clear hk ha hr hcs
        go_enter Try.func13, Try.ntmps13
        go_wp2_with fail
        refine HC.out.mono ?_
        rintro e w1 ⟨rfl, hb1⟩
        obtain ⟨wl, hwl⟩ : ∃ wl, wl = (w1.alloc (.cells z48 60)).setCells w1.heap.size 0 cs.toList := ⟨_, rfl⟩
        have HIN : Hid (InW w w1.heap.size cs.toList wl) := Lib.hid (by rw [hwl]; exact InW.make hb1 ZS.out (by rw [Array.length_toList, HS.out]))
        have HSZ : Hid (w.heap.size < wl.heap.size) := Lib.hid (by rw [hwl]; have := hb1.size; simp at this; rw [size_setCells]; simp; omega)
        go_wp2_with (first | ((with_reducible refine alloc_is 60 ?_); refine alloc_arr 60 z48 ZM.out ?_) | ((with_reducible refine store_is 60 (.tmp 8) (.tmp 17) ?_); refine store_arr 60 (.tmp 8) (.tmp 17) w1.heap.size 0 cs rfl rfl (there_row (heap_alloc_new w1 _) (by rw [ZS.out, HS.out]; omega)) (info_mem HS.out) HO.out ?_; rw [← hwl]; clear hwl) | (go_at_call 15; refine (HA.out _).mono ?_; rintro e w' ⟨rfl, rfl⟩) | (go_at_call 45; refine (HB.out _).mono ?_; rintro e w' ⟨rfl, rfl⟩) | ((with_reducible refine load_is 60 (.tmp 8) ?_); refine load_arr 60 (.tmp 8) w1.heap.size 0 cs.toList _ rfl HIN.out.row Try.underlying60 rfl (info_mem (by rw [Array.length_toList, HS.out])) ?_))
        refine (HMW.out _).mono ?_
        rintro e w2 ⟨rfl, hb2⟩
        unfold plV
        have HT2 : Hid (w2.there w.heap.size 0 3) := Lib.hid (there_blocks HIN.out.res (hb2.block _ HSZ.out))
        have HD := Lib.hid (HIN.out.done (ys := [.int .i64 f, .int .i64 t, .bool b]) hb2 HSZ.out rfl)
        clear hb2
        go_wp2_with ((with_reducible refine store_is 27 (.tmp 6) (.tmp 44) ?_); refine store_arr 27 (.tmp 6) (.tmp 44) w.heap.size 0 #[.int .i64 f, .int .i64 t, .bool b] rfl rfl HT2.out info_place (by simp [Value.oneCell']) ?_)
        refine bodyPost_ret (results_cell_mid rfl _ _ w.heap.size 0 [.int .i64 f, .int .i64 t, .bool b] _ rfl HD.out.2 Try.underlying27 rfl (by kernel_rfl)) rfl ?_
        rw [HRR.out]
        exact ⟨rfl, HD.out.1⟩
      · have hw : wv = ⟨0, 0, false, 3⟩ := by rw [HWV.out]; exact walk_bad (fun hh => hr hh.2.1)
        have HWV := Lib.hid hw
        have HB : Hid (∀ w, Calls Try.prog 45 #[.int .i64 r, .int .i64 12] w fun e w' => e = .returned (.bool false) ∧ w = w') := Lib.hid (fun w => by
          have := below_any w r 12
          rwa [blw_no hr] at this)
        clear hw ha hr
        go_enter Try.func13, Try.ntmps13
        go_wp2_with fail
        refine HC.out.mono ?_
        rintro e w1 ⟨rfl, hb1⟩
        obtain ⟨wl, hwl⟩ : ∃ wl, wl = (w1.alloc (.cells z48 60)).setCells w1.heap.size 0 cs.toList := ⟨_, rfl⟩
        have HIN : Hid (InW w w1.heap.size cs.toList wl) := Lib.hid (by rw [hwl]; exact InW.make hb1 ZS.out (by rw [Array.length_toList, HS.out]))
        have HSZ : Hid (w.heap.size < wl.heap.size) := Lib.hid (by rw [hwl]; have := hb1.size; simp at this; rw [size_setCells]; simp; omega)
        go_wp2_with (first | ((with_reducible refine alloc_is 60 ?_); refine alloc_arr 60 z48 ZM.out ?_) | ((with_reducible refine store_is 60 (.tmp 8) (.tmp 17) ?_); refine store_arr 60 (.tmp 8) (.tmp 17) w1.heap.size 0 cs rfl rfl (there_row (heap_alloc_new w1 _) (by rw [ZS.out, HS.out]; omega)) (info_mem HS.out) HO.out ?_; rw [← hwl]; clear hwl) | (go_at_call 15; refine (HA.out _).mono ?_; rintro e w' ⟨rfl, rfl⟩) | (go_at_call 45; refine (HB.out _).mono ?_; rintro e w' ⟨rfl, rfl⟩) | ((with_reducible refine store_is 27 (.tmp 6) (.tmp 37) ?_); have HD := Lib.hid (HIN.out.done (ys := [.int .i64 (0), .int .i64 (0), .bool false]) (Below.refl _ _) HSZ.out rfl); refine store_arr 27 (.tmp 6) (.tmp 37) w.heap.size 0 #[.int .i64 (0), .int .i64 (0), .bool false] rfl rfl HIN.out.res info_place (by kernel_rfl) ?_))
        refine bodyPost_ret (results_cell_mid rfl _ _ w.heap.size 0 [.int .i64 (0), .int .i64 (0), .bool false] _ rfl HD.out.2 Try.underlying27 rfl (by kernel_rfl)) rfl ?_
        rw [HRR.out, HWV.out]
        exact ⟨rfl, HD.out.1⟩
  · have HA := Lib.hid (fun w => aI_no a w (by omega))
    have hw : wv = ⟨0, 0, false, 3⟩ := by rw [HWV.out]; exact walk_bad (fun hh => ha ⟨hh.2.2.1, hh.2.2.2⟩)
    have HWV := Lib.hid hw
    clear hw ha
    cases ok with
    | false =>
      go_enter Try.func13, Try.ntmps13
      go_wp2_with fail
      refine HC.out.mono ?_
      rintro e w1 ⟨rfl, hb1⟩
      obtain ⟨wl, hwl⟩ : ∃ wl, wl = (w1.alloc (.cells z48 60)).setCells w1.heap.size 0 cs.toList := ⟨_, rfl⟩
      have HIN : Hid (InW w w1.heap.size cs.toList wl) := Lib.hid (by rw [hwl]; exact InW.make hb1 ZS.out (by rw [Array.length_toList, HS.out]))
      have HSZ : Hid (w.heap.size < wl.heap.size) := Lib.hid (by rw [hwl]; have := hb1.size; simp at this; rw [size_setCells]; simp; omega)
      go_wp2_with (first | ((with_reducible refine alloc_is 60 ?_); refine alloc_arr 60 z48 ZM.out ?_) | ((with_reducible refine store_is 60 (.tmp 8) (.tmp 17) ?_); refine store_arr 60 (.tmp 8) (.tmp 17) w1.heap.size 0 cs rfl rfl (there_row (heap_alloc_new w1 _) (by rw [ZS.out, HS.out]; omega)) (info_mem HS.out) HO.out ?_; rw [← hwl]; clear hwl) | (go_at_call 15; refine (HA.out _).mono ?_; rintro e w' ⟨rfl, rfl⟩) | ((with_reducible refine store_is 27 (.tmp 6) (.tmp 37) ?_); have HD := Lib.hid (HIN.out.done (ys := [.int .i64 (0), .int .i64 (0), .bool false]) (Below.refl _ _) HSZ.out rfl); refine store_arr 27 (.tmp 6) (.tmp 37) w.heap.size 0 #[.int .i64 (0), .int .i64 (0), .bool false] rfl rfl HIN.out.res info_place (by kernel_rfl) ?_))
      refine bodyPost_ret (results_cell_mid rfl _ _ w.heap.size 0 [.int .i64 (0), .int .i64 (0), .bool false] _ rfl HD.out.2 Try.underlying27 rfl (by kernel_rfl)) rfl ?_
      rw [HRR.out, HWV.out]
      exact ⟨rfl, HD.out.1⟩
    | true =>
      go_enter Try.func13, Try.ntmps13
      go_wp2_with fail
      refine HC.out.mono ?_
      rintro e w1 ⟨rfl, hb1⟩
      obtain ⟨wl, hwl⟩ : ∃ wl, wl = (w1.alloc (.cells z48 60)).setCells w1.heap.size 0 cs.toList := ⟨_, rfl⟩
      have HIN : Hid (InW w w1.heap.size cs.toList wl) := Lib.hid (by rw [hwl]; exact InW.make hb1 ZS.out (by rw [Array.length_toList, HS.out]))
      have HSZ : Hid (w.heap.size < wl.heap.size) := Lib.hid (by rw [hwl]; have := hb1.size; simp at this; rw [size_setCells]; simp; omega)
      go_wp2_with (first | ((with_reducible refine alloc_is 60 ?_); refine alloc_arr 60 z48 ZM.out ?_) | ((with_reducible refine store_is 60 (.tmp 8) (.tmp 17) ?_); refine store_arr 60 (.tmp 8) (.tmp 17) w1.heap.size 0 cs rfl rfl (there_row (heap_alloc_new w1 _) (by rw [ZS.out, HS.out]; omega)) (info_mem HS.out) HO.out ?_; rw [← hwl]; clear hwl) | (go_at_call 15; refine (HA.out _).mono ?_; rintro e w' ⟨rfl, rfl⟩) | ((with_reducible refine store_is 27 (.tmp 6) (.tmp 37) ?_); have HD := Lib.hid (HIN.out.done (ys := [.int .i64 (0), .int .i64 (0), .bool false]) (Below.refl _ _) HSZ.out rfl); refine store_arr 27 (.tmp 6) (.tmp 37) w.heap.size 0 #[.int .i64 (0), .int .i64 (0), .bool false] rfl rfl HIN.out.res info_place (by kernel_rfl) ?_))
      refine bodyPost_ret (results_cell_mid rfl _ _ w.heap.size 0 [.int .i64 (0), .int .i64 (0), .bool false] _ rfl HD.out.2 Try.underlying27 rfl (by kernel_rfl)) rfl ?_
      rw [HRR.out, HWV.out]
      exact ⟨rfl, HD.out.1⟩
end Go.Proofs.Ytdockkmodjbfpaa
