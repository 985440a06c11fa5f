/- What the landed functions of the cache answer: as the lists do. -/
import Derived.Test.YtklclcbhghjjfaaCRc
import Derived.Test.YtklclcbhghjjfaaCRd
import Derived.Test.YtklclcbhghjjfaaLawCacheFD
namespace Go.Proofs.Ytklclcbhghjjfaa
open Go.ChangeShapes Go.WideShapes Go.ChangeAt Go.RowKit
set_option linter.unusedVariables false
set_option linter.unusedSimpArgs false

theorem nilW (w : World) (lo hi : Nat) : CsW w lo hi (.slice none 0 0) [] := ⟨none, 0, rfl, by simp, Nat.zero_le _, fun i hi => by simp at hi⟩
theorem findL_cFind {xs : List CV} (h : cOk xs = true) (e p : Int) : findL xs e p = cFind xs e p := by
  unfold findL cFind
  by_cases h2 : 0 ≤ fnd xs e p
  · rw [if_pos h2, if_pos ⟨h, h2⟩]
  · rw [if_neg h2, if_neg (fun hh => h2 hh.2)]
theorem cFind_bad {xs : List CV} (h : cOk xs = false) (e p : Int) : cFind xs e p = ⟨c0, false⟩ := by
  unfold cFind
  rw [if_neg (by rw [h]; simp)]
theorem keptOth (xs : List CV) (x : CV) : kept xs (fun y => same y x.e x.p) = oth xs x := rfl
theorem keptDrp (xs : List CV) (e : Int) : kept xs (fun y => decide (y.e = e)) = drp xs e := by
  unfold kept drp
  refine List.filter_congr fun y _ => ?_
  by_cases h : y.e = e <;> simp [h]
/-- the variable of a ring, behind the store of a ring into it -/
theorem stored_in {w1 : World} {Z : List Value} {A : Nat → CV} {f c : Nat} {t : TypeId} (hz : ∀ w : World, Ring (w.alloc (.cells Z.toArray t)) w.heap.size A0 0 0) : Ring ((w1.alloc (.cells Z.toArray t)).setCells w1.heap.size 0 (ringC A f c)) w1.heap.size A f c :=
  Ring.stored (hz w1).there
theorem bel_stored {w w1 : World} {S : Nat} {o : Obj} {L : List Value} (h : Below S w w1) (hs : S ≤ w1.heap.size) : Below S w ((w1.alloc o).setCells w1.heap.size 0 L) :=
  Below.setCells (h.alloc hs o) w1.heap.size hs L 0 _ (h.alloc hs o)
set_option maxRecDepth 100000 in
theorem icval_any : CVal := by
  intro w v xs h
  have HO := Lib.hid (cacheOf_any w v xs h)
  have HBX := Lib.hid (Ring.boxed · A0 0 0 59)
  obtain ⟨Z, hZ⟩ : ∃ Z, Z = ringC A0 0 0 := ⟨_, rfl⟩
  have HAL : Hid (∀ w, (zeroValue 59).run Try.prog w = .ok (.agg Z.toArray) w) := Lib.hid (by rw [hZ]; exact Try.zeroValue59)
  rw [← hZ] at HBX
  clear hZ
  obtain ⟨b, hb⟩ : ∃ b, b = cOk xs := ⟨_, rfl⟩
  rw [← hb] at HO ⊢
  clear hb
  go_enter Try.func19, Try.ntmps19
  go_wp2_with fail
  refine HO.out.mono ?_
  rintro en w1 ⟨u, rfl, ⟨A, f, c, rfl, hf, hc, hl⟩, hb1⟩
  obtain ⟨L, hL⟩ : ∃ L, L = ringC A f c := ⟨_, rfl⟩
  have HLL : Hid (L.length = 18) := Lib.hid (by rw [hL]; rfl)
  have HLS : Hid (L.toArray.size = 18) := Lib.hid (by rw [hL]; rfl)
  have HLO := Lib.hid (ringC_one A f c)
  have HLE := Lib.hid hL
  unfold ringV
  rw [← hL] at HLO ⊢
  clear hL
  have HB1 := Lib.hid hb1
  have HT : Hid ((w1.alloc (.cells Z.toArray 59)).there w1.heap.size 0 18) := Lib.hid (HBX.out w1).there
  clear hl hb1
  go_wp2_with (first | ((with_reducible refine alloc_is 59 ?_); refine alloc_arr 59 Z.toArray HAL.out ?_) | ((with_reducible refine store_is 59 (.tmp 3) (.tmp 8) ?_); refine store_arr 59 (.tmp 3) (.tmp 8) w1.heap.size 0 L.toArray rfl rfl (by rw [HLS.out]; exact HT.out) (by rw [HLS.out, ← HLL.out]; exact ring_info HLL.out) HLO.out ?_) | fail)
  go_ret
  exact ⟨rfl, bel_stored HB1.out HB1.out.size⟩
set_option maxRecDepth 100000 in
theorem icfind_any : CFind := by
  intro w v xs e p h
  have HBX := Lib.hid (Ring.boxed · A0 0 0 59)
  obtain ⟨Z, hZ⟩ : ∃ Z, Z = ringC A0 0 0 := ⟨_, rfl⟩
  have HAL : Hid (∀ w, (zeroValue 59).run Try.prog w = .ok (.agg Z.toArray) w) := Lib.hid (by rw [hZ]; exact Try.zeroValue59)
  rw [← hZ] at HBX
  clear hZ
  obtain ⟨b, hb⟩ : ∃ b, b = cOk xs := ⟨_, rfl⟩
  obtain ⟨R, hR⟩ : ∃ R, R = FindRes w (cFind xs e p) := ⟨_, rfl⟩
  have HR := Lib.hid hR
  rw [← hR]
  have HB0 := Lib.hid ((Below.refl w.heap.size w).alloc (Nat.le_refl _) (.cells #[.int .i64 0, .int .i64 0, .int .i64 0, .bool false] 25))
  have HO := Lib.hid (cacheOf_any (w.alloc (.cells #[.int .i64 0, .int .i64 0, .int .i64 0, .bool false] 25)) v xs (h.below HB0.out))
  rw [← hb] at HO
  have HBE := Lib.hid hb
  clear hb hR
  go_enter Try.func18, Try.ntmps18
  go_wp2_with fail
  obtain ⟨X, hX⟩ : ∃ X, w.heap.size = X := ⟨_, rfl⟩
  obtain ⟨w0, hw0⟩ : ∃ w0, w.alloc (.cells #[.int .i64 0, .int .i64 0, .int .i64 0, .bool false] 25) = w0 := ⟨_, rfl⟩
  have HZ : Hid (FourW w0 X 0 c0) := Lib.hid (by rw [← hw0, ← hX]; exact fourW_row (heap_alloc_new w (.cells #[.int .i64 0, .int .i64 0, .int .i64 0, .bool false] 25)))
  have HXS : Hid (X < w0.heap.size) := Lib.hid (by rw [← hw0, ← hX]; simp)
  rw [hw0] at HB0 HO
  have HXW := Lib.hid hX
  rw [hX] at HB0
  simp only [hX, hw0]
  clear hw0 hX
  refine HO.out.mono ?_
  rintro en w1 ⟨u, rfl, ⟨A, f, c, rfl, hf, hc, hl⟩, hb1⟩
  obtain ⟨L, hL⟩ : ∃ L, L = ringC A f c := ⟨_, rfl⟩
  have HLL : Hid (L.length = 18) := Lib.hid (by rw [hL]; rfl)
  have HLS : Hid (L.toArray.size = 18) := Lib.hid (by rw [hL]; rfl)
  have HLO := Lib.hid (ringC_one A f c)
  have HLE := Lib.hid hL
  unfold ringV
  rw [← hL] at HLO ⊢
  clear hL
  have HB1 := Lib.hid hb1
  have HBW1 : Hid (Below X w w1) := Lib.hid (HB0.out.trans (hb1.mono (Nat.le_of_lt HXS.out)))
  have HT : Hid ((w1.alloc (.cells Z.toArray 59)).there w1.heap.size 0 18) := Lib.hid (HBX.out w1).there
  have HS1 : Hid (X < w1.heap.size) := Lib.hid (Nat.lt_of_lt_of_le HXS.out hb1.size)
  obtain ⟨w2, hw2⟩ : ∃ w2, (w1.alloc (.cells Z.toArray 59)).setCells w1.heap.size 0 L = w2 := ⟨_, rfl⟩
  have HRG : Hid (Ring w2 w1.heap.size A f c) := Lib.hid (by rw [← hw2, HLE.out]; exact stored_in HBX.out)
  have HB2 : Hid (Below w1.heap.size w1 w2) := Lib.hid (by rw [← hw2]; exact bel_stored (Below.refl _ _) (Nat.le_refl _))
  have HBW2 : Hid (Below X w w2) := Lib.hid (HBW1.out.trans (HB2.out.mono (Nat.le_of_lt HS1.out)))
  have HZ2 : Hid (FourW w2 X 0 c0) := Lib.hid ((HZ.out.block (hb1.block _ HXS.out)).block (HB2.out.block _ HS1.out))
  have HTX := Lib.hid HZ2.out.there
  have HW2 := Lib.hid hw2
  have HFI := Lib.hid (fun w => ringFind_any w A f c e p hf hc)
  rw [hl] at HFI
  clear hb1 hw2 hf hc hl
  cases b
  · go_wp2_with (first | ((with_reducible refine alloc_is 59 ?_); refine alloc_arr 59 Z.toArray HAL.out ?_) | ((with_reducible refine store_is 59 (.tmp 8) (.tmp 13) ?_); refine store_arr 59 (.tmp 8) (.tmp 13) w1.heap.size 0 L.toArray rfl rfl (by rw [HLS.out]; exact HT.out) (by rw [HLS.out, ← HLL.out]; exact ring_info HLL.out) HLO.out ?_) | ((with_reducible refine store_is 25 (.tmp 6) (.tmp 17) ?_); rw [HW2.out]; refine store_arr 25 (.tmp 6) (.tmp 17) X 0 #[.int .i64 0, .int .i64 0, .int .i64 0, .bool false] rfl rfl HTX.out (by kernel_rfl) (by kernel_rfl) ?_) | fail)
    refine bodyPost_ret (results_cell_mid rfl _ _ X 0 [.int .i64 0, .int .i64 0, .int .i64 0, .bool false] _ rfl (World.rangeAt_setCells_same _ _ _ _ HTX.out) Try.underlying25 rfl (by kernel_rfl)) rfl ?_
    rw [HR.out, cFind_bad HBE.out.symm]
    exact ⟨rfl, by rw [HXW.out]; exact Below.setCells HBW2.out _ (Nat.le_refl _) _ _ _ HBW2.out⟩
  · have HCF : Hid (findL xs e p = cFind xs e p) := Lib.hid (findL_cFind HBE.out.symm e p)
    have HFI2 := HFI.out
    unfold ringV at HFI2
    rw [← HLE.out] at HFI2
    have HFI3 := Lib.hid HFI2
    clear HFI2 HFI
    simp only [cond_true] at HFI3
    rw [HCF.out] at HFI3
    go_wp2_with (first | ((with_reducible refine alloc_is 59 ?_); refine alloc_arr 59 Z.toArray HAL.out ?_) | ((with_reducible refine store_is 59 (.tmp 8) (.tmp 13) ?_); refine store_arr 59 (.tmp 8) (.tmp 13) w1.heap.size 0 L.toArray rfl rfl (by rw [HLS.out]; exact HT.out) (by rw [HLS.out, ← HLL.out]; exact ring_info HLL.out) HLO.out ?_) | ((with_reducible refine load_is 59 (.tmp 8) ?_); rw [HW2.out]; refine load_arr 59 (.tmp 8) w1.heap.size 0 L _ rfl (by rw [HLE.out]; exact HRG.out.range) Try.underlying59 rfl (ring_info HLL.out) ?_) | fail)
    refine (HFI3.out w2).mono ?_
    obtain ⟨r, hr⟩ : ∃ r, r = cFind xs e p := ⟨_, rfl⟩
    rw [← hr] at HR ⊢
    clear hr HFI3 HCF
    obtain ⟨⟨re, rp, rf, rb⟩, rt⟩ := r
    rintro en w3 ⟨rfl, hb3⟩
    unfold cvV
    dsimp only
    have HBW3 : Hid (Below X w w3) := Lib.hid (HBW2.out.trans (hb3.mono (Nat.le_of_lt (block_lt_of_cell HZ2.out.at4.c0))))
    have HT3 := Lib.hid (HZ2.out.block (hb3.block _ (block_lt_of_cell HZ2.out.at4.c0))).there
    clear hb3
    go_wp2_with (first | ((with_reducible refine store_is 25 (.tmp 6) (.tmp 22) ?_); refine store_arr 25 (.tmp 6) (.tmp 22) X 0 #[.int .i64 re, .int .i64 rp, .int .i64 rf, .bool rb] rfl rfl HT3.out (by kernel_rfl) (by simp [Value.oneCell']) ?_) | fail)
    refine bodyPost_ret (results_cell_mid rfl _ _ X 0 [.int .i64 re, .int .i64 rp, .int .i64 rf, .bool rb] _ rfl (World.rangeAt_setCells_same _ _ _ _ HT3.out) Try.underlying25 rfl (by kernel_rfl)) rfl ?_
    rw [HR.out]
    exact ⟨rfl, by rw [HXW.out]; exact Below.setCells HBW3.out _ (Nat.le_refl _) _ _ _ HBW3.out⟩
set_option maxRecDepth 100000 in
set_option maxHeartbeats 1000000 in
theorem icput_any : CPut := by
  intro w v xs x h
  have HBX := Lib.hid (Ring.boxed · A0 0 0 59)
  obtain ⟨Z, hZ⟩ : ∃ Z, Z = ringC A0 0 0 := ⟨_, rfl⟩
  have HAL : Hid (∀ w, (zeroValue 59).run Try.prog w = .ok (.agg Z.toArray) w) := Lib.hid (by rw [hZ]; exact Try.zeroValue59)
  rw [← hZ] at HBX
  clear hZ
  obtain ⟨b, hb⟩ : ∃ b, b = cOk xs := ⟨_, rfl⟩
  obtain ⟨R, hR⟩ : ∃ R, R = PutCR (putF xs x) (putB xs x) w := ⟨_, rfl⟩
  have HR := Lib.hid hR
  rw [← hR]
  have HP := Lib.hid ((show rput (kept xs (fun y => same y x.e x.p)) x = put4 xs x from by rw [keptOth, rput_cut]; rfl))
  obtain ⟨xe, xp, xf, xb⟩ := x
  have HB0 := Lib.hid ((Below.refl w.heap.size w).alloc (Nat.le_refl _) (.cells #[.int .i64 xe, .int .i64 xp, .int .i64 xf, .bool xb] 25))
  have HO := Lib.hid (cacheOf_any (w.alloc (.cells #[.int .i64 xe, .int .i64 xp, .int .i64 xf, .bool xb] 25)) v xs (h.below HB0.out))
  rw [← hb] at HO
  have HBE := Lib.hid hb
  clear hb hR
  go_enter Try.func15, Try.ntmps15
  go_wp2_with fail
  obtain ⟨X, hX⟩ : ∃ X, w.heap.size = X := ⟨_, rfl⟩
  obtain ⟨w0, hw0⟩ : ∃ w0, w.alloc (.cells #[.int .i64 xe, .int .i64 xp, .int .i64 xf, .bool xb] 25) = w0 := ⟨_, rfl⟩
  have HZ : Hid (FourW w0 X 0 ⟨xe, xp, xf, xb⟩) := Lib.hid (by rw [← hw0, ← hX]; exact fourW_row (x := ⟨xe, xp, xf, xb⟩) (heap_alloc_new w (.cells #[.int .i64 xe, .int .i64 xp, .int .i64 xf, .bool xb] 25)))
  have HXS : Hid (X < w0.heap.size) := Lib.hid (by rw [← hw0, ← hX]; simp)
  rw [hw0] at HB0 HO
  have HXW := Lib.hid hX
  rw [hX] at HB0
  simp only [hX, hw0]
  clear hw0 hX
  refine HO.out.mono ?_
  rintro en w1 ⟨u, rfl, ⟨A, f, c, rfl, hf, hc, hl⟩, hb1⟩
  obtain ⟨L, hL⟩ : ∃ L, L = ringC A f c := ⟨_, rfl⟩
  have HLL : Hid (L.length = 18) := Lib.hid (by rw [hL]; rfl)
  have HLS : Hid (L.toArray.size = 18) := Lib.hid (by rw [hL]; rfl)
  have HLO := Lib.hid (ringC_one A f c)
  have HLE := Lib.hid hL
  unfold ringV
  rw [← hL] at HLO ⊢
  clear hL
  have HB1 := Lib.hid hb1
  have HBW1 : Hid (Below X w w1) := Lib.hid (HB0.out.trans (hb1.mono (Nat.le_of_lt HXS.out)))
  have HT : Hid ((w1.alloc (.cells Z.toArray 59)).there w1.heap.size 0 18) := Lib.hid (HBX.out w1).there
  have HS1 : Hid (X < w1.heap.size) := Lib.hid (Nat.lt_of_lt_of_le HXS.out hb1.size)
  obtain ⟨Y, hY⟩ : ∃ Y, w1.heap.size = Y := ⟨_, rfl⟩
  obtain ⟨w2, hw2⟩ : ∃ w2, (w1.alloc (.cells Z.toArray 59)).setCells w1.heap.size 0 L = w2 := ⟨_, rfl⟩
  have HRG : Hid (Ring w2 Y A f c) := Lib.hid (by rw [← hw2, HLE.out, ← hY]; exact stored_in HBX.out)
  have HB2 : Hid (Below Y w1 w2) := Lib.hid (by rw [← hw2, ← hY]; exact bel_stored (Below.refl _ _) (Nat.le_refl _))
  have HXY : Hid (X < Y) := Lib.hid (by rw [← hY]; exact HS1.out)
  have HBW2 : Hid (Below X w w2) := Lib.hid (HBW1.out.trans (HB2.out.mono (Nat.le_of_lt HXY.out)))
  have HZ2 : Hid (FourW w2 X 0 ⟨xe, xp, xf, xb⟩) := Lib.hid ((HZ.out.block (hb1.block _ HXS.out)).block (HB2.out.block _ HXY.out))
  have HY2 : Hid (Y < w2.heap.size) := Lib.hid HRG.out.lt
  have HW2 := Lib.hid hw2
  have HYE := Lib.hid hY
  have HWI := Lib.hid (fun w3 => fun (h3 : FourW w3 X 0 ⟨xe, xp, xf, xb⟩) => without_any 40 (.pointer (some ⟨X, 0, none⟩)) (fun y => same y xe xp) w3 A f c hf hc (fun _ _ => by rfl) (fun w' y hb => putG_any w' X ⟨xe, xp, xf, xb⟩ y (h3.at4.below hb (block_lt_of_cell h3.at4.c0))))
  have HVA := Lib.hid (fun w => valid_any w ⟨xe, xp, xf, xb⟩)
  obtain ⟨vb, hvb⟩ : ∃ vb, vb = cvOk ⟨xe, xp, xf, xb⟩ := ⟨_, rfl⟩
  have HVB := Lib.hid hvb
  rw [← hvb] at HVA
  have HRL := Lib.hid hl
  rw [hl] at HWI
  unfold ringV at HWI
  rw [← HLE.out] at HWI
  clear hb1 hw2 hf hc hl hY hvb
  cases b
  · have HRN : Hid (R = PutCR [] false w) := Lib.hid (by rw [HR.out]; unfold putF putB; rw [← HBE.out]; rfl)
    go_wp2_with (first | ((with_reducible refine alloc_is 59 ?_); refine alloc_arr 59 Z.toArray HAL.out ?_) | ((with_reducible refine store_is 59 (.tmp 6) (.tmp 11) ?_); refine store_arr 59 (.tmp 6) (.tmp 11) w1.heap.size 0 L.toArray rfl rfl (by rw [HLS.out]; exact HT.out) (by rw [HLS.out, ← HLL.out]; exact ring_info HLL.out) HLO.out ?_; rw [show L.toArray.toList = L from rfl, HW2.out, HYE.out]) | fail)
    rw [HRN.out]
    exact ⟨_, rfl, nilW _ _ _, by rw [HXW.out]; exact HBW2.out⟩
  · obtain ⟨q0, q1, q2, q3⟩ := HZ2.out.at4
    rw [Nat.zero_add] at q1 q2 q3
    go_wp2_with (first | ((with_reducible refine alloc_is 59 ?_); refine alloc_arr 59 Z.toArray HAL.out ?_) | ((with_reducible refine store_is 59 (.tmp 6) (.tmp 11) ?_); refine store_arr 59 (.tmp 6) (.tmp 11) w1.heap.size 0 L.toArray rfl rfl (by rw [HLS.out]; exact HT.out) (by rw [HLS.out, ← HLL.out]; exact ring_info HLL.out) HLO.out ?_; rw [show L.toArray.toList = L from rfl, HW2.out, HYE.out]) | fail)
    refine (HVA.out w2).mono ?_
    rintro en w3 ⟨rfl, hb3⟩
    have HB3 := Lib.hid (hb3.mono (Nat.le_of_lt HY2.out))
    have HBB3 := Lib.hid hb3
    clear hb3 q0 q1 q2 q3
    have HBW3 : Hid (Below X w w3) := Lib.hid (HBW2.out.trans (HB3.out.mono (Nat.le_of_lt HXY.out)))
    cases vb
    · have HRN : Hid (R = PutCR [] false w) := Lib.hid (by rw [HR.out]; unfold putF putB; rw [← HBE.out, ← HVB.out]; rfl)
      go_wp2
      rw [HRN.out]
      exact ⟨_, rfl, nilW _ _ _, by rw [HXW.out]; exact HBW3.out⟩
    · have HRN : Hid (R = PutCR (put4 xs ⟨xe, xp, xf, xb⟩) true w) := Lib.hid (by rw [HR.out]; unfold putF putB; rw [← HBE.out, ← HVB.out]; rfl)
      have HR3 : Hid (Ring w3 Y A f c) := Lib.hid (HRG.out.block (HBB3.out.block _ HY2.out))
      go_wp2_with (first | ((with_reducible refine load_is 59 (.tmp 6) ?_); refine load_arr 59 (.tmp 6) Y 0 L _ rfl (by rw [HLE.out]; exact HR3.out.range) Try.underlying59 rfl (ring_info HLL.out) ?_) | fail)
      have HZ3 : Hid (FourW w3 X 0 ⟨xe, xp, xf, xb⟩) := Lib.hid (HZ2.out.block (HBB3.out.block _ (block_lt_of_cell HZ2.out.at4.c0)))
      refine (HWI.out w3 HZ3.out).mono ?_
      rintro en w4 ⟨u, rfl, ⟨A2, f2, c2, rfl, hf2, hc2, hl2⟩, hb4⟩
      obtain ⟨M, hM⟩ : ∃ M, M = ringC A2 f2 c2 := ⟨_, rfl⟩
      have HML : Hid (M.length = 18) := Lib.hid (by rw [hM]; rfl)
      have HMS : Hid (M.toArray.size = 18) := Lib.hid (by rw [hM]; rfl)
      have HMO := Lib.hid (ringC_one A2 f2 c2)
      have HME := Lib.hid hM
      unfold ringV
      rw [← hM] at HMO ⊢
      clear hM
      have HR4 : Hid (Ring w4 Y A f c) := Lib.hid (HR3.out.block (hb4.block _ HR3.out.lt))
      have HT4 := Lib.hid HR4.out.there
      have HZ4 : Hid (FourW w4 X 0 ⟨xe, xp, xf, xb⟩) := Lib.hid (HZ3.out.block (hb4.block _ (block_lt_of_cell HZ3.out.at4.c0)))
      have HBW4 : Hid (Below X w w4) := Lib.hid (HBW3.out.trans (hb4.mono (Nat.le_of_lt (block_lt_of_cell HZ3.out.at4.c0))))
      obtain ⟨w5, hw5⟩ : ∃ w5, w4.setCells Y 0 M = w5 := ⟨_, rfl⟩
      have HRL5 : Hid (RL w5 Y (kept xs (fun y => same y xe xp))) := Lib.hid ⟨A2, f2, c2, by rw [← hw5, HME.out]; exact Ring.stored HT4.out, hf2, hc2, hl2⟩
      have HZ5 : Hid (FourW w5 X 0 ⟨xe, xp, xf, xb⟩) := Lib.hid (HZ4.out.block (by rw [← hw5]; exact heap_setCells_other w4 Y M 0 w4 X (by have := HXY.out; omega)))
      have HBW5 : Hid (Below X w w5) := Lib.hid (by rw [← hw5]; exact Below.setCells HBW4.out Y (Nat.le_of_lt HXY.out) M 0 w4 HBW4.out)
      have HW5 := Lib.hid hw5
      clear hb4 hl2 hf2 hc2 hw5
      obtain ⟨q0, q1, q2, q3⟩ := HZ5.out.at4
      rw [Nat.zero_add] at q1 q2 q3
      go_wp2_with (first | ((with_reducible refine store_is 59 (.tmp 6) (.tmp 22) ?_); refine store_arr 59 (.tmp 6) (.tmp 22) Y 0 M.toArray rfl rfl (by rw [HMS.out]; exact HT4.out) (by rw [HMS.out, ← HML.out]; exact ring_info HML.out) HMO.out ?_; rw [show M.toArray.toList = M from rfl, HW5.out]) | fail)
      refine (push_any w5 Y _ ⟨xe, xp, xf, xb⟩ HRL5.out).mono ?_
      rintro en w6 ⟨rfl, hrl6, hch6⟩
      have HBW6 : Hid (Below X w w6) := Lib.hid (Below.chg HBW5.out hch6 (Nat.le_of_lt (block_lt_of_cell HZ5.out.at4.c0)) (by have := HXY.out; omega))
      have HPE : Hid (rput (kept xs (fun y => same y xe xp)) ⟨xe, xp, xf, xb⟩ = put4 xs ⟨xe, xp, xf, xb⟩) := Lib.hid HP.out
      rw [HPE.out] at hrl6
      obtain ⟨A3, f3, c3, hr3, hf3, hc3, hl3⟩ := hrl6
      have HR6 := Lib.hid hr3
      have HLI := Lib.hid (fun w => ringList_any w A3 f3 c3 hf3 hc3)
      rw [hl3] at HLI
      unfold ringV at HLI
      obtain ⟨K3, hK3⟩ : ∃ K3, K3 = ringC A3 f3 c3 := ⟨_, rfl⟩
      have HK3L : Hid (K3.length = 18) := Lib.hid (by rw [hK3]; rfl)
      have HK3E := Lib.hid hK3
      rw [← hK3] at HLI
      clear hr3 hf3 hc3 hl3 hK3 hch6 q0 q1 q2 q3
      go_wp2_with (first | ((with_reducible refine load_is 59 (.tmp 6) ?_); refine load_arr 59 (.tmp 6) Y 0 K3 _ rfl (by rw [HK3E.out]; exact HR6.out.range) Try.underlying59 rfl (ring_info HK3L.out) ?_) | fail)
      refine (HLI.out w6).mono ?_
      rintro en w7 ⟨v7, rfl, h7⟩
      have H7 := Lib.hid h7
      clear h7
      go_wp2
      rw [HRN.out]
      exact ⟨_, rfl, CsW.of_own (H7.out.from (by rw [HXW.out]; exact HBW6.out)), (H7.out.from (by rw [HXW.out]; exact HBW6.out)).bel⟩
set_option maxRecDepth 100000 in
set_option maxHeartbeats 1000000 in
theorem icdrop_any : CDrop := by
  intro w v xs e h
  have HBX := Lib.hid (Ring.boxed · A0 0 0 59)
  obtain ⟨Z, hZ⟩ : ∃ Z, Z = ringC A0 0 0 := ⟨_, rfl⟩
  have HAL : Hid (∀ w, (zeroValue 59).run Try.prog w = .ok (.agg Z.toArray) w) := Lib.hid (by rw [hZ]; exact Try.zeroValue59)
  rw [← hZ] at HBX
  clear hZ
  obtain ⟨b, hb⟩ : ∃ b, b = cOk xs := ⟨_, rfl⟩
  obtain ⟨R, hR⟩ : ∃ R, R = NewCR (dropF xs e) w := ⟨_, rfl⟩
  have HR := Lib.hid hR
  rw [← hR]
  have HB0 := Lib.hid ((Below.refl w.heap.size w).alloc (Nat.le_refl _) (.cells #[.int .i64 e] 3))
  have HO := Lib.hid (cacheOf_any (w.alloc (.cells #[.int .i64 e] 3)) v xs (h.below HB0.out))
  rw [← hb] at HO
  have HBE := Lib.hid hb
  clear hb hR
  go_enter Try.func21, Try.ntmps21
  go_wp2_with fail
  obtain ⟨X, hX⟩ : ∃ X, w.heap.size = X := ⟨_, rfl⟩
  obtain ⟨w0, hw0⟩ : ∃ w0, w.alloc (.cells #[.int .i64 e] 3) = w0 := ⟨_, rfl⟩
  have HZ : Hid (w0.cell? ⟨X, 0, none⟩ = some (.int .i64 e)) := Lib.hid (by rw [← hw0, ← hX]; exact new_cell rfl)
  have HXS : Hid (X < w0.heap.size) := Lib.hid (by rw [← hw0, ← hX]; simp)
  rw [hw0] at HB0 HO
  have HXW := Lib.hid hX
  rw [hX] at HB0
  simp only [hX, hw0]
  clear hw0 hX
  refine HO.out.mono ?_
  rintro en w1 ⟨u, rfl, ⟨A, f, c, rfl, hf, hc, hl⟩, hb1⟩
  obtain ⟨L, hL⟩ : ∃ L, L = ringC A f c := ⟨_, rfl⟩
  have HLL : Hid (L.length = 18) := Lib.hid (by rw [hL]; rfl)
  have HLS : Hid (L.toArray.size = 18) := Lib.hid (by rw [hL]; rfl)
  have HLO := Lib.hid (ringC_one A f c)
  have HLE := Lib.hid hL
  unfold ringV
  rw [← hL] at HLO ⊢
  clear hL
  have HB1 := Lib.hid hb1
  have HBW1 : Hid (Below X w w1) := Lib.hid (HB0.out.trans (hb1.mono (Nat.le_of_lt HXS.out)))
  have HT : Hid ((w1.alloc (.cells Z.toArray 59)).there w1.heap.size 0 18) := Lib.hid (HBX.out w1).there
  have HS1 : Hid (X < w1.heap.size) := Lib.hid (Nat.lt_of_lt_of_le HXS.out hb1.size)
  obtain ⟨Y, hY⟩ : ∃ Y, w1.heap.size = Y := ⟨_, rfl⟩
  obtain ⟨w2, hw2⟩ : ∃ w2, (w1.alloc (.cells Z.toArray 59)).setCells w1.heap.size 0 L = w2 := ⟨_, rfl⟩
  have HRG : Hid (Ring w2 Y A f c) := Lib.hid (by rw [← hw2, HLE.out, ← hY]; exact stored_in HBX.out)
  have HB2 : Hid (Below Y w1 w2) := Lib.hid (by rw [← hw2, ← hY]; exact bel_stored (Below.refl _ _) (Nat.le_refl _))
  have HXY : Hid (X < Y) := Lib.hid (by rw [← hY]; exact HS1.out)
  have HBW2 : Hid (Below X w w2) := Lib.hid (HBW1.out.trans (HB2.out.mono (Nat.le_of_lt HXY.out)))
  have HZ2 : Hid (w2.cell? ⟨X, 0, none⟩ = some (.int .i64 e)) := Lib.hid ((HB2.out.cell (p := ⟨X, 0, none⟩) HXY.out).trans ((hb1.cell (p := ⟨X, 0, none⟩) HXS.out).trans HZ.out))
  have HW2 := Lib.hid hw2
  have HYE := Lib.hid hY
  have HWI := Lib.hid (without_any 48 (.pointer (some ⟨X, 0, none⟩)) (fun y => decide (y.e = e)) w2 A f c hf hc (fun _ _ => by rfl) (fun w' y hb => dropG_any w' X e y ((hb.cell (p := ⟨X, 0, none⟩) (block_lt_of_cell HZ2.out)).trans HZ2.out)))
  rw [hl, keptDrp] at HWI
  unfold ringV at HWI
  rw [← HLE.out] at HWI
  clear hb1 hw2 hf hc hl hY
  cases b
  · have HRN : Hid (R = NewCR [] w) := Lib.hid (by rw [HR.out]; unfold dropF; rw [← HBE.out]; rfl)
    go_wp2_with (first | ((with_reducible refine alloc_is 59 ?_); refine alloc_arr 59 Z.toArray HAL.out ?_) | ((with_reducible refine store_is 59 (.tmp 5) (.tmp 10) ?_); refine store_arr 59 (.tmp 5) (.tmp 10) w1.heap.size 0 L.toArray rfl rfl (by rw [HLS.out]; exact HT.out) (by rw [HLS.out, ← HLL.out]; exact ring_info HLL.out) HLO.out ?_; rw [show L.toArray.toList = L from rfl, HW2.out, HYE.out]) | fail)
    rw [HRN.out]
    exact ⟨_, rfl, nilW _ _ _, by rw [HXW.out]; exact HBW2.out⟩
  · have HRN : Hid (R = NewCR (drp xs e) w) := Lib.hid (by rw [HR.out]; unfold dropF; rw [← HBE.out]; rfl)
    go_wp2_with (first | ((with_reducible refine alloc_is 59 ?_); refine alloc_arr 59 Z.toArray HAL.out ?_) | ((with_reducible refine store_is 59 (.tmp 5) (.tmp 10) ?_); refine store_arr 59 (.tmp 5) (.tmp 10) w1.heap.size 0 L.toArray rfl rfl (by rw [HLS.out]; exact HT.out) (by rw [HLS.out, ← HLL.out]; exact ring_info HLL.out) HLO.out ?_; rw [show L.toArray.toList = L from rfl, HW2.out, HYE.out]) | ((with_reducible refine load_is 59 (.tmp 5) ?_); refine load_arr 59 (.tmp 5) Y 0 L _ rfl (by rw [HLE.out]; exact HRG.out.range) Try.underlying59 rfl (ring_info HLL.out) ?_) | fail)
    refine HWI.out.mono ?_
    rintro en w4 ⟨u, rfl, ⟨A3, f3, c3, rfl, hf3, hc3, hl3⟩, hb4⟩
    have HBW4 : Hid (Below X w w4) := Lib.hid (HBW2.out.trans (hb4.mono (Nat.le_of_lt (block_lt_of_cell HZ2.out))))
    have HLI := Lib.hid (fun w => ringList_any w A3 f3 c3 hf3 hc3)
    rw [cond_true] at hl3
    rw [hl3] at HLI
    unfold ringV at HLI ⊢
    obtain ⟨K3, hK3⟩ : ∃ K3, K3 = ringC A3 f3 c3 := ⟨_, rfl⟩
    rw [← hK3] at HLI ⊢
    clear hf3 hc3 hl3 hK3 hb4
    go_wp2_with fail
    refine (HLI.out w4).mono ?_
    rintro en w7 ⟨v7, rfl, h7⟩
    have H7 := Lib.hid h7
    clear h7
    go_wp2
    rw [HRN.out]
    exact ⟨_, rfl, CsW.of_own (H7.out.from (by rw [HXW.out]; exact HBW4.out)), (H7.out.from (by rw [HXW.out]; exact HBW4.out)).bel⟩
end Go.Proofs.Ytklclcbhghjjfaa
