/- A ring made of a slice of translations, if they are a cache. -/
import Derived.Test.YtklclcbhghjjfaaCRw
namespace Go.Proofs.Ytklclcbhghjjfaa
open Go.ChangeShapes Go.WideShapes Go.ChangeAt Go.RowKit
set_option linter.unusedVariables false
set_option linter.unusedSimpArgs false

theorem findL_b (l : List CV) (e p : Int) : (findL l e p).b = true ↔ ∃ y ∈ l, y.e = e ∧ y.p = p := by
  unfold findL
  rcases fnd_spec l e p with ⟨h3, h4⟩ | ⟨k, hk, h3, h4, h5⟩
  · rw [h3, if_neg (by omega)]
    constructor
    · intro h; cases h
    · rintro ⟨y, hy, hh⟩
      have := h4 y hy
      rw [same_not] at this
      exact absurd hh this
  · rw [h3, if_pos (by omega)]
    rw [getD_lt hk, same_iff] at h4
    exact ⟨fun _ => ⟨_, List.getElem_mem _, h4⟩, fun _ => rfl⟩
theorem cOk_take {xs : List CV} (h : cOk xs = true) (k : Nat) : cOk (xs.take k) = true := by
  obtain ⟨h1, h2, hl⟩ := (cOk_iff xs).1 h
  rw [cOk_iff]
  have hs : (xs.take k).Sublist xs := List.take_sublist k xs
  exact ⟨fun x hx => h1 x (hs.subset hx), List.Pairwise.sublist hs h2, Nat.le_trans hs.length_le hl⟩
theorem cOk_snoc_twice {l : List CV} {x : CV} (h : (findL l x.e x.p).b = true) : cOk (l ++ [x]) = false := by
  rw [Bool.eq_false_iff]
  intro hc
  obtain ⟨_, h2, _⟩ := (cOk_iff _).1 hc
  obtain ⟨y, hy, hh⟩ := (findL_b _ _ _).1 h
  unfold Dst at h2
  rw [List.pairwise_append] at h2
  exact h2.2.2 y hy x (List.mem_singleton.2 rfl) hh
theorem cOk_snoc_bad {l : List CV} {x : CV} (h : cvOk x = false) : cOk (l ++ [x]) = false := by
  rw [Bool.eq_false_iff]
  intro hc
  obtain ⟨h1, _, _⟩ := (cOk_iff _).1 hc
  have := h1 x (List.mem_append_right _ (List.mem_singleton.2 rfl))
  rw [this] at h
  cases h
theorem cOk_snoc_good {l : List CV} {x : CV} (h : cOk l = true) (h1 : (findL l x.e x.p).b = false) (h2 : cvOk x = true) (h3 : l.length < 4) : cOk (l ++ [x]) = true := by
  obtain ⟨g1, g2, g3⟩ := (cOk_iff l).1 h
  rw [cOk_iff]
  refine ⟨fun y hy => ?_, ?_, by rw [List.length_append]; simp; omega⟩
  · rw [List.mem_append, List.mem_singleton] at hy
    rcases hy with hy | rfl
    · exact g1 y hy
    · exact h2
  · unfold Dst
    rw [List.pairwise_append]
    refine ⟨g2, List.pairwise_singleton _ _, fun y hy z hz hh => ?_⟩
    rw [List.mem_singleton] at hz
    subst hz
    have := (findL_b l z.e z.p).2 ⟨y, hy, hh⟩
    rw [this] at h1
    cases h1
theorem cOk_nil : cOk [] = true := by
  rw [cOk_iff]
  exact ⟨fun x hx => (by cases hx), List.Pairwise.nil, (by simp)⟩
theorem cOk_not_take {xs : List CV} {k : Nat} (h : cOk (xs.take k) = false) : cOk xs = false := by
  rw [Bool.eq_false_iff]
  intro hc
  rw [cOk_take hc k] at h
  cases h
/-- the answer is a ring with these translations, if they are a cache, and whether they are one; nothing that was there changes -/
def OfR (w : World) (xs : List CV) (b : Bool) (e : Ending) (w' : World) : Prop := ∃ u, e = .returned (.tuple #[u, .bool b]) ∧ RV u (bif b then xs else []) ∧ Below w.heap.size w w'
theorem build_zero {P : Program} {ops : Array Oper} {rest : List Oper} {a : Act} {w : World} {Q : Exit → Act → World → Prop} {dst : Option Nat} {tt : TypeId} {pos : String} {after : Array Edge} (t : TypeId)
    (z : Array Value) (hz : ∀ w, (Instr.build t #[]).run P w = .ok (.agg z) w)
    (h : wpList P ops Q rest (a.put dst (.agg z)) w) : wpList P ops Q ({ dst := dst, op := .build t #[], type := tt, pos := pos, after := after, guard := none } :: rest) a w :=
  wpList_plain rfl fun _ hK => by
    unfold Oper.wp execOp
    simp only [List.map_toArray, List.map_nil, Sem.run_bind, Sem.run_pure, Result.andThen_ok, hz]
    exact hK _ _ h
theorem build_ring (w : World) : (Instr.build 59 #[]).run Try.prog w = .ok (.agg (ringC A0 0 0).toArray) w := by
  rw [ringC_zero]
  unfold Instr.build
  go_simp
set_option maxRecDepth 100000 in
set_option maxHeartbeats 2000000 in
theorem cacheOf_any (w : World) (v : Value) (xs : List CV) (h : Cs w v xs) :
    Calls Try.prog 37 #[v] w (OfR w xs (cOk xs)) := by
  obtain ⟨a, cap, rfl, h1, h2, h3⟩ := h
  unfold maxLen at h2
  obtain ⟨R, HR⟩ : ∃ R, Hid (R = OfR w xs (cOk xs)) := ⟨_, Lib.hid rfl⟩
  rw [← HR.out]
  have H3 := Lib.hid h3
  obtain ⟨m, hm⟩ : ∃ m, m = xs.length := ⟨_, rfl⟩
  have HM := Lib.hid hm
  rw [← hm] at h1 ⊢
  clear hm h3
  have HBX := Lib.hid (Ring.boxed · A0 0 0 59)
  have HRV := Lib.hid RV.zero
  obtain ⟨Z, hZ⟩ : ∃ Z, Z = ringC A0 0 0 := ⟨_, rfl⟩
  have HAL : Hid (∀ w, (zeroValue 59).run Try.prog w = .ok (.agg Z.toArray) w) := Lib.hid (by rw [hZ]; exact Try.zeroValue59)
  have HBU : Hid (∀ w, (Instr.build 59 #[]).run Try.prog w = .ok (.agg Z.toArray) w) := Lib.hid (by rw [hZ]; exact build_ring)
  have HZL : Hid (Z.length = 18) := Lib.hid (by rw [hZ]; rfl)
  have HZS : Hid (Z.toArray.size = 18) := Lib.hid (by rw [hZ]; rfl)
  have HZO := Lib.hid (ringC_one A0 0 0)
  unfold ringV at HRV
  rw [← hZ] at HZO HBX HRV
  clear hZ
  have HB0 := Lib.hid ((Below.refl w.heap.size w).alloc (Nat.le_refl _) (.cells Z.toArray 59))
  by_cases h4 : 4 < m
  · have h4' : (4 : Int) < (m : Int) := by omega
    have HN : Hid (cOk xs = false) := Lib.hid (by
      rw [Bool.eq_false_iff]
      intro hc
      have := cOk_len hc
      have := HM.out
      omega)
    have HT := Lib.hid (HBX.out w).there
    go_enter Try.func37, Try.ntmps37
    go_wp2_with (first | ((with_reducible refine alloc_is 59 ?_); refine alloc_arr 59 Z.toArray HAL.out ?_) | ((with_reducible refine build_is 59 ?_); refine build_zero 59 Z.toArray HBU.out ?_) | ((with_reducible refine store_is 59 (.tmp 2) (.tmp 12) ?_); refine store_arr 59 (.tmp 2) (.tmp 12) w.heap.size 0 Z.toArray rfl rfl (by rw [HZS.out]; exact HT.out) (by rw [HZS.out, ← HZL.out]; exact ring_info HZL.out) HZO.out ?_) | fail)
    refine bodyPost_ret (results_cell_mid rfl _ _ w.heap.size 0 Z _ rfl (World.rangeAt_setCells_same _ _ _ _ (by rw [HZL.out]; exact HT.out)) Try.underlying59 rfl (ring_info HZL.out)) rfl ?_
    rw [HR.out, HN.out]
    exact ⟨_, rfl, HRV.out, Below.setCells HB0.out _ (Nat.le_refl _) _ _ _ HB0.out⟩
  · have h4' : decide ((4 : Int) < (m : Int)) = false := by simp; omega
    go_enter Try.func37, Try.ntmps37
    go_wp2_with (first | ((with_reducible refine alloc_is 59 ?_); refine alloc_arr 59 Z.toArray HAL.out ?_) | fail)
    obtain ⟨X, hX⟩ : ∃ X, w.heap.size = X := ⟨_, rfl⟩
    obtain ⟨w0, hw0⟩ : ∃ w0, (w.alloc (.cells Z.toArray 59)).alloc (.cells Z.toArray 59) = w0 := ⟨_, rfl⟩
    have HRS : Hid (Ring w0 X A0 0 0) := Lib.hid (by rw [← hw0, ← hX]; exact (HBX.out w).block (heap_alloc_old _ _ (by simp)))
    have HRL : Hid (RL w0 (X + 1) (xs.take 0)) := Lib.hid (by
      have h := HBX.out (w.alloc (.cells Z.toArray 59))
      rw [World.size_alloc] at h
      rw [← hw0, ← hX]
      exact RL.zero h)
    have HB : Hid (Below X w w0) := Lib.hid (by rw [← hw0, ← hX]; exact ((Below.refl _ _).alloc (Nat.le_refl _) _).alloc (by simp) _)
    have HXW := Lib.hid hX
    simp only [hX, hw0]
    clear hw0 HB0 hX
    go_loopw [15] (fun i wr => ∃ k : Nat, k ≤ m ∧ i = .int .i64 k ∧ Hid (Ring wr X A0 0 0) ∧ Hid (RL wr (X + 1) (xs.take k)) ∧ Hid (cOk (xs.take k) = true) ∧ Hid (Below X w wr)) (fun i _ => m - (intOf i).toNat)
    case atStart => exact ⟨0, Nat.zero_le _, rfl, HRS, HRL, Lib.hid cOk_nil, HB⟩
    case round =>
      obtain ⟨k, hk, rfl, HRS, HRL, HOK, HB⟩ := hrel
      by_cases hlt : k < m
      · have hlt' : (k : Int) < (m : Int) := by omega
        obtain ⟨b, o, rfl, hf0⟩ := H3.out k (by have := HM.out; omega)
        obtain ⟨x, hx⟩ : ∃ x, x = xs.getD k c0 := ⟨_, rfl⟩
        rw [← hx] at hf0
        have HTK : Hid (xs.take (k + 1) = xs.take k ++ [x]) := Lib.hid (by rw [hx]; exact take_snoc_getD xs k c0 (by have := HM.out; omega))
        have HTL : Hid ((xs.take k).length < 4) := Lib.hid (by rw [List.length_take]; omega)
        obtain ⟨g0, g1, g2, g3⟩ := hf0.below HB.out (by have h1 : b < w.heap.size := block_lt_of_cell hf0.c0; have := HXW.out; omega)
        clear hx hf0
        obtain ⟨A, f, c, hring, hf, hc, hl⟩ := HRL.out
        obtain ⟨r, hr⟩ : ∃ r, r = findL (xs.take k) x.e x.p := ⟨_, rfl⟩
        have HFI := Lib.hid (fun w => ringFind_any w A f c x.e x.p hf hc)
        rw [hl, ← hr] at HFI
        unfold ringV at HFI
        obtain ⟨L, hL⟩ : ∃ L, L = ringC A f c := ⟨_, rfl⟩
        have HLL : Hid (L.length = 18) := Lib.hid (by rw [hL]; rfl)
        rw [← hL] at HFI
        have HL := Lib.hid hL
        have HRF := Lib.hid hr
        have HRI := Lib.hid hring
        obtain ⟨⟨re, rp, rf, rb⟩, rt⟩ := r
        obtain ⟨Y, hY⟩ : ∃ Y, wr.heap.size = Y := ⟨_, rfl⟩
        obtain ⟨w1, hw1⟩ : ∃ w1, wr.alloc (.cells #[.int .i64 x.e, .int .i64 x.p, .int .i64 x.f, .bool x.b] 25) = w1 := ⟨_, rfl⟩
        have HB1 : Hid (Below Y wr w1) := Lib.hid (by rw [← hw1, ← hY]; exact (Below.refl _ _).alloc (Nat.le_refl _) _)
        have HF1 : Hid (FourW w1 Y 0 x ∧ Y < w1.heap.size) := Lib.hid (by
          rw [← hw1, ← hY]
          exact ⟨fourW_row (heap_alloc_new wr (.cells #[.int .i64 x.e, .int .i64 x.p, .int .i64 x.f, .bool x.b] 25)), by simp⟩)
        have HXY : Hid (X + 1 < Y) := Lib.hid (by rw [← hY]; exact HRL.out.lt)
        have HYE := Lib.hid hY
        clear hl hring hr hL
        have HW1 := Lib.hid hw1
        clear hw1 hY
        go_wp2_with (first | ((with_reducible refine load_is 59 (.tmp 4) ?_); rw [HYE.out, HW1.out]; refine load_arr 59 (.tmp 4) (X + 1) 0 L _ rfl (by rw [HL.out]; exact (HRI.out.block (HB1.out.block (X + 1) HXY.out)).range) Try.underlying59 rfl (ring_info HLL.out) ?_; obtain ⟨q0, q1, q2, q3⟩ := HF1.out.1.at4; rw [Nat.zero_add] at q1 q2 q3) | fail)
        refine (HFI.out w1).mono ?_
        rintro en w2 ⟨rfl, hb2⟩
        unfold cvV
        dsimp only
        obtain ⟨wA, hA⟩ : ∃ wA, w2.alloc (.cells #[.int .i64 re, .int .i64 rp, .int .i64 rf, .bool rb] 25) = wA := ⟨_, rfl⟩
        have HBA : Hid (Below Y wr wA) := Lib.hid (by
          rw [← hA]
          have h2 := hb2.mono (Nat.le_of_lt HF1.out.2)
          exact (HB1.out.trans h2).alloc (Nat.le_trans (Nat.le_of_lt HF1.out.2) hb2.size) _)
        have HFA : Hid (FourW wA Y 0 x) := Lib.hid (by
          rw [← hA]
          exact (HF1.out.1.block (hb2.block _ HF1.out.2)).block (heap_alloc_old _ _ (Nat.lt_of_lt_of_le HF1.out.2 hb2.size)))
        have HF2 : Hid (FourW w2 Y 0 x ∧ Y < w2.heap.size) := Lib.hid ⟨HF1.out.1.block (hb2.block _ HF1.out.2), Nat.lt_of_lt_of_le HF1.out.2 hb2.size⟩
        have HAE := Lib.hid hA
        have HXX : Hid (X < Y) := Lib.hid (by have := HXY.out; omega)
        have HRSA : Hid (Ring wA X A0 0 0) := Lib.hid (HRS.out.block (HBA.out.block X HXX.out))
        have HRLA : Hid (RL wA (X + 1) (xs.take k)) := Lib.hid (HRL.out.block (HBA.out.block (X + 1) HXY.out))
        have HBBA : Hid (Below X w wA) := Lib.hid (HB.out.trans (HBA.out.mono (Nat.le_of_lt HXX.out)))
        have HT := Lib.hid HRSA.out.there
        clear hb2 hA q0 q1 q2 q3
        cases rt
        · have HVA := Lib.hid (fun w => valid_any w x)
          obtain ⟨vb, hvb⟩ : ∃ vb, vb = cvOk x := ⟨_, rfl⟩
          have HVB := Lib.hid hvb
          rw [← hvb] at HVA
          clear hvb
          obtain ⟨q0, q1, q2, q3⟩ := HF2.out.1.at4
          have hYw := HF2.out.2
          rw [Nat.zero_add] at q1 q2 q3
          go_wp2_with fail
          rw [HAE.out]
          refine (HVA.out wA).mono ?_
          rintro en w3 ⟨rfl, hb3⟩
          have HB3 : Hid (Below Y wr w3) := Lib.hid (HBA.out.trans (hb3.mono HBA.out.size |> (fun z => HYE.out ▸ z)))
          have HF3 : Hid (FourW w3 Y 0 x) := Lib.hid (HFA.out.block (hb3.block _ (block_lt_of_cell HFA.out.at4.c0)))
          have HRS3 : Hid (Ring w3 X A0 0 0) := Lib.hid (HRSA.out.block (hb3.block _ HRSA.out.lt))
          have HRL3 : Hid (RL w3 (X + 1) (xs.take k)) := Lib.hid (HRLA.out.block (hb3.block _ HRLA.out.lt))
          have HBB3 : Hid (Below X w w3) := Lib.hid (HBBA.out.trans (hb3.mono (Nat.le_of_lt HRSA.out.lt)))
          have HT3 := Lib.hid HRS3.out.there
          clear hb3 q0 q1 q2 q3
          cases vb
          · have HN : Hid (cOk xs = false) := Lib.hid (cOk_not_take (k := k + 1) (by rw [HTK.out]; exact cOk_snoc_bad HVB.out.symm))
            go_wp2_with (first | ((with_reducible refine build_is 59 ?_); refine build_zero 59 Z.toArray HBU.out ?_) | ((with_reducible refine store_is 59 (.tmp 2) (.tmp 34) ?_); refine store_arr 59 (.tmp 2) (.tmp 34) X 0 Z.toArray rfl rfl (by rw [List.size_toArray, HZL.out]; exact HT3.out) (by rw [List.size_toArray]; exact ring_info HZL.out) HZO.out ?_) | fail)
            refine bodyPost_ret (results_cell_mid rfl _ _ X 0 Z _ rfl (World.rangeAt_setCells_same _ _ _ _ (by rw [HZL.out]; exact HT3.out)) Try.underlying59 rfl (ring_info HZL.out)) rfl ?_
            rw [HR.out, HN.out]
            exact ⟨_, rfl, HRV.out, by rw [HXW.out]; exact Below.setCells HBB3.out _ (Nat.le_refl _) _ _ _ HBB3.out⟩
          · have HGO : Hid (cOk (xs.take (k + 1)) = true) := Lib.hid (by rw [HTK.out]; exact cOk_snoc_good HOK.out (by rw [← HRF.out]) HVB.out.symm HTL.out)
            obtain ⟨q0, q1, q2, q3⟩ := HF3.out.at4
            rw [Nat.zero_add] at q1 q2 q3
            go_wp2_with fail
            refine (push_any w3 (X + 1) _ x HRL3.out).mono ?_
            rintro en w4 ⟨rfl, hrl4, hch4⟩
            have HRL4 : Hid (RL w4 (X + 1) (xs.take (k + 1))) := Lib.hid (by rw [HTK.out, ← rput_room HTL.out]; exact hrl4)
            have HRS4 : Hid (Ring w4 X A0 0 0) := Lib.hid (HRS3.out.block (hch4.block _ HRS3.out.lt (by omega)))
            have HBB4 : Hid (Below X w w4) := Lib.hid (Below.chg HBB3.out hch4 (Nat.le_of_lt HRS3.out.lt) (by omega))
            clear hrl4 hch4 q0 q1 q2 q3
            go_wp2
            go_roundw
            case rel => exact ⟨k + 1, by omega, by go_num, HRS4, HRL4, HGO, HBB4⟩
            case measure => simp [intOf]; omega
        · have HN : Hid (cOk xs = false) := Lib.hid (cOk_not_take (k := k + 1) (by rw [HTK.out]; exact cOk_snoc_twice (by rw [← HRF.out])))
          go_wp2_with (first | ((with_reducible refine alloc_is 59 ?_); refine alloc_arr 59 Z.toArray HAL.out ?_) | ((with_reducible refine build_is 59 ?_); refine build_zero 59 Z.toArray HBU.out ?_) | ((with_reducible refine store_is 59 (.tmp 2) (.tmp 34) ?_); rw [HAE.out]; refine store_arr 59 (.tmp 2) (.tmp 34) X 0 Z.toArray rfl rfl (by rw [HZS.out]; exact HT.out) (by rw [HZS.out, ← HZL.out]; exact ring_info HZL.out) HZO.out ?_) | fail)
          refine bodyPost_ret (results_cell_mid rfl _ _ X 0 Z _ rfl (World.rangeAt_setCells_same _ _ _ _ (by rw [HZL.out]; exact HT.out)) Try.underlying59 rfl (ring_info HZL.out)) rfl ?_
          rw [HR.out, HN.out]
          exact ⟨_, rfl, HRV.out, by rw [HXW.out]; exact Below.setCells HBBA.out _ (Nat.le_refl _) _ _ _ HBBA.out⟩
      · have ek : k = m := by omega
        subst ek
        obtain ⟨A, f, c, hring, hf, hc, hl⟩ := HRL.out
        have HRI := Lib.hid hring
        obtain ⟨L, hL⟩ : ∃ L, L = ringC A f c := ⟨_, rfl⟩
        have HLL : Hid (L.length = 18) := Lib.hid (by rw [hL]; rfl)
        have HL := Lib.hid hL
        have HT := Lib.hid HRS.out.there
        have HO := Lib.hid (ringC_one A f c)
        rw [← hL] at HO
        have hxk : xs.take k = xs := take_all HM.out
        have HOK2 : Hid (cOk xs = true) := Lib.hid (by have := HOK.out; rwa [hxk] at this)
        have HRV2 : Hid (RV (.agg L.toArray) xs) := Lib.hid ⟨A, f, c, by rw [hL], hf, hc, by rw [hl, hxk]⟩
        clear hring hL hf hc hl hxk
        go_wp2_with (first | ((with_reducible refine load_is 59 (.tmp 4) ?_); refine load_arr 59 (.tmp 4) (X + 1) 0 L _ rfl (by rw [HL.out]; exact HRI.out.range) Try.underlying59 rfl (ring_info HLL.out) ?_) | ((with_reducible refine store_is 59 (.tmp 2) (.tmp 38) ?_); refine store_arr 59 (.tmp 2) (.tmp 38) X 0 L.toArray rfl rfl (by rw [List.size_toArray, HLL.out]; exact HT.out) (by rw [List.size_toArray]; exact ring_info HLL.out) HO.out ?_) | fail)
        refine bodyPost_ret (results_cell_mid rfl _ _ X 0 L _ rfl (World.rangeAt_setCells_same _ _ _ _ (by rw [HLL.out]; exact HT.out)) Try.underlying59 rfl (ring_info HLL.out)) rfl ?_
        rw [HR.out, HOK2.out]
        exact ⟨_, rfl, HRV2.out, by rw [HXW.out]; exact Below.setCells HB.out _ (Nat.le_refl _) _ _ _ HB.out⟩
end Go.Proofs.Ytklclcbhghjjfaa
