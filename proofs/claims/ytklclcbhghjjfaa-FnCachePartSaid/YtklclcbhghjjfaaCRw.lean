/- A ring without some of its translations. -/
import Derived.Test.YtklclcbhghjjfaaCRp
namespace Go.Proofs.Ytklclcbhghjjfaa
open Go.ChangeShapes Go.WideShapes Go.ChangeAt Go.RowKit
set_option linter.unusedVariables false
set_option linter.unusedSimpArgs false

theorem results_ring {P : Program} {fn : Func} {p : Tmp} {ty : TypeId} (h : fn.results = #[.cell p ty]) (tmps : Array Value) (w : World) (b o : Nat) (cs : List Value) (d : TypeDesc)
    (hp : tmps.getD p undef = .pointer (some ⟨b, o, none⟩)) (hc : w.rangeAt b o cs) (hu : P.underlying ty = some d) (hd : d.isRow = true) (hi : (P.info? ty).map (·.size) = some cs.length) :
    (results fn tmps).run P w = .ok (.agg cs.toArray) w := by
  have hp' : tmps[p]?.getD undef = .pointer (some ⟨b, o, none⟩) := by simpa using hp
  simp [results, h, hp', asAddr, run_loadVar_mid w b o ty cs d hc hu hd hi]
/-- the translations that are kept -/
def kept (l : List CV) (p : CV → Bool) : List CV := l.filter (fun y => !p y)
theorem kept_snoc (l : List CV) (x : CV) (p : CV → Bool) : kept (l ++ [x]) p = kept l p ++ (if p x = true then [] else [x]) := by
  unfold kept
  rw [List.filter_append]
  congr 1
  cases h : p x <;> simp [h]
theorem kept_len (l : List CV) (p : CV → Bool) : (kept l p).length ≤ l.length := List.length_filter_le _ _
theorem rput_room {l : List CV} {x : CV} (h : l.length < 4) : rput l x = l ++ [x] := by unfold rput; rw [if_neg (by omega)]
/-- the answer is a ring that holds these translations; nothing that was there changes -/
def RingR (w : World) (l : List CV) (e : Ending) (w' : World) : Prop := ∃ v, e = .returned v ∧ RV v l ∧ Below w.heap.size w w'
theorem RL.zero {w : World} {b : Nat} (h : Ring w b A0 0 0) : RL w b [] := ⟨A0, 0, 0, h, by omega, by omega, rfl⟩
theorem RL.block {w w' : World} {b : Nat} {l : List CV} (h : RL w b l) (e : w'.heap[b]? = w.heap[b]?) : RL w' b l := by
  obtain ⟨A, f, c, h, hf, hc, hl⟩ := h
  exact ⟨A, f, c, h.block e, hf, hc, hl⟩
theorem RL.lt {w : World} {b : Nat} {l : List CV} (h : RL w b l) : b < w.heap.size := by
  obtain ⟨A, f, c, h, _⟩ := h
  exact h.lt
theorem RL.len {w : World} {b : Nat} {l : List CV} (h : RL w b l) : l.length ≤ 4 := by
  obtain ⟨A, f, c, h, _, hc, hl⟩ := h
  rw [← hl, rlist_len]
  exact hc

set_option maxRecDepth 100000 in
set_option maxHeartbeats 2000000 in
theorem without_any (gf : FuncId) (cp : Value) (p : CV → Bool) (w : World) (A : Nat → CV) (f c : Nat) (hf : f < 4) (hc : c ≤ 4)
    (hcf : ∀ (args : Array Value) (w : World), (callFunc gf args).run Try.prog w = .ok (.enter gf args) w)
    (hG : ∀ w' y, Below w.heap.size w w' → Calls Try.prog gf #[cvV y, cp] w' (BoolRes w' (p y))) :
    Calls Try.prog 39 #[ringV A f c, .func (.func gf) #[] #[cp]] w (RingR w (kept (rlist A f c) p)) := by
  obtain ⟨R, HR⟩ : ∃ R, Hid (R = RingR w (kept (rlist A f c) p)) := ⟨_, Lib.hid rfl⟩
  rw [← HR.out]
  have HG := Lib.hid hG
  have HSL := Lib.hid (fun w k hk => slot_any w A f c k hf hk)
  have HSN := Lib.hid (fun k => rlist_snoc A f k)
  have HLN := Lib.hid (fun k => rlist_len A f k)
  unfold ringV at HSL ⊢
  obtain ⟨L, hL⟩ : ∃ L, L = ringC A f c := ⟨_, rfl⟩
  have HLL : Hid (L.length = 18) := Lib.hid (by rw [hL]; rfl)
  have hL17 : L[17]? = some (.int .i64 (c : Int)) := by rw [hL]; rfl
  have HRG0 : Hid (Ring (w.alloc (.cells L.toArray 59)) w.heap.size A f c) := Lib.hid (by rw [hL]; exact Ring.boxed w A f c _)
  rw [← hL] at HSL ⊢
  have HL := Lib.hid hL
  clear hL hG
  go_enter Try.func39, Try.ntmps39
  go_wp2_with (first | ((with_reducible refine box_is _ (.tmp 0) ?_); refine box_arr _ (.tmp 0) L.toArray rfl ?_) | fail)
  obtain ⟨X, hX⟩ : ∃ X, w.heap.size = X := ⟨_, rfl⟩
  obtain ⟨w0, hw0⟩ : ∃ w0, ((w.alloc (.cells L.toArray 59)).alloc (.cells #[.int .i64 0, .int .i64 0, .int .i64 0, .bool false, .int .i64 0, .int .i64 0, .int .i64 0, .bool false, .int .i64 0, .int .i64 0, .int .i64 0, .bool false, .int .i64 0, .int .i64 0, .int .i64 0, .bool false, .int .i64 0, .int .i64 0] 59)).alloc (.cells #[.int .i64 0, .int .i64 0, .int .i64 0, .bool false, .int .i64 0, .int .i64 0, .int .i64 0, .bool false, .int .i64 0, .int .i64 0, .int .i64 0, .bool false, .int .i64 0, .int .i64 0, .int .i64 0, .bool false, .int .i64 0, .int .i64 0] 59) = w0 := ⟨_, rfl⟩
  have HRG : Hid (Ring w0 X A f c) := Lib.hid (by rw [← hw0, ← hX]; exact (HRG0.out.block (heap_alloc_old _ _ (by simp))).block (heap_alloc_old _ _ (by simp; omega)))
  have HRS : Hid (Ring w0 (X + 1) A0 0 0) := Lib.hid (by
    have h := Ring.boxed (w.alloc (.cells L.toArray 59)) A0 0 0 59
    rw [ringC_zero, World.size_alloc] at h
    rw [← hw0, ← hX]
    exact h.block (heap_alloc_old _ _ (by simp)))
  have HKP : Hid (RL w0 (X + 1 + 1) []) := Lib.hid (by
    have h := Ring.boxed ((w.alloc (.cells L.toArray 59)).alloc (.cells #[.int .i64 0, .int .i64 0, .int .i64 0, .bool false, .int .i64 0, .int .i64 0, .int .i64 0, .bool false, .int .i64 0, .int .i64 0, .int .i64 0, .bool false, .int .i64 0, .int .i64 0, .int .i64 0, .bool false, .int .i64 0, .int .i64 0] 59)) A0 0 0 59
    rw [ringC_zero, World.size_alloc, World.size_alloc] at h
    rw [← hw0, ← hX]
    exact RL.zero h)
  have HB : Hid (Below X w w0) := Lib.hid (by rw [← hw0, ← hX]; exact (((Below.refl _ _).alloc (Nat.le_refl _) _).alloc (by simp) _).alloc (by simp; omega) _)
  have HXW := Lib.hid hX
  simp only [hX, hw0]
  clear hw0 HRG0 hX
  go_loopw [10] (fun i wr => ∃ k : Nat, k ≤ c ∧ i = .int .i64 k ∧ Hid (Ring wr X A f c) ∧ Hid (Ring wr (X + 1) A0 0 0) ∧ Hid (RL wr (X + 1 + 1) (kept (rlist A f k) p)) ∧ Hid (Below X w wr)) (fun i _ => c - (intOf i).toNat)
  case atStart => exact ⟨0, Nat.zero_le _, rfl, HRG, HRS, HKP, HB⟩
  case round =>
    obtain ⟨k, hk, rfl, HRG, HRS, HKP, HB⟩ := hrel
    have HRR := Lib.hid HRG.out.range
    by_cases hlt : k < c
    · have hlt' : (k : Int) < (c : Int) := by omega
      go_wp2_with (first | ((with_reducible refine load_is 59 (.tmp 2) ?_); refine load_arr 59 (.tmp 2) X 0 L _ rfl (by rw [HL.out]; exact HRR.out) Try.underlying59 rfl (ring_info HLL.out) ?_) | fail)
      refine (HSL.out _ k (by omega)).mono ?_
      rintro en w1 ⟨rfl, hb1⟩
      obtain ⟨s, hs⟩ : ∃ s, s = (f + k) % 4 := ⟨_, rfl⟩
      have hs4 : (s : Int) < 4 := by omega
      have hs4n : s < 4 := by omega
      obtain ⟨x, hx⟩ : ∃ x, x = A s := ⟨_, rfl⟩
      have HKX : Hid (kept (rlist A f (k + 1)) p = kept (rlist A f k) p ++ (if p x = true then [] else [x])) := Lib.hid (by rw [HSN.out, hx, hs]; exact kept_snoc _ _ _)
      have hf4 := ((HRG.out.at4 s hs4n).block (hb1.block _ HRG.out.lt)).at4
      rw [← hx] at hf4
      obtain ⟨g0, g1, g2, g3⟩ := hf4
      rw [← hs]
      have HBS := Lib.hid hb1
      clear hs hx hb1
      go_wp2_with fail
      obtain ⟨Y, hY⟩ : ∃ Y, w1.heap.size = Y := ⟨_, rfl⟩
      obtain ⟨w2, hw2⟩ : ∃ w2, w1.alloc (.cells #[.int .i64 x.e, .int .i64 x.p, .int .i64 x.f, .bool x.b] 25) = w2 := ⟨_, rfl⟩
      have hb2 : Below wr.heap.size wr w2 := by rw [← hw2]; exact HBS.out.alloc HBS.out.size _
      have HF2 : Hid (FourW w2 Y 0 x ∧ Y < w2.heap.size) := Lib.hid (by
        rw [← hw2, ← hY]
        exact ⟨fourW_row (heap_alloc_new w1 (.cells #[.int .i64 x.e, .int .i64 x.p, .int .i64 x.f, .bool x.b] 25)), by simp⟩)
      have HYX : Hid (X + 1 + 1 < Y) := Lib.hid (by rw [← hY]; exact Nat.lt_of_lt_of_le HKP.out.lt HBS.out.size)
      have HBS2 := Lib.hid hb2
      simp only [hY, hw2]
      clear hw2 hY hb2 HBS g0 g1 g2 g3
      have HBW2 : Hid (Below w.heap.size w w2) := Lib.hid (by rw [HXW.out]; exact HB.out.trans (HBS2.out.mono (Nat.le_of_lt HRG.out.lt)))
      refine (HG.out w2 x HBW2.out).mono ?_
      rintro en w3 ⟨rfl, hb3⟩
      have HB3 : Hid (Below wr.heap.size wr w3) := Lib.hid (HBS2.out.trans (hb3.mono HBS2.out.size))
      have HF3 : Hid (FourW w3 Y 0 x) := Lib.hid (HF2.out.1.block (hb3.block _ HF2.out.2))
      have HRG3 : Hid (Ring w3 X A f c) := Lib.hid (HRG.out.block (HB3.out.block _ HRG.out.lt))
      have HRS3 : Hid (Ring w3 (X + 1) A0 0 0) := Lib.hid (HRS.out.block (HB3.out.block _ HRS.out.lt))
      have HKP3 : Hid (RL w3 (X + 1 + 1) (kept (rlist A f k) p)) := Lib.hid (HKP.out.block (HB3.out.block _ HKP.out.lt))
      have HBB3 : Hid (Below X w w3) := Lib.hid (HB.out.trans (HB3.out.mono (Nat.le_of_lt HRG.out.lt)))
      clear hb3 HB3 HBS2 HF2 HBW2
      cases hsm : p x
      · have HN2 : Hid (kept (rlist A f (k + 1)) p = kept (rlist A f k) p ++ [x]) := Lib.hid (by rw [HKX.out, hsm]; rfl)
        have HLT : Hid ((kept (rlist A f k) p).length < 4) := Lib.hid (by
          have h := kept_len (rlist A f k) p
          rw [HLN.out] at h
          omega)
        clear hsm
        obtain ⟨q0, q1, q2, q3⟩ := HF3.out.at4
        rw [Nat.zero_add] at q1 q2 q3
        go_wp2_with fail
        refine (push_any w3 (X + 1 + 1) _ x HKP3.out).mono ?_
        rintro en w4 ⟨rfl, hrl4, hch4⟩
        have HKP4 : Hid (RL w4 (X + 1 + 1) (kept (rlist A f (k + 1)) p)) := Lib.hid (by rw [HN2.out, ← rput_room HLT.out]; exact hrl4)
        have HRG4 : Hid (Ring w4 X A f c) := Lib.hid (HRG3.out.block (hch4.block _ HRG3.out.lt (by omega)))
        have HRS4 : Hid (Ring w4 (X + 1) A0 0 0) := Lib.hid (HRS3.out.block (hch4.block _ HRS3.out.lt (by omega)))
        have HBB4 : Hid (Below X w w4) := Lib.hid (Below.chg HBB3.out hch4 (Nat.le_of_lt HRG3.out.lt) (by omega))
        clear hrl4 hch4 q0 q1 q2 q3
        go_wp2
        go_roundw
        case rel => exact ⟨k + 1, by omega, by go_num, HRG4, HRS4, HKP4, HBB4⟩
        case measure => simp [intOf]; omega
      · have HKP4 : Hid (RL w3 (X + 1 + 1) (kept (rlist A f (k + 1)) p)) := Lib.hid (by rw [HKX.out, hsm, if_pos rfl, List.append_nil]; exact HKP3.out)
        clear hsm
        go_wp2
        go_roundw
        case rel => exact ⟨k + 1, by omega, by go_num, HRG3, HRS3, HKP4, HBB3⟩
        case measure => simp [intOf]; omega
    · have ek : k = c := by omega
      subst ek
      obtain ⟨A', f', c', hr', hf', hc', hl'⟩ := HKP.out
      have HR' := Lib.hid hr'
      obtain ⟨L', hL'⟩ : ∃ L', L' = ringC A' f' c' := ⟨_, rfl⟩
      have HLL' : Hid (L'.length = 18) := Lib.hid (by rw [hL']; rfl)
      have HL'' := Lib.hid hL'
      have HT := Lib.hid HRS.out.there
      have HO := Lib.hid (ringC_one A' f' c')
      rw [← hL'] at HO
      have HRV : Hid (RV (.agg L'.toArray) (kept (rlist A f k) p)) := Lib.hid ⟨A', f', c', by rw [hL'], hf', hc', hl'⟩
      clear hr' hL' hf' hc' hl'
      go_wp2_with (first | ((with_reducible refine load_is 59 (.tmp 5) ?_); refine load_arr 59 (.tmp 5) (X + 1 + 1) 0 L' _ rfl (by rw [HL''.out]; exact HR'.out.range) Try.underlying59 rfl (ring_info HLL'.out) ?_) | ((with_reducible refine store_is 59 (.tmp 4) (.tmp 26) ?_); refine store_arr 59 (.tmp 4) (.tmp 26) (X + 1) 0 L'.toArray rfl rfl (by rw [List.size_toArray, HLL'.out]; exact HT.out) (by rw [List.size_toArray]; exact ring_info HLL'.out) HO.out ?_) | fail)
      refine bodyPost_ret (results_ring rfl _ _ (X + 1) 0 L' _ rfl (World.rangeAt_setCells_same _ _ _ _ (by rw [HLL'.out]; exact HT.out)) Try.underlying59 rfl (ring_info HLL'.out)) rfl ?_
      rw [HR.out]
      exact ⟨_, rfl, HRV.out, by rw [HXW.out]; exact Below.setCells HB.out _ (by omega) _ _ _ HB.out⟩
end Go.Proofs.Ytklclcbhghjjfaa
