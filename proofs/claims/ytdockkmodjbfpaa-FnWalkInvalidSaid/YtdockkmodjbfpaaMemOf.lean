/- What the program's memoryOf returns: all words of a memory in one array, where it is valid. -/
import Derived.Test.YtdockkmodjbfpaaWordsOf
namespace Go.Proofs.Ytdockkmodjbfpaa
open Go.ChangeShapes Go.WideShapes Go.ChangeAt Go.RowKit
set_option linter.unusedVariables false

/-- all words of all frames, in order, as an array's cells -/
def flatL (xss : List (List Int)) : List Value := xss.flatten.map (Value.int .i64)
def zero48 : Array Value := Array.replicate 48 (.int .i64 0)
theorem zero_mem (w : World) : (zeroValue 60).run Try.prog w = .ok (.agg zero48) w := Try.zeroValue60 w
theorem zero_size : zero48.size = 48 := by simp [zero48]
theorem zero_one : zero48.all (·.oneCell') = true := by kernel_rfl
theorem size_words (w : World) : (sizeOf 58).run Try.prog w = .ok 4 w := Try.sizeOf58 w
theorem agg_words (w : World) : (isAgg 58).run Try.prog w = .ok true w := Try.isAgg58 w
theorem info_mem {n : Nat} (h : n = 48) : (Try.prog.info? 60).map (·.size) = some n := by subst h; kernel_rfl
theorem info_words : (Try.prog.info? 58).map (·.size) = some 4 := by kernel_rfl
theorem flat_one (xss : List (List Int)) : (flatL xss).toArray.all (·.oneCell') = true := all_oneCell_toArray (fun v hv => by
  obtain ⟨x, _, rfl⟩ := List.mem_map.1 hv
  rfl)
theorem flat_take_len (xss : List (List Int)) (h : ∀ i, i < xss.length → (xss.getD i []).length = 4) : ∀ k, k ≤ xss.length → (flatL (xss.take k)).length = k * 4
  | 0, _ => by simp [flatL]
  | k + 1, hk => by
    have ih := flat_take_len xss h k (by omega)
    rw [take_snoc_getD xss k [] (by omega)]
    simp only [flatL, List.flatten_append, List.map_append, List.length_append] at ih ⊢
    rw [ih]
    have := h k (by omega)
    simp at this ⊢
    omega
theorem flat_len12 {xss : List (List Int)} (hl : xss.length = 12) (h : ∀ i, i < xss.length → (xss.getD i []).length = 4) : (flatL xss).length = 48 := by
  have := flat_take_len xss h 12 (by omega)
  rwa [take_all hl.symm] at this
theorem flat_len {xss : List (List Int)} (hm : memOk xss = true) : (flatL xss).length = 48 := by
  have hl := mem_len hm
  have := flat_take_len xss (fun i hi => mem_row hm (by omega)) 12 (by omega)
  rwa [take_all hl.symm] at this
theorem flat_snoc (xss : List (List Int)) (k : Nat) (xs : List Int) (hk : k < xss.length) (hx : xs = xss.getD k []) : flatL (xss.take (k + 1)) = flatL (xss.take k) ++ xs.map (Value.int .i64) := by
  subst hx
  rw [take_snoc_getD xss k [] hk]
  simp [flatL]

structure MRel (w : World) (xss : List (List Int)) (k : Nat) (wr : World) : Prop where
  bel : Below w.heap.size w wr
  size : w.heap.size + 2 ≤ wr.heap.size
  res : wr.there w.heap.size 0 48
  mem : wr.there (w.heap.size + 1) 0 48
  row : wr.rangeAt (w.heap.size + 1) 0 (flatL (xss.take k))
  ok : ∀ i, i < k → wordsOk (xss.getD i []) = true
theorem MRel.start (w : World) (xss : List (List Int)) (t : TypeId) : MRel w xss 0 ((w.alloc (.cells zero48 t)).alloc (.cells zero48 t)) :=
  ⟨below2, by simp, there_row (heap_alloc2_old w _ _) (by rw [zero_size]; omega), there_row (heap_alloc2_new w _ _) (by rw [zero_size]; omega), by rw [List.take_zero]; exact range_nil, fun i hi => by omega⟩
theorem MRel.lens {w wr : World} {xss : List (List Int)} {k : Nat} (h : MRel w xss k wr) (hk : k ≤ xss.length) : (flatL (xss.take k)).length = k * 4 := by
  have h1 : ∀ i, i < (xss.take k).length → ((xss.take k).getD i []).length = 4 := fun i hi => by
    have hi' : i < k := by simp at hi; omega
    have := of_decide_eq_true (h.ok i hi')
    have e : (xss.take k).getD i [] = xss.getD i [] := by simp [List.getD, hi']
    rw [e]; exact this.2
  have h2 := flat_take_len (xss.take k) h1 (xss.take k).length (Nat.le_refl _)
  rw [List.take_length] at h2
  rw [h2, List.length_take]
  congr 1
  omega
theorem MRel.step {w wr w1 : World} {xss : List (List Int)} {k : Nat} {xs : List Int} {o1 : Obj} (h : MRel w xss k wr) (hl : xss.length = 12) (hk : k < 12) (hx : xs = xss.getD k []) (hw : wordsOk xs = true) (hb : Below wr.heap.size wr w1) :
    MRel w xss (k + 1) ((w1.alloc o1).setCells (w.heap.size + 1) (k * 4) (xs.map (Value.int .i64))) := by
  have hs := h.size
  have hs1 := hb.size
  have hx4 : xs.length = 4 := (of_decide_eq_true hw).2
  have e : ∀ b, b < wr.heap.size → (w1.alloc o1).heap[b]? = wr.heap[b]? := fun b hlt => (Below.heap_alloc _ _ _ (by omega)).trans (hb.block b hlt)
  have b1 : Below w.heap.size w w1 := h.bel.trans (hb.mono (by omega))
  have tm : (w1.alloc o1).there (w.heap.size + 1) 0 48 := there_blocks h.mem (e _ (by omega))
  have tr : (w1.alloc o1).there w.heap.size 0 48 := there_blocks h.res (e _ (by omega))
  have hrow := range_blocks h.row (e _ (by omega))
  have hlen := h.lens (by omega)
  refine ⟨Below.setCells (Below.refl _ _) _ (by omega) _ _ _ (b1.alloc (by omega) o1), by rw [size_setCells]; simp; omega, World.there_setCells tr _ _ _, World.there_setCells tm _ _ _, ?_, fun i hi => ?_⟩
  · rw [flat_snoc xss k xs (by omega) hx]
    exact range_append (World.rangeAt_setCells_apart hrow _ _ _ (.inr (.inl (by omega)))) (World.rangeAt_setCells_same _ _ _ _ (there_part tm (by simp; omega))) (by omega)
  · by_cases hik : i = k
    · subst hik; rw [← hx]; exact hw
    · exact h.ok i (by omega)

theorem row4 {xs : List Int} (h : wordsOk xs = true) : ∃ x0 x1 x2 x3, xs = [x0, x1, x2, x3] := by
  have hl := (of_decide_eq_true h).2
  match xs, hl with
  | [x0, x1, x2, x3], _ => exact ⟨x0, x1, x2, x3, rfl⟩
theorem MRel.bad {w wr w1 w3 : World} {xss : List (List Int)} {k : Nat} (h : MRel w xss k wr) (hb : Below wr.heap.size wr w1) (hs : w1.heap.size ≤ w3.heap.size) (e : ∀ b, b < w1.heap.size → w3.heap[b]? = w1.heap[b]?) (ht : w3.os = w1.os ∧ w3.tape = w1.tape ∧ w3.output = w1.output) :
    w3.there w.heap.size 0 48 ∧ ∀ cs, Below w.heap.size w (w3.setCells w.heap.size 0 cs) := by
  have hs0 := h.size
  have hs1 := hb.size
  have e3 : Below wr.heap.size wr w3 := ⟨ht.1.trans hb.os, ht.2.1.trans hb.tape, ht.2.2.trans hb.output, by omega, fun b hlt => (e b (by omega)).trans (hb.block b hlt)⟩
  refine ⟨there_blocks h.res (e3.block _ (by omega)), fun cs => ?_⟩
  have b1 : Below w.heap.size w w3 := h.bel.trans (e3.mono (by omega))
  exact Below.setCells (Below.refl _ _) _ (Nat.le_refl _) _ _ _ b1

set_option maxHeartbeats 1000000 in
theorem memoryOf_any {w : World} {v : Value} {xss : List (List Int)} (h : Rows2 w v xss) :
    Calls Try.prog 44 #[v] w (ArrRes w (bif memOk xss then (flatL xss).toArray else zero48) (memOk xss)) := by
  obtain ⟨a, ca, rfl, hla, hma, hxa⟩ := h
  unfold maxLen at hma
  obtain ⟨R, HRR⟩ : ∃ R : Ending → World → Prop, Hid (R = ArrRes w (bif memOk xss then (flatL xss).toArray else zero48) (memOk xss)) := ⟨_, Lib.hid rfl⟩
  rw [← HRR.out]
  obtain ⟨z48, hz48⟩ : ∃ z, z = zero48 := ⟨_, rfl⟩
  have ZM := Lib.hid zero_mem
  have ZS := Lib.hid zero_size
  have ZO := Lib.hid zero_one
  have ZT := Lib.hid (fun t => MRel.start w xss t)
  rw [← hz48] at HRR ZM ZS ZO ZT
  clear hz48
  obtain ⟨n, hN⟩ : ∃ n, n = xss.length := ⟨_, rfl⟩
  rw [← hN] at hla hxa ⊢
  have HN := Lib.hid hN
  clear hN
  obtain ⟨B0, hB0⟩ : ∃ B0, B0 = w.heap.size := ⟨_, rfl⟩
  have HB0 := Lib.hid hB0
  by_cases hn : n = 12
  · have hn' : ((n : Int) != 12) = false := by simp; omega
    obtain ⟨w2, hw2⟩ : ∃ w2, w2 = (w.alloc (.cells z48 60)).alloc (.cells z48 60) := ⟨_, rfl⟩
    have HS := Lib.hid (ZT.out 60)
    rw [← hw2] at HS
    go_enter Try.func44, Try.ntmps44
    go_wp2_with ((with_reducible refine alloc_is 60 ?_); refine alloc_arr 60 z48 ZM.out ?_)
    rw [← hB0, ← hw2]
    have HW2 := Lib.hid hw2
    clear hw2 hB0
    go_loopw [15] (fun i wr => ∃ k : Nat, k ≤ n ∧ i = .int .i64 k ∧ MRel w xss k wr) (fun i _ => n - (intOf i).toNat)
    case atStart => exact ⟨0, Nat.zero_le _, rfl, HS.out⟩
    case round =>
      obtain ⟨k, hk, rfl, hrel⟩ := hrel
      by_cases hlt : k < n
      · obtain ⟨b, o, ur, rfl, hc, hur⟩ := hxa k hlt
        have hb := cell_lt hc
        have hcr := (hrel.bel.cell (p := ⟨b, o + k, none⟩) hb).trans hc
        have HC := Lib.hid (wordsOf_any (Ints.below (B := 0) hur hrel.bel))
        have HREL := Lib.hid hrel
        have hlt' : (k : Int) < (n : Int) := by omega
        clear hc hur hxa hrel
        have HIX := run_indexAt_arr (P := Try.prog) 60 12 58 4 Try.underlying60 size_words (by omega) (B0 + 1) k (by omega)
        obtain ⟨xs, hxs⟩ : ∃ xs, xs = xss.getD k [] := ⟨_, rfl⟩
        rw [← hxs] at HC
        have HXS := Lib.hid hxs
        clear hxs
        by_cases hok : wordsOk xs = true
        · have HOK := Lib.hid hok
          obtain ⟨x0, x1, x2, x3, rfl⟩ := row4 hok
          rw [hok] at HC
          clear hok
          have HC' : Hid (Calls Try.prog 63 #[ur] wr (ArrRes wr #[.int .i64 x0, .int .i64 x1, .int .i64 x2, .int .i64 x3] true)) := Lib.hid HC.out
          clear HC
          go_wp2_with fail
          refine HC'.out.mono ?_
          rintro e w1 ⟨rfl, hb1⟩
          have HT : Hid (∀ ob, (w1.alloc ob).there (B0 + 1) (k * 4) 4) := Lib.hid (fun ob => by
            have hs := HREL.out.size
            have hs1 := hb1.size
            have e0 := HB0.out
            have := there_blocks HREL.out.mem ((Below.heap_alloc w1 ob _ (by omega)).trans (hb1.block _ (by omega)))
            rw [← e0] at this
            exact there_part this (by omega))
          have HST : Hid (∀ ob, MRel w xss (k + 1) ((w1.alloc ob).setCells (B0 + 1) (k * 4) ([x0, x1, x2, x3].map (Value.int .i64)))) := Lib.hid (fun ob => by
            rw [HB0.out]
            exact HREL.out.step (o1 := ob) (by have := HN.out; omega) (by omega) HXS.out HOK.out hb1)
          go_wp2_with ((with_reducible refine store_is 58 (.tmp 30) (.tmp 29) ?_); refine store_arr 58 (.tmp 30) (.tmp 29) (B0 + 1) (k * 4) #[.int .i64 x0, .int .i64 x1, .int .i64 x2, .int .i64 x3] rfl rfl (HT.out _) info_words (by kernel_rfl) ?_)
          exact ⟨⟨k + 1, by omega, by go_num, HST.out _⟩, by simp [intOf]; omega⟩
        · have hno : wordsOk xs = false := by simpa using hok
          have HM : Hid (memOk xss = false) := Lib.hid (mem_no (k := k) (by have := HN.out; omega) (by rw [← HXS.out]; exact hno))
          rw [hno] at HC
          clear hok hno
          have HC' : Hid (Calls Try.prog 63 #[ur] wr (ArrRes wr #[.int .i64 0, .int .i64 0, .int .i64 0, .int .i64 0] false)) := Lib.hid HC.out
          clear HC
          go_wp2_with fail
          refine HC'.out.mono ?_
          rintro e w1 ⟨rfl, hb1⟩
          have HT : Hid (∀ ob, (w1.alloc ob).there B0 0 48 ∧ ∀ cs, Below w.heap.size w ((w1.alloc ob).setCells B0 0 cs)) := Lib.hid (fun ob => by
            rw [HB0.out]
            exact HREL.out.bad hb1 (by simp) (fun b hlt => Below.heap_alloc _ _ _ hlt) ⟨rfl, rfl, rfl⟩)
          go_wp2_with (first | ((with_reducible refine build_is 60 ?_); refine build_arr 60 z48 12 58 4 ZM.out Try.underlying60 size_words ?_) | ((with_reducible refine store_is 60 (.tmp 2) (.tmp 27) ?_); refine store_arr 60 (.tmp 2) (.tmp 27) B0 0 z48 rfl rfl (by rw [ZS.out]; exact (HT.out _).1) (info_mem ZS.out) ZO.out ?_))
          refine bodyPost_ret (results_cell_mid rfl _ _ B0 0 z48.toList _ rfl (World.rangeAt_setCells_same _ _ _ _ (by rw [Array.length_toList, ZS.out]; exact (HT.out _).1)) Try.underlying60 rfl (info_mem (by rw [Array.length_toList, ZS.out]))) rfl ?_
          rw [HRR.out, HM.out]
          exact ⟨by simp, (HT.out _).2 _⟩
      · have e : k = n := by omega
        subst e
        have HM : Hid (memOk xss = true) := Lib.hid (by rw [mem_end HN.out hrel.ok, hn]; rfl)
        have HT : Hid (wr.there B0 0 48) := Lib.hid (by rw [HB0.out]; exact hrel.res)
        have HF : Hid (wr.rangeAt (B0 + 1) 0 (flatL xss)) := Lib.hid (by rw [HB0.out, ← take_all (l := xss) HN.out]; exact hrel.row)
        have HL := Lib.hid (flat_len HM.out)
        have HE : Hid (Below w.heap.size w (wr.setCells B0 0 (flatL xss))) := Lib.hid (Below.setCells (Below.refl _ _) _ (by rw [HB0.out]; omega) _ _ _ hrel.bel)
        clear hrel
        have HO := Lib.hid (flat_one xss)
        obtain ⟨L, hL⟩ : ∃ L, L = flatL xss := ⟨_, rfl⟩
        have HLR : Hid (R = ArrRes w L.toArray true) := Lib.hid (by rw [HRR.out, HM.out, hL]; rfl)
        rw [← hL] at HF HL HE HO
        clear hL HRR
        go_wp2_with (first | ((with_reducible refine load_is 60 (.tmp 4) ?_); refine load_arr 60 (.tmp 4) (B0 + 1) 0 L _ rfl HF.out Try.underlying60 rfl (info_mem HL.out) ?_) | ((with_reducible refine store_is 60 (.tmp 2) (.tmp 32) ?_); refine store_arr 60 (.tmp 2) (.tmp 32) B0 0 L.toArray rfl rfl (by rw [List.size_toArray, HL.out]; exact HT.out) (info_mem (by rw [List.size_toArray, HL.out])) HO.out ?_))
        refine bodyPost_ret (results_cell_mid rfl _ _ B0 0 L _ rfl (World.rangeAt_setCells_same _ _ _ _ (by rw [HL.out]; exact HT.out)) Try.underlying60 rfl (info_mem HL.out)) rfl ?_
        rw [HLR.out]
        exact ⟨rfl, HE.out⟩
  · have hn' : ((n : Int) != 12) = true := by simp; omega
    have HM : Hid (memOk xss = false) := Lib.hid (by
      refine decide_eq_false (fun hh => hn (HN.out.trans hh.2)))
    clear hxa
    obtain ⟨w2, hw2⟩ : ∃ w2, w2 = (w.alloc (.cells z48 60)).alloc (.cells z48 60) := ⟨_, rfl⟩
    have HS := Lib.hid (ZT.out 60)
    have hT := HS.out.res
    have HT := Lib.hid hT
    have HE : Hid (Below w.heap.size w (((w.alloc (.cells z48 60)).alloc (.cells z48 60)).setCells w.heap.size 0 z48.toList)) := Lib.hid (Below.setCells (Below.refl _ _) _ (Nat.le_refl _) _ _ _ below2)
    clear hT
    go_enter Try.func44, Try.ntmps44
    go_wp2_with (first | ((with_reducible refine alloc_is 60 ?_); refine alloc_arr 60 z48 ZM.out ?_) | ((with_reducible refine build_is 60 ?_); refine build_arr 60 z48 12 58 4 ZM.out Try.underlying60 size_words ?_) | ((with_reducible refine store_is 60 (.tmp 2) (.tmp 12) ?_); refine store_arr 60 (.tmp 2) (.tmp 12) w.heap.size 0 z48 rfl rfl (by rw [ZS.out]; exact HT.out) (info_mem ZS.out) ZO.out ?_))
    refine bodyPost_ret (results_cell_mid rfl _ _ w.heap.size 0 z48.toList _ rfl (World.rangeAt_setCells_same _ _ _ _ (by rw [Array.length_toList, ZS.out]; exact HT.out)) Try.underlying60 rfl (info_mem (by rw [Array.length_toList, ZS.out]))) rfl ?_
    rw [HRR.out, HM.out]
    exact ⟨by simp, HE.out⟩
end Go.Proofs.Ytdockkmodjbfpaa
