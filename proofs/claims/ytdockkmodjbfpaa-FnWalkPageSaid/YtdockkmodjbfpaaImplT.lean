/- What the program's WalkTables and WalkFrames return at all arguments. -/
import Derived.Test.YtdockkmodjbfpaaIterA
namespace Go.Proofs.Ytdockkmodjbfpaa
open Go.ChangeShapes Go.WideShapes Go.ChangeAt Go.RowKit Go.Shelf
set_option linter.unusedVariables false

theorem IntsW.lower {w : World} {B0 B0' B1 : Nat} {v : Value} {xs : List Int} (h : IntsW w B0 B1 v xs) (hB : B0' ≤ B0) : IntsW w B0' B1 v xs := by
  obtain ⟨a, cap, rfl, h1, h2, h3⟩ := h
  refine ⟨a, cap, rfl, h1, h2, fun i hi => ?_⟩
  obtain ⟨g, p, e, hg0, hg1, hc, hf⟩ := h3 i hi
  exact ⟨g, p, e, by omega, hg1, hc, hf⟩
/-- the list of a table's words -/
theorem each_named (w3 : World) (Bw : Nat) (row : List Int) (h4 : row.length = 4) (hrb : ∀ i, i < 4 → 0 ≤ row.getD i 0 ∧ row.getD i 0 ≤ 9999) (hBw : Bw < w3.heap.size) (hcw : w3.heap[Bw]? = some (.cells (rowC row) 58 (0, 0))) :
    Calls Try.prog 52 #[.func (.func 68) #[] #[.pointer (some ⟨Bw, 0, none⟩)]] w3 (NewR (srt (named row) 12) w3) := by
  refine (once_of_iter (d := 0) (N := 4) (S := fun xs => finI xs = named row) 20 (by omega) (fun xs hx => ?_) w3 (enters_of Try.func68 (by kernel_rfl) rfl)
    (SeqD.of_stops (named_stops 20 Bw w3.heap.size row h4 hrb w3 (Nat.le_refl _) hBw hcw))).mono ?_
  · have h1 := congrArg List.length hx
    have h2 := named_len row
    rw [fin_len] at h1
    omega
  · rintro e w' ⟨xs, v, rfl, hx, hi, hb⟩
    rw [hx] at hi
    exact ⟨v, rfl, hi, hb⟩
/-- the list of all tables' words -/
theorem each_all (w3 : World) (Bt Bm Bw : Nat) (xss : List (List Int)) (hm : memOk xss = true) (row : List Int) (h4 : row.length = 4) (hrb : ∀ i, i < 4 → 0 ≤ row.getD i 0 ∧ row.getD i 0 ≤ 9999)
    (hBt : Bt < w3.heap.size) (hBm : Bm < w3.heap.size) (hBw : Bw < w3.heap.size)
    (hcw : w3.heap[Bw]? = some (.cells (rowC row) 58 (0, 0)))
    (hct : w3.cell? ⟨Bt, 0, none⟩ = some (.func (.func 68) #[] #[.pointer (some ⟨Bw, 0, none⟩)]))
    (hcm : w3.rangeAt Bm 0 (flatL xss)) :
    Calls Try.prog 52 #[.func (.func 71) #[] #[.pointer (some ⟨Bt, 0, none⟩), .pointer (some ⟨Bm, 0, none⟩)]] w3 (NewR (srt (flat xss (named row)) 12) w3) := by
  refine (once_of_iter (d := 1) (N := 16) (S := fun xs => finI xs = flat xss (named row)) (20 + 6) (by omega) (fun xs hx => ?_) w3 (enters_of Try.func71 (by kernel_rfl) rfl)
    (all_stops 20 Bt Bm Bw xss hm row h4 hrb w3 hBt hBm hBw hcw hct hcm)).mono ?_
  · have h1 := congrArg List.length hx
    have h2 := named_len row
    have h3 := flat_len3 xss hm (named row) (fun t ht => named_rng ht)
    rw [fin_len] at h1
    omega
  · rintro e w' ⟨xs, v, rfl, hx, hi, hb⟩
    rw [hx] at hi
    exact ⟨v, rfl, hi, hb⟩
theorem frs_eq (xss : List (List Int)) (k : Nat) (row : List Int) (hr : row = xss.getD k []) : frs xss (k : Int) = srt (flat xss (named row)) 12 := by
  have e1 : tabs xss (k : Int) = srt (named row) 12 := by rw [hr]; unfold tabs rw4; simp
  have hcong : ∀ {l l' : List Int}, (∀ x, x ∈ l ↔ x ∈ l') → srt l 12 = srt l' 12 := fun h => by
    unfold srt
    refine congrArg _ (List.filter_congr (fun f _ => ?_))
    simp only [h]
  refine hcong (fun x => ?_)
  rw [e1]
  unfold flat
  rw [List.mem_flatMap, List.mem_flatMap]
  constructor
  · rintro ⟨t, ht, hx⟩
    exact ⟨t, (srt_mem ht).2.2, hx⟩
  · rintro ⟨t, ht, hx⟩
    have hb := named_rng ht
    exact ⟨t, mem_srt hb.1 hb.2 ht, hx⟩

set_option maxRecDepth 100000 in
set_option maxHeartbeats 2000000 in
theorem itabs_any (w : World) (v : Value) (xss : List (List Int)) (r : Int) (h : Rows2 w v xss) :
    Calls Try.prog 19 #[v, .int .i64 r] w (NewR (tabF xss r) w) := by
  have hc := memoryOf_any h
  by_cases hm : memOk xss = true
  · rw [hm] at hc
    have HM := Lib.hid hm
    have hs : (flatL xss).length = 48 := flat_len hm
    have ho : (flatL xss).toArray.all (·.oneCell') = true := flat_one xss
    obtain ⟨cs, hcs⟩ : ∃ cs, cs = flatL xss := ⟨_, rfl⟩
    replace hc : Calls Try.prog 44 #[v] w (ArrRes w cs.toArray true) := by rw [hcs]; exact hc
    rw [← hcs] at hs ho
    have HC := Lib.hid hc
    have HS := Lib.hid hs
    have HO := Lib.hid ho
    have HCS := Lib.hid hcs
    clear hc hs ho h hcs hm
    obtain ⟨z48, hz48⟩ : ∃ z, z = zero48 := ⟨_, rfl⟩
    have ZM := Lib.hid zero_mem
    have ZS := Lib.hid zero_size
    rw [← hz48] at ZM ZS
    clear hz48
    by_cases hr : 0 ≤ r ∧ r < 12
    · obtain ⟨k, rfl⟩ : ∃ k : Nat, r = (k : Int) := ⟨r.toNat, by omega⟩
      have hk : k < 12 := by omega
      obtain ⟨row, hrow⟩ : ∃ row, row = xss.getD k [] := ⟨_, rfl⟩
      have h4 : row.length = 4 := by rw [hrow]; exact mem_row HM.out hk
      have hrb : ∀ i, i < 4 → 0 ≤ row.getD i 0 ∧ row.getD i 0 ≤ 9999 := by rw [hrow]; exact fun i hi => wd_bounds HM.out hk hi
      have HF : Hid (tabF xss (k : Int) = srt (named row) 12) := Lib.hid (by unfold tabF; rw [if_pos ⟨HM.out, hr⟩, hrow]; unfold tabs rw4; simp)
      have HRB := Lib.hid hrb
      have HRW := Lib.hid hrow
      have HB : ∀ w, Calls Try.prog 45 #[.int .i64 (k : Int), .int .i64 12] w fun e w' => e = .returned (.bool true) ∧ w = w' := fun w => by
        have := below_any w (k : Int) 12
        rwa [blw_yes hr] at this
      clear hrb hrow
      go_enter Try.func19, Try.ntmps19
      go_wp2_with fail
      refine HC.out.mono ?_
      rintro e w1 ⟨rfl, hb1⟩
      have HLD := Lib.hid (Laid.make (w := w) (cs := cs) (z := z48) (t := 60) hb1 ZS.out HS.out)
      obtain ⟨wl, hwl⟩ : ∃ wl, wl = (w1.alloc (.cells z48 60)).setCells w1.heap.size 0 cs.toArray.toList := ⟨_, rfl⟩
      have HWL : Hid (wl = (w1.alloc (.cells z48 60)).setCells w1.heap.size 0 cs) := Lib.hid hwl
      rw [← HWL.out] at HLD
      have hix := run_indexAt_arr (P := Try.prog) 60 12 58 4 Try.underlying60 size_words (by omega) w1.heap.size k hk
      have HROW : Hid (wl.rangeAt w1.heap.size (k * 4) (row.map (Value.int .i64))) := Lib.hid (by
        have h1 : Laid w w1.heap.size (flatL xss) wl := by rw [← HCS.out]; exact HLD.out
        have h2 := h1.part (mem_len HM.out) (fun i hi => mem_row HM.out hi) hk
        rw [HRW.out]
        exact h2)
      go_wp2_with (first | ((with_reducible refine alloc_is 60 ?_); refine alloc_arr 60 z48 ZM.out ?_) | ((with_reducible refine store_is 60 (.tmp 5) (.tmp 10) ?_); refine store_arr 60 (.tmp 5) (.tmp 10) w1.heap.size 0 cs.toArray rfl rfl (there_row (heap_alloc_new w1 _) (by rw [ZS.out, List.size_toArray, HS.out]; omega)) (info_mem (by rw [List.size_toArray, HS.out])) HO.out ?_; rw [← hwl]; clear hwl) | (go_at_call 45; refine (HB _).mono ?_; rintro e w' ⟨rfl, rfl⟩) | ((with_reducible refine load_is 58 (.tmp 20) ?_); refine load_arr 58 (.tmp 20) w1.heap.size (k * 4) (row.map (Value.int .i64)) _ rfl HROW.out Try.underlying58 rfl (by rw [List.length_map, h4]; exact info_words) ?_))
      refine (named_make _ _ (by simp [h4]) (row_one row)).mono ?_
      rintro e w3 ⟨rfl, hw3⟩
      have hcw : w3.heap[wl.heap.size]? = some (.cells (rowC row) 58 (0, 0)) := by rw [hw3]; exact World.alloc_heap_new wl _
      have hle : w.heap.size ≤ wl.heap.size := HLD.out.bel.size
      have hB3 : Below w.heap.size w w3 := by rw [hw3]; exact HLD.out.bel.alloc hle _
      have HE := Lib.hid (each_named w3 wl.heap.size row h4 HRB.out (by rw [hw3]; simp) hcw)
      have HB3 := Lib.hid hB3
      clear hcw hw3 hB3
      go_wp2_with fail
      refine HE.out.mono ?_
      rintro e w4 ⟨v4, rfl, hi4, hb4⟩
      have HI4 := Lib.hid (hi4.lower (B0' := w.heap.size) HB3.out.size)
      have HB4 := Lib.hid (HB3.out.trans (hb4.mono HB3.out.size))
      clear hi4 hb4
      go_wp2_with fail
      go_ret
      rw [HF.out]
      exact ⟨_, rfl, HI4.out, HB4.out⟩
    · have HF : Hid (tabF xss r = []) := Lib.hid (by unfold tabF; rw [if_neg (fun hh => hr hh.2)])
      have HB : ∀ w, Calls Try.prog 45 #[.int .i64 r, .int .i64 12] w fun e w' => e = .returned (.bool false) ∧ w = w' := fun w => by
        have := below_any w r 12
        rwa [blw_no hr] at this
      go_enter Try.func19, Try.ntmps19
      go_wp2_with fail
      refine HC.out.mono ?_
      rintro e w1 ⟨rfl, hb1⟩
      have HLD := Lib.hid (Laid.make (w := w) (cs := cs) (z := z48) (t := 60) hb1 ZS.out HS.out)
      go_wp2_with (first | ((with_reducible refine alloc_is 60 ?_); refine alloc_arr 60 z48 ZM.out ?_) | ((with_reducible refine store_is 60 (.tmp 5) (.tmp 10) ?_); refine store_arr 60 (.tmp 5) (.tmp 10) w1.heap.size 0 cs.toArray rfl rfl (there_row (heap_alloc_new w1 _) (by rw [ZS.out, List.size_toArray, HS.out]; omega)) (info_mem (by rw [List.size_toArray, HS.out])) HO.out ?_) | (go_at_call 45; refine (HB _).mono ?_; rintro e w' ⟨rfl, rfl⟩))
      go_ret
      rw [HF.out]
      exact ⟨_, rfl, nil_intsW, HLD.out.bel⟩
  · have hf : memOk xss = false := by simpa using hm
    rw [hf] at hc
    have HF : Hid (tabF xss r = []) := Lib.hid (by unfold tabF; rw [if_neg (fun hh => hm hh.1)])
    replace hc : Calls Try.prog 44 #[v] w (ArrRes w zero48 false) := hc
    obtain ⟨z48, hz48⟩ : ∃ z, z = zero48 := ⟨_, rfl⟩
    have ZM := Lib.hid zero_mem
    have ZS := Lib.hid zero_size
    have ZO := Lib.hid zero_one
    rw [← hz48] at ZM ZS ZO hc
    have HC := Lib.hid hc
    clear hz48 hc hm hf h
    go_enter Try.func19, Try.ntmps19
    go_wp2_with fail
    refine HC.out.mono ?_
    rintro e w1 ⟨rfl, hb1⟩
    have HLD := Lib.hid (Laid.make (w := w) (cs := z48.toList) (z := z48) (t := 60) hb1 ZS.out (by rw [Array.length_toList, ZS.out]))
    go_wp2_with (first | ((with_reducible refine alloc_is 60 ?_); refine alloc_arr 60 z48 ZM.out ?_) | ((with_reducible refine store_is 60 (.tmp 5) (.tmp 10) ?_); refine store_arr 60 (.tmp 5) (.tmp 10) w1.heap.size 0 z48 rfl rfl (there_row (heap_alloc_new w1 _) (by rw [ZS.out]; omega)) (info_mem ZS.out) ZO.out ?_))
    go_ret
    rw [HF.out]
    exact ⟨_, rfl, nil_intsW, HLD.out.bel⟩
end Go.Proofs.Ytdockkmodjbfpaa
