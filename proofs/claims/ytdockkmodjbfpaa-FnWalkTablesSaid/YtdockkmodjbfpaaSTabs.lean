/- What the reference's lists of lower tables and of frames are. -/
import Derived.Test.YtdockkmodjbfpaaSList
namespace Go.Proofs.Ytdockkmodjbfpaa
open Go.ChangeShapes Go.WideShapes Go.ChangeAt Go.RowKit
set_option linter.unusedVariables false

/-- the frames of a list below k, ascending, each once -/
def srt (l : List Int) (k : Nat) : List Int := ((List.range k).filter (fun f : Nat => decide ((f : Int) ∈ l))).map (fun f : Nat => (f : Int))
theorem srt_succ (l : List Int) (k : Nat) : srt l (k + 1) = srt l k ++ (if (k : Int) ∈ l then [(k : Int)] else []) := by
  unfold srt
  rw [List.range_succ]
  by_cases h : (k : Int) ∈ l
  · rw [if_pos h]
    simp only [List.filter_append, List.map_append, List.filter_cons, h, decide_true, if_true, List.filter_nil, List.map_cons, List.map_nil]
  · rw [if_neg h]
    simp only [List.filter_append, List.map_append, List.filter_cons, h, decide_false, List.filter_nil]
    simp
theorem srt_len (l : List Int) (k : Nat) : (srt l k).length ≤ k := by
  unfold srt
  rw [List.length_map]
  have := List.length_filter_le (fun f : Nat => decide ((f : Int) ∈ l)) (List.range k)
  simpa using this
theorem srt_mem {l : List Int} {x : Int} (h : x ∈ srt l 12) : 0 ≤ x ∧ x < 12 ∧ x ∈ l := by
  unfold srt at h
  obtain ⟨f, hf, rfl⟩ := List.mem_map.1 h
  rw [List.mem_filter] at hf
  have h1 := List.mem_range.1 hf.1
  exact ⟨by omega, by omega, of_decide_eq_true hf.2⟩
theorem mem_srt {l : List Int} {x : Int} (h0 : 0 ≤ x) (h1 : x < 12) (h : x ∈ l) : x ∈ srt l 12 := by
  unfold srt
  obtain ⟨n, rfl⟩ := Int.eq_ofNat_of_zero_le h0
  exact List.mem_map.2 ⟨n, List.mem_filter.2 ⟨List.mem_range.2 (show n < 12 by omega), decide_eq_true h⟩, rfl⟩

theorem l3Sorted_any (w : World) (v : Value) (xs : List Int) (h : Ints w v xs) :
    Calls Try.prog 69 #[v] w (NewI (srt xs 12) w) := by
  obtain ⟨i0, hi, hz0, hz1, hz2⟩ := info_parts intInfo
  have HI := Lib.hid hi
  have HZ0 := Lib.hid hz0
  have HZ1 := Lib.hid hz1
  have HZ2 := Lib.hid hz2
  clear hi hz0 hz1 hz2
  have H := Lib.hid h
  clear h
  go_enter Try.func69, Try.ntmps69
  go_wp2
  go_loopw [3, 4] (fun u i wr => ∃ k : Nat, k ≤ 12 ∧ i = .int .i64 k ∧ OwnI w u (srt xs k) wr) (fun _ i _ => 12 - (intOf i).toNat)
  case atStart => exact ⟨0, Nat.zero_le _, rfl, OwnI.start w⟩
  case round =>
    obtain ⟨k, hk, rfl, hrel⟩ := hrel
    by_cases hlt : k < 12
    · have hlt' : (k : Int) < 12 := by omega
      have hsn := srt_succ xs k
      have HNL := Lib.hid (srt_len xs k)
      have HC := Lib.hid (l3Has_any wr v xs k (Ints.below (B := 0) H.out hrel.bel))
      have HSN := Lib.hid hsn
      have HREL := Lib.hid hrel
      clear hsn hrel
      by_cases hg : (k : Int) ∈ xs
      · rw [if_pos hg] at HSN
        rw [decide_eq_true hg] at HC
        clear hg
        go_wp2_with fail
        refine HC.out.mono ?_
        rintro e w' ⟨rfl, rfl⟩
        go_wp2_with (at_builtin; refine wpList_append_own _ rfl (.tmp 13) (.tmp 15) 34 rfl w.heap.size 3 i0 (.int .i64 0) 1 8 Try.underlying34 HI.out HZ0.out HZ1.out HZ2.out rfl (by decide) _ _ _ rfl (HREL.out.own.alloc _) ⟨wr.heap.size, 0, none⟩ 1 1 [.int .i64 k] rfl rfl (cell_one_new _ _ _) (by intro u hu; simp at hu; subst hu; rfl) (by have := HNL.out; unfold maxLen; omega) (by have := HNL.out; omega) (by have := HREL.out.bel.size; simp; omega) ?_; intro v2 w2 hown2 hgrow2 hnn2)
        have HR2 : Hid (OwnI w v2 (srt xs (k + 1)) w2) := Lib.hid (by
          rw [HSN.out]
          exact HREL.out.grow (zs := [(k : Int)]) rfl hown2 hgrow2 (fun e => (hnn2.1 e).1))
        clear hown2 hgrow2 hnn2
        go_wp2
        go_roundw
        case rel => exact ⟨k + 1, by omega, by go_num, HR2.out⟩
        case measure => simp [intOf]; omega
      · rw [if_neg hg, List.append_nil] at HSN
        rw [decide_eq_false hg] at HC
        have HR2 : Hid (OwnI w u3 (srt xs (k + 1)) wr) := Lib.hid (by rw [HSN.out]; exact HREL.out)
        clear hg
        go_wp2_with fail
        refine HC.out.mono ?_
        rintro e w' ⟨rfl, rfl⟩
        go_wp2_with fail
        go_roundw
        case rel => exact ⟨k + 1, by omega, by go_num, HR2.out⟩
        case measure => simp [intOf]; omega
    · have hge : decide ((k : Int) < 12) = false := by simp; omega
      have e : k = 12 := by omega
      subst e
      have HREL := Lib.hid hrel
      clear hrel
      go_wp2
      go_ret
      exact ⟨_, rfl, HREL.out⟩

/-- the row of a frame -/
def rw4 (xss : List (List Int)) (r : Int) : List Int := xss.getD r.toNat []
def tabs (xss : List (List Int)) (r : Int) : List Int := srt (named (rw4 xss r)) 12
theorem Rows2.row {w : World} {v : Value} {xss : List (List Int)} (h : Rows2 w v xss) (hm : memOk xss = true) {i : Nat} (hi : i < 12) :
    ∃ b o c u, v = .slice (some ⟨b, o, none⟩) 12 c ∧ w.cell? ⟨b, o + i, none⟩ = some u ∧ Ints w u (xss.getD i []) := by
  obtain ⟨a, c, rfl, h1, h2, h3⟩ := h
  have hl := mem_len hm
  obtain ⟨b, o, u, rfl, hc, hu⟩ := h3 i (by omega)
  exact ⟨b, o, c, u, by rw [hl], hc, hu⟩
theorem row_named (w : World) (u : Value) (xss : List (List Int)) (i : Nat) (hm : memOk xss = true) (hi : i < 12) (h : Ints w u (xss.getD i [])) :
    Calls Try.prog 70 #[u] w (NewI (named (xss.getD i [])) w) :=
  l3Named_any w u _ h (by rw [mem_row hm hi]; omega) (fun j hj => mem_word hm hi (by rw [mem_row hm hi] at hj; exact hj))

theorem l3Tables_any (w : World) (v : Value) (xss : List (List Int)) (r : Int) (h : Rows2 w v xss) (hm : memOk xss = true) (hr : 0 ≤ r ∧ r < 12) :
    Calls Try.prog 54 #[v, .int .i64 r] w (NewI (tabs xss r) w) := by
  obtain ⟨hr0, hr1⟩ := hr
  obtain ⟨r, rfl⟩ := Int.eq_ofNat_of_zero_le hr0
  obtain ⟨b, o, c, ur, rfl, hc, hu⟩ := h.row hm (i := r) (by omega)
  have HC := Lib.hid (row_named w ur xss r hm (by omega) hu)
  have HE : Hid (tabs xss r = srt (named (xss.getD r [])) 12) := Lib.hid (by unfold tabs rw4; simp)
  rw [HE.out]
  obtain ⟨ns, hns⟩ : ∃ ns, ns = named (xss.getD r []) := ⟨_, rfl⟩
  rw [← hns] at HC ⊢
  clear hns HE hu h hm
  obtain ⟨ss, hss⟩ : ∃ ss, ss = srt ns 12 := ⟨_, rfl⟩
  have HSS := Lib.hid hss
  rw [← hss]
  clear hss
  go_enter Try.func54, Try.ntmps54
  go_wp2_with fail
  refine HC.out.mono ?_
  rintro e w1 ⟨v1, rfl, h1⟩
  have HS := Lib.hid (l3Sorted_any w1 v1 ns h1.ints)
  rw [← HSS.out] at HS
  have H1 := Lib.hid h1.bel
  clear h1 hc
  go_wp2_with fail
  refine HS.out.mono ?_
  rintro e w2 ⟨v2, rfl, h2⟩
  have H2 := Lib.hid (h2.from H1.out)
  clear h2
  go_wp2_with fail
  go_ret
  exact ⟨_, rfl, H2.out⟩
end Go.Proofs.Ytdockkmodjbfpaa
