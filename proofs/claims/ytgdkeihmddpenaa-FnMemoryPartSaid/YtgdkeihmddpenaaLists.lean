/- What the program's lists returns: a slice of its own for each frame of the array. -/
import Derived.Test.YtgdkeihmddpenaaMemOf
import Derived.Test.YtgdkeihmddpenaaNew
namespace Go.Proofs.Ytgdkeihmddpenaa
open Go.ChangeShapes Go.WideShapes Go.ChangeAt Go.RowKit
set_option linter.unusedVariables false

theorem slice_words (b : Nat) (W : World) : (Instr.sliceAt 53 (.pointer (some ⟨b, 0, none⟩)) none none none).run Try.prog W = .ok (.slice (some ⟨b, 0, none⟩) 4 4) W := by
  unfold Instr.sliceAt
  simp only [Instr.sureAddr, Sem.run_bind, Sem.run_pure, Result.andThen_ok, run_underlying Try.underlying53, Instr.sliceBounds]
  simp [add0]

theorem clone4 {W : World} {b : Nat} {xs : List Int} (hl : xs.length = 4) (hc : ∀ j y, (xs.map (Value.int .i64))[j]? = some y → W.cell? ⟨b, j, none⟩ = some y) :
    Calls Try.prog 58 #[.slice (some ⟨b, 0, none⟩) 4 4] W fun e w1 => ∃ v1, e = .returned v1 ∧ w1.ownsRow W.heap.size 3 1 v1 4 (xs.map (.int .i64)) ∧ (W.alloc (.cells #[] 3)).grownBy w1 (some W.heap.size) := by
  obtain ⟨i0, hi, hz0, hz1, hz2⟩ := info_parts intInfo
  have HI := Lib.hid hi
  have HZ0 := Lib.hid hz0
  have HZ1 := Lib.hid hz1
  have HZ2 := Lib.hid hz2
  clear hi hz0 hz1 hz2
  have HE : ∀ W : World, (binOp .eql 28 (.slice (some ⟨b, 0, none⟩) 4 4) (.slice none 0 0)).run Try.prog W = .ok (.bool false) W := fun _ => by kernel_rfl
  have HL := Lib.hid hl
  have HNEWS : Hid (∀ j y, (xs.map (Value.int .i64))[j]? = some y → (W.alloc (.cells #[] 3)).cell? ((⟨b, 0, none⟩ : Addr).add j) = some y) := Lib.hid (fun j y hy => by
    rw [add0]
    have := hc j y hy
    rw [World.cell?_alloc_past _ _ _ (cell_lt this), this])
  clear hc hl
  go_enter Try.func58, Try.ntmps58
  go_wp2_with (at_builtin; refine wpList_append_own _ rfl (.tmp 5) (.tmp 6) 28 rfl W.heap.size 3 i0 (.int .i64 0) 1 8 Try.underlying28 HI.out HZ0.out HZ1.out HZ2.out rfl (by decide) _ _ _ rfl (World.ownsRow_made W #[] 0 (Nat.le_refl _) (Nat.zero_le _) rfl) ⟨b, 0, none⟩ 4 4 (xs.map (.int .i64)) rfl (by rw [List.length_map, HL.out]) HNEWS.out (ints_one xs) (by unfold maxLen; omega) (by omega) (by simp) ?_; intro v1 w1 hown1 hgrow1 _; simp only [Nat.zero_add, List.nil_append] at hown1)
  have HO := Lib.hid hown1
  have HG := Lib.hid hgrow1
  clear hown1 hgrow1
  go_wp2
  go_ret
  exact ⟨_, rfl, HO.out, HG.out⟩

theorem CRel.alloc {w wr : World} {xss : List (List Int)} {k : Nat} {v : Value} {V : Nat → Value} {G : Nat → Nat} (h : CRel w xss k v wr V G) (o : Obj) : CRel w xss k v (wr.alloc o) V G :=
  ⟨h.own.alloc o, fun j hj => ⟨(h.rows j hj).1.alloc o, (h.rows j hj).2⟩, h.inj, h.bel.alloc h.bel.size o⟩
theorem CRel.begin {w wm : World} {xss : List (List Int)} {o : Obj} {v : Value} (hown : wm.ownsRow w.heap.size 28 1 v 0 []) (hg : (w.alloc o).grownBy wm none) : CRel w xss 0 v wm (fun _ => undef) (fun _ => 0) :=
  ⟨hown, fun j hj => by omega, fun i hi => by omega, ((Below.refl _ _).alloc (Nat.le_refl _) o).grown hg (by simp) (fun k hk => by cases hk)⟩

theorem flat_row (xss : List (List Int)) (h : ∀ i, i < xss.length → (xss.getD i []).length = 4) (k : Nat) (hk : k < xss.length) : ((flatL xss).toArray.extract (k * 4) (k * 4 + 4)) = rowC (xss.getD k []) := by
  have h1 := flat_take_len xss h k (by omega)
  have h2 := flat_take_len xss h (k + 1) (by omega)
  have e : flatL xss = flatL (xss.take (k + 1)) ++ flatL (xss.drop (k + 1)) := by
    unfold flatL
    rw [← List.map_append, ← List.flatten_append, List.take_append_drop]
  rw [flat_snoc xss k _ hk rfl] at e h2
  rw [e]
  unfold rowC
  simp only [List.extract_toArray, List.extract_eq_take_drop]
  congr 1
  rw [List.append_assoc, List.drop_append_of_le_length (by omega), List.drop_of_length_le (by omega), List.nil_append]
  rw [List.take_append_of_le_length (by have := h k hk; rw [List.length_map]; omega), List.take_of_length_le (by have := h k hk; rw [List.length_map]; omega)]

set_option maxHeartbeats 1000000 in
theorem lists_any {w : World} {xss : List (List Int)} (hl : xss.length = 12) (hr4 : ∀ i, i < 12 → (xss.getD i []).length = 4) :
    Calls Try.prog 46 #[.agg (flatL xss).toArray] w (ToMat xss w) := by
  rw [← hl] at hr4
  obtain ⟨i1, hj, hy0, hy1, hy2⟩ := info_parts intsInfo
  have HJ := Lib.hid hj
  have HY0 := Lib.hid hy0
  have HY1 := Lib.hid hy1
  have HY2 := Lib.hid hy2
  clear hj hy0 hy1 hy2
  have HN := Lib.hid hl
  have HR4 := Lib.hid hr4
  have HLL := Lib.hid (flat_len12 hl hr4)
  have HIX := Lib.hid (fun k (hk : k < 12) W => (run_index_arr (P := Try.prog) 55 12 53 4 Try.underlying55 agg_words size_words (flatL xss).toArray k hk W).trans (by rw [flat_row xss hr4 k (by omega)]))
  clear hl hr4
  obtain ⟨L, hL⟩ : ∃ L, L = flatL xss := ⟨_, rfl⟩
  rw [← hL] at HIX HLL ⊢
  clear hL
  obtain ⟨R, HRR⟩ : ∃ R : Ending → World → Prop, Hid (R = ToMat xss w) := ⟨_, Lib.hid rfl⟩
  rw [← HRR.out]
  go_enter Try.func46, Try.ntmps46
  go_wp2_with (first
    | ((with_reducible refine box_is 55 (.tmp 0) ?_); refine box_arr 55 (.tmp 0) L.toArray rfl ?_)
    | ((with_reducible refine make_is 23 (.const (.int .i64 0)) (.const (.int .i64 12)) ?_); refine wpList_make_own _ rfl (.const (.int .i64 0)) (.const (.int .i64 12)) 23 rfl w.heap.size 28 i1 (.slice none 0 0) 1 Try.underlying23 HJ.out HY0.out HY1.out .i64 .i64 12 12 rfl rfl rfl (by rw [HY2.out]; omega) (by unfold maxLen; omega) (by simp) ?_; intro wm hown hgrow; have hrng : wm.rangeAt w.heap.size 0 L := range_blocks (range_row (heap_alloc_new w (.cells L.toArray 55))) (hgrow.block _ (by simp) (by simp)))
    | ((with_reducible refine load_is 55 (.tmp 1) ?_); refine load_arr 55 (.tmp 1) w.heap.size 0 L _ rfl hrng Try.underlying55 rfl (info_mem HLL.out) ?_))
  have HS : Hid (CRel w xss 0 (.slice (some ⟨w.heap.size + 1, 0, none⟩) 0 12) wm (fun _ => undef) (fun _ => 0)) := Lib.hid (CRel.begin (by simpa using hown) hgrow)
  clear hown hgrow hrng
  have HSL := slice_words
  go_loopw [3, 8] (fun u i wr => ∃ (k : Nat) (V : Nat → Value) (G : Nat → Nat), k ≤ 12 ∧ i = .int .i64 k ∧ CRel w xss k u wr V G) (fun _ i _ => 12 - (intOf i).toNat)
  case atStart => exact ⟨0, _, _, Nat.zero_le _, rfl, HS.out⟩
  case round =>
    obtain ⟨k, V, G, hk, rfl, hrel⟩ := hrel
    by_cases hlt : k < 12
    · have hlt' : (k : Int) < 12 := by omega
      obtain ⟨xs, hxs⟩ : ∃ xs, xs = xss.getD k [] := ⟨_, rfl⟩
      have h4 := HR4.out k (by have := HN.out; omega)
      have hix := HIX.out k hlt
      rw [← hxs] at h4 hix
      have HXS := Lib.hid hxs
      clear hxs
      obtain ⟨x0, x1, x2, x3, rfl⟩ : ∃ x0 x1 x2 x3, xs = [x0, x1, x2, x3] := by
        match xs, h4 with
        | [x0, x1, x2, x3], _ => exact ⟨x0, x1, x2, x3, rfl⟩
      clear h4
      replace hix : ∀ W : World, (Instr.index 55 (.agg L.toArray) (.int .i64 k)).run Try.prog W = .ok (.agg #[.int .i64 x0, .int .i64 x1, .int .i64 x2, .int .i64 x3]) W := hix
      obtain ⟨w4, hw4⟩ : ∃ w4, w4 = wr.alloc (.cells #[.int .i64 x0, .int .i64 x1, .int .i64 x2, .int .i64 x3] 53) := ⟨_, rfl⟩
      have HREL := Lib.hid (hrel.alloc (.cells #[.int .i64 x0, .int .i64 x1, .int .i64 x2, .int .i64 x3] 53))
      have HC : Hid (Calls Try.prog 58 #[.slice (some ⟨wr.heap.size, 0, none⟩) 4 4] w4 fun e w1 => ∃ v1, e = .returned v1 ∧ w1.ownsRow w4.heap.size 3 1 v1 4 ([x0, x1, x2, x3].map (.int .i64)) ∧ (w4.alloc (.cells #[] 3)).grownBy w1 (some w4.heap.size)) := Lib.hid (clone4 rfl (fun j y hy => by
        rw [hw4, cell_of_row _ _ j _ _ _ (heap_alloc_new wr _), ← hy]
        simp))
      rw [← hw4] at HREL
      clear hrel
      go_wp2_with fail
      rw [← hw4]
      clear hw4
      refine HC.out.mono ?_
      rintro e w1 ⟨v1, rfl, hown1, hgrow1⟩
      obtain ⟨g1, c1, rfl⟩ := own_slice hown1 (by omega)
      have hsz1 := hgrow1.size
      simp at hsz1
      have hszr := HREL.out.bel.size
      have HO1 := Lib.hid hown1
      have HG1 := Lib.hid hgrow1
      clear hown1 hgrow1
      go_wp2_with (at_builtin; refine wpList_append_own _ rfl (.tmp 11) (.tmp 14) 23 rfl w.heap.size 28 i1 (.slice none 0 0) 1 24 Try.underlying23 HJ.out HY0.out HY1.out HY2.out rfl (by decide) _ _ _ rfl (HREL.out.own_mid HG1.out) ⟨w1.heap.size, 0, none⟩ 1 1 [.slice (some ⟨g1, 0, none⟩) 4 c1] rfl rfl (cell_one_new _ _ _) (by intro u hu; simp at hu; subst hu; rfl) (by unfold maxLen; omega) (by omega) (by simp; omega) ?_; intro v2 w2 hown2 hgrow2 _)
      have HREL2 : Hid (∃ V' G', CRel w xss (k + 1) v2 w2 V' G') := Lib.hid (HREL.out.step HXS.out.symm (by simp) HO1.out HG1.out hown2 hgrow2)
      clear hown2 hgrow2
      go_wp2
      go_roundw
      case rel =>
        obtain ⟨V', G', hR⟩ := HREL2.out
        exact ⟨k + 1, V', G', by omega, by go_num, hR⟩
      case measure => simp [intOf]; omega
    · have hge : decide ((k : Int) < 12) = false := by simp; omega
      go_wp2
      have e : k = 12 := by omega
      subst e
      rw [HRR.out]
      exact ⟨_, rfl, hrel.mat HN.out.symm (by omega) (fun j hj => by rw [HR4.out j (by have := HN.out; omega)]; omega), hrel.bel⟩
end Go.Proofs.Ytgdkeihmddpenaa
