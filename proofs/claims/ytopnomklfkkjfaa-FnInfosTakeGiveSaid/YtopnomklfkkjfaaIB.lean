/- Arrays of what is known of frames, as values. -/
import Derived.Test.YtopnomklfkkjfaaILink
import Derived.Laws.IdiomStrings
namespace Go.Proofs.Ytopnomklfkkjfaa
open Go.ChangeShapes Go.WideShapes Go.ChangeAt Go.RowKit
set_option linter.unusedVariables false

def z12 : List IV := List.replicate 12 iz
theorem z12_len : z12.length = 12 := rfl
theorem zero_infos (w : World) : (zeroValue 54).run Try.prog w = .ok (.agg (isC z12).toArray) w := Try.zeroValue54 w
theorem size_info (w : World) : (sizeOf 30).run Try.prog w = .ok 3 w := Try.sizeOf30 w
theorem agg_info (w : World) : (isAgg 30).run Try.prog w = .ok true w := Try.isAgg30 w
theorem info_infos {n : Nat} (h : n = 36) : (Try.prog.info? 54).map (·.size) = some n := by subst h; kernel_rfl
theorem isC_all (xs : List IV) : (isC xs).toArray.all (·.oneCell') = true := all_oneCell_toArray (isC_one xs)
theorem isC_36 {xs : List IV} (h : xs.length = 12) : (isC xs).length = 36 := by rw [isC_len, h]
theorem isC_split (xs : List IV) {k : Nat} (hk : k < xs.length) : isC xs = isC (xs.take k) ++ (ivC (xs.getD k iz) ++ isC (xs.drop (k + 1))) := by
  have e : xs = xs.take k ++ ([xs.getD k iz] ++ xs.drop (k + 1)) := by
    rw [← List.append_assoc, ← take_snoc_getD xs k iz hk, List.take_append_drop]
  conv => lhs; rw [e]
  simp [isC]
theorem isC_extract (xs : List IV) {k : Nat} (hk : k < xs.length) : (isC xs).toArray.extract (k * 3) (k * 3 + 3) = (ivC (xs.getD k iz)).toArray := by
  have h1 : (isC (xs.take k)).length = k * 3 := by rw [isC_len, List.length_take]; omega
  rw [isC_split xs hk, List.extract_toArray, List.extract_eq_take_drop]
  congr 1
  rw [List.drop_append_of_le_length (by omega), List.drop_of_length_le (by omega), List.nil_append, List.take_append_of_le_length (by simp [ivC])]
  exact List.take_of_length_le (by simp [ivC])
theorem index_infos (xs : List IV) (hl : xs.length = 12) {k : Nat} (hk : k < 12) (W : World) : (Instr.index 54 (.agg (isC xs).toArray) (.int .i64 k)).run Try.prog W = .ok (ivV (xs.getD k iz)) W := by
  rw [run_index_arr (P := Try.prog) 54 12 30 3 Try.underlying54 agg_info size_info (isC xs).toArray k hk W, isC_extract xs (by omega)]
  rfl
theorem arrayAt_infos (W : World) (a : Option Addr) (cap : Nat) : (Instr.arrayAt 54 (.slice a 12 cap)).run Try.prog W = .ok (.pointer a) W := by
  unfold Instr.arrayAt
  rw [Sem.run_bind, run_underlying Try.underlying54]
  simp
theorem slice_infos (b : Nat) (W : World) : (Instr.sliceAt 54 (.pointer (some ⟨b, 0, none⟩)) none none none).run Try.prog W = .ok (.slice (some ⟨b, 0, none⟩) 12 12) W := by
  unfold Instr.sliceAt
  simp only [Instr.sureAddr, Sem.run_bind, Sem.run_pure, Result.andThen_ok, run_underlying Try.underlying54, Instr.sliceBounds]
  simp [add0]
def arrOf (xs : List IV) : List IV := if isok xs = true then xs else z12
theorem arrOf_ok {xs : List IV} (h : isok xs = true) : arrOf xs = xs := if_pos h
theorem arrOf_no {xs : List IV} (h : isok xs = false) : arrOf xs = z12 := by unfold arrOf; rw [h]; rfl
theorem arrOf_len (xs : List IV) : (arrOf xs).length = 12 := by
  unfold arrOf
  split
  · rename_i h; exact isok_len h
  · rfl
/-- an array and whether it is what is known of all frames; nothing that was there changes -/
def ArrI (zs : List IV) (b : Bool) (w : World) (e : Ending) (w' : World) : Prop := e = .returned (.tuple #[.agg (isC zs).toArray, .bool b]) ∧ Below w.heap.size w w'

structure IRel (w : World) (xs : List IV) (k : Nat) (wr : World) : Prop where
  bel : Below w.heap.size w wr
  size : w.heap.size < wr.heap.size
  res : wr.there w.heap.size 0 36
  ok : ∀ i, i < k → iok (xs.getD i iz) = true
theorem IRel.start (w : World) (xs : List IV) (t : TypeId) : IRel w xs 0 (w.alloc (.cells (isC z12).toArray t)) :=
  ⟨(Below.refl _ _).alloc (Nat.le_refl _) _, by simp, there_row (heap_alloc_new w _) (by rw [List.size_toArray, isC_36 z12_len]; exact Nat.le_refl _), fun i hi => by omega⟩
theorem IRel.after {w wr w1 : World} {xs : List IV} {k : Nat} (h : IRel w xs k wr) (hb : Below wr.heap.size wr w1) : IRel w xs k w1 :=
  ⟨h.bel.trans (hb.mono (Nat.le_of_lt h.size)), by have := h.size; have := hb.size; omega, there_blocks h.res (hb.block _ h.size), h.ok⟩
theorem IRel.step {w wr : World} {xs : List IV} {k : Nat} (h : IRel w xs k wr) (hk : iok (xs.getD k iz) = true) : IRel w xs (k + 1) wr :=
  ⟨h.bel, h.size, h.res, fun i hi => by
    by_cases hik : i = k
    · subst hik; exact hk
    · exact h.ok i (by omega)⟩
end Go.Proofs.Ytopnomklfkkjfaa
