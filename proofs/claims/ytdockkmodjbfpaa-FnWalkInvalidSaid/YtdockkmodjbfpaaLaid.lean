/- A memory laid into a variable of its own; a row read out of it. -/
import Derived.Test.YtdockkmodjbfpaaMemOf
namespace Go.Proofs.Ytdockkmodjbfpaa
open Go.ChangeShapes Go.WideShapes Go.ChangeAt Go.RowKit
set_option linter.unusedVariables false

theorem flat_get (xss : List (List Int)) (h : ∀ i, i < xss.length → (xss.getD i []).length = 4) {i j : Nat} (hi : i < xss.length) (hj : j < 4) :
    (flatL xss)[i * 4 + j]? = some (.int .i64 ((xss.getD i []).getD j 0)) := by
  have h1 := flat_take_len xss h i (by omega)
  have h4 := h i hi
  have e : flatL xss = flatL (xss.take i) ++ ((xss.getD i []).map (Value.int .i64) ++ flatL (xss.drop (i + 1))) := by
    rw [← List.append_assoc, ← flat_snoc xss i _ hi rfl]
    unfold flatL
    rw [← List.map_append, ← List.flatten_append, List.take_append_drop]
  rw [e, List.getElem?_append_right (by omega), h1, List.getElem?_append_left (by rw [List.length_map]; omega)]
  have e2 : i * 4 + j - i * 4 = j := by omega
  rw [e2, List.getElem?_map, getD_lt (l := xss.getD i []) (i := j) (by omega), List.getElem?_eq_getElem (by omega)]
  rfl
/-- a variable of its own that holds the array -/
structure Laid (w : World) (B : Nat) (cs : List Value) (wb : World) : Prop where
  bel : Below w.heap.size w wb
  lo : w.heap.size ≤ B
  hi : B < wb.heap.size
  here : wb.there B 0 48
  row : wb.rangeAt B 0 cs
theorem Laid.make {w w1 : World} {cs : List Value} {z : Array Value} {t : TypeId} (hb : Below w.heap.size w w1) (hz : z.size = 48) (hc : cs.length = 48) : Laid w w1.heap.size cs ((w1.alloc (.cells z t)).setCells w1.heap.size 0 cs) := by
  have ht : (w1.alloc (.cells z t)).there w1.heap.size 0 48 := there_row (heap_alloc_new w1 _) (by omega)
  refine ⟨Below.setCells (Below.refl _ _) _ hb.size _ _ _ (hb.alloc hb.size _), hb.size, by rw [size_setCells]; simp, World.there_setCells ht _ _ _, World.rangeAt_setCells_same _ _ _ _ (by rw [hc]; exact ht)⟩
theorem Laid.part {w wb : World} {B : Nat} {xss : List (List Int)} (h : Laid w B (flatL xss) wb) (hl : xss.length = 12) (h4 : ∀ i, i < 12 → (xss.getD i []).length = 4) {i : Nat} (hi : i < 12) :
    wb.rangeAt B (i * 4) ((xss.getD i []).map (Value.int .i64)) := fun j v hv => by
  have hj : j < 4 := by
    have := (List.getElem?_eq_some_iff.1 hv).1
    rwa [List.length_map, h4 i hi] at this
  have h1 := flat_get xss (by rw [hl]; exact h4) (i := i) (j := j) (by omega) hj
  have h2 := h.row (i * 4 + j) _ h1
  rw [Nat.zero_add] at h2
  rw [h2, ← hv, List.getElem?_map, List.getElem?_eq_getElem (by rw [h4 i hi]; exact hj), getD_lt (l := xss.getD i []) (i := j) (by rw [h4 i hi]; exact hj)]
  rfl
end Go.Proofs.Ytdockkmodjbfpaa
