/- Linked lists of numbers: nodes of two cells, a number and what follows. -/
import Derived.Test.YtopnomklfkkjfaaIEx
import Derived.Test.YtopnomklfkkjfaaLawI
namespace Go.Proofs.Ytopnomklfkkjfaa
open Go.ChangeShapes Go.WideShapes Go.ChangeAt Go.RowKit
set_option linter.unusedVariables false

/-- the linked list at p holds xs -/
def Chain (w : World) : List Nat → Option Addr → Prop
  | [], p => p = none
  | x :: xs, p => ∃ b q, p = some ⟨b, 0, none⟩ ∧ w.cell? ⟨b, 0, none⟩ = some (.int .i64 x) ∧ w.cell? ⟨b, 1, none⟩ = some (.pointer q) ∧ Chain w xs q
theorem Chain.below {w w' : World} {B : Nat} : ∀ {xs : List Nat} {p : Option Addr}, Chain w xs p → w.heap.size ≤ B → Below B w w' → Chain w' xs p
  | [], p, h, _, _ => h
  | x :: xs, p, ⟨b, q, e, h0, h1, h2⟩, hB, hb => by
    have hlt : b < w.heap.size := block_lt_of_cell h0
    have hbl := hb.block b (by omega)
    exact ⟨b, q, e, (World.cell?_of_block hbl).trans h0, (World.cell?_of_block hbl).trans h1, Chain.below h2 hB hb⟩
theorem Chain.drew {w : World} : ∀ {xs : List Nat} {p : Option Addr}, Chain w xs p → Chain w.drew xs p
  | [], p, h => h
  | x :: xs, p, ⟨b, q, e, h0, h1, h2⟩ => ⟨b, q, e, h0, h1, Chain.drew h2⟩
/-- a node in front -/
theorem Chain.cons {w : World} {xs : List Nat} {p : Option Addr} (x : Nat) (t : TypeId) (h : Chain w xs p) : Chain (w.alloc (.cells #[.int .i64 x, .pointer p] t)) (x :: xs) (some ⟨w.heap.size, 0, none⟩) := by
  have e := fun j => cell_of_row (w.alloc (.cells #[.int .i64 x, .pointer p] t)) w.heap.size j _ _ (0, 0) (heap_alloc_new w _)
  exact ⟨_, p, rfl, (e 0).trans rfl, (e 1).trans rfl, h.below (Nat.le_refl _) (Below.alloc (Below.refl _ _) (Nat.le_refl _) _)⟩

/-- the free frames from k on -/
def frs (ys : List IV) (k : Nat) : List Nat := ((List.range ys.length).drop k).filter (fun i => isFree (ys.getD i iz))
theorem frs_end (ys : List IV) : frs ys ys.length = [] := by
  unfold frs
  rw [List.drop_of_length_le (by rw [List.length_range]; exact Nat.le_refl _)]
  rfl
theorem frs_step {ys : List IV} {k : Nat} (hk : k < ys.length) : frs ys k = if (ys.getD k iz).k = 0 then k :: frs ys (k + 1) else frs ys (k + 1) := by
  unfold frs
  rw [List.drop_eq_getElem_cons (by rw [List.length_range]; exact hk), List.getElem_range, List.filter_cons]
  unfold isFree
  by_cases h : (ys.getD k iz).k = 0
  · simp_all
  · simp_all
theorem frs_cnt (ys : List IV) : ∀ d k, k + d = ys.length → (frs ys k).length + cnt (ys.take k) = cnt ys
  | 0, k, h => by
    obtain rfl : k = ys.length := by omega
    rw [frs_end, List.take_length, List.length_nil, Nat.zero_add]
  | d + 1, k, h => by
    have ih := frs_cnt ys d (k + 1) (by omega)
    rw [cnt_take_succ (by omega)] at ih
    rw [frs_step (by omega)]
    split
    · rename_i h0
      rw [if_pos h0] at ih
      rw [List.length_cons]
      omega
    · rename_i h0
      rw [if_neg h0] at ih
      omega
theorem frs_length (ys : List IV) : (frs ys 0).length = cnt ys := by
  have := frs_cnt ys ys.length 0 (by omega)
  rwa [List.take_zero, show cnt [] = 0 from rfl, Nat.add_zero] at this
theorem frs_first (ys : List IV) : ∀ d k, k + d = ys.length → (∀ j, j < k → (ys.getD j iz).k ≠ 0) → (frs ys k).head?.getD ys.length = fidx ys
  | 0, k, h, hb => by
    obtain rfl : k = ys.length := by omega
    rw [frs_end]
    show ys.length = fidx ys
    have hle : fidx ys ≤ ys.length := fidx_le ys
    rcases Nat.lt_or_ge (fidx ys) ys.length with hlt | hge
    · exact absurd (fidx_free hlt) (hb _ hlt)
    · omega
  | d + 1, k, h, hb => by
    rw [frs_step (by omega)]
    split
    · rename_i h0
      show k = fidx ys
      rcases Nat.lt_or_ge (fidx ys) k with hl | hl
      · exact absurd (fidx_free (by omega)) (hb _ hl)
      · rcases Nat.lt_or_ge k (fidx ys) with hl2 | hl2
        · exact absurd h0 (fidx_before hl2)
        · omega
    · rename_i h0
      exact frs_first ys d (k + 1) (by omega) (fun j hj => by
        rcases Nat.lt_or_ge j k with hl | hl
        · exact hb j hl
        · obtain rfl : j = k := by omega
          exact h0)
theorem frs_head (ys : List IV) : (frs ys 0).head?.getD ys.length = fidx ys := frs_first ys ys.length 0 (by omega) (fun j hj => by omega)
end Go.Proofs.Ytopnomklfkkjfaa
