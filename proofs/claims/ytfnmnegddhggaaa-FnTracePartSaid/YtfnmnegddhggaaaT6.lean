/- What the proofs stand on, part 6. -/
import Derived.Test.YtfnmnegddhggaaaRows
import Derived.Test.YtfnmnegddhggaaaT1
import Derived.Test.YtfnmnegddhggaaaT2
set_option linter.unusedSimpArgs false
set_option linter.unusedVariables false
namespace Go.Proofs.Ytfnmnegddhggaaa
open Go.ChangeShapes Go.WideShapes Go.ChangeAt Go.RowKit
set_option linter.unusedVariables false
theorem OwnI.grow {w wr w2 : World} {v v2 : Value} {ys zs : List Int} {o : Obj} {n : Nat} (h : OwnI w v ys wr) (hn : n = ys.length + zs.length) (h2 : w2.ownsRow w.heap.size 3 1 v2 n (ys.map (.int .i64) ++ zs.map (.int .i64))) (hg : (wr.alloc o).grownBy w2 v.ownBlock) (hnn : v2 = .slice none 0 0 → v = .slice none 0 0) :
    OwnI w v2 (ys ++ zs) w2 := by
  subst hn
  refine ⟨by rw [List.length_append, List.map_append]; exact h2, (h.bel.alloc h.bel.size o).grown hg (by have := h.bel.size; simp; omega) (fun b hb => (h.own.lt b hb).1), fun e => h.nn (hnn e)⟩
end Go.Proofs.Ytfnmnegddhggaaa
namespace Go.Proofs.Ytfnmnegddhggaaa
open Go.ChangeShapes Go.WideShapes Go.ChangeAt Go.RowKit
set_option linter.unusedVariables false
theorem cells_new (w : World) (zs : List Value) (t : TypeId) : ∀ j u, zs[j]? = some u → (w.alloc (.cells zs.toArray t)).cell? ((⟨w.heap.size, 0, none⟩ : Addr).add j) = some u := by
  intro j u hj
  rw [Addr.add_lit, Nat.zero_add]
  have := cell_of_row (w.alloc (.cells zs.toArray t)) w.heap.size j _ _ (0, 0) (heap_alloc_new w _)
  rw [this]
  simpa using hj
end Go.Proofs.Ytfnmnegddhggaaa
namespace Go.Proofs.Ytfnmnegddhggaaa
open Go.ChangeShapes Go.WideShapes Go.ChangeAt Go.RowKit
set_option linter.unusedVariables false
def seen (xs : List Int) (k : Nat) : Nat → List Int
  | 0 => []
  | j + 1 => if xs.getD (k - 1 - j) 0 ∈ seen xs k j then seen xs k j else seen xs k j ++ [xs.getD (k - 1 - j) 0]
def bfi (xs : List Int) (k : Nat) : Nat := ((List.range k).map (fun j => xs.getD (k - 1 - j) 0)).findIdx (fun x => decide (x = xs.getD k 0))
def spn (xs : List Int) (k : Nat) : Int := if bfi xs k < k then ((seen xs k (bfi xs k)).length : Nat) else -1
end Go.Proofs.Ytfnmnegddhggaaa
namespace Go.Proofs.Ytfnmnegddhggaaa
set_option linter.unusedVariables false
set_option linter.unusedSimpArgs false
def rcp : List Int → List Int
  | [] => []
  | x :: p => x :: (rcp p).filter (fun y => decide (y ≠ x))
theorem rcp_mem {y : Int} : ∀ {p : List Int}, y ∈ rcp p ↔ y ∈ p
  | [] => by simp [rcp]
  | x :: p => by
    simp only [rcp, List.mem_cons, List.mem_filter, rcp_mem (p := p), decide_eq_true_eq]
    constructor
    · rintro (h | ⟨h, _⟩)
      · exact .inl h
      · exact .inr h
    · rintro (h | h)
      · exact .inl h
      · by_cases hy : y = x
        · exact .inl hy
        · exact .inr ⟨h, hy⟩
theorem rcp_nodup : ∀ (p : List Int), (rcp p).Nodup
  | [] => List.nodup_nil
  | x :: p => by
    refine List.nodup_cons.2 ⟨fun h => ?_, (rcp_nodup p).filter _⟩
    rw [List.mem_filter, decide_eq_true_eq] at h
    exact h.2 rfl
theorem rcp_count {A p : List Int} (hA : A.Nodup) (h : ∀ y, y ∈ A ↔ y ∈ p) : A.length = (rcp p).length :=
  Nat.le_antisymm (fLenSub hA (fun y hy => rcp_mem.2 ((h y).1 hy))) (fLenSub (rcp_nodup p) (fun y hy => (h y).2 (rcp_mem.1 hy)))
theorem rcp_split {x : Int} : ∀ {p : List Int}, x ∈ p → ∃ s, rcp p = rcp (p.takeWhile (fun y => decide (y ≠ x))) ++ x :: s
  | [], h => by simp at h
  | z :: p, h => by
    by_cases hz : z = x
    · subst hz
      rw [List.takeWhile_cons_of_neg (by simp)]
      exact ⟨_, rfl⟩
    · rw [List.takeWhile_cons_of_pos (by simpa using hz)]
      obtain ⟨s, hs⟩ := rcp_split ((List.mem_cons.1 h).resolve_left (fun e => hz e.symm))
      refine ⟨s.filter (fun y => decide (y ≠ z)), ?_⟩
      simp only [rcp, hs, List.filter_append, List.cons_append]
      rw [List.filter_cons_of_pos (by simpa using fun e => hz e.symm)]
theorem fPast_eq {xs : List Int} {k : Nat} (hk : k ≤ xs.length) : (xs.take k).reverse = (List.range k).map (fun j => xs.getD (k - 1 - j) 0) := by
  apply List.ext_getElem (by simp; omega)
  intro i h1 h2
  have hi : i < k := by simp at h2; exact h2
  have hl : k - 1 - i < xs.length := by omega
  rw [List.getElem_reverse, List.getElem_take, List.getElem_map, List.getElem_range, List.getD_eq_getElem?_getD, List.getElem?_eq_getElem hl]
  simp only [Option.getD_some, List.length_take]
  congr 1
  omega
theorem fPast_cons {xs : List Int} {k : Nat} (hk : k < xs.length) : (xs.take (k + 1)).reverse = xs.getD k 0 :: (xs.take k).reverse := by
  rw [List.take_add_one, List.getElem?_eq_getElem hk, List.getD_eq_getElem?_getD, List.getElem?_eq_getElem hk]
  simp
theorem seen_mem {xs : List Int} {k : Nat} {y : Int} : ∀ {j : Nat}, y ∈ seen xs k j ↔ ∃ i, i < j ∧ xs.getD (k - 1 - i) 0 = y
  | 0 => by simp [seen]
  | j + 1 => by
    have ih := seen_mem (xs := xs) (k := k) (y := y) (j := j)
    rw [seen]
    have key : y ∈ (if xs.getD (k - 1 - j) 0 ∈ seen xs k j then seen xs k j else seen xs k j ++ [xs.getD (k - 1 - j) 0]) ↔ y ∈ seen xs k j ∨ xs.getD (k - 1 - j) 0 = y := by
      split
      · rename_i h
        exact ⟨.inl, fun hh => hh.elim id (fun e => e ▸ h)⟩
      · simp [eq_comm]
    rw [key, ih]
    constructor
    · rintro (⟨i, hi, e⟩ | e)
      · exact ⟨i, by omega, e⟩
      · exact ⟨j, by omega, e⟩
    · rintro ⟨i, hi, e⟩
      by_cases hij : i = j
      · subst hij; exact .inr e
      · exact .inl ⟨i, by omega, e⟩
theorem seen_nodup (xs : List Int) (k : Nat) : ∀ (j : Nat), (seen xs k j).Nodup
  | 0 => List.nodup_nil
  | j + 1 => by
    have ih := seen_nodup xs k j
    rw [seen]
    split
    · exact ih
    · rename_i h
      rw [List.nodup_append]
      exact ⟨ih, by simp, fun a ha b hb e => h (by rw [List.mem_singleton] at hb; rw [← hb, ← e]; exact ha)⟩
theorem seen_rec {xs : List Int} {k j : Nat} (hk : k ≤ xs.length) (hj : j ≤ k) : (seen xs k j).length = (rcp ((xs.take k).reverse.take j)).length := by
  refine rcp_count (seen_nodup xs k j) (fun y => ?_)
  rw [seen_mem, fPast_eq hk, List.mem_iff_getElem]
  constructor
  · rintro ⟨i, hi, e⟩
    refine ⟨i, by simp; omega, ?_⟩
    rw [List.getElem_take, List.getElem_map, List.getElem_range]
    exact e
  · rintro ⟨i, hi, e⟩
    have hi' : i < j := by simp at hi; omega
    refine ⟨i, hi', ?_⟩
    rw [List.getElem_take, List.getElem_map, List.getElem_range] at e
    exact e
theorem fTw (p : List Int) (x : Int) : p.takeWhile (fun y => decide (y ≠ x)) = p.take (p.findIdx (fun y => decide (y = x))) := by
  induction p with
  | nil => simp
  | cons z p ih =>
    by_cases h : z = x
    · subst h
      rw [List.takeWhile_cons_of_neg (by simp), List.findIdx_cons, decide_eq_true rfl]
      rfl
    · rw [List.takeWhile_cons_of_pos (by simpa using h), List.findIdx_cons, decide_eq_false h, ih]
      simp
theorem bfi_past {xs : List Int} {k : Nat} (hk : k ≤ xs.length) : bfi xs k = (xs.take k).reverse.findIdx (fun y => decide (y = xs.getD k 0)) := by
  rw [fPast_eq hk]; rfl
end Go.Proofs.Ytfnmnegddhggaaa
namespace Go.Proofs.Ytfnmnegddhggaaa
set_option linter.unusedVariables false
set_option linter.unusedSimpArgs false
theorem xFilterErase {L : List Int} {x : Int} (h : L.Nodup) : L.filter (fun y => decide (y ≠ x)) = L.erase x := by
  rw [List.Nodup.erase_eq_filter h]
  refine List.filter_congr (fun a _ => ?_)
  by_cases h : a = x <;> simp [h]
end Go.Proofs.Ytfnmnegddhggaaa
