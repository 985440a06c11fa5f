/- What the draw of a list of frames gives. -/
import Derived.Test.YtijgpimjmphaoaaLawBitsJ
namespace Go.Proofs.Ytijgpimjmphaoaa
open Go.ChangeShapes Go.WideShapes Go.ChangeAt Go.RowKit
set_option linter.unusedVariables false

theorem rdr_of_below {w0 w w' : World} {B k : Nat} (h : Rdr w0 w B k) (hb : Below w.heap.size w w') : Rdr w0 w' B k := by
  have hlt := rdr_lt h
  obtain ⟨a, len, cap, zs, p, hr, hp, hh, hbb, hB⟩ := h
  exact ⟨a, len, cap, zs, p, hr, hp, (hb.block B hlt).trans hh, hbb.trans (hb.mono hbb.size), hB⟩
theorem rdr_setL {w0 w : World} {B k g i : Nat} {v : Value} (h : Rdr w0 w B k) (hg : B < g) : Rdr w0 (w.setCell ⟨g, i, none⟩ v) B k := by
  obtain ⟨a, len, cap, zs, p, hr, hp, hh, hbb, hB⟩ := h
  exact ⟨a, len, cap, zs, p, hr, hp, (heap_setCell_other _ _ _ _ (by show B ≠ g; omega)).trans hh, hbb.setCell (p := ⟨g, i, none⟩) (by show _ ≤ g; omega) v, hB⟩
/-- a list of its own, in block g, beside the reader -/
structure OwnL (W : World) (k g cap : Nat) (ys : List Int) (w : World) : Prop where
  rdr : Rdr W w W.heap.size k
  gB : W.heap.size < g
  lt : g < w.heap.size
  cells : ∀ i, i < ys.length → w.cell? ⟨g, i, none⟩ = some (.int .i64 (ys.getD i 0)) ∧ w.frozen? ⟨g, i, none⟩ = false
  len : ys.length ≤ cap
  cap : cap ≤ maxLen
theorem OwnL.ints {W : World} {k g cap : Nat} {ys : List Int} {w : World} (h : OwnL W k g cap ys w) : Ints w (.slice (some ⟨g, 0, none⟩) ys.length cap) ys :=
  ⟨_, cap, rfl, h.len, h.cap, fun i hi => ⟨g, 0, rfl, by rw [Nat.zero_add]; exact (h.cells i hi).1⟩⟩
theorem OwnL.same {W : World} {k k' g cap : Nat} {ys : List Int} {w w' : World} (h : OwnL W k g cap ys w) (hr : Rdr W w' W.heap.size k') (e : w'.heap[g]? = w.heap[g]?) (hs : w.heap.size ≤ w'.heap.size) : OwnL W k' g cap ys w' :=
  ⟨hr, h.gB, Nat.lt_of_lt_of_le h.lt hs, fun i hi => ⟨(World.cell?_of_block e).trans (h.cells i hi).1, (World.frozen?_of_block e).trans (h.cells i hi).2⟩, h.len, h.cap⟩
theorem OwnL.only {W : World} {k k' g cap : Nat} {ys : List Int} {w w' : World} (h : OwnL W k g cap ys w) (hr : Rdr W w' W.heap.size k') (ho : Only W.heap.size w w') : OwnL W k' g cap ys w' :=
  h.same hr (ho.2.2.2.2 g (by have := h.gB; omega)) (Nat.le_of_eq ho.2.2.2.1.symm)
theorem OwnL.alloc {W : World} {k g cap : Nat} {ys : List Int} {w : World} (h : OwnL W k g cap ys w) (o : Obj) : OwnL W k g cap ys (w.alloc o) :=
  h.same (rdr_alloc h.rdr o) (heap_alloc_old w o h.lt) (by simp)
theorem OwnL.set {W : World} {k g cap : Nat} {ys : List Int} {w : World} (h : OwnL W k g cap ys w) {i : Nat} (hi : i < ys.length) (x : Int) : OwnL W k g cap (ys.set i x) (w.setCell ⟨g, i, none⟩ (.int .i64 x)) := by
  refine ⟨rdr_setL h.rdr h.gB, h.gB, by have := h.lt; simpa [World.setCell] using this, fun j hj => ?_, by rw [List.length_set]; exact h.len, h.cap⟩
  rw [List.length_set] at hj
  refine ⟨?_, (World.frozen?_setCell _ _ _ _).trans (h.cells j hj).2⟩
  rw [List.getD_eq_getElem?_getD, List.getElem?_set]
  by_cases hij : i = j
  · subst hij
    rw [if_pos rfl, if_pos hi]
    exact cell_set_same (h.cells i hi).1
  · rw [if_neg hij, ← List.getD_eq_getElem?_getD]
    exact (cell_set_other (.inr (by omega))).trans (h.cells j hj).1
theorem OwnL.of_own {W w1 w2 : World} {k : Nat} {v : Value} {ys : List Int} (hr : Rdr W w1 W.heap.size k) (h : OwnI w1 v ys w2) : ∃ g cap, v = .slice (some ⟨g, 0, none⟩) ys.length cap ∧ OwnL W k g cap ys w2 := by
  have hlt := rdr_lt hr
  rcases h.own.2 with ⟨e, _⟩ | ⟨g, cap, cur, rfl, hb, hbl, hnc, hcm, hcs, htk⟩
  · exact absurd e h.nn
  · refine ⟨g, cap, rfl, rdr_of_below hr h.bel, by omega, (Array.getElem?_eq_some_iff.1 hbl).1, fun i hi => ⟨?_, frozen_of_row _ _ _ _ _ hbl⟩, hnc, hcm⟩
    have := h.own.cells (g := g) rfl i (.int .i64 (ys.getD i 0)) (by rw [List.getElem?_map, List.getD_eq_getElem?_getD, List.getElem?_eq_getElem hi]; rfl)
    rwa [add0] at this
end Go.Proofs.Ytijgpimjmphaoaa
