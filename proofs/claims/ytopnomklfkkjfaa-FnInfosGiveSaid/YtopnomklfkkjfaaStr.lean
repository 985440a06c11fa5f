/- Slices of texts: what they read as, and how that goes on from one world to the next. -/
import Derived.Test.YtopnomklfkkjfaaChg
import Derived.Test.YtopnomklfkkjfaaArr
import Derived.Test.YtopnomklfkkjfaaRMath
import Derived.Laws.Concat
namespace Go.Proofs.Ytopnomklfkkjfaa
open Go.ChangeShapes Go.WideShapes Go.ChangeAt Go.RowKit
set_option linter.unusedVariables false

/-- the slice v holds the texts xs -/
def Strs (w : World) (v : Value) (xs : List Bs) : Prop :=
  ∃ (a : Option Addr) (cap : Nat), v = .slice a xs.length cap ∧ xs.length ≤ cap ∧ cap ≤ maxLen ∧
    ∀ i, i < xs.length → ∃ b o, a = some ⟨b, o, none⟩ ∧ w.cell? ⟨b, o + i, none⟩ = some (.string ⟨(xs.getD i []).toArray⟩)
theorem Strs.below {w w' : World} {v : Value} {xs : List Bs} (h : Strs w v xs) (hb : Below w.heap.size w w') : Strs w' v xs := by
  obtain ⟨a, cap, rfl, h1, h2, h3⟩ := h
  refine ⟨a, cap, rfl, h1, h2, fun i hi => ?_⟩
  obtain ⟨b, o, rfl, hc⟩ := h3 i hi
  exact ⟨b, o, rfl, (hb.cell (p := ⟨b, o + i, none⟩) (cell_lt hc)).trans hc⟩
theorem Strs.drewN {w : World} {v : Value} {xs : List Bs} (h : Strs w v xs) (n : Nat) : Strs (w.drewN n) v xs := h

/-- a slice of texts in blocks from B0 to B1-1 -/
def StrsW (w : World) (B0 B1 : Nat) (v : Value) (xs : List Bs) : Prop :=
  ∃ (a : Option Addr) (cap : Nat), v = .slice a xs.length cap ∧ xs.length ≤ cap ∧ cap ≤ maxLen ∧
    ∀ i, i < xs.length → ∃ g p, a = some ⟨g, p, none⟩ ∧ B0 ≤ g ∧ g < B1 ∧ w.cell? ⟨g, p + i, none⟩ = some (.string ⟨(xs.getD i []).toArray⟩) ∧ w.frozen? ⟨g, p + i, none⟩ = false
theorem StrsW.strs {w : World} {B0 B1 : Nat} {v : Value} {xs : List Bs} (h : StrsW w B0 B1 v xs) : Strs w v xs := by
  obtain ⟨a, cap, rfl, h1, h2, h3⟩ := h
  refine ⟨a, cap, rfl, h1, h2, fun i hi => ?_⟩
  obtain ⟨g, p, e, _, _, hc, _⟩ := h3 i hi
  exact ⟨g, p, e, hc⟩
theorem StrsW.chg {lo hi B0 B1 : Nat} {w w' : World} {v : Value} {xs : List Bs} (h : StrsW w B0 B1 v xs) (c : Chg lo hi w w') (hB : B1 ≤ w.heap.size) (hh : B1 ≤ lo ∨ hi ≤ B0) : StrsW w' B0 B1 v xs := by
  obtain ⟨a, cap, rfl, h1, h2, h3⟩ := h
  refine ⟨a, cap, rfl, h1, h2, fun i hi => ?_⟩
  obtain ⟨g, p, e, hg0, hg1, hc, hf⟩ := h3 i hi
  have hb := c.block g (by omega) (by omega)
  exact ⟨g, p, e, hg0, hg1, (World.cell?_of_block hb).trans hc, (World.frozen?_of_block hb).trans hf⟩
theorem StrsW.below {B0 B1 : Nat} {w w' : World} {v : Value} {xs : List Bs} (h : StrsW w B0 B1 v xs) (c : Below w.heap.size w w') (hB : B1 ≤ w.heap.size) : StrsW w' B0 B1 v xs :=
  h.chg (Chg.of_below c) hB (.inr (Nat.zero_le _))
theorem StrsW.wide {B0 B1 C0 C1 : Nat} {w : World} {v : Value} {xs : List Bs} (h : StrsW w B0 B1 v xs) (h0 : C0 ≤ B0) (h1 : B1 ≤ C1) : StrsW w C0 C1 v xs := by
  obtain ⟨a, cap, e, h2, h3, h4⟩ := h
  refine ⟨a, cap, e, h2, h3, fun i hi => ?_⟩
  obtain ⟨g, p, e, hg0, hg1, r⟩ := h4 i hi
  exact ⟨g, p, e, by omega, by omega, r⟩
theorem StrsW.drewN {B0 B1 : Nat} {w : World} {v : Value} {xs : List Bs} (h : StrsW w B0 B1 v xs) (n : Nat) : StrsW (w.drewN n) B0 B1 v xs := h
/-- one of the texts is replaced -/
theorem StrsW.put {B0 B1 : Nat} {w : World} {a : Option Addr} {n cap : Nat} {xs : List Bs} (h : StrsW w B0 B1 (.slice a n cap) xs) {g p k : Nat} (ha : a = some ⟨g, p, none⟩) (hk : k < n) (t : Bs) :
    StrsW (w.setCell ⟨g, p + k, none⟩ (.string ⟨t.toArray⟩)) B0 B1 (.slice a n cap) (xs.set k t) := by
  obtain ⟨a', cap', e, h1, h2, h3⟩ := h
  injection e with e1 e2 e3
  subst e1
  subst e3
  subst e2
  subst ha
  refine ⟨_, cap, by rw [List.length_set], by rw [List.length_set]; exact h1, h2, fun i hi => ?_⟩
  rw [List.length_set] at hi
  obtain ⟨g', p', e, hg0, hg1, hc, hf⟩ := h3 i hi
  cases e
  refine ⟨g, p, rfl, hg0, hg1, ?_, (frozen_set _).trans hf⟩
  by_cases hik : i = k
  · subst hik
    rw [cell_set_same hc, getD_lt (by rw [List.length_set]; exact hi), List.getElem_set_self]
  · rw [cell_set_other (.inr (by omega)), hc, getD_lt hi, getD_lt (by rw [List.length_set]; exact hi), List.getElem_set_ne (by omega)]
theorem chg_set {lo hi : Nat} {w w' : World} (h : Chg lo hi w w') {g p : Nat} {v : Value} (h0 : lo ≤ g) (h1 : g < hi) : Chg lo hi w (w'.setCell ⟨g, p, none⟩ v) :=
  ⟨h.os, h.tape, h.output, by have := h.size; simpa [World.setCell] using this, fun b hb hh => (Below.heap_setCell w' ⟨g, p, none⟩ v b (by show b ≠ g; omega)).trans (h.block b hb hh)⟩
theorem chg_below {lo hi : Nat} {w w1 w2 : World} (h : Chg lo hi w w1) (hb : Below w1.heap.size w1 w2) : Chg lo hi w w2 :=
  ⟨hb.os.trans h.os, hb.tape.trans h.tape, hb.output.trans h.output, Nat.le_trans h.size hb.size, fun b hb' hh => (hb.block b (Nat.lt_of_lt_of_le hb' h.size)).trans (h.block b hb' hh)⟩
theorem chg_trans {lo hi : Nat} {w w1 w2 : World} (h : Chg lo hi w w1) (k : Chg lo hi w1 w2) : Chg lo hi w w2 :=
  ⟨k.os.trans h.os, k.tape.trans h.tape, k.output.trans h.output, Nat.le_trans h.size k.size, fun b hb hh => (k.block b (Nat.lt_of_lt_of_le hb h.size) hh).trans (h.block b hb hh)⟩

/-- a new slice of texts; nothing that was there changes -/
structure OwnS (w : World) (v : Value) (ys : List Bs) (w' : World) : Prop where
  own : w'.ownsRow w.heap.size 9 1 v ys.length (ys.map (fun s => .string ⟨s.toArray⟩))
  bel : Below w.heap.size w w'
theorem getD_map_str {ys : List Bs} {i : Nat} (hi : i < ys.length) : (ys.map (fun s : Bs => Value.string ⟨s.toArray⟩))[i]? = some (.string ⟨(ys.getD i []).toArray⟩) := by
  rw [List.getElem?_map, List.getElem?_eq_getElem hi, getD_lt hi]
  rfl
theorem StrsW.of_ownsRow {w : World} {B : Nat} {v : Value} {ys : List Bs} (h : w.ownsRow B 9 1 v ys.length (ys.map (fun s => .string ⟨s.toArray⟩))) : StrsW w B w.heap.size v ys := by
  rcases h.2 with ⟨e, hz⟩ | ⟨g, cap, cur, rfl, hb, hbl, hnc, hcm, hcs, htk⟩
  · refine ⟨none, 0, by rw [e, hz], by omega, Nat.zero_le _, fun i hi => by omega⟩
  · refine ⟨some ⟨g, 0, none⟩, cap, rfl, hnc, hcm, fun i hi => ⟨g, 0, rfl, hb, (Array.getElem?_eq_some_iff.1 hbl).1, ?_, ?_⟩⟩
    · have := h.cells (g := g) rfl i _ (getD_map_str hi)
      rw [add0] at this
      rw [Nat.zero_add]; exact this
    · simp [World.frozen?, hbl]
theorem OwnS.row {w w' : World} {v : Value} {ys : List Bs} (h : OwnS w v ys w') : StrsW w' w.heap.size w'.heap.size v ys := StrsW.of_ownsRow h.own
theorem OwnS.strs {w w' : World} {v : Value} {ys : List Bs} (h : OwnS w v ys w') : Strs w' v ys := h.row.strs
theorem OwnS.start (w : World) : OwnS w (.slice (some ⟨w.heap.size, 0, none⟩) 0 0) [] (w.alloc (.cells #[] 9)) :=
  ⟨World.ownsRow_made w #[] 0 (Nat.le_refl _) (Nat.zero_le _) rfl, (Below.refl _ _).alloc (Nat.le_refl _) _⟩
theorem OwnS.nil (w : World) : OwnS w (.slice none 0 0) [] w := ⟨World.ownsRow_nil _ _ _ _, Below.refl _ _⟩
theorem own_lowS {w : World} {B B' : Nat} {e : TypeId} {s : Nat} {v : Value} {n : Nat} {x : List Value} (h : w.ownsRow B e s v n x) (hB : B' ≤ B) : w.ownsRow B' e s v n x := by
  refine ⟨h.1, ?_⟩
  rcases h.2 with hn | ⟨g, cap, cur, e, hb, rest⟩
  · exact .inl hn
  · exact .inr ⟨g, cap, cur, e, by omega, rest⟩
theorem OwnS.from {w w1 w2 : World} {v : Value} {ys : List Bs} (h : OwnS w1 v ys w2) (hb : Below w.heap.size w w1) : OwnS w v ys w2 :=
  ⟨own_lowS h.own hb.size, hb.trans (h.bel.mono hb.size)⟩
theorem OwnS.grow {w wr w2 : World} {v v2 : Value} {ys zs : List Bs} {o : Obj} {n : Nat} (h : OwnS w v ys wr) (hn : n = ys.length + zs.length) (h2 : w2.ownsRow w.heap.size 9 1 v2 n (ys.map (fun s => .string ⟨s.toArray⟩) ++ zs.map (fun s => .string ⟨s.toArray⟩))) (hg : (wr.alloc o).grownBy w2 v.ownBlock) :
    OwnS w v2 (ys ++ zs) w2 := by
  subst hn
  exact ⟨by rw [List.length_append, List.map_append]; exact h2, (h.bel.alloc h.bel.size o).grown hg (by have := h.bel.size; simp; omega) (fun b hb => (h.own.lt b hb).1)⟩
/-- the call returns a new slice of texts; nothing that was there changes -/
def NewS (ys : List Bs) (w : World) (e : Ending) (w' : World) : Prop := ∃ v, e = .returned v ∧ StrsW w' w.heap.size w'.heap.size v ys ∧ Below w.heap.size w w'
theorem NewS.of_own {ys : List Bs} {w w' : World} {v : Value} (h : OwnS w v ys w') : NewS ys w (.returned v) w' := ⟨v, rfl, h.row, h.bel⟩
/-- a new slice of texts and a bool -/
def NewSB (ys : List Bs) (b : Bool) (w : World) (e : Ending) (w' : World) : Prop := ∃ v, e = .returned (.tuple #[v, .bool b]) ∧ StrsW w' w.heap.size w'.heap.size v ys ∧ Below w.heap.size w w'
end Go.Proofs.Ytopnomklfkkjfaa
