/- Slices of what is known of frames (three cells each), said of a world's cells. -/
import Derived.Test.YtopnomklfkkjfaaStr
import Derived.OwnWalk
import Derived.Maps.AppendAt
namespace Go.Proofs.Ytopnomklfkkjfaa
open Go.ChangeShapes Go.WideShapes Go.ChangeAt Go.RowKit
set_option linter.unusedVariables false

/-- what is known of a frame -/
structure IV where
  k : Int
  g : Bs
  r : Int
deriving DecidableEq
instance : Inhabited IV := ⟨⟨0, [], 0⟩⟩
def iz : IV := ⟨0, [], 0⟩
def ivC (x : IV) : List Value := [.int .i64 x.k, .string ⟨x.g.toArray⟩, .int .i64 x.r]
abbrev ivV (x : IV) : Value := .agg #[.int .i64 x.k, .string ⟨x.g.toArray⟩, .int .i64 x.r]
theorem iv_ext {x y : IV} : x = y ↔ x.k = y.k ∧ x.g = y.g ∧ x.r = y.r := by cases x; cases y; simp
/-- the three cells lie at offset o of block b -/
structure Tri (w : World) (b o : Nat) (x : IV) : Prop where
  c0 : w.cell? ⟨b, o, none⟩ = some (.int .i64 x.k)
  c1 : w.cell? ⟨b, o + 1, none⟩ = some (.string ⟨x.g.toArray⟩)
  c2 : w.cell? ⟨b, o + 2, none⟩ = some (.int .i64 x.r)
theorem Tri.block {w w' : World} {b o : Nat} {x : IV} (h : Tri w b o x) (e : w'.heap[b]? = w.heap[b]?) : Tri w' b o x :=
  ⟨(World.cell?_of_block e).trans h.c0, (World.cell?_of_block e).trans h.c1, (World.cell?_of_block e).trans h.c2⟩
theorem Tri.below {w w' : World} {B b o : Nat} {x : IV} (h : Tri w b o x) (hb : Below B w w') (hB : b < B) : Tri w' b o x := h.block (hb.block b hB)
theorem Tri.lt {w : World} {b o : Nat} {x : IV} (h : Tri w b o x) : b < w.heap.size := block_lt_of_cell h.c0
theorem Tri.drewN {w : World} {b o : Nat} {x : IV} (h : Tri w b o x) (n : Nat) : Tri (w.drewN n) b o x := ⟨h.c0, h.c1, h.c2⟩
theorem tri_new (w : World) (x : IV) (t : TypeId) : Tri (w.alloc (.cells #[.int .i64 x.k, .string ⟨x.g.toArray⟩, .int .i64 x.r] t)) w.heap.size 0 x := by
  have e := fun j => cell_of_row (w.alloc (.cells #[.int .i64 x.k, .string ⟨x.g.toArray⟩, .int .i64 x.r] t)) w.heap.size j _ _ (0, 0) (heap_alloc_new w _)
  exact ⟨(e 0).trans rfl, (e 1).trans rfl, (e 2).trans rfl⟩
/-- the slice v holds xs -/
def Is (w : World) (v : Value) (xs : List IV) : Prop :=
  ∃ (a : Option Addr) (cap : Nat), v = .slice a xs.length cap ∧ xs.length ≤ cap ∧ cap ≤ maxLen ∧
    ∀ i, i < xs.length → ∃ b o, a = some ⟨b, o, none⟩ ∧ Tri w b (o + i * 3) (xs.getD i iz)
theorem Is.below {w w' : World} {v : Value} {xs : List IV} (h : Is w v xs) (hb : Below w.heap.size w w') : Is w' v xs := by
  obtain ⟨a, cap, rfl, h1, h2, h3⟩ := h
  refine ⟨a, cap, rfl, h1, h2, fun i hi => ?_⟩
  obtain ⟨b, o, e, hc⟩ := h3 i hi
  exact ⟨b, o, e, hc.below hb hc.lt⟩
theorem Is.drewN {w : World} {v : Value} {xs : List IV} (h : Is w v xs) (n : Nat) : Is (w.drewN n) v xs := by
  obtain ⟨a, cap, e, h1, h2, h3⟩ := h
  refine ⟨a, cap, e, h1, h2, fun i hi => ?_⟩
  obtain ⟨b, o, e2, h4⟩ := h3 i hi
  exact ⟨b, o, e2, h4.drewN n⟩

/-- three cells that may be written -/
structure TriW (w : World) (b o : Nat) (x : IV) : Prop where
  at3 : Tri w b o x
  fr : ∀ j, j < 3 → w.frozen? ⟨b, o + j, none⟩ = false
theorem TriW.block {w w' : World} {b o : Nat} {x : IV} (h : TriW w b o x) (e : w'.heap[b]? = w.heap[b]?) : TriW w' b o x :=
  ⟨h.at3.block e, fun j hj => (World.frozen?_of_block e).trans (h.fr j hj)⟩
theorem TriW.there {w : World} {b o : Nat} {x : IV} (h : TriW w b o x) : w.there b o 3 := fun j hj => by
  refine ⟨?_, h.fr j hj⟩
  obtain rfl | rfl | rfl : j = 0 ∨ j = 1 ∨ j = 2 := by omega
  · rw [Nat.add_zero, h.at3.c0]; rfl
  · rw [h.at3.c1]; rfl
  · rw [h.at3.c2]; rfl
theorem TriW.stored {w : World} {b o : Nat} {x : IV} (h : w.there b o 3) : TriW (w.setCells b o (ivC x)) b o x := by
  have hr := World.rangeAt_setCells_same w b o (ivC x) h
  exact ⟨⟨hr 0 _ rfl, hr 1 _ rfl, hr 2 _ rfl⟩, fun j hj => by rw [World.frozen?_setCells]; exact (h j hj).2⟩
theorem TriW.apart {w : World} {b b' o o' : Nat} {x : IV} {vs : List Value} (h : TriW w b' o' x) (ha : b' ≠ b ∨ o' + 3 ≤ o ∨ o + vs.length ≤ o') : TriW (w.setCells b o vs) b' o' x := by
  have hr : w.rangeAt b' o' (ivC x) := fun j v hv => by
    have hj : j < 3 := (List.getElem?_eq_some_iff.1 hv).1
    obtain rfl | rfl | rfl : j = 0 ∨ j = 1 ∨ j = 2 := by omega
    · cases hv; exact h.at3.c0
    · cases hv; exact h.at3.c1
    · cases hv; exact h.at3.c2
  have h2 := World.rangeAt_setCells_apart hr b o vs ha
  exact ⟨⟨h2 0 _ rfl, h2 1 _ rfl, h2 2 _ rfl⟩, fun j hj => by rw [World.frozen?_setCells]; exact h.fr j hj⟩
/-- one of the fields is stored -/
theorem TriW.set0 {w : World} {b o : Nat} {x : IV} (h : TriW w b o x) (n : Int) : TriW (w.setCell ⟨b, o, none⟩ (.int .i64 n)) b o ⟨n, x.g, x.r⟩ :=
  ⟨⟨cell_set_same h.at3.c0, (cell_set_other (.inr (by omega))).trans h.at3.c1, (cell_set_other (.inr (by omega))).trans h.at3.c2⟩, fun j hj => (frozen_set _).trans (h.fr j hj)⟩
theorem TriW.set1 {w : World} {b o : Nat} {x : IV} (h : TriW w b o x) (s : Bs) : TriW (w.setCell ⟨b, o + 1, none⟩ (.string ⟨s.toArray⟩)) b o ⟨x.k, s, x.r⟩ :=
  ⟨⟨(cell_set_other (.inr (by omega))).trans h.at3.c0, cell_set_same h.at3.c1, (cell_set_other (.inr (by omega))).trans h.at3.c2⟩, fun j hj => (frozen_set _).trans (h.fr j hj)⟩
theorem TriW.set2 {w : World} {b o : Nat} {x : IV} (h : TriW w b o x) (n : Int) : TriW (w.setCell ⟨b, o + 2, none⟩ (.int .i64 n)) b o ⟨x.k, x.g, n⟩ :=
  ⟨⟨(cell_set_other (.inr (by omega))).trans h.at3.c0, (cell_set_other (.inr (by omega))).trans h.at3.c1, cell_set_same h.at3.c2⟩, fun j hj => (frozen_set _).trans (h.fr j hj)⟩
theorem TriW.off {w : World} {b o c p : Nat} {x : IV} (h : TriW w b o x) (hp : c ≠ b ∨ p < o ∨ o + 3 ≤ p) (u : Value) : TriW (w.setCell ⟨c, p, none⟩ u) b o x := by
  have ht : ∀ j, j < 3 → b ≠ c ∨ o + j ≠ p := fun j hj => by omega
  exact ⟨⟨(cell_set_other (ht 0 (by omega))).trans h.at3.c0, (cell_set_other (ht 1 (by omega))).trans h.at3.c1, (cell_set_other (ht 2 (by omega))).trans h.at3.c2⟩, fun j hj => (frozen_set _).trans (h.fr j hj)⟩
/-- a slice in blocks from B0 to B1-1 -/
def IsW (w : World) (B0 B1 : Nat) (v : Value) (xs : List IV) : Prop :=
  ∃ (a : Option Addr) (cap : Nat), v = .slice a xs.length cap ∧ xs.length ≤ cap ∧ cap ≤ maxLen ∧
    ∀ i, i < xs.length → ∃ g p, a = some ⟨g, p, none⟩ ∧ B0 ≤ g ∧ g < B1 ∧ TriW w g (p + i * 3) (xs.getD i iz)
theorem IsW.is {w : World} {B0 B1 : Nat} {v : Value} {xs : List IV} (h : IsW w B0 B1 v xs) : Is w v xs := by
  obtain ⟨a, cap, rfl, h1, h2, h3⟩ := h
  refine ⟨a, cap, rfl, h1, h2, fun i hi => ?_⟩
  obtain ⟨g, p, e, _, _, hf⟩ := h3 i hi
  exact ⟨g, p, e, hf.at3⟩
theorem IsW.chg {lo hi B0 B1 : Nat} {w w' : World} {v : Value} {xs : List IV} (h : IsW w B0 B1 v xs) (c : Chg lo hi w w') (hB : B1 ≤ w.heap.size) (hh : B1 ≤ lo ∨ hi ≤ B0) : IsW w' B0 B1 v xs := by
  obtain ⟨a, cap, rfl, h1, h2, h3⟩ := h
  refine ⟨a, cap, rfl, h1, h2, fun i hi => ?_⟩
  obtain ⟨g, p, e, hg0, hg1, hf⟩ := h3 i hi
  exact ⟨g, p, e, hg0, hg1, hf.block (c.block g (by omega) (by omega))⟩
theorem IsW.below {B0 B1 : Nat} {w w' : World} {v : Value} {xs : List IV} (h : IsW w B0 B1 v xs) (c : Below w.heap.size w w') (hB : B1 ≤ w.heap.size) : IsW w' B0 B1 v xs :=
  h.chg (Chg.of_below c) hB (.inr (Nat.zero_le _))
theorem IsW.wide {B0 B1 C0 C1 : Nat} {w : World} {v : Value} {xs : List IV} (h : IsW w B0 B1 v xs) (h0 : C0 ≤ B0) (h1 : B1 ≤ C1) : IsW w C0 C1 v xs := by
  obtain ⟨a, cap, e, h2, h3, h4⟩ := h
  refine ⟨a, cap, e, h2, h3, fun i hi => ?_⟩
  obtain ⟨g, p, e, hg0, hg1, r⟩ := h4 i hi
  exact ⟨g, p, e, by omega, by omega, r⟩
/-- one of them is replaced -/
theorem IsW.upd {B0 B1 : Nat} {w w' : World} {a : Option Addr} {n cap : Nat} {xs : List IV} (h : IsW w B0 B1 (.slice a n cap) xs) {g p k : Nat} (ha : a = some ⟨g, p, none⟩) (hk : k < n) {x : IV}
    (hx : TriW w' g (p + k * 3) x) (ho : ∀ i y, i ≠ k → TriW w g (p + i * 3) y → TriW w' g (p + i * 3) y) : IsW w' B0 B1 (.slice a n cap) (xs.set k x) := by
  obtain ⟨a', cap', e, h1, h2, h3⟩ := h
  injection e with e1 e2 e3
  subst e1
  subst e3
  subst e2
  subst ha
  refine ⟨_, cap, by rw [List.length_set], by rw [List.length_set]; exact h1, h2, fun i hi => ?_⟩
  rw [List.length_set] at hi
  obtain ⟨g', p', e, hg0, hg1, hf⟩ := h3 i hi
  cases e
  refine ⟨g, p, rfl, hg0, hg1, ?_⟩
  by_cases hik : i = k
  · subst hik
    rw [getD_lt (by rw [List.length_set]; exact hi), List.getElem_set_self]
    exact hx
  · have := ho i _ hik hf
    rwa [getD_lt (by rw [List.length_set]; exact hi), List.getElem_set_ne (by omega), ← getD_lt (d := iz) hi]
end Go.Proofs.Ytopnomklfkkjfaa
