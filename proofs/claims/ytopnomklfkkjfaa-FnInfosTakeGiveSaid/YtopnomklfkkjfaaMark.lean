/- What the marking and the holding helpers of the laws do to rows: the first writes consecutive numbers into the cells of the rows alone, the second tells that they stand there. -/
import Derived.Test.YtopnomklfkkjfaaTo
namespace Go.Proofs.Ytopnomklfkkjfaa
open Go.ChangeShapes Go.WideShapes Go.ChangeAt Go.RowKit
set_option linter.unusedVariables false

theorem cell_set_same {w : World} {g p : Nat} {u v : Value} (h : w.cell? ⟨g, p, none⟩ = some u) : (w.setCell ⟨g, p, none⟩ v).cell? ⟨g, p, none⟩ = some v := by
  unfold World.cell? at h ⊢
  simp only [World.setCell, Array.getElem?_modify, if_pos]
  cases hb : w.heap[g]? with
  | none => rw [hb] at h; simp at h
  | some o =>
    rw [hb] at h
    cases o with
    | cells c t f =>
      have hp : p < c.size := by
        rcases Nat.lt_or_ge p c.size with h' | h'
        · exact h'
        · simp [Array.getElem?_eq_none h'] at h
      simp [hp]
    | _ => simp at h
theorem cell_set_other {w : World} {g p c o : Nat} {v : Value} (h : c ≠ g ∨ o ≠ p) : (w.setCell ⟨g, p, none⟩ v).cell? ⟨c, o, none⟩ = w.cell? ⟨c, o, none⟩ := by
  by_cases hc : c = g
  · subst hc
    have ho : o ≠ p := by rcases h with h | h <;> omega
    unfold World.cell?
    simp only [World.setCell, Array.getElem?_modify, if_pos]
    cases hb : w.heap[c]? with
    | none => rfl
    | some o =>
      cases o with
      | cells d t f => simp [Ne.symm ho]
      | _ => rfl
  · exact World.cell?_of_block (Below.heap_setCell w ⟨g, p, none⟩ v c hc)
theorem frozen_set {w : World} {a : Addr} {v : Value} (b : Addr) : (w.setCell a v).frozen? b = w.frozen? b := by
  unfold World.frozen?
  by_cases hc : b.block = a.block
  · simp only [World.setCell, Array.getElem?_modify, hc, if_pos]
    cases hb : w.heap[a.block]? with
    | none => rfl
    | some o => cases o <;> rfl
  · rw [Below.heap_setCell w a v b.block hc]

/-- n cells from p on in block g have been written, from k on one after the other; nothing else has changed -/
structure Marked (a : Option Addr) (n : Nat) (k : Int) (w w' : World) : Prop where
  os : w'.os = w.os
  tape : w'.tape = w.tape
  output : w'.output = w.output
  size : w'.heap.size = w.heap.size
  block : ∀ b, (∀ p, n = 0 ∨ a ≠ some ⟨b, p, none⟩) → w'.heap[b]? = w.heap[b]?
  frozen : ∀ b, w'.frozen? b = w.frozen? b
  inside : ∀ g p, a = some ⟨g, p, none⟩ → ∀ i, i < n → w'.cell? ⟨g, p + i, none⟩ = some (.int .i64 (k + i))
  outside : ∀ g p, a = some ⟨g, p, none⟩ → ∀ o, (o < p ∨ p + n ≤ o) → w'.cell? ⟨g, o, none⟩ = w.cell? ⟨g, o, none⟩
theorem Marked.zero (a : Option Addr) (k : Int) (w : World) : Marked a 0 k w w := ⟨rfl, rfl, rfl, rfl, fun _ _ => rfl, fun _ => rfl, fun _ _ _ i hi => by omega, fun _ _ _ _ _ => rfl⟩
theorem Marked.step {g p n : Nat} {k : Int} {w w' : World} (h : Marked (some ⟨g, p, none⟩) n k w w') {u : Value} (hc : w.cell? ⟨g, p + n, none⟩ = some u) :
    Marked (some ⟨g, p, none⟩) (n + 1) k w (w'.setCell ⟨g, p + n, none⟩ (.int .i64 (k + n))) := by
  refine ⟨h.os, h.tape, h.output, by simpa [World.setCell] using h.size, fun b hb => ?_, fun b => (frozen_set b).trans (h.frozen b), fun g' p' e i hi => ?_, fun g' p' e o ho => ?_⟩
  · have : b ≠ g := fun e => by
      rcases hb p with h' | h'
      · omega
      · exact h' (by rw [e])
    exact (Below.heap_setCell w' ⟨g, p + n, none⟩ _ b this).trans (h.block b (fun q => (hb q).elim (fun h' => by omega) .inr))
  · cases e
    by_cases hin : i = n
    · subst hin
      exact cell_set_same ((h.outside g p rfl (p + i) (.inr (Nat.le_refl _))).trans hc)
    · exact (cell_set_other (.inr (by omega))).trans (h.inside g p rfl i (by omega))
  · cases e
    exact (cell_set_other (.inr (by omega))).trans (h.outside g p rfl o (by omega))

/-- the call returns the next number, and has marked -/
def Marks (a : Option Addr) (n : Nat) (k : Int) (w : World) (e : Ending) (w' : World) : Prop := e = .returned (.int .i64 (k + n)) ∧ Marked a n k w w'
theorem marks_mk {a : Option Addr} {n : Nat} {k x : Int} {w w' : World} (h : x = k + n) (hm : Marked a n k w w') : Marks a n k w (.returned (.int .i64 x)) w' := ⟨by rw [h], hm⟩

theorem Marked.cell_same {a : Option Addr} {n : Nat} {k : Int} {w w' : World} (h : Marked a n k w w') (c o : Nat) (hh : ∀ g p, a = some ⟨g, p, none⟩ → c ≠ g ∨ o < p ∨ p + n ≤ o) :
    w'.cell? ⟨c, o, none⟩ = w.cell? ⟨c, o, none⟩ := by
  by_cases he : ∃ p, a = some ⟨c, p, none⟩
  · obtain ⟨p, rfl⟩ := he
    rcases hh c p rfl with h1 | h1
    · exact absurd rfl h1
    · exact h.outside c p rfl o h1
  · exact World.cell?_of_block (h.block c (fun p => .inr (fun e => he ⟨p, e⟩)))

/-- blocks outside B0 .. B1-1 are as they were -/
structure Kept (B0 B1 : Nat) (w w' : World) : Prop where
  os : w'.os = w.os
  tape : w'.tape = w.tape
  output : w'.output = w.output
  size : w'.heap.size = w.heap.size
  block : ∀ b, (b < B0 ∨ B1 ≤ b) → w'.heap[b]? = w.heap[b]?
theorem Kept.refl (B0 B1 : Nat) (w : World) : Kept B0 B1 w w := ⟨rfl, rfl, rfl, rfl, fun _ _ => rfl⟩
theorem Kept.trans {B0 B1 : Nat} {a b c : World} (h : Kept B0 B1 a b) (k : Kept B0 B1 b c) : Kept B0 B1 a c :=
  ⟨k.os.trans h.os, k.tape.trans h.tape, k.output.trans h.output, k.size.trans h.size, fun i hi => (k.block i hi).trans (h.block i hi)⟩
theorem Kept.below {B0 B1 B : Nat} {a b w : World} (h : Kept B0 B1 a b) (hb : Below B w a) (hB : B ≤ B0) : Below B w b :=
  ⟨h.os.trans hb.os, h.tape.trans hb.tape, h.output.trans hb.output, by rw [h.size]; exact hb.size, fun k hk => (h.block k (.inl (by omega))).trans (hb.block k hk)⟩

/-- rows whose cells lie apart, in blocks from B0 to B1-1; the upper row lies in a block of its own -/
structure MatAt (w : World) (B0 B1 : Nat) (a : Option Addr) (n : Nat) (A : Nat → Option Addr) (L C : Nat → Nat) (X : Nat → Nat → Int) : Prop where
  top : ∀ j, j < n → ∃ b o, a = some ⟨b, o, none⟩ ∧ B0 ≤ b ∧ b < B1 ∧ w.cell? ⟨b, o + j, none⟩ = some (.slice (A j) (L j) (C j)) ∧ L j ≤ C j ∧ C j ≤ maxLen ∧ w.frozen? ⟨b, o + j, none⟩ = false
  row : ∀ j, j < n → ∀ i, i < L j → ∃ g p, A j = some ⟨g, p, none⟩ ∧ B0 ≤ g ∧ g < B1 ∧ w.cell? ⟨g, p + i, none⟩ = some (.int .i64 (X j i)) ∧ w.frozen? ⟨g, p + i, none⟩ = false ∧ ∀ b o, a = some ⟨b, o, none⟩ → b ≠ g
  apart : ∀ j, j < n → ∀ j', j' < n → j ≠ j' → 0 < L j → 0 < L j' → ∀ g p g' p', A j = some ⟨g, p, none⟩ → A j' = some ⟨g', p', none⟩ → g ≠ g' ∨ p + L j ≤ p' ∨ p' + L j' ≤ p

def off (L : Nat → Nat) : Nat → Nat
  | 0 => 0
  | j + 1 => off L j + L j
def marks (L : Nat → Nat) (k : Int) (X : Nat → Nat → Int) (m : Nat) (j i : Nat) : Int := if j < m then k + off L j + i else X j i

theorem MatAt.marked {w w' : World} {B0 B1 : Nat} {a : Option Addr} {n : Nat} {A : Nat → Option Addr} {L C : Nat → Nat} {X : Nat → Nat → Int} {k : Int} {m : Nat} (hm : m < n)
    (h : MatAt w B0 B1 a n A L C (marks L k X m)) (hk : Marked (A m) (L m) (k + off L m) w w') : MatAt w' B0 B1 a n A L C (marks L k X (m + 1)) := by
  refine ⟨fun j hj => ?_, fun j hj i hi => ?_, h.apart⟩
  · obtain ⟨b, o, rfl, h1, h2, h3, h4⟩ := h.top j hj
    refine ⟨b, o, rfl, h1, h2, (hk.cell_same b (o + j) fun g p e => ?_).trans h3, h4.1, h4.2.1, (hk.frozen _).trans h4.2.2⟩
    by_cases hL : 0 < L m
    · obtain ⟨g', p', e', _, _, _, _, h5⟩ := h.row m hm 0 hL
      rw [e] at e'; cases e'
      exact .inl (h5 b o rfl)
    · omega
  · obtain ⟨g, p, e, h1, h2, h3, h4, h5⟩ := h.row j hj i hi
    refine ⟨g, p, e, h1, h2, ?_, (hk.frozen _).trans h4, h5⟩
    by_cases hjm : j = m
    · subst hjm
      rw [hk.inside g p e i hi]
      simp [marks]
    · have hx : marks L k X (m + 1) j i = marks L k X m j i := by
        unfold marks
        by_cases h6 : j < m
        · rw [if_pos h6, if_pos (by omega)]
        · rw [if_neg h6, if_neg (by omega)]
      rw [hx]
      refine (hk.cell_same g (p + i) fun g' p' e' => ?_).trans h3
      by_cases hL : 0 < L m
      · rcases h.apart j hj m hm hjm (by omega) hL g p g' p' e e' with h7 | h7 | h7
        · exact .inl h7
        · omega
        · omega
      · omega
theorem MatAt.kept {w w' : World} {B0 B1 : Nat} {a : Option Addr} {n : Nat} {A : Nat → Option Addr} {L C : Nat → Nat} {X : Nat → Nat → Int} {k : Int} {m : Nat} (hm : m < n)
    (h : MatAt w B0 B1 a n A L C X) (hk : Marked (A m) (L m) k w w') : Kept B0 B1 w w' :=
  ⟨hk.os, hk.tape, hk.output, hk.size, fun b hb => hk.block b fun p => by
    by_cases hL : 0 < L m
    · obtain ⟨g, p', e, h1, h2, _⟩ := h.row m hm 0 hL
      refine .inr (fun e' => ?_)
      rw [e] at e'; cases e'
      omega
    · exact .inl (by omega)⟩

/-- the call returns the next number; the rows are marked; other blocks are as they were -/
def MarksAll (B0 B1 : Nat) (a : Option Addr) (n : Nat) (A : Nat → Option Addr) (L C : Nat → Nat) (k : Int) (w : World) (e : Ending) (w' : World) : Prop :=
  e = .returned (.int .i64 (k + off L n)) ∧ MatAt w' B0 B1 a n A L C (fun j i => k + off L j + i) ∧ Kept B0 B1 w w'
theorem marksAll_mk {B0 B1 : Nat} {a : Option Addr} {n : Nat} {A : Nat → Option Addr} {L C : Nat → Nat} {X : Nat → Nat → Int} {k x : Int} {w w' : World} (hx : x = k + off L n)
    (h : MatAt w' B0 B1 a n A L C (marks L k X n)) (hk : Kept B0 B1 w w') : MarksAll B0 B1 a n A L C k w (.returned (.int .i64 x)) w' :=
  ⟨by rw [hx], ⟨h.top, fun j hj i hi => by
    obtain ⟨g, p, e, h1, h2, h3, h4⟩ := h.row j hj i hi
    refine ⟨g, p, e, h1, h2, ?_, h4⟩
    rw [h3]; simp [marks, hj], h.apart⟩, hk⟩

theorem off_mono (L : Nat → Nat) {j n : Nat} (h : j ≤ n) : off L j ≤ off L n := by
  induction n with
  | zero => have : j = 0 := by omega
            rw [this]; exact Nat.le_refl _
  | succ n ih =>
    by_cases hj : j ≤ n
    · exact Nat.le_trans (ih hj) (Nat.le_add_right _ _)
    · have : j = n + 1 := by omega
      rw [this]; exact Nat.le_refl _
theorem off_row (L : Nat → Nat) {j n : Nat} (h : j < n) : off L j + L j ≤ off L n := off_mono L (j := j + 1) h

end Go.Proofs.Ytopnomklfkkjfaa
