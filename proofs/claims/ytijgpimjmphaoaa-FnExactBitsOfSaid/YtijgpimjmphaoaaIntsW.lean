/- Slices of numbers in blocks of their own, and what marking one does; how they go on from one world to the next. -/
import Derived.Test.YtijgpimjmphaoaaSList
namespace Go.Proofs.Ytijgpimjmphaoaa
open Go.ChangeShapes Go.WideShapes Go.ChangeAt Go.RowKit
set_option linter.unusedVariables false

/-- a slice of numbers in blocks from B0 to B1-1 -/
def IntsW (w : World) (B0 B1 : Nat) (v : Value) (xs : List Int) : Prop :=
  ∃ (a : Option Addr) (cap : Nat), v = .slice a xs.length cap ∧ xs.length ≤ cap ∧ cap ≤ maxLen ∧
    ∀ i, i < xs.length → ∃ g p, a = some ⟨g, p, none⟩ ∧ B0 ≤ g ∧ g < B1 ∧ w.cell? ⟨g, p + i, none⟩ = some (.int .i64 (xs.getD i 0)) ∧ w.frozen? ⟨g, p + i, none⟩ = false
theorem IntsW.ints {w : World} {B0 B1 : Nat} {v : Value} {xs : List Int} (h : IntsW w B0 B1 v xs) : Ints w v xs := by
  obtain ⟨a, cap, rfl, h1, h2, h3⟩ := h
  refine ⟨a, cap, rfl, h1, h2, fun i hi => ?_⟩
  obtain ⟨g, p, e, _, _, hc, _⟩ := h3 i hi
  exact ⟨g, p, e, hc⟩
theorem IntsW.chg {lo hi B0 B1 : Nat} {w w' : World} {v : Value} {xs : List Int} (h : IntsW w B0 B1 v xs) (c : Chg lo hi w w') (hB : B1 ≤ w.heap.size) (hh : B1 ≤ lo ∨ hi ≤ B0) : IntsW w' B0 B1 v xs := by
  obtain ⟨a, cap, rfl, h1, h2, h3⟩ := h
  refine ⟨a, cap, rfl, h1, h2, fun i hi => ?_⟩
  obtain ⟨g, p, e, hg0, hg1, hc, hf⟩ := h3 i hi
  have hb := c.block g (by omega) (by omega)
  exact ⟨g, p, e, hg0, hg1, (World.cell?_of_block hb).trans hc, (World.frozen?_of_block hb).trans hf⟩
theorem IntsW.of_own {w w' : World} {v : Value} {ys : List Int} (h : OwnI w v ys w') : IntsW w' w.heap.size w'.heap.size v ys := by
  rcases h.own.2 with ⟨e, _⟩ | ⟨g, cap, cur, rfl, hb, hbl, hnc, hcm, hcs, htk⟩
  · exact absurd e h.nn
  · refine ⟨some ⟨g, 0, none⟩, cap, rfl, hnc, hcm, fun i hi => ⟨g, 0, rfl, hb, (Array.getElem?_eq_some_iff.1 hbl).1, ?_, ?_⟩⟩
    · have := h.own.cells (g := g) rfl i (.int .i64 (ys.getD i 0)) (by rw [getD_lt hi]; simp)
      rw [add0] at this
      rw [Nat.zero_add]; exact this
    · simp [World.frozen?, hbl]
/-- the call returns a new slice of numbers, perhaps nil; nothing that was there changes -/
def NewR (ys : List Int) (w : World) (e : Ending) (w' : World) : Prop := ∃ v, e = .returned v ∧ IntsW w' w.heap.size w'.heap.size v ys ∧ Below w.heap.size w w'
theorem NewR.of_new {ys : List Int} {w : World} {e : Ending} {w' : World} (h : NewI ys w e w') : NewR ys w e w' := by
  obtain ⟨v, rfl, h⟩ := h
  exact ⟨v, rfl, IntsW.of_own h, h.bel⟩

def mk1 (n : Nat) : List Int := (List.range n).map (fun i : Nat => 1 + (i : Int))
theorem mk1_len (n : Nat) : (mk1 n).length = n := by simp [mk1]
theorem mk1_get {n i : Nat} (h : i < n) : (mk1 n).getD i 0 = 1 + i := by
  rw [getD_lt (by rw [mk1_len]; exact h)]
  simp [mk1]
theorem IntsW.marked {w w' : World} {B0 B1 : Nat} {a : Option Addr} {n cap : Nat} {xs : List Int} (h : IntsW w B0 B1 (.slice a n cap) xs) (hn : n = xs.length) (hm : Marked a n 1 w w') : IntsW w' B0 B1 (.slice a n cap) (mk1 n) ∧ Kept B0 B1 w w' := by
  obtain ⟨a', cap', e, h1, h2, h3⟩ := h
  injection e with e1 e2 e3
  subst e1
  subst e3
  rw [← hn] at h1 h3
  refine ⟨⟨a, cap, by rw [mk1_len], by rw [mk1_len]; exact h1, h2, fun i hi => ?_⟩, ⟨hm.os, hm.tape, hm.output, hm.size, fun b hb => hm.block b (fun p => ?_)⟩⟩
  · rw [mk1_len] at hi
    obtain ⟨g, p, e, hg0, hg1, _, hf⟩ := h3 i hi
    exact ⟨g, p, e, hg0, hg1, by rw [hm.inside g p e i hi, mk1_get hi], (hm.frozen _).trans hf⟩
  · by_cases h0 : n = 0
    · exact .inl h0
    · refine .inr (fun e => ?_)
      obtain ⟨g, q, e', hg0, hg1, _⟩ := h3 0 (by omega)
      rw [e] at e'
      injection e' with e'
      injection e' with e' _
      omega
theorem held_of {w : World} {B0 B1 : Nat} {a : Option Addr} {n cap : Nat} (h : IntsW w B0 B1 (.slice a n cap) (mk1 n)) (hn : n ≤ 1048576) :
    Calls Try.prog 36 #[.slice a n cap, .int .i64 1] w fun e w' => e = .returned (.int .i64 (1 + n)) ∧ w = w' := by
  obtain ⟨a', cap', e, h1, h2, h3⟩ := h
  injection e with e1 e2 e3
  subst e1
  subst e3
  rw [mk1_len] at h3
  exact heldIntS_any w a n cap 1 hn (by omega) (by omega) (fun i hi => by
    obtain ⟨g, p, e, _, _, hc, _⟩ := h3 i hi
    exact ⟨g, p, e, by rw [hc, mk1_get hi]⟩)
theorem mark_of {w : World} {B0 B1 : Nat} {a : Option Addr} {n cap : Nat} {xs : List Int} (h : IntsW w B0 B1 (.slice a n cap) xs) (hn : n = xs.length) (hl : n ≤ 1048576) :
    Calls Try.prog 35 #[.slice a n cap, .int .i64 1] w fun e w' => e = .returned (.int .i64 (1 + n)) ∧ IntsW w' B0 B1 (.slice a n cap) (mk1 n) ∧ Kept B0 B1 w w' := by
  have h0 := h
  obtain ⟨a', cap', e, h1, h2, h3⟩ := h
  injection e with e1 e2 e3
  subst e1
  subst e3
  rw [← hn] at h3
  exact (markIntS_any w a n cap 1 hl (by omega) (by omega) (fun i hi => by
    obtain ⟨g, p, e, _, _, hc, hf⟩ := h3 i hi
    exact ⟨g, p, _, e, hc, hf⟩)).mono fun e w' ⟨he, hm⟩ => ⟨he, h0.marked hn hm⟩
theorem eqs_c (w : World) (va vb : Value) (xs : List Int) (ha : Ints w va xs) (hb : Ints w vb xs) :
    Calls Try.prog 34 #[va, vb] w fun e w' => e = .returned (.bool true) ∧ Chg 0 0 w w' :=
  (eqIntS_any w va vb xs xs ha hb).mono fun e w' ⟨he, n, hn⟩ => ⟨by rw [he]; simp, by rw [hn]; exact Chg.of_drewN w n⟩
end Go.Proofs.Ytijgpimjmphaoaa
