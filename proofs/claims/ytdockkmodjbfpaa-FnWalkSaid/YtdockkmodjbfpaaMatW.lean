/- What becomes of a matrix in memory where one word is stored, or one row is replaced by a new one. -/
import Derived.Test.YtdockkmodjbfpaaValid
namespace Go.Proofs.Ytdockkmodjbfpaa
open Go.ChangeShapes Go.WideShapes Go.ChangeAt Go.RowKit
set_option linter.unusedVariables false

def mput (xss : List (List Int)) (i j : Nat) (x : Int) : List (List Int) := xss.set i ((xss.getD i []).set j x)
theorem getD_set {α : Type} (l : List α) (i j : Nat) (x d : α) : (l.set i x).getD j d = if i = j ∧ j < l.length then x else l.getD j d := by
  simp only [List.getD, List.getElem?_set]
  by_cases h : i = j
  · subst h
    by_cases h2 : i < l.length
    · simp [h2]
    · simp [h2]
  · simp [h]
theorem mput_len (xss : List (List Int)) (i j : Nat) (x : Int) : (mput xss i j x).length = xss.length := by simp [mput]
theorem mput_row (xss : List (List Int)) (i j k : Nat) (x : Int) : ((mput xss i j x).getD k []).length = (xss.getD k []).length := by
  unfold mput
  rw [getD_set]
  by_cases h : i = k ∧ k < xss.length
  · rw [if_pos h, List.length_set, h.1]
  · rw [if_neg h]
theorem mput_get (xss : List (List Int)) (i j k m : Nat) (x : Int) (hi : i < xss.length) (hj : j < (xss.getD i []).length) :
    ((mput xss i j x).getD k []).getD m 0 = if k = i ∧ m = j then x else (xss.getD k []).getD m 0 := by
  unfold mput
  rw [getD_set]
  by_cases h : i = k
  · subst h
    rw [if_pos ⟨rfl, hi⟩, getD_set]
    by_cases h2 : j = m
    · subst h2
      rw [if_pos ⟨rfl, hj⟩, if_pos ⟨rfl, rfl⟩]
    · rw [if_neg (fun hh => h2 hh.1), if_neg (fun hh => h2 hh.2.symm)]
  · rw [if_neg (fun hh => h hh.1), if_neg (fun hh => h hh.1.symm)]

theorem MatAt.store {w : World} {B0 B1 : Nat} {a : Option Addr} {n : Nat} {A : Nat → Option Addr} {L C : Nat → Nat} {X : Nat → Nat → Int} (h : MatAt w B0 B1 a n A L C X) {i j : Nat} (hi : i < n) (hj : j < L i)
    {g p : Nat} (hA : A i = some ⟨g, p, none⟩) (x : Int) : MatAt (w.setCell ⟨g, p + j, none⟩ (.int .i64 x)) B0 B1 a n A L C (fun k m => if k = i ∧ m = j then x else X k m) := by
  refine ⟨fun k hk => ?_, fun k hk m hm => ?_, h.apart⟩
  · obtain ⟨b, o, rfl, h1, h2, h3, h4⟩ := h.top k hk
    refine ⟨b, o, rfl, h1, h2, (cell_set_other (.inl ?_)).trans h3, h4.1, h4.2.1, (frozen_set _).trans h4.2.2⟩
    obtain ⟨g', p', e, _, _, _, _, h5⟩ := h.row i hi j hj
    rw [hA] at e; cases e
    exact h5 b o rfl
  · obtain ⟨g', p', e, h1, h2, h3, h4, h5⟩ := h.row k hk m hm
    refine ⟨g', p', e, h1, h2, ?_, (frozen_set _).trans h4, h5⟩
    by_cases hki : k = i
    · subst hki
      rw [hA] at e; cases e
      by_cases hmj : m = j
      · subst hmj
        rw [if_pos ⟨rfl, rfl⟩]
        exact cell_set_same h3
      · rw [if_neg (fun hh => hmj hh.2)]
        exact (cell_set_other (.inr (by omega))).trans h3
    · rw [if_neg (fun hh => hki hh.1)]
      refine (cell_set_other ?_).trans h3
      rcases h.apart k hk i hi hki (by omega) (by omega) g' p' g p e hA with h7 | h7 | h7
      · exact .inl h7
      · exact .inr (by omega)
      · exact .inr (by omega)

theorem MatAt.congr {w : World} {B0 B1 : Nat} {a : Option Addr} {n n' : Nat} {A : Nat → Option Addr} {L L' C : Nat → Nat} {X X' : Nat → Nat → Int} (h : MatAt w B0 B1 a n A L C X) (hn : n' = n) (hL : ∀ j, j < n → L' j = L j)
    (hX : ∀ j, j < n → ∀ i, i < L j → X' j i = X j i) : MatAt w B0 B1 a n' A L' C X' := by
  subst hn
  refine ⟨fun k hk => ?_, fun k hk m hm => ?_, fun j hj j' hj' hne h0 h0' g p g' p' e e' => ?_⟩
  · rw [hL k hk]; exact h.top k hk
  · rw [hL k hk] at hm
    rw [hX k hk m hm]; exact h.row k hk m hm
  · rw [hL j hj] at h0 ⊢
    rw [hL j' hj'] at h0' ⊢
    exact h.apart j hj j' hj' hne h0 h0' g p g' p' e e'
theorem MatAt.mono {w : World} {B0 B1 B2 : Nat} {a : Option Addr} {n : Nat} {A : Nat → Option Addr} {L C : Nat → Nat} {X : Nat → Nat → Int} (h : MatAt w B0 B1 a n A L C X) (hB : B1 ≤ B2) : MatAt w B0 B2 a n A L C X := by
  refine ⟨fun k hk => ?_, fun k hk m hm => ?_, h.apart⟩
  · obtain ⟨b, o, e, h1, h2, h3⟩ := h.top k hk
    exact ⟨b, o, e, h1, by omega, h3⟩
  · obtain ⟨g, p, e, h1, h2, h3⟩ := h.row k hk m hm
    exact ⟨g, p, e, h1, by omega, h3⟩

theorem MatAt.setrow {w w1 : World} {B0 B1 B2 : Nat} {a : Option Addr} {n : Nat} {A : Nat → Option Addr} {L C : Nat → Nat} {X : Nat → Nat → Int} (h : MatAt w B0 B1 a n A L C X) (e1 : ∀ b, B0 ≤ b → b < B1 → w1.heap[b]? = w.heap[b]?)
    {i b o g len c : Nat} {Y : Nat → Int} (hi : i < n) (ha : a = some ⟨b, o, none⟩) (hg1 : B1 ≤ g) (hg2 : g < B2) (hlc : len ≤ c) (hcm : c ≤ maxLen)
    (hY : ∀ m, m < len → w1.cell? ⟨g, m, none⟩ = some (.int .i64 (Y m)) ∧ w1.frozen? ⟨g, m, none⟩ = false) :
    MatAt (w1.setCell ⟨b, o + i, none⟩ (.slice (some ⟨g, 0, none⟩) len c)) B0 B2 a n (fun k => if k = i then some ⟨g, 0, none⟩ else A k) (fun k => if k = i then len else L k) (fun k => if k = i then c else C k)
      (fun k m => if k = i then Y m else X k m) := by
  have h' := h.of_blocks e1
  subst ha
  obtain ⟨b', o', eb, hb1, hb2, hbc, _⟩ := h'.top i hi
  injection eb with eb
  injection eb with eb eo
  subst eb
  subst eo
  refine ⟨fun k hk => ?_, fun k hk m hm => ?_, fun j hj j' hj' hne h0 h0' g1 p1 g2 p2 ee ee' => ?_⟩
  · obtain ⟨b', o', ek, h1, h2, h3, h4⟩ := h'.top k hk
    injection ek with ek
    injection ek with ek eo
    subst ek
    subst eo
    by_cases hki : k = i
    · subst hki
      simp only [if_true]
      exact ⟨b, o, rfl, hb1, by omega, cell_set_same hbc, hlc, hcm, (frozen_set _).trans h4.2.2⟩
    · simp only [if_neg hki]
      exact ⟨b, o, rfl, hb1, by omega, (cell_set_other (.inr (by omega))).trans h3, h4.1, h4.2.1, (frozen_set _).trans h4.2.2⟩
  · by_cases hki : k = i
    · subst hki
      simp only [if_true] at hm ⊢
      refine ⟨g, 0, rfl, by omega, hg2, ?_, ?_, fun b' o' e => ?_⟩
      · rw [Nat.zero_add]; exact (cell_set_other (.inl (by omega))).trans (hY m hm).1
      · rw [Nat.zero_add]; exact (frozen_set _).trans (hY m hm).2
      · injection e with e; injection e with e _; omega
    · simp only [if_neg hki] at hm ⊢
      obtain ⟨g', p', e, h1, h2, h3, h4, h5⟩ := h'.row k hk m hm
      exact ⟨g', p', e, h1, by omega, (cell_set_other (.inl (h5 b o rfl).symm)).trans h3, (frozen_set _).trans h4, h5⟩
  · by_cases hji : j = i <;> by_cases hji' : j' = i
    · omega
    · subst hji
      simp only [if_true, if_neg hji'] at *
      obtain ⟨g', p', e, h1, h2, _⟩ := h'.row j' hj' 0 h0'
      rw [e] at ee'
      injection ee' with ee'; injection ee' with ee' _
      injection ee with ee; injection ee with ee _
      exact .inl (by omega)
    · subst hji'
      simp only [if_true, if_neg hji] at *
      obtain ⟨g', p', e, h1, h2, _⟩ := h'.row j hj 0 h0
      rw [e] at ee
      injection ee' with ee'; injection ee' with ee' _
      injection ee with ee; injection ee with ee _
      exact .inl (by omega)
    · simp only [if_neg hji, if_neg hji'] at *
      exact h'.apart j hj j' hj' hne h0 h0' g1 p1 g2 p2 ee ee'
end Go.Proofs.Ytdockkmodjbfpaa
