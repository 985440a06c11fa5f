/- What the proofs stand on, part 1. -/
import Derived.Test.YtaalnjinocicgaaRows
import Derived.WalkKit
import Derived.ProofKit
import Derived.OpenShut
import Derived.Below
import Derived.Lib.Hide
import Derived.Deep.Draws
import Derived.Deep.OwnRows
import Derived.Deep.QuietTactic
import Derived.BigQuiet
import Derived.LoopTactic
import Derived.Outline
import Derived.OwnWalk
import Derived.Laws.AppendOwn
import Derived.Maps.AppendAt
import Derived.Deep.MidRow
import Derived.Deep.WholeRow
import Derived.Laws.ResultCell
import Derived.Handy
import Derived.Tactics
import Derived.Deep.RegionWith
import Derived.Deep.RegionHeld3
import Derived.Deep.RegionHeld
import Derived.BigFrame
import Derived.Deep.Matrix
set_option linter.unusedSimpArgs false
set_option linter.unusedVariables false
namespace Go.Proofs.Ytaalnjinocicgaa
open Go.ChangeShapes Go.WideShapes Go.ChangeAt Go.RowKit
def Ints (w : World) (v : Value) (xs : List Int) : Prop :=
  ∃ (a : Option Addr) (cap : Nat), v = .slice a xs.length cap ∧ xs.length ≤ cap ∧ cap ≤ maxLen ∧
    ∀ i, i < xs.length → ∃ b o, a = some ⟨b, o, none⟩ ∧ w.cell? ⟨b, o + i, none⟩ = some (.int .i64 (xs.getD i 0))
def Rows2 (w : World) (v : Value) (xss : List (List Int)) : Prop :=
  ∃ (a : Option Addr) (cap : Nat), v = .slice a xss.length cap ∧ xss.length ≤ cap ∧ cap ≤ maxLen ∧
    ∀ i, i < xss.length → ∃ b o u, a = some ⟨b, o, none⟩ ∧ w.cell? ⟨b, o + i, none⟩ = some u ∧ Ints w u (xss.getD i [])
theorem Ints.drewN {w : World} {v : Value} {xs : List Int} (h : Ints w v xs) (n : Nat) : Ints (w.drewN n) v xs := h
theorem Rows2.drewN {w : World} {v : Value} {xss : List (List Int)} (h : Rows2 w v xss) (n : Nat) : Rows2 (w.drewN n) v xss := h
theorem getD_lt {α : Type} {l : List α} {i : Nat} {d : α} (h : i < l.length) : l.getD i d = l[i] := by simp [List.getD, h]
theorem take_snoc_getD {α : Type} (l : List α) (k : Nat) (d : α) (h : k < l.length) : l.take (k + 1) = l.take k ++ [l.getD k d] := by
  rw [getD_lt h, List.take_succ_eq_append_getElem h]
end Go.Proofs.Ytaalnjinocicgaa
namespace Go.Proofs.Ytaalnjinocicgaa
open Go.ChangeShapes Go.WideShapes Go.ChangeAt Go.RowKit
set_option linter.unusedVariables false
def wordsOk (xs : List Int) : Bool := decide ((∀ x ∈ xs, 0 ≤ x ∧ x ≤ 9999) ∧ xs.length = 4)
end Go.Proofs.Ytaalnjinocicgaa
namespace Go.Proofs.Ytaalnjinocicgaa
open Go.ChangeShapes Go.WideShapes Go.ChangeAt Go.RowKit
set_option linter.unusedVariables false
theorem intInfo : (Try.prog.info? 3).map (fun i => (i.zero, i.size, i.bytes)) = some (some (.int .i64 0), 1, 8) := by kernel_rfl
theorem intsInfo : (Try.prog.info? 24).map (fun i => (i.zero, i.size, i.bytes)) = some (some (.slice none 0 0), 1, 24) := by kernel_rfl
theorem cell_lt {w : World} {b o : Nat} {v : Value} (h : w.cell? ⟨b, o, none⟩ = some v) : b < w.heap.size := by
  rcases Nat.lt_or_ge b w.heap.size with h' | h'
  · exact h'
  · simp [World.cell?, Array.getElem?_eq_none h'] at h
theorem Ints.below {B : Nat} {w w' : World} {v : Value} {xs : List Int} (h : Ints w v xs) (hb : Below w.heap.size w w') : Ints w' v xs := by
  obtain ⟨a, cap, rfl, h1, h2, h3⟩ := h
  refine ⟨a, cap, rfl, h1, h2, fun i hi => ?_⟩
  obtain ⟨b, o, rfl, hc⟩ := h3 i hi
  exact ⟨b, o, rfl, (hb.cell (p := ⟨b, o + i, none⟩) (cell_lt hc)).trans hc⟩
theorem Rows2.below {w w' : World} {v : Value} {xss : List (List Int)} (h : Rows2 w v xss) (hb : Below w.heap.size w w') : Rows2 w' v xss := by
  obtain ⟨a, cap, rfl, h1, h2, h3⟩ := h
  refine ⟨a, cap, rfl, h1, h2, fun i hi => ?_⟩
  obtain ⟨b, o, u, rfl, hc, hu⟩ := h3 i hi
  exact ⟨b, o, u, rfl, (hb.cell (p := ⟨b, o + i, none⟩) (cell_lt hc)).trans hc, Ints.below (B := 0) hu hb⟩
end Go.Proofs.Ytaalnjinocicgaa
namespace Go.Proofs.Ytaalnjinocicgaa
open Go.ChangeShapes Go.WideShapes Go.ChangeAt Go.RowKit
set_option linter.unusedVariables false
theorem cell_set_same {w : World} {g p : Nat} {u v : Value} (h : w.cell? ⟨g, p, none⟩ = some u) : (w.setCell ⟨g, p, none⟩ v).cell? ⟨g, p, none⟩ = some v := by
  unfold World.cell? at h ⊢
  simp only [World.setCell, Array.getElem?_modify, if_pos]
  cases hb : w.heap[g]? with
  | none => rw [hb] at h; simp at h
  | some o =>
    rw [hb] at h
    cases o with
    | cells c t f =>
      have hp : p < c.size := by
        rcases Nat.lt_or_ge p c.size with h' | h'
        · exact h'
        · simp [Array.getElem?_eq_none h'] at h
      simp [hp]
    | _ => simp at h
theorem cell_set_other {w : World} {g p c o : Nat} {v : Value} (h : c ≠ g ∨ o ≠ p) : (w.setCell ⟨g, p, none⟩ v).cell? ⟨c, o, none⟩ = w.cell? ⟨c, o, none⟩ := by
  by_cases hc : c = g
  · subst hc
    have ho : o ≠ p := by rcases h with h | h <;> omega
    unfold World.cell?
    simp only [World.setCell, Array.getElem?_modify, if_pos]
    cases hb : w.heap[c]? with
    | none => rfl
    | some o =>
      cases o with
      | cells d t f => simp [Ne.symm ho]
      | _ => rfl
  · exact World.cell?_of_block (Below.heap_setCell w ⟨g, p, none⟩ v c hc)
theorem frozen_set {w : World} {a : Addr} {v : Value} (b : Addr) : (w.setCell a v).frozen? b = w.frozen? b := by
  unfold World.frozen?
  by_cases hc : b.block = a.block
  · simp only [World.setCell, Array.getElem?_modify, hc, if_pos]
    cases hb : w.heap[a.block]? with
    | none => rfl
    | some o => cases o <;> rfl
  · rw [Below.heap_setCell w a v b.block hc]
structure MatAt (w : World) (B0 B1 : Nat) (a : Option Addr) (n : Nat) (A : Nat → Option Addr) (L C : Nat → Nat) (X : Nat → Nat → Int) : Prop where
  top : ∀ j, j < n → ∃ b o, a = some ⟨b, o, none⟩ ∧ B0 ≤ b ∧ b < B1 ∧ w.cell? ⟨b, o + j, none⟩ = some (.slice (A j) (L j) (C j)) ∧ L j ≤ C j ∧ C j ≤ maxLen ∧ w.frozen? ⟨b, o + j, none⟩ = false
  row : ∀ j, j < n → ∀ i, i < L j → ∃ g p, A j = some ⟨g, p, none⟩ ∧ B0 ≤ g ∧ g < B1 ∧ w.cell? ⟨g, p + i, none⟩ = some (.int .i64 (X j i)) ∧ w.frozen? ⟨g, p + i, none⟩ = false ∧ ∀ b o, a = some ⟨b, o, none⟩ → b ≠ g
  apart : ∀ j, j < n → ∀ j', j' < n → j ≠ j' → 0 < L j → 0 < L j' → ∀ g p g' p', A j = some ⟨g, p, none⟩ → A j' = some ⟨g', p', none⟩ → g ≠ g' ∨ p + L j ≤ p' ∨ p' + L j' ≤ p
end Go.Proofs.Ytaalnjinocicgaa
namespace Go.Proofs.Ytaalnjinocicgaa
open Go.ChangeShapes Go.WideShapes Go.ChangeAt Go.RowKit
set_option linter.unusedVariables false
theorem MatAt.rows {w : World} {B0 B1 : Nat} {a : Option Addr} {cap : Nat} {A : Nat → Option Addr} {L C : Nat → Nat} {X : Nat → Nat → Int} {xss : List (List Int)}
    (h : MatAt w B0 B1 a xss.length A L C X) (hc : xss.length ≤ cap) (hm : cap ≤ maxLen) (hL : ∀ j, j < xss.length → L j = (xss.getD j []).length) (hX : ∀ j, j < xss.length → ∀ i, i < L j → X j i = (xss.getD j []).getD i 0) :
    Rows2 w (.slice a xss.length cap) xss := by
  refine ⟨a, cap, rfl, hc, hm, fun j hj => ?_⟩
  obtain ⟨b, o, rfl, _, _, h3, h4, h5⟩ := h.top j hj
  refine ⟨b, o, _, rfl, h3, A j, C j, by rw [hL j hj], by rw [← hL j hj]; exact h4, h5.1, fun i hi => ?_⟩
  rw [← hL j hj] at hi
  obtain ⟨g, p, e, _, _, h6, _⟩ := h.row j hj i hi
  exact ⟨g, p, e, by rw [h6, hX j hj i hi]⟩
theorem MatAt.of_blocks {w w' : World} {B0 B1 : Nat} {a : Option Addr} {n : Nat} {A : Nat → Option Addr} {L C : Nat → Nat} {X : Nat → Nat → Int} (h : MatAt w B0 B1 a n A L C X)
    (e : ∀ b, B0 ≤ b → b < B1 → w'.heap[b]? = w.heap[b]?) : MatAt w' B0 B1 a n A L C X := by
  refine ⟨fun j hj => ?_, fun j hj i hi => ?_, h.apart⟩
  · obtain ⟨b, o, e1, h1, h2, h3, h4⟩ := h.top j hj
    exact ⟨b, o, e1, h1, h2, (World.cell?_of_block (e b h1 h2)).trans h3, h4.1, h4.2.1, (World.frozen?_of_block (e b h1 h2)).trans h4.2.2⟩
  · obtain ⟨g, p, e1, h1, h2, h3, h4, h5⟩ := h.row j hj i hi
    exact ⟨g, p, e1, h1, h2, (World.cell?_of_block (e g h1 h2)).trans h3, (World.frozen?_of_block (e g h1 h2)).trans h4, h5⟩
end Go.Proofs.Ytaalnjinocicgaa
namespace Go.Proofs.Ytaalnjinocicgaa
open Go.ChangeShapes Go.WideShapes Go.ChangeAt Go.RowKit
set_option linter.unusedVariables false
theorem add0 (g j : Nat) : (⟨g, 0, none⟩ : Addr).add j = ⟨g, j, none⟩ := by unfold Addr.add; split <;> simp_all
def MatW (w : World) (B0 B1 : Nat) (v : Value) (xss : List (List Int)) : Prop :=
  ∃ (a : Option Addr) (cap : Nat) (A : Nat → Option Addr) (C : Nat → Nat), v = .slice a xss.length cap ∧ xss.length ≤ cap ∧ cap ≤ maxLen ∧
    MatAt w B0 B1 a xss.length A (fun j => (xss.getD j []).length) C (fun j i => (xss.getD j []).getD i 0)
theorem MatW.rows {w : World} {B0 B1 : Nat} {v : Value} {xss : List (List Int)} (h : MatW w B0 B1 v xss) : Rows2 w v xss := by
  obtain ⟨a, cap, A, C, rfl, h1, h2, h3⟩ := h
  exact h3.rows h1 h2 (fun _ _ => rfl) (fun _ _ _ _ => rfl)
theorem MatW.of_blocks {w w' : World} {B0 B1 : Nat} {v : Value} {xss : List (List Int)} (h : MatW w B0 B1 v xss) (e : ∀ b, B0 ≤ b → b < B1 → w'.heap[b]? = w.heap[b]?) : MatW w' B0 B1 v xss := by
  obtain ⟨a, cap, A, C, rfl, h1, h2, h3⟩ := h
  exact ⟨a, cap, A, C, rfl, h1, h2, h3.of_blocks e⟩
end Go.Proofs.Ytaalnjinocicgaa
namespace Go.Proofs.Ytaalnjinocicgaa
open Go.ChangeShapes Go.WideShapes Go.ChangeAt Go.RowKit
set_option linter.unusedVariables false
theorem ret_bool {b c : Bool} {w : World} (h : b = c) : Ending.returned (.bool b) = .returned (.bool c) ∧ w = w := ⟨by rw [h], rfl⟩
theorem in_yes (w : World) (n a b : Int) (h : a ≤ n ∧ n ≤ b) : Calls Try.prog 48 #[.int .i64 n, .int .i64 a, .int .i64 b] w fun e w' => e = .returned (.bool true) ∧ w = w' := by
  obtain ⟨h1, h2⟩ := h
  go_enter Try.func48, Try.ntmps48
  go_wp2
  go_ret
  exact ⟨rfl, rfl⟩
theorem in_no (w : World) (n a b : Int) (h : ¬ (a ≤ n ∧ n ≤ b)) : Calls Try.prog 48 #[.int .i64 n, .int .i64 a, .int .i64 b] w fun e w' => e = .returned (.bool false) ∧ w = w' := by
  by_cases h1 : a ≤ n
  · have h2 : decide (n ≤ b) = false := by simp; omega
    clear h
    go_enter Try.func48, Try.ntmps48
    go_wp2
    go_ret
    exact ⟨rfl, rfl⟩
  · have h2 : decide (a ≤ n) = false := by simpa using h1
    clear h
    go_enter Try.func48, Try.ntmps48
    go_wp2
    go_ret
    exact ⟨rfl, rfl⟩
theorem words_no {xs : List Int} {k : Nat} (hk : k < xs.length) (h : ¬ (0 ≤ xs.getD k 0 ∧ xs.getD k 0 ≤ 9999)) : wordsOk xs = false := by
  unfold wordsOk
  refine decide_eq_false (fun hh => h ?_)
  rw [getD_lt hk]
  exact hh.1 _ (List.getElem_mem hk)
theorem words_end {xs : List Int} {n : Nat} (hn : n = xs.length) (h : ∀ i, i < n → 0 ≤ xs.getD i 0 ∧ xs.getD i 0 ≤ 9999) : wordsOk xs = ((n : Int) == 4) := by
  subst hn
  unfold wordsOk
  have h1 : ∀ x ∈ xs, 0 ≤ x ∧ x ≤ 9999 := fun x hx => by
    obtain ⟨i, hi, rfl⟩ := List.getElem_of_mem hx
    have := h i hi
    rwa [getD_lt hi] at this
  by_cases h4 : xs.length = 4
  · have : ((xs.length : Int) == 4) = true := by simp; omega
    rw [this]; exact decide_eq_true ⟨h1, h4⟩
  · have : ((xs.length : Int) == 4) = false := by simp; omega
    rw [this]; exact decide_eq_false (fun hh => h4 hh.2)
theorem l2Words_any (w : World) (v : Value) (xs : List Int) (h : Ints w v xs) :
    Calls Try.prog 43 #[v] w fun e w' => e = .returned (.bool (wordsOk xs)) ∧ w = w' := by
  obtain ⟨a, ca, rfl, hla, hma, hxa⟩ := h
  unfold maxLen at hma
  obtain ⟨n, hn⟩ : ∃ n, n = xs.length := ⟨_, rfl⟩
  rw [← hn] at hla hxa ⊢
  have HN := Lib.hid hn
  clear hn
  go_enter Try.func43, Try.ntmps43
  go_wp2
  go_loop [3] (fun i => ∃ k : Nat, k ≤ n ∧ i = .int .i64 k ∧ Hid (∀ i, i < k → 0 ≤ xs.getD i 0 ∧ xs.getD i 0 ≤ 9999)) (fun i => n - (intOf i).toNat)
  case atStart => exact ⟨0, Nat.zero_le _, rfl, Lib.hid (fun i hi => by omega)⟩
  case round =>
    obtain ⟨k, hk, rfl, HB⟩ := hrel
    by_cases hlt : k < n
    · obtain ⟨ba, oa, rfl, hca⟩ := hxa k hlt
      obtain ⟨x, hx⟩ : ∃ x, x = xs.getD k 0 := ⟨_, rfl⟩
      rw [← hx] at hca
      have HX := Lib.hid hx
      clear hx hxa
      have hlt' : (k : Int) < (n : Int) := by omega
      by_cases hi : 0 ≤ x ∧ x ≤ 9999
      · have HC := Lib.hid (in_yes w x 0 9999 hi)
        go_wp2_with (go_at_call 48; refine HC.out.mono ?_; rintro e w' ⟨rfl, rfl⟩)
        go_round
        case rel => exact ⟨k + 1, by omega, by go_num, Lib.hid (fun i hik => by
          by_cases hk2 : i = k
          · rw [hk2, ← HX.out]; exact hi
          · exact HB.out i (by omega))⟩
        case measure => simp [intOf]; omega
      · have HC := Lib.hid (in_no w x 0 9999 hi)
        have HW : Hid (wordsOk xs = false) := Lib.hid (words_no (k := k) (by have := HN.out; omega) (by rw [← HX.out]; exact hi))
        clear hi
        go_wp2_with (go_at_call 48; refine HC.out.mono ?_; rintro e w' ⟨rfl, rfl⟩)
        go_ret
        exact ret_bool HW.out.symm
    · go_wp2
      go_ret
      have e : k = n := by omega
      subst e
      exact ret_bool (words_end HN.out HB.out).symm
end Go.Proofs.Ytaalnjinocicgaa
namespace Go.Proofs.Ytaalnjinocicgaa
open Go.ChangeShapes Go.WideShapes Go.ChangeAt Go.RowKit
set_option linter.unusedVariables false
theorem MatAt.store {w : World} {B0 B1 : Nat} {a : Option Addr} {n : Nat} {A : Nat → Option Addr} {L C : Nat → Nat} {X : Nat → Nat → Int} (h : MatAt w B0 B1 a n A L C X) {i j : Nat} (hi : i < n) (hj : j < L i)
    {g p : Nat} (hA : A i = some ⟨g, p, none⟩) (x : Int) : MatAt (w.setCell ⟨g, p + j, none⟩ (.int .i64 x)) B0 B1 a n A L C (fun k m => if k = i ∧ m = j then x else X k m) := by
  refine ⟨fun k hk => ?_, fun k hk m hm => ?_, h.apart⟩
  · obtain ⟨b, o, rfl, h1, h2, h3, h4⟩ := h.top k hk
    refine ⟨b, o, rfl, h1, h2, (cell_set_other (.inl ?_)).trans h3, h4.1, h4.2.1, (frozen_set _).trans h4.2.2⟩
    obtain ⟨g', p', e, _, _, _, _, h5⟩ := h.row i hi j hj
    rw [hA] at e; cases e
    exact h5 b o rfl
  · obtain ⟨g', p', e, h1, h2, h3, h4, h5⟩ := h.row k hk m hm
    refine ⟨g', p', e, h1, h2, ?_, (frozen_set _).trans h4, h5⟩
    by_cases hki : k = i
    · subst hki
      rw [hA] at e; cases e
      by_cases hmj : m = j
      · subst hmj
        rw [if_pos ⟨rfl, rfl⟩]
        exact cell_set_same h3
      · rw [if_neg (fun hh => hmj hh.2)]
        exact (cell_set_other (.inr (by omega))).trans h3
    · rw [if_neg (fun hh => hki hh.1)]
      refine (cell_set_other ?_).trans h3
      rcases h.apart k hk i hi hki (by omega) (by omega) g' p' g p e hA with h7 | h7 | h7
      · exact .inl h7
      · exact .inr (by omega)
      · exact .inr (by omega)
theorem MatAt.congr {w : World} {B0 B1 : Nat} {a : Option Addr} {n n' : Nat} {A : Nat → Option Addr} {L L' C : Nat → Nat} {X X' : Nat → Nat → Int} (h : MatAt w B0 B1 a n A L C X) (hn : n' = n) (hL : ∀ j, j < n → L' j = L j)
    (hX : ∀ j, j < n → ∀ i, i < L j → X' j i = X j i) : MatAt w B0 B1 a n' A L' C X' := by
  subst hn
  refine ⟨fun k hk => ?_, fun k hk m hm => ?_, fun j hj j' hj' hne h0 h0' g p g' p' e e' => ?_⟩
  · rw [hL k hk]; exact h.top k hk
  · rw [hL k hk] at hm
    rw [hX k hk m hm]; exact h.row k hk m hm
  · rw [hL j hj] at h0 ⊢
    rw [hL j' hj'] at h0' ⊢
    exact h.apart j hj j' hj' hne h0 h0' g p g' p' e e'
theorem MatAt.mono {w : World} {B0 B1 B2 : Nat} {a : Option Addr} {n : Nat} {A : Nat → Option Addr} {L C : Nat → Nat} {X : Nat → Nat → Int} (h : MatAt w B0 B1 a n A L C X) (hB : B1 ≤ B2) : MatAt w B0 B2 a n A L C X := by
  refine ⟨fun k hk => ?_, fun k hk m hm => ?_, h.apart⟩
  · obtain ⟨b, o, e, h1, h2, h3⟩ := h.top k hk
    exact ⟨b, o, e, h1, by omega, h3⟩
  · obtain ⟨g, p, e, h1, h2, h3⟩ := h.row k hk m hm
    exact ⟨g, p, e, h1, by omega, h3⟩
end Go.Proofs.Ytaalnjinocicgaa
namespace Go.Proofs.Ytaalnjinocicgaa
open Go.ChangeShapes Go.WideShapes Go.ChangeAt Go.RowKit
set_option linter.unusedVariables false
theorem MatW.top {w : World} {B0 B1 : Nat} {v : Value} {xss : List (List Int)} {i : Nat} (h : MatW w B0 B1 v xss) (hi : i < xss.length) : ∃ b o cap A C, v = .slice (some ⟨b, o, none⟩) xss.length cap ∧ xss.length ≤ cap ∧ cap ≤ maxLen ∧ B0 ≤ b ∧ b < B1 ∧ w.cell? ⟨b, o + i, none⟩ = some (.slice A (xss.getD i []).length C) ∧ w.frozen? ⟨b, o + i, none⟩ = false := by
  obtain ⟨a, cap, A, C, rfl, h1, h2, h3⟩ := h
  obtain ⟨b, o, rfl, k1, k2, k3, _, _, k4⟩ := h3.top i hi
  exact ⟨b, o, cap, A i, C i, rfl, h1, h2, k1, k2, k3, k4⟩
end Go.Proofs.Ytaalnjinocicgaa
namespace Go.Proofs.Ytaalnjinocicgaa
open Go.ChangeShapes Go.WideShapes Go.ChangeAt Go.RowKit
set_option linter.unusedVariables false
structure Chg (lo hi : Nat) (w w' : World) : Prop where
  os : w'.os = w.os
  tape : w'.tape = w.tape
  output : w'.output = w.output
  size : w.heap.size ≤ w'.heap.size
  block : ∀ b, b < w.heap.size → (b < lo ∨ hi ≤ b) → w'.heap[b]? = w.heap[b]?
theorem Below.chg {lo hi S : Nat} {W w w' : World} (h : Below S W w) (c : Chg lo hi w w') (hS : S ≤ w.heap.size) (hh : S ≤ lo ∨ hi = 0) : Below S W w' :=
  ⟨c.os.trans h.os, c.tape.trans h.tape, c.output.trans h.output, Nat.le_trans h.size c.size, fun b hb => (c.block b (by omega) (by omega)).trans (h.block b hb)⟩
theorem MatW.chg {lo hi B0 B1 : Nat} {w w' : World} {v : Value} {xss : List (List Int)} (h : MatW w B0 B1 v xss) (c : Chg lo hi w w') (hB : B1 ≤ w.heap.size) (hh : B1 ≤ lo ∨ hi ≤ B0) : MatW w' B0 B1 v xss :=
  h.of_blocks (fun b h0 h1 => c.block b (by omega) (by omega))
theorem MatAt.chg {lo hi B0 B1 : Nat} {w w' : World} {a : Option Addr} {n : Nat} {A : Nat → Option Addr} {L C : Nat → Nat} {X : Nat → Nat → Int} (h : MatAt w B0 B1 a n A L C X) (c : Chg lo hi w w') (hB : B1 ≤ w.heap.size) (hh : B1 ≤ lo ∨ hi ≤ B0) :
    MatAt w' B0 B1 a n A L C X := h.of_blocks (fun b h0 h1 => c.block b (by omega) (by omega))
end Go.Proofs.Ytaalnjinocicgaa
namespace Go.Proofs.Ytaalnjinocicgaa
open Go.ChangeShapes Go.WideShapes Go.ChangeAt Go.RowKit
set_option linter.unusedVariables false
section
variable {P : Program}
theorem wpList_alloc_arr {ops : Array Oper} {rest : List Oper} {op : Oper} {a : Act} {w : World} {Q : Exit → Act → World → Prop} (hgd : op.guard = none) (t : TypeId) (ho : op.op = .alloc t)
    (z : Array Value) (hz : ∀ w, (zeroValue t).run P w = .ok (.agg z) w)
    (h : wpList P ops Q rest (a.put op.dst (.pointer (some ⟨w.heap.size, 0, none⟩))) (w.alloc (.cells z t))) : wpList P ops Q (op :: rest) a w :=
  wpList_plain hgd fun _ hK => by
    unfold Oper.wp execOp
    simp only [ho, Instr.alloc, Sem.run_bind, Sem.run_pure, Result.andThen_ok, hz]
    exact hK _ _ h
theorem store_arr {ops : Array Oper} {rest : List Oper} {a : Act} {w : World} {Q : Exit → Act → World → Prop} {dst : Option Nat} {tt : TypeId} {pos : String} {after : Array Edge} (ty : TypeId) (x y : Operand)
    (b o : Nat) (cells : Array Value) (hx : a.eval x = .pointer (some ⟨b, o, none⟩)) (hy : a.eval y = .agg cells)
    (ht : w.there b o cells.size) (hi : (P.info? ty).map (·.size) = some cells.size) (h1 : cells.all (·.oneCell') = true)
    (h : wpList P ops Q rest (a.put dst undef) (w.setCells b o cells.toList)) : wpList P ops Q ({ dst := dst, op := .store ty x y, type := tt, pos := pos, after := after, guard := none } :: rest) a w :=
  wpList_store_mid rfl ty x y rfl b o cells hx hy ht hi h1 h
theorem alloc_arr {ops : Array Oper} {rest : List Oper} {a : Act} {w : World} {Q : Exit → Act → World → Prop} {dst : Option Nat} {tt : TypeId} {pos : String} {after : Array Edge} (t : TypeId)
    (z : Array Value) (hz : ∀ w, (zeroValue t).run P w = .ok (.agg z) w)
    (h : wpList P ops Q rest (a.put dst (.pointer (some ⟨w.heap.size, 0, none⟩))) (w.alloc (.cells z t))) : wpList P ops Q ({ dst := dst, op := .alloc t, type := tt, pos := pos, after := after, guard := none } :: rest) a w :=
  wpList_alloc_arr rfl t rfl z hz h
theorem load_arr {ops : Array Oper} {rest : List Oper} {a : Act} {w : World} {Q : Exit → Act → World → Prop} {dst : Option Nat} {tt : TypeId} {pos : String} {after : Array Edge} (ty : TypeId) (x : Operand)
    (b o : Nat) (cs : List Value) (d : TypeDesc) (hx : a.eval x = .pointer (some ⟨b, o, none⟩)) (hc : w.rangeAt b o cs)
    (hu : P.underlying ty = some d) (hd : d.isRow = true) (hi : (P.info? ty).map (·.size) = some cs.length)
    (h : wpList P ops Q rest (a.put dst (.agg cs.toArray)) w) : wpList P ops Q ({ dst := dst, op := .load ty x, type := tt, pos := pos, after := after, guard := none } :: rest) a w :=
  wpList_load_mid rfl ty x rfl b o hx cs d hc hu hd hi h
theorem run_indexAt_arr (t : TypeId) (n : Nat) (e : TypeId) (s : Nat) (hu : P.underlying t = some (.array n e)) (hs : ∀ w, (sizeOf e).run P w = .ok s w) (hn : 1 < n)
    (b : Nat) (k : Nat) (hk : k < n) (W : World) : (Instr.indexAt t (.pointer (some ⟨b, 0, none⟩)) (.int .i64 k)).run P W = .ok (.pointer (some ⟨b, k * s, none⟩)) W := by
  have h1 : (0 : Int) ≤ (k : Int) ∧ (k : Int) < (n : Int) := by omega
  unfold Instr.indexAt
  simp only [asIntOf, Instr.sureAddr, Sem.run_bind, Sem.run_pure, Result.andThen_ok, run_underlying hu, hs, if_pos h1, Int.toNat_natCast, add0]
theorem results_cell_mid {fn : Func} {p u : Tmp} {ty : TypeId} (h : fn.results = #[.cell p ty, .tmp u]) (tmps : Array Value) (w : World) (b o : Nat) (cs : List Value) (d : TypeDesc)
    (hp : tmps.getD p undef = .pointer (some ⟨b, o, none⟩)) (hc : w.rangeAt b o cs)
    (hu : P.underlying ty = some d) (hd : d.isRow = true) (hi : (P.info? ty).map (·.size) = some cs.length) :
    (results fn tmps).run P w = .ok (.tuple #[.agg cs.toArray, tmps.getD u undef]) w := by
  rw [results_cell_tmp h, hp]
  simp only [asAddr, Sem.run_pure, Result.andThen_ok, run_loadVar_mid w b o ty cs d hc hu hd hi]
end
theorem store_is {P : Program} {ops : Array Oper} {rest : List Oper} {a : Act} {w : World} {Q : Exit → Act → World → Prop} {dst : Option Nat} {tt : TypeId} {pos : String} {after : Array Edge} (ty : TypeId) (x y : Operand) (h : wpList P ops Q ({ dst := dst, op := .store ty x y, type := tt, pos := pos, after := after, guard := none } :: rest) a w) : wpList P ops Q ({ dst := dst, op := .store ty x y, type := tt, pos := pos, after := after, guard := none } :: rest) a w := h
theorem load_is {P : Program} {ops : Array Oper} {rest : List Oper} {a : Act} {w : World} {Q : Exit → Act → World → Prop} {dst : Option Nat} {tt : TypeId} {pos : String} {after : Array Edge} (ty : TypeId) (x : Operand) (h : wpList P ops Q ({ dst := dst, op := .load ty x, type := tt, pos := pos, after := after, guard := none } :: rest) a w) : wpList P ops Q ({ dst := dst, op := .load ty x, type := tt, pos := pos, after := after, guard := none } :: rest) a w := h
theorem build_is {P : Program} {ops : Array Oper} {rest : List Oper} {a : Act} {w : World} {Q : Exit → Act → World → Prop} {dst : Option Nat} {tt : TypeId} {pos : String} {after : Array Edge} (ty : TypeId) (h : wpList P ops Q ({ dst := dst, op := .build ty #[], type := tt, pos := pos, after := after, guard := none } :: rest) a w) : wpList P ops Q ({ dst := dst, op := .build ty #[], type := tt, pos := pos, after := after, guard := none } :: rest) a w := h
theorem alloc_is {P : Program} {ops : Array Oper} {rest : List Oper} {a : Act} {w : World} {Q : Exit → Act → World → Prop} {dst : Option Nat} {tt : TypeId} {pos : String} {after : Array Edge} (ty : TypeId) (h : wpList P ops Q ({ dst := dst, op := .alloc ty, type := tt, pos := pos, after := after, guard := none } :: rest) a w) : wpList P ops Q ({ dst := dst, op := .alloc ty, type := tt, pos := pos, after := after, guard := none } :: rest) a w := h
theorem range_row {w : World} {b : Nat} {C : Array Value} {t : TypeId} {fr : Nat × Nat} (hb : w.heap[b]? = some (.cells C t fr)) : w.rangeAt b 0 C.toList := fun j v hv => by
  rw [cell_of_row w b (0 + j) C t fr hb, Nat.zero_add]
  simpa using hv
theorem there_blocks {w w' : World} {b o n : Nat} (h : w.there b o n) (e : w'.heap[b]? = w.heap[b]?) : w'.there b o n := fun j hj => by
  rw [World.cell?_of_block e, World.frozen?_of_block e]; exact h j hj
theorem there_row {w : World} {b : Nat} {C : Array Value} {t : TypeId} {n : Nat} (hb : w.heap[b]? = some (.cells C t (0, 0))) (hn : n ≤ C.size) : w.there b 0 n := fun j hj => by
  rw [cell_of_row w b (0 + j) C t (0, 0) hb, frozen_of_row w b (0 + j) C t hb, Nat.zero_add]
  exact ⟨by simp; omega, rfl⟩
theorem there_part {w : World} {b n o m : Nat} (h : w.there b 0 n) (hm : o + m ≤ n) : w.there b o m := fun j hj => by
  have := h (o + j) (by omega)
  rwa [Nat.zero_add] at this
theorem heap_setCells_other (w : World) (b : Nat) : ∀ (vs : List Value) (o : Nat) (w : World) (k : Nat), k ≠ b → (w.setCells b o vs).heap[k]? = w.heap[k]?
  | [], _, _, _, _ => rfl
  | v :: r, o, w, k, h => by
    rw [World.setCells, heap_setCells_other w b r (o + 1) _ k h, heap_setCell_other _ _ _ _ h]
theorem Below.setCells {S : Nat} {W w : World} (h : Below S W w) (b : Nat) (hb : S ≤ b) : ∀ (vs : List Value) (o : Nat) (w : World), Below S W w → Below S W (w.setCells b o vs)
  | [], _, _, h => h
  | v :: r, o, w, h => by rw [World.setCells]; exact Below.setCells h b hb r (o + 1) _ (h.setCell (p := ⟨b, o, none⟩) hb v)
end Go.Proofs.Ytaalnjinocicgaa
namespace Go.Proofs.Ytaalnjinocicgaa
open Go.ChangeShapes Go.WideShapes Go.ChangeAt Go.RowKit
set_option linter.unusedVariables false
def blw (x n : Int) : Bool := decide (0 ≤ x ∧ x < n)
def isw (x : Int) : Bool := blw x 10000
theorem blw_yes {x n : Int} (h : 0 ≤ x ∧ x < n) : blw x n = true := decide_eq_true h
theorem blw_no {x n : Int} (h : ¬ (0 ≤ x ∧ x < n)) : blw x n = false := decide_eq_false h
theorem below_any (w : World) (x n : Int) : Calls Try.prog 55 #[.int .i64 x, .int .i64 n] w fun e w' => e = .returned (.bool (blw x n)) ∧ w = w' := by
  by_cases h : 0 ≤ x ∧ x < n
  · rw [blw_yes h]
    obtain ⟨h1, h2⟩ := h
    go_enter Try.func55, Try.ntmps55
    go_wp2
    go_ret
    exact ⟨rfl, rfl⟩
  · rw [blw_no h]
    by_cases h1 : 0 ≤ x
    · have h2 : decide (x < n) = false := by simp; omega
      clear h
      go_enter Try.func55, Try.ntmps55
      go_wp2
      go_ret
      exact ⟨rfl, rfl⟩
    · have h2 : decide (0 ≤ x) = false := by simpa using h1
      clear h
      go_enter Try.func55, Try.ntmps55
      go_wp2
      go_ret
      exact ⟨rfl, rfl⟩
theorem isWord_any (w : World) (x : Int) : Calls Try.prog 52 #[.int .i64 x] w fun e w' => e = .returned (.bool (isw x)) ∧ w = w' := by
  go_enter Try.func52, Try.ntmps52
  go_wp2_with (go_at_call 55; refine (below_any _ _ _).mono ?_; rintro e w' ⟨rfl, rfl⟩)
  go_ret
  exact ⟨rfl, rfl⟩
theorem arrayAt_words (W : World) (a : Option Addr) (cap : Nat) : (Instr.arrayAt 52 (.slice a 4 cap)).run Try.prog W = .ok (.pointer a) W := by
  unfold Instr.arrayAt
  rw [Sem.run_bind, run_underlying Try.underlying52]
  simp
def ArrRes (w : World) (cs : Array Value) (b : Bool) (e : Ending) (w' : World) : Prop := e = .returned (.tuple #[.agg cs, .bool b]) ∧ Below w.heap.size w w'
theorem below2 {w : World} {o1 o2 : Obj} : Below w.heap.size w ((w.alloc o1).alloc o2) := ((Below.refl _ _).alloc (Nat.le_refl _) o1).alloc (by simp) o2
theorem words4 {w : World} {b o cap : Nat} {x0 x1 x2 x3 : Int} {r : Bool} (hc : 4 ≤ cap) (h0 : w.cell? ⟨b, o, none⟩ = some (.int .i64 x0)) (h1 : w.cell? ⟨b, o + 1, none⟩ = some (.int .i64 x1)) (h2 : w.cell? ⟨b, o + 2, none⟩ = some (.int .i64 x2)) (h3 : w.cell? ⟨b, o + 3, none⟩ = some (.int .i64 x3))
    (hr : (isw x0 && isw x1 && isw x2 && isw x3) = r) :
    Calls Try.prog 39 #[.slice (some ⟨b, o, none⟩) 4 cap] w (ArrRes w (bif r then #[.int .i64 x0, .int .i64 x1, .int .i64 x2, .int .i64 x3] else #[.int .i64 0, .int .i64 0, .int .i64 0, .int .i64 0]) r) := by
  have HA := fun W => arrayAt_words W (some ⟨b, o, none⟩) cap
  have g0 := fun ob => (World.cell?_alloc_lt w ob ⟨b, o, none⟩ (block_lt_of_cell h0)).trans h0
  have g1 := fun ob => (World.cell?_alloc_lt w ob ⟨b, o + 1, none⟩ (block_lt_of_cell h1)).trans h1
  have g2 := fun ob => (World.cell?_alloc_lt w ob ⟨b, o + 2, none⟩ (block_lt_of_cell h2)).trans h2
  have g3 := fun ob => (World.cell?_alloc_lt w ob ⟨b, o + 3, none⟩ (block_lt_of_cell h3)).trans h3
  clear h0 h1 h2 h3
  have i0 : ∀ W : World, (Instr.index 52 (.agg #[.int .i64 x0, .int .i64 x1, .int .i64 x2, .int .i64 x3]) (.int .i64 0)).run Try.prog W = .ok (.int .i64 x0) W := fun _ => by kernel_rfl
  have i1 : ∀ W : World, (Instr.index 52 (.agg #[.int .i64 x0, .int .i64 x1, .int .i64 x2, .int .i64 x3]) (.int .i64 1)).run Try.prog W = .ok (.int .i64 x1) W := fun _ => by kernel_rfl
  have i2 : ∀ W : World, (Instr.index 52 (.agg #[.int .i64 x0, .int .i64 x1, .int .i64 x2, .int .i64 x3]) (.int .i64 2)).run Try.prog W = .ok (.int .i64 x2) W := fun _ => by kernel_rfl
  have i3 : ∀ W : World, (Instr.index 52 (.agg #[.int .i64 x0, .int .i64 x1, .int .i64 x2, .int .i64 x3]) (.int .i64 3)).run Try.prog W = .ok (.int .i64 x3) W := fun _ => by kernel_rfl
  have HR := Lib.hid hr
  clear hr
  obtain ⟨R, HRR⟩ : ∃ R : Ending → World → Prop, Hid (R = ArrRes w (bif r then #[.int .i64 x0, .int .i64 x1, .int .i64 x2, .int .i64 x3] else #[.int .i64 0, .int .i64 0, .int .i64 0, .int .i64 0]) r) := ⟨_, Lib.hid rfl⟩
  rw [← HRR.out]
  go_enter Try.func39, Try.ntmps39
  go_wp2
  refine wp_loop_rounds 5 ?_
  rw [rounds_succ]
  by_cases e0 : isw x0 = true
  · go_wp2_with (go_at_call 52; refine (isWord_any _ _).mono ?_; rintro e w' ⟨rfl, rfl⟩)
    rw [rounds_succ]
    by_cases e1 : isw x1 = true
    · go_wp2_with (go_at_call 52; refine (isWord_any _ _).mono ?_; rintro e w' ⟨rfl, rfl⟩)
      rw [rounds_succ]
      by_cases e2 : isw x2 = true
      · go_wp2_with (go_at_call 52; refine (isWord_any _ _).mono ?_; rintro e w' ⟨rfl, rfl⟩)
        rw [rounds_succ]
        by_cases e3 : isw x3 = true
        · go_wp2_with (go_at_call 52; refine (isWord_any _ _).mono ?_; rintro e w' ⟨rfl, rfl⟩)
          rw [rounds_succ]
          go_wp2
          have er : r = true := by rw [← HR.out]; simp [e0, e1, e2, e3]
          refine bodyPost_ret (results_cell_mid rfl _ _ w.heap.size 0 #[.int .i64 x0, .int .i64 x1, .int .i64 x2, .int .i64 x3].toList _ rfl (range_row (heap_alloc2_old w _ _)) Try.underlying52 rfl (by kernel_rfl)) rfl ?_
          rw [HRR.out, er]
          exact ⟨rfl, below2⟩
        · replace e3 : isw x3 = false := by simpa using e3
          go_wp2_with (go_at_call 52; refine (isWord_any _ _).mono ?_; rintro e w' ⟨rfl, rfl⟩)
          have er : r = false := by rw [← HR.out]; simp [e3]
          refine bodyPost_ret (results_cell_mid rfl _ _ w.heap.size 0 #[.int .i64 0, .int .i64 0, .int .i64 0, .int .i64 0].toList _ rfl (range_row (heap_alloc2_old w _ _)) Try.underlying52 rfl (by kernel_rfl)) rfl ?_
          rw [HRR.out, er]
          exact ⟨rfl, below2⟩
      · replace e2 : isw x2 = false := by simpa using e2
        go_wp2_with (go_at_call 52; refine (isWord_any _ _).mono ?_; rintro e w' ⟨rfl, rfl⟩)
        have er : r = false := by rw [← HR.out]; simp [e2]
        refine bodyPost_ret (results_cell_mid rfl _ _ w.heap.size 0 #[.int .i64 0, .int .i64 0, .int .i64 0, .int .i64 0].toList _ rfl (range_row (heap_alloc2_old w _ _)) Try.underlying52 rfl (by kernel_rfl)) rfl ?_
        rw [HRR.out, er]
        exact ⟨rfl, below2⟩
    · replace e1 : isw x1 = false := by simpa using e1
      go_wp2_with (go_at_call 52; refine (isWord_any _ _).mono ?_; rintro e w' ⟨rfl, rfl⟩)
      have er : r = false := by rw [← HR.out]; simp [e1]
      refine bodyPost_ret (results_cell_mid rfl _ _ w.heap.size 0 #[.int .i64 0, .int .i64 0, .int .i64 0, .int .i64 0].toList _ rfl (range_row (heap_alloc2_old w _ _)) Try.underlying52 rfl (by kernel_rfl)) rfl ?_
      rw [HRR.out, er]
      exact ⟨rfl, below2⟩
  · replace e0 : isw x0 = false := by simpa using e0
    go_wp2_with (go_at_call 52; refine (isWord_any _ _).mono ?_; rintro e w' ⟨rfl, rfl⟩)
    have er : r = false := by rw [← HR.out]; simp [e0]
    refine bodyPost_ret (results_cell_mid rfl _ _ w.heap.size 0 #[.int .i64 0, .int .i64 0, .int .i64 0, .int .i64 0].toList _ rfl (range_row (heap_alloc2_old w _ _)) Try.underlying52 rfl (by kernel_rfl)) rfl ?_
    rw [HRR.out, er]
    exact ⟨rfl, below2⟩
theorem wordsOf_other {w : World} {v : Value} {xs : List Int} (h : Ints w v xs) (hl : xs.length ≠ 4) : Calls Try.prog 39 #[v] w (ArrRes w #[.int .i64 0, .int .i64 0, .int .i64 0, .int .i64 0] false) := by
  obtain ⟨a, ca, rfl, hla, hma, hxa⟩ := h
  have hl' : ((xs.length : Int) != 4) = true := by simp; omega
  obtain ⟨R, HRR⟩ : ∃ R : Ending → World → Prop, Hid (R = ArrRes w #[.int .i64 0, .int .i64 0, .int .i64 0, .int .i64 0] false) := ⟨_, Lib.hid rfl⟩
  rw [← HRR.out]
  go_enter Try.func39, Try.ntmps39
  go_wp2
  refine bodyPost_ret (results_cell_mid rfl _ _ w.heap.size 0 #[.int .i64 0, .int .i64 0, .int .i64 0, .int .i64 0].toList _ rfl (range_row (heap_alloc_new w _)) Try.underlying52 rfl (by kernel_rfl)) rfl ?_
  rw [HRR.out]
  exact ⟨rfl, (Below.refl _ _).alloc (Nat.le_refl _) _⟩
def rowC (xs : List Int) : Array Value := (xs.map (Value.int .i64)).toArray
theorem words_isw {x0 x1 x2 x3 : Int} : wordsOk [x0, x1, x2, x3] = (isw x0 && isw x1 && isw x2 && isw x3) := by
  unfold wordsOk isw blw
  rw [Bool.eq_iff_iff]
  simp
  omega
theorem wordsOf_any {w : World} {v : Value} {xs : List Int} (h : Ints w v xs) : Calls Try.prog 39 #[v] w (ArrRes w (bif wordsOk xs then rowC xs else rowC [0, 0, 0, 0]) (wordsOk xs)) := by
  by_cases hl : xs.length = 4
  · obtain ⟨a, ca, rfl, hla, hma, hxa⟩ := h
    match xs, hl with
    | [x0, x1, x2, x3], _ =>
      obtain ⟨b, o, rfl, h0⟩ := hxa 0 (by simp)
      obtain ⟨_, _, e1, h1⟩ := hxa 1 (by simp)
      obtain ⟨_, _, e2, h2⟩ := hxa 2 (by simp)
      obtain ⟨_, _, e3, h3⟩ := hxa 3 (by simp)
      cases e1; cases e2; cases e3
      exact words4 hla h0 h1 h2 h3 words_isw.symm
  · have e : wordsOk xs = false := decide_eq_false (fun hh => hl hh.2)
    rw [e]
    exact wordsOf_other h hl
end Go.Proofs.Ytaalnjinocicgaa
namespace Go.Proofs.Ytaalnjinocicgaa
set_option linter.unusedVariables false
set_option linter.unusedSimpArgs false
abbrev Rs := List (List Int)
def rowOk (xs : List Int) : Bool := decide (xs = []) || wordsOk xs
def swOk (xss : Rs) : Bool := decide ((∀ xs ∈ xss, rowOk xs = true) ∧ xss.length = 16)
def sidx (xss : Rs) : Nat := xss.findIdx (fun xs => decide (xs = []))
theorem swOk_iff {xss : Rs} : swOk xss = true ↔ (∀ xs ∈ xss, rowOk xs = true) ∧ xss.length = 16 := by unfold swOk; rw [decide_eq_true_eq]
theorem sw_len {xss : Rs} (h : swOk xss = true) : xss.length = 16 := (swOk_iff.1 h).2
theorem words_len {xs : List Int} (h : wordsOk xs = true) : xs.length = 4 := (of_decide_eq_true h).2
theorem sw_row {xss : Rs} (h : swOk xss = true) {i : Nat} (hi : i < xss.length) : rowOk (xss.getD i []) = true := by
  rw [getD_lt hi]
  exact (swOk_iff.1 h).1 _ (List.getElem_mem hi)
theorem sw_bad {xss : Rs} {k : Nat} (hk : k < xss.length) (h : rowOk (xss.getD k []) = false) : swOk xss = false := by
  cases hm : swOk xss with
  | false => rfl
  | true => rw [sw_row hm hk] at h; cases h
theorem sw_end {xss : Rs} {n : Nat} (hn : n = xss.length) (h : ∀ i, i < n → rowOk (xss.getD i []) = true) : swOk xss = ((n : Int) == 16) := by
  have hall : ∀ xs ∈ xss, rowOk xs = true := fun xs hx => by
    obtain ⟨i, hi, rfl⟩ := List.mem_iff_getElem.1 hx
    have := h i (by omega)
    rwa [getD_lt hi] at this
  rw [Bool.eq_iff_iff, swOk_iff]
  simp only [beq_iff_eq]
  constructor
  · intro hh; omega
  · intro hh; exact ⟨hall, by omega⟩
theorem sidx_le (xss : Rs) : sidx xss ≤ xss.length := List.findIdx_le_length
theorem sidx_free {xss : Rs} (h : sidx xss < xss.length) : xss.getD (sidx xss) [] = [] := by
  have := List.findIdx_getElem (xs := xss) (p := fun xs => decide (xs = [])) (w := h)
  rw [getD_lt h]
  exact of_decide_eq_true this
theorem sidx_before {xss : Rs} {i : Nat} (h : i < sidx xss) : xss.getD i [] ≠ [] := by
  have hl : i < xss.length := Nat.lt_of_lt_of_le h (sidx_le xss)
  have := List.not_of_lt_findIdx h
  rw [getD_lt hl]
  intro hh
  rw [decide_eq_true hh] at this
  exact Bool.noConfusion this
theorem sidx_first {xss : Rs} {k : Nat} (hk : k < xss.length) (hb : ∀ i, i < k → xss.getD i [] ≠ []) (he : xss.getD k [] = []) : sidx xss = k := by
  have h1 : ¬ sidx xss < k := fun h => hb _ h (sidx_free (Nat.lt_trans h hk))
  have h2 : ¬ k < sidx xss := fun h => sidx_before h he
  omega
theorem len0_iff {xs : List Int} : xs.length = 0 ↔ xs = [] := List.length_eq_zero_iff
end Go.Proofs.Ytaalnjinocicgaa
namespace Go.Proofs.Ytaalnjinocicgaa
open Go.ChangeShapes Go.WideShapes Go.ChangeAt Go.RowKit
set_option linter.unusedVariables false
set_option linter.unusedSimpArgs false
theorem sSwapValid_any (w : World) (v : Value) (xss : Rs) (h : Rows2 w v xss) :
    Calls Try.prog 21 #[v] w fun e w' => e = .returned (.bool (swOk xss)) ∧ w = w' := by
  obtain ⟨a, ca, rfl, hla, hma, hxa⟩ := h
  unfold maxLen at hma
  obtain ⟨n, hN⟩ : ∃ n, n = xss.length := ⟨_, rfl⟩
  rw [← hN] at hla hxa ⊢
  have HN := Lib.hid hN
  have HX := Lib.hid hxa
  obtain ⟨r, hr⟩ : ∃ r, r = swOk xss := ⟨_, rfl⟩
  rw [← hr]
  have HR := Lib.hid hr
  clear hN hxa hr
  go_enter Try.func21, Try.ntmps21
  go_wp2
  go_loopw [3] (fun i wr => ∃ k : Nat, k ≤ n ∧ i = .int .i64 k ∧ Hid (∀ i, i < k → rowOk (xss.getD i []) = true) ∧ wr = w) (fun i _ => n - (intOf i).toNat)
  case atStart => exact ⟨0, Nat.zero_le _, rfl, Lib.hid (fun i hi => by omega), by first | trivial | rfl⟩
  case round =>
    obtain ⟨k, hk, rfl, HOK, rfl⟩ := hrel
    by_cases hlt : k < n
    · obtain ⟨b, o, u, rfl, hc, hu⟩ := HX.out k hlt
      have hlt' : (k : Int) < (n : Int) := by omega
      have HW := Lib.hid (l2Words_any wr _ _ hu)
      obtain ⟨xs, hxs⟩ : ∃ xs, xs = xss.getD k [] := ⟨_, rfl⟩
      rw [← hxs] at hu HW
      have HXK := Lib.hid hxs
      obtain ⟨ra, rc, rfl, hr1, hr2, -⟩ := hu
      unfold maxLen at hr2
      clear hxs
      by_cases hz : xs.length = 0
      · have hro : Hid (rowOk xs = true) := Lib.hid (by rw [len0_iff.1 hz]; rfl)
        rw [hz] at hc hr1
        go_wp2
        go_roundw
        case rel => exact ⟨k + 1, by omega, by go_num, Lib.hid (fun i hi => by
          by_cases he : i = k
          · rw [he, ← HXK.out]; exact hro.out
          · exact HOK.out i (by omega)), by first | trivial | rfl⟩
        case measure => simp [intOf]; omega
      · obtain ⟨m, hm⟩ : ∃ m, m = xs.length := ⟨_, rfl⟩
        rw [← hm] at hc hr1 HW hz
        have hm0 : (0 : Int) < (m : Int) := by omega
        have HM := Lib.hid hm
        clear hm
        cases hwo : wordsOk xs with
        | true =>
          rw [hwo] at HW
          have hro : Hid (rowOk xs = true) := Lib.hid (by unfold rowOk; rw [hwo, Bool.or_true])
          clear hwo
          go_wp2_with fail
          refine HW.out.mono ?_
          rintro e w' ⟨rfl, rfl⟩
          go_wp2
          go_roundw
          case rel => exact ⟨k + 1, by omega, by go_num, Lib.hid (fun i hi => by
            by_cases he : i = k
            · rw [he, ← HXK.out]; exact hro.out
            · exact HOK.out i (by omega)), by first | trivial | rfl⟩
          case measure => simp [intOf]; omega
        | false =>
          rw [hwo] at HW
          have HF : Hid (r = false) := Lib.hid (by
            rw [HR.out]
            exact sw_bad (k := k) (by rw [← HN.out]; exact hlt) (by rw [← HXK.out]; unfold rowOk; rw [hwo, Bool.or_false, decide_eq_false (fun e => hz (by rw [HM.out, e]; rfl))]))
          clear hwo
          go_wp2_with fail
          refine HW.out.mono ?_
          rintro e w' ⟨rfl, rfl⟩
          go_wp2
          go_ret
          exact ⟨by rw [HF.out]; rfl, by first | trivial | rfl⟩
    · have e : k = n := by omega
      subst e
      have HF : Hid (r = ((k : Int) == 16)) := Lib.hid (by rw [HR.out]; exact sw_end HN.out HOK.out)
      go_wp2
      go_ret
      exact ⟨by rw [HF.out]; rfl, by first | trivial | rfl⟩
end Go.Proofs.Ytaalnjinocicgaa
namespace Go.Proofs.Ytaalnjinocicgaa
open Go.ChangeShapes Go.WideShapes Go.ChangeAt Go.RowKit
set_option linter.unusedVariables false
set_option linter.unusedSimpArgs false
theorem Rows2.at {w : World} {a : Option Addr} {n cap : Nat} {xss : Rs} (h : Rows2 w (.slice a n cap) xss) {i : Nat} (hi : i < n) : ∃ b o ra rc, a = some ⟨b, o, none⟩ ∧ w.cell? ⟨b, o + i, none⟩ = some (.slice ra (xss.getD i []).length rc) ∧ Ints w (.slice ra (xss.getD i []).length rc) (xss.getD i []) := by
  obtain ⟨a', cap', e, h1, h2, h3⟩ := h
  injection e with e1 e2 e3
  subst e1
  obtain ⟨b, o, u, e, hc, hu⟩ := h3 i (by omega)
  obtain ⟨ra, rc, rfl, r⟩ := hu
  exact ⟨b, o, ra, rc, e, hc, ra, rc, rfl, r⟩
end Go.Proofs.Ytaalnjinocicgaa
namespace Go.Proofs.Ytaalnjinocicgaa
open Go.ChangeShapes Go.WideShapes Go.ChangeAt Go.RowKit
set_option linter.unusedVariables false
set_option linter.unusedSimpArgs false
theorem neB (b : Bool) : (b != b) = false := by simp
end Go.Proofs.Ytaalnjinocicgaa
namespace Go.Proofs.Ytaalnjinocicgaa
open Go.ChangeShapes Go.WideShapes Go.ChangeAt Go.RowKit
set_option linter.unusedVariables false
set_option linter.unusedSimpArgs false
theorem anyH_gen {P : Program} {md : Region.Mode} {ops : Array Oper} {Q : Exit → Act → World → Prop} {S : World → Prop} {fuel : Nat} {listed : Array Bool} {a : Act} (w : World) (h : ∀ w', w' = w → wpAnyH P md ops Q S fuel listed a w') : wpAnyH P md ops Q S fuel listed a w := h w rfl
end Go.Proofs.Ytaalnjinocicgaa
namespace Go.Proofs.Ytaalnjinocicgaa
set_option linter.unusedVariables false
set_option linter.unusedSimpArgs false
theorem row_words {ws : List Int} (h : wordsOk ws = true) : rowOk ws = true := by unfold rowOk; rw [h, Bool.or_true]
end Go.Proofs.Ytaalnjinocicgaa
namespace Go.Proofs.Ytaalnjinocicgaa
open Go.ChangeShapes Go.WideShapes Go.ChangeAt Go.RowKit
set_option linter.unusedVariables false
set_option linter.unusedSimpArgs false
theorem Chg.trans {lo hi : Nat} {a b c : World} (h : Chg lo hi a b) (k : Chg lo hi b c) : Chg lo hi a c :=
  ⟨k.os.trans h.os, k.tape.trans h.tape, k.output.trans h.output, Nat.le_trans h.size k.size, fun i hi hb => (k.block i (Nat.lt_of_lt_of_le hi h.size) hb).trans (h.block i hi hb)⟩
theorem Chg.of_bel {lo hi : Nat} {w w' : World} (h : Below w.heap.size w w') : Chg lo hi w w' := ⟨h.os, h.tape, h.output, h.size, fun b hb _ => h.block b hb⟩
theorem Chg.bel {S lo hi : Nat} {w a b : World} (h : Below S w a) (c : Chg lo hi a b) (hs : S ≤ lo) (hz : S ≤ w.heap.size) : Below S w b :=
  ⟨c.os.trans h.os, c.tape.trans h.tape, c.output.trans h.output, Nat.le_trans h.size c.size, fun i hi => (c.block i (Nat.lt_of_lt_of_le (Nat.lt_of_lt_of_le hi hz) h.size) (.inl (by omega))).trans (h.block i hi)⟩
theorem chg_setCells (w : World) (b o : Nat) (vs : List Value) : Chg b (b + 1) w (w.setCells b o vs) := by
  have h := Below.setCells (Below.refl (b) w) b (Nat.le_refl _) vs o w (Below.refl _ _)
  exact ⟨h.os, h.tape, h.output, h.size, fun i _ hb => heap_setCells_other w b vs o w i (by omega)⟩
theorem chg_setCell (w : World) (b o : Nat) (v : Value) : Chg b (b + 1) w (w.setCell ⟨b, o, none⟩ v) := chg_setCells w b o [v]
theorem Chg.rfl' (lo hi : Nat) (w : World) : Chg lo hi w w := ⟨rfl, rfl, rfl, Nat.le_refl _, fun _ _ _ => rfl⟩
theorem Chg.drew (lo hi : Nat) (w : World) : Chg lo hi w w.drew := ⟨rfl, rfl, rfl, Nat.le_refl _, fun _ _ _ => rfl⟩
theorem cell_setCells_apart {w : World} {b o j : Nat} {vs : List Value} {v : Value} (h : w.cell? ⟨b, j, none⟩ = some v) (ha : j < o ∨ o + vs.length ≤ j) : (w.setCells b o vs).cell? ⟨b, j, none⟩ = some v := by
  have hr : w.rangeAt b j [v] := fun i u hu => by
    have hi : i < 1 := (List.getElem?_eq_some_iff.1 hu).1
    obtain rfl : i = 0 := by omega
    cases hu
    exact h
  exact World.rangeAt_setCells_apart hr b o vs (.inr (by simp; omega)) 0 _ rfl
structure Blk (w : World) (b : Nat) (C : Nat → Value) : Prop where
  cell : ∀ j, j < 97 → w.cell? ⟨b, j, none⟩ = some (C j)
  frz : ∀ j, j < 97 → w.frozen? ⟨b, j, none⟩ = false
def cells (C : Nat → Value) : List Value := (List.range 97).map C
theorem cells_len (C : Nat → Value) : (cells C).length = 97 := by simp [cells]
theorem cells_size (C : Nat → Value) : (cells C).toArray.size = 97 := by simp [cells]
theorem cells_get {C : Nat → Value} {j : Nat} (h : j < 97) : (cells C)[j]? = some (C j) := by simp [cells, h]
theorem Blk.lt {w : World} {b : Nat} {C : Nat → Value} (h : Blk w b C) : b < w.heap.size := block_lt_of_cell (h.cell 0 (by omega))
theorem Blk.range {w : World} {b : Nat} {C : Nat → Value} (h : Blk w b C) : w.rangeAt b 0 (cells C) := fun j v hv => by
  have hj : j < 97 := by have := (List.getElem?_eq_some_iff.1 hv).1; rwa [cells_len] at this
  rw [cells_get hj] at hv
  rw [Nat.zero_add, ← hv]
  exact h.cell j hj
theorem Blk.there {w : World} {b : Nat} {C : Nat → Value} (h : Blk w b C) : w.there b 0 97 := fun j hj => by
  rw [Nat.zero_add]
  exact ⟨by rw [h.cell j hj]; rfl, h.frz j hj⟩
theorem Blk.part {w : World} {b : Nat} {C : Nat → Value} (h : Blk w b C) (o n : Nat) (hn : o + n ≤ 97) : w.there b o n := there_part h.there hn
theorem Blk.of_block {w w' : World} {b : Nat} {C : Nat → Value} (h : Blk w b C) (e : w'.heap[b]? = w.heap[b]?) : Blk w' b C :=
  ⟨fun j hj => (World.cell?_of_block e).trans (h.cell j hj), fun j hj => (World.frozen?_of_block e).trans (h.frz j hj)⟩
theorem Blk.below {S : Nat} {w w' : World} {b : Nat} {C : Nat → Value} (h : Blk w b C) (c : Below S w w') (hb : b < S) : Blk w' b C := h.of_block (c.block b hb)
theorem Blk.chg {lo hi : Nat} {w w' : World} {b : Nat} {C : Nat → Value} (h : Blk w b C) (c : Chg lo hi w w') (hb : b < lo ∨ hi ≤ b) : Blk w' b C := h.of_block (c.block b h.lt hb)
theorem Blk.drew {w : World} {b : Nat} {C : Nat → Value} (h : Blk w b C) : Blk w.drew b C := ⟨h.cell, h.frz⟩
theorem Blk.of_range {w : World} {b : Nat} {C : Nat → Value} (h : w.rangeAt b 0 (cells C)) (ht : w.there b 0 97) : Blk w b C :=
  ⟨fun j hj => by have := h j _ (cells_get hj); rwa [Nat.zero_add] at this, fun j hj => by have := (ht j hj).2; rwa [Nat.zero_add] at this⟩
theorem Blk.boxed (w : World) (C : Nat → Value) (t : TypeId) : Blk (w.alloc (.cells (cells C).toArray t)) w.heap.size C :=
  Blk.of_range (range_row (heap_alloc_new w _)) (there_row (heap_alloc_new w _) (by rw [cells_size]; omega))
theorem there_setCells_same {w : World} {b o n : Nat} (h : w.there b o n) (p : Nat) (vs : List Value) : (w.setCells b p vs).there b o n := World.there_setCells h _ _ _
theorem Blk.stored {w : World} {b : Nat} (C : Nat → Value) (h : w.there b 0 97) : Blk (w.setCells b 0 (cells C)) b C :=
  Blk.of_range (World.rangeAt_setCells_same w b 0 (cells C) (by rw [cells_len]; exact h)) (there_setCells_same h _ _)
def putC (C : Nat → Value) (o : Nat) (vs : List Value) (j : Nat) : Value := if o ≤ j ∧ j < o + vs.length then vs.getD (j - o) undef else C j
theorem putC_in {C : Nat → Value} {o i : Nat} {vs : List Value} {v : Value} (h : vs[i]? = some v) : putC C o vs (o + i) = v := by
  have hi := (List.getElem?_eq_some_iff.1 h).1
  unfold putC
  rw [if_pos ⟨by omega, by omega⟩, Nat.add_sub_cancel_left, List.getD_eq_getElem?_getD, h]
  rfl
theorem putC_out {C : Nat → Value} {o j : Nat} {vs : List Value} (h : j < o ∨ o + vs.length ≤ j) : putC C o vs j = C j := by
  unfold putC
  rw [if_neg (by omega)]
theorem Blk.put {w : World} {b : Nat} {C : Nat → Value} (h : Blk w b C) (o : Nat) (vs : List Value) (ho : o + vs.length ≤ 97) : Blk (w.setCells b o vs) b (putC C o vs) := by
  refine ⟨fun j hj => ?_, fun j hj => by rw [World.frozen?_setCells]; exact h.frz j hj⟩
  by_cases hin : o ≤ j ∧ j < o + vs.length
  · obtain ⟨i, rfl⟩ : ∃ i, j = o + i := ⟨j - o, by omega⟩
    have hi : i < vs.length := by omega
    rw [putC_in (List.getElem?_eq_getElem hi)]
    exact World.rangeAt_setCells_same w b o vs (h.part o _ ho) i _ (List.getElem?_eq_getElem hi)
  · rw [putC_out (by omega)]
    exact cell_setCells_apart (h.cell j hj) (by omega)
theorem Blk.set {w : World} {b : Nat} {C : Nat → Value} (h : Blk w b C) (o : Nat) (v : Value) (ho : o < 97) : Blk (w.setCell ⟨b, o, none⟩ v) b (putC C o [v]) :=
  h.put o [v] (by simp; omega)
def Nums (C : Nat → Value) : Prop := ∀ i, i < 17 → ∃ x : Int, C (80 + i) = .int .i64 x
def One (C : Nat → Value) : Prop := ∀ j, j < 97 → (C j).oneCell' = true
theorem One.all {C : Nat → Value} (h : One C) : (cells C).toArray.all (·.oneCell') = true := all_oneCell_toArray (fun v hv => by
  unfold cells at hv
  rw [List.mem_map] at hv
  obtain ⟨j, hj, rfl⟩ := hv
  exact h j (List.mem_range.1 hj))
structure HpR (w : World) (b : Nat) (C C' : Nat → Value) (w' : World) : Prop where
  blk : Blk w' b C'
  nums : Nums C'
  low : ∀ j, j < 80 → C' j = C j
  chg : Chg b (b + 1) w w'
  size : w'.heap.size = w.heap.size
theorem HpR.trans {w w1 w2 : World} {b : Nat} {C C1 C2 : Nat → Value} (h : HpR w b C C1 w1) (k : HpR w1 b C1 C2 w2) : HpR w b C C2 w2 :=
  ⟨k.blk, k.nums, fun j hj => (k.low j hj).trans (h.low j hj), h.chg.trans k.chg, k.size.trans h.size⟩
theorem HpR.refl {w : World} {b : Nat} {C : Nat → Value} (h : Blk w b C) (n : Nums C) : HpR w b C C w := ⟨h, n, fun _ _ => rfl, Chg.rfl' _ _ _, rfl⟩
theorem HpR.drew {w : World} {b : Nat} {C : Nat → Value} (h : Blk w b C) (n : Nums C) : HpR w b C C w.drew := ⟨h.drew, n, fun _ _ => rfl, Chg.drew _ _ _, rfl⟩
theorem HpR.set {w : World} {b : Nat} {C : Nat → Value} (h : Blk w b C) (n : Nums C) (i : Nat) (hi : i < 17) (x : Int) : HpR w b C (putC C (80 + i) [.int .i64 x]) (w.setCell ⟨b, 80 + i, none⟩ (.int .i64 x)) := by
  refine ⟨h.set _ _ (by omega), fun k hk => ?_, fun j hj => putC_out (by omega), chg_setCell _ _ _ _, by simp [World.setCell]⟩
  by_cases hki : k = i
  · subst hki
    exact ⟨x, putC_in (i := 0) rfl⟩
  · rw [putC_out (by simp; omega)]
    exact n k hk
theorem putC_at {C : Nat → Value} {o : Nat} {v : Value} : putC C o [v] o = v := putC_in (i := 0) rfl
theorem putC_ne {C : Nat → Value} {o j : Nat} {v : Value} (h : j ≠ o) : putC C o [v] j = C j := putC_out (by simp; omega)
theorem HpR.one {w w' : World} {b : Nat} {C C' : Nat → Value} (h : HpR w b C C' w') (o : One C) : One C' := fun j hj => by
  by_cases h8 : j < 80
  · rw [h.low j h8]; exact o j hj
  · obtain ⟨x, hx⟩ := h.nums (j - 80) (by omega)
    rw [show 80 + (j - 80) = j by omega] at hx
    rw [hx]; rfl
end Go.Proofs.Ytaalnjinocicgaa
namespace Go.Proofs.Ytaalnjinocicgaa
open Go.ChangeShapes Go.WideShapes Go.ChangeAt Go.RowKit
set_option linter.unusedVariables false
set_option linter.unusedSimpArgs false
def Gives (w : World) (v : Value) (e : Ending) (w' : World) : Prop := e = .returned v ∧ Below w.heap.size w w' ∧ w'.heap.size = w.heap.size
theorem len_any (w : World) (b : Nat) (C : Nat → Value) (h : Blk w b C) (c : Int) (hc : C 96 = .int .i64 c) :
    Calls Try.prog 53 #[.pointer (some ⟨b, 80, none⟩)] w fun e w' => e = .returned (.int .i64 c) ∧ w = w' := by
  have h96 := h.cell 96 (by omega)
  rw [hc] at h96
  clear h hc
  go_enter Try.func53, Try.ntmps53
  go_wp2
  go_ret
  exact ⟨rfl, rfl⟩
set_option maxHeartbeats 1000000 in
theorem less_any (w : World) (b : Nat) (C : Nat → Value) (h : Blk w b C) (i j : Nat) (hi : i < 16) (hj : j < 16) (x y : Int) (hx : C (80 + i) = .int .i64 x) (hy : C (80 + j) = .int .i64 y) :
    Calls Try.prog 75 #[.pointer (some ⟨b, 80, none⟩), .int .i64 i, .int .i64 j] w (Gives w (.bool (decide (x < y)))) := by
  have c1 := h.cell (80 + i) (by omega)
  have c2 := h.cell (80 + j) (by omega)
  rw [hx] at c1
  rw [hy] at c2
  have i1 : (i : Int) < 16 := by omega
  have j1 : (j : Int) < 16 := by omega
  clear h hx hy
  go_enter Try.func75, Try.ntmps75
  go_wp2_with fail
  refine wp_region_held_drew (S := fun w' => w'.cell? ⟨b, 80 + i, none⟩ = some (.int .i64 x) ∧ w'.cell? ⟨b, 80 + j, none⟩ = some (.int .i64 y)) (by kernel_rfl) ⟨c1, c2⟩ (fun hHeld => ?_)
  refine wpAnyH_take (i := 0) (oi := { dst := some 7, op := .move (.tmp 0), type := _, pos := _, after := _, guard := none }) (v := .pointer (some ⟨b, 80, none⟩)) rfl (by kernel_rfl) (by kernel_rfl) (by kernel_rfl) (fun _ _ _ h => h) (Or.inl ⟨by rfl, fun wh hSw => ?_⟩) hHeld ?_
  · (obtain ⟨s1, s2⟩ := hSw; go_simp)
  try simp only [Act.put, List.setIfInBounds_toArray, List.set_cons_zero, List.set_cons_succ]
  refine wpAnyH_take (i := 1) (oi := { dst := some 8, op := .move (.tmp 1), type := _, pos := _, after := _, guard := none }) (v := .int .i64 (i : Int)) rfl (by kernel_rfl) (by kernel_rfl) (by kernel_rfl) (fun _ _ _ h => h) (Or.inl ⟨by rfl, fun wh hSw => ?_⟩) hHeld ?_
  · (obtain ⟨s1, s2⟩ := hSw; go_simp)
  try simp only [Act.put, List.setIfInBounds_toArray, List.set_cons_zero, List.set_cons_succ]
  refine wpAnyH_take (i := 2) (oi := { dst := some 9, op := .nilCheck (.tmp 7), type := _, pos := _, after := _, guard := none }) (v := .pointer (some ⟨b, 80, none⟩)) rfl (by kernel_rfl) (by kernel_rfl) (by kernel_rfl) (fun _ _ _ h => h) (Or.inl ⟨by rfl, fun wh hSw => ?_⟩) hHeld ?_
  · (obtain ⟨s1, s2⟩ := hSw; go_simp)
  try simp only [Act.put, List.setIfInBounds_toArray, List.set_cons_zero, List.set_cons_succ]
  refine wpAnyH_take (i := 3) (oi := { dst := some 10, op := .fieldAddr 58 (.tmp 9) 0, type := _, pos := _, after := _, guard := none }) (v := .pointer (some ⟨b, 80, none⟩)) rfl (by kernel_rfl) (by kernel_rfl) (by kernel_rfl) (fun _ _ _ h => h) (Or.inl ⟨by rfl, fun wh hSw => ?_⟩) hHeld ?_
  · (obtain ⟨s1, s2⟩ := hSw; go_simp)
  try simp only [Act.put, List.setIfInBounds_toArray, List.set_cons_zero, List.set_cons_succ]
  refine wpAnyH_take (i := 4) (oi := { dst := some 11, op := .indexAddr 56 (.tmp 10) (.tmp 8), type := _, pos := _, after := _, guard := none }) (v := .pointer (some ⟨b, 80 + i, none⟩)) rfl (by kernel_rfl) (by kernel_rfl) (by kernel_rfl) (fun _ _ _ h => h) (Or.inl ⟨by rfl, fun wh hSw => ?_⟩) hHeld ?_
  · (obtain ⟨s1, s2⟩ := hSw; go_simp)
  try simp only [Act.put, List.setIfInBounds_toArray, List.set_cons_zero, List.set_cons_succ]
  refine wpAnyH_take (i := 5) (oi := { dst := some 12, op := .load 3 (.tmp 11), type := _, pos := _, after := _, guard := none }) (v := .int .i64 x) rfl (by kernel_rfl) (by kernel_rfl) (by kernel_rfl) (fun _ _ _ h => h) (Or.inl ⟨by rfl, fun wh hSw => ?_⟩) hHeld ?_
  · (obtain ⟨s1, s2⟩ := hSw; go_simp)
  try simp only [Act.put, List.setIfInBounds_toArray, List.set_cons_zero, List.set_cons_succ]
  refine wpAnyH_take (i := 6) (oi := { dst := some 13, op := .move (.tmp 0), type := _, pos := _, after := _, guard := none }) (v := .pointer (some ⟨b, 80, none⟩)) rfl (by kernel_rfl) (by kernel_rfl) (by kernel_rfl) (fun _ _ _ h => h) (Or.inl ⟨by rfl, fun wh hSw => ?_⟩) hHeld ?_
  · (obtain ⟨s1, s2⟩ := hSw; go_simp)
  try simp only [Act.put, List.setIfInBounds_toArray, List.set_cons_zero, List.set_cons_succ]
  refine wpAnyH_take (i := 7) (oi := { dst := some 14, op := .move (.tmp 2), type := _, pos := _, after := _, guard := none }) (v := .int .i64 (j : Int)) rfl (by kernel_rfl) (by kernel_rfl) (by kernel_rfl) (fun _ _ _ h => h) (Or.inl ⟨by rfl, fun wh hSw => ?_⟩) hHeld ?_
  · (obtain ⟨s1, s2⟩ := hSw; go_simp)
  try simp only [Act.put, List.setIfInBounds_toArray, List.set_cons_zero, List.set_cons_succ]
  refine wpAnyH_take (i := 8) (oi := { dst := some 15, op := .nilCheck (.tmp 13), type := _, pos := _, after := _, guard := none }) (v := .pointer (some ⟨b, 80, none⟩)) rfl (by kernel_rfl) (by kernel_rfl) (by kernel_rfl) (fun _ _ _ h => h) (Or.inl ⟨by rfl, fun wh hSw => ?_⟩) hHeld ?_
  · (obtain ⟨s1, s2⟩ := hSw; go_simp)
  try simp only [Act.put, List.setIfInBounds_toArray, List.set_cons_zero, List.set_cons_succ]
  refine wpAnyH_take (i := 9) (oi := { dst := some 16, op := .fieldAddr 58 (.tmp 15) 0, type := _, pos := _, after := _, guard := none }) (v := .pointer (some ⟨b, 80, none⟩)) rfl (by kernel_rfl) (by kernel_rfl) (by kernel_rfl) (fun _ _ _ h => h) (Or.inl ⟨by rfl, fun wh hSw => ?_⟩) hHeld ?_
  · (obtain ⟨s1, s2⟩ := hSw; go_simp)
  try simp only [Act.put, List.setIfInBounds_toArray, List.set_cons_zero, List.set_cons_succ]
  refine wpAnyH_take (i := 10) (oi := { dst := some 17, op := .indexAddr 56 (.tmp 16) (.tmp 14), type := _, pos := _, after := _, guard := none }) (v := .pointer (some ⟨b, 80 + j, none⟩)) rfl (by kernel_rfl) (by kernel_rfl) (by kernel_rfl) (fun _ _ _ h => h) (Or.inl ⟨by rfl, fun wh hSw => ?_⟩) hHeld ?_
  · (obtain ⟨s1, s2⟩ := hSw; go_simp)
  try simp only [Act.put, List.setIfInBounds_toArray, List.set_cons_zero, List.set_cons_succ]
  refine wpAnyH_take (i := 11) (oi := { dst := some 18, op := .load 3 (.tmp 17), type := _, pos := _, after := _, guard := none }) (v := .int .i64 y) rfl (by kernel_rfl) (by kernel_rfl) (by kernel_rfl) (fun _ _ _ h => h) (Or.inl ⟨by rfl, fun wh hSw => ?_⟩) hHeld ?_
  · (obtain ⟨s1, s2⟩ := hSw; go_simp)
  try simp only [Act.put, List.setIfInBounds_toArray, List.set_cons_zero, List.set_cons_succ]
  refine wpAnyH_take (i := 12) (oi := { dst := some 19, op := .binOp .lss 3 (.tmp 12) (.tmp 18) 3, type := _, pos := _, after := _, guard := none }) (v := .bool (decide (x < y))) rfl (by kernel_rfl) (by kernel_rfl) (by kernel_rfl) (fun _ _ _ h => h) (Or.inl ⟨by rfl, fun wh hSw => ?_⟩) hHeld ?_
  · (obtain ⟨s1, s2⟩ := hSw; go_simp)
  try simp only [Act.put, List.setIfInBounds_toArray, List.set_cons_zero, List.set_cons_succ]
  refine wpAnyH_take (i := 13) (oi := { dst := some 6, op := .assign (.tmp 19), type := _, pos := _, after := _, guard := none }) (v := .bool (decide (x < y))) rfl (by kernel_rfl) (by kernel_rfl) (by kernel_rfl) (fun _ _ _ h => h) (Or.inl ⟨by rfl, fun wh hSw => ?_⟩) hHeld ?_
  · (obtain ⟨s1, s2⟩ := hSw; go_simp)
  try simp only [Act.put, List.setIfInBounds_toArray, List.set_cons_zero, List.set_cons_succ]
  refine wpAnyH_done (by kernel_rfl) ?_ _
  go_wp2_with fail
  go_ret
  exact ⟨rfl, Below.drew (Below.refl _ _), rfl⟩
set_option maxHeartbeats 1000000 in
theorem push_any (w : World) (b : Nat) (C : Nat → Value) (h : Blk w b C) (hn : Nums C) (c : Nat) (hc : C 96 = .int .i64 (c : Int)) (hc15 : c < 16) (x : Int) :
    Calls Try.prog 77 #[.pointer (some ⟨b, 80, none⟩), .iface 3 (.int .i64 x)] w fun e w' => e = .returned (.tuple #[]) ∧ HpR w b C (putC (putC C (80 + c) [.int .i64 x]) 96 [.int .i64 ((c : Int) + 1)]) w' := by
  have h96 := h.cell 96 (by omega)
  have f96 := h.frz 96 (by omega)
  have HH := Lib.hid h
  rw [hc] at h96
  have c1 : (c : Int) < 16 := by omega
  have HN := Lib.hid hn
  obtain ⟨zz, hz⟩ := hn c (by omega)
  clear h hn
  have HA : ∀ W : World, (Instr.typeAssert (.iface 3 (.int .i64 x)) 20 3 false).run Try.prog W = .ok (.int .i64 x) W := fun _ => by kernel_rfl
  go_enter Try.func77, Try.ntmps77
  go_wp2_with fail
  refine wp_region_held_drew (S := fun w' => w'.cell? ⟨b, 96, none⟩ = some (.int .i64 c)) (by kernel_rfl) h96 (fun hHeld => ?_)
  refine anyH_gen _ (fun AZ hgen => ?_)
  have HZ := Lib.hid (by rw [hgen]; exact HpR.drew HH.out HN.out : HpR w b C C AZ)
  rw [← hgen] at hHeld
  clear hgen
  have z1 := HZ.out.blk.cell (80 + c) (by omega)
  have z3 := HZ.out.blk.frz (80 + c) (by omega)
  rw [hz] at z1
  have KP : Hid ((AZ.setCell ⟨b, 80 + c, none⟩ (.int .i64 x)).cell? ⟨b, 96, none⟩ = some (.int .i64 (c : Int))) := Lib.hid (by
    have := (HpR.set HZ.out.blk HZ.out.nums c (by omega) x).blk.cell 96 (by omega)
    rwa [putC_ne (by omega), hc] at this)
  refine wpAnyH_take (i := 0) (oi := { dst := some 4, op := .move (.tmp 0), type := _, pos := _, after := _, guard := none }) (v := .pointer (some ⟨b, 80, none⟩)) rfl (by kernel_rfl) (by kernel_rfl) (by kernel_rfl) (fun _ _ _ h => h) (Or.inl ⟨by rfl, fun wh hSw => ?_⟩) hHeld ?_
  · (go_simp)
  try simp only [Act.put, List.setIfInBounds_toArray, List.set_cons_zero, List.set_cons_succ]
  refine wpAnyH_take (i := 1) (oi := { dst := some 5, op := .move (.tmp 0), type := _, pos := _, after := _, guard := none }) (v := .pointer (some ⟨b, 80, none⟩)) rfl (by kernel_rfl) (by kernel_rfl) (by kernel_rfl) (fun _ _ _ h => h) (Or.inl ⟨by rfl, fun wh hSw => ?_⟩) hHeld ?_
  · (go_simp)
  try simp only [Act.put, List.setIfInBounds_toArray, List.set_cons_zero, List.set_cons_succ]
  refine wpAnyH_take (i := 2) (oi := { dst := some 6, op := .nilCheck (.tmp 5), type := _, pos := _, after := _, guard := none }) (v := .pointer (some ⟨b, 80, none⟩)) rfl (by kernel_rfl) (by kernel_rfl) (by kernel_rfl) (fun _ _ _ h => h) (Or.inl ⟨by rfl, fun wh hSw => ?_⟩) hHeld ?_
  · (go_simp)
  try simp only [Act.put, List.setIfInBounds_toArray, List.set_cons_zero, List.set_cons_succ]
  refine wpAnyH_take (i := 3) (oi := { dst := some 7, op := .fieldAddr 58 (.tmp 6) 1, type := _, pos := _, after := _, guard := none }) (v := .pointer (some ⟨b, 96, none⟩)) rfl (by kernel_rfl) (by kernel_rfl) (by kernel_rfl) (fun _ _ _ h => h) (Or.inl ⟨by rfl, fun wh hSw => ?_⟩) hHeld ?_
  · (go_simp)
  try simp only [Act.put, List.setIfInBounds_toArray, List.set_cons_zero, List.set_cons_succ]
  refine wpAnyH_take (i := 4) (oi := { dst := some 8, op := .load 3 (.tmp 7), type := _, pos := _, after := _, guard := none }) (v := .int .i64 (c : Int)) rfl (by kernel_rfl) (by kernel_rfl) (by kernel_rfl) (fun _ _ _ h => h) (Or.inl ⟨by rfl, fun wh hSw => ?_⟩) hHeld ?_
  · (go_simp)
  try simp only [Act.put, List.setIfInBounds_toArray, List.set_cons_zero, List.set_cons_succ]
  refine wpAnyH_take (i := 5) (oi := { dst := some 9, op := .move (.tmp 1), type := _, pos := _, after := _, guard := none }) (v := .iface 3 (.int .i64 x)) rfl (by kernel_rfl) (by kernel_rfl) (by kernel_rfl) (fun _ _ _ h => h) (Or.inl ⟨by rfl, fun wh hSw => ?_⟩) hHeld ?_
  · (go_simp)
  try simp only [Act.put, List.setIfInBounds_toArray, List.set_cons_zero, List.set_cons_succ]
  refine wpAnyH_take (i := 6) (oi := { dst := some 10, op := .typeAssert (.tmp 9) 20 3 false, type := _, pos := _, after := _, guard := none }) (v := .int .i64 x) rfl (by kernel_rfl) (by kernel_rfl) (by kernel_rfl) (fun _ _ _ h => h) (Or.inl ⟨by rfl, fun wh hSw => ?_⟩) hHeld ?_
  · (go_simp)
  try simp only [Act.put, List.setIfInBounds_toArray, List.set_cons_zero, List.set_cons_succ]
  refine wpAnyH_take (i := 7) (oi := { dst := some 11, op := .nilCheck (.tmp 4), type := _, pos := _, after := _, guard := none }) (v := .pointer (some ⟨b, 80, none⟩)) rfl (by kernel_rfl) (by kernel_rfl) (by kernel_rfl) (fun _ _ _ h => h) (Or.inl ⟨by rfl, fun wh hSw => ?_⟩) hHeld ?_
  · (go_simp)
  try simp only [Act.put, List.setIfInBounds_toArray, List.set_cons_zero, List.set_cons_succ]
  refine wpAnyH_take (i := 8) (oi := { dst := some 12, op := .fieldAddr 58 (.tmp 11) 0, type := _, pos := _, after := _, guard := none }) (v := .pointer (some ⟨b, 80, none⟩)) rfl (by kernel_rfl) (by kernel_rfl) (by kernel_rfl) (fun _ _ _ h => h) (Or.inl ⟨by rfl, fun wh hSw => ?_⟩) hHeld ?_
  · (go_simp)
  try simp only [Act.put, List.setIfInBounds_toArray, List.set_cons_zero, List.set_cons_succ]
  refine wpAnyH_take (i := 9) (oi := { dst := some 13, op := .indexAddr 56 (.tmp 12) (.tmp 8), type := _, pos := _, after := _, guard := none }) (v := .pointer (some ⟨b, 80 + c, none⟩)) rfl (by kernel_rfl) (by kernel_rfl) (by kernel_rfl) (fun _ _ _ h => h) (Or.inl ⟨by rfl, fun wh hSw => ?_⟩) hHeld ?_
  · (go_simp)
  try simp only [Act.put, List.setIfInBounds_toArray, List.set_cons_zero, List.set_cons_succ]
  refine wpAnyH_ready (rs := [10]) (by kernel_rfl) (by simp) ?_
  refine AllReadyH.cons (o := { dst := none, op := .store 3 (.tmp 13) (.tmp 10), type := _, pos := _, after := _, guard := none }) rfl (fun K hK => ?_) AllReadyH.nil
  go_simp
  refine hK.out _ _ ?_ (fun hHeld => ?_)
  · exact KP.out
  clear hK K
  try simp only [Act.put, List.setIfInBounds_toArray, List.set_cons_zero, List.set_cons_succ]
  obtain ⟨A2, hA2⟩ : ∃ A2, A2 = AZ.setCell ⟨b, 80 + c, none⟩ (.int .i64 x) := ⟨_, rfl⟩
  rw [← hA2]
  have H2 : Hid (HpR w b C (putC C (80 + c) [.int .i64 x]) A2) := Lib.hid (by rw [hA2]; exact HZ.out.trans (HpR.set HZ.out.blk HZ.out.nums c (by omega) x))
  have k1 := H2.out.blk.cell 96 (by omega)
  have k2 := H2.out.blk.frz 96 (by omega)
  rw [putC_ne (by omega), hc] at k1
  clear hA2 hHeld
  refine wpAnyH_done (by kernel_rfl) ?_ _
  go_wp2_with fail
  refine bodyPost_end (results_none rfl _ _ _) rfl ?_
  exact ⟨rfl, H2.out.trans (HpR.set H2.out.blk H2.out.nums 16 (by omega) ((c : Int) + 1))⟩
set_option maxHeartbeats 1000000 in
theorem swp_any (w : World) (b : Nat) (C : Nat → Value) (h : Blk w b C) (hn : Nums C) (i j : Nat) (hi : i < 16) (hj : j < 16) :
    Calls Try.prog 78 #[.pointer (some ⟨b, 80, none⟩), .int .i64 i, .int .i64 j] w fun e w' => e = .returned (.tuple #[]) ∧ HpR w b C (putC (putC C (80 + i) [C (80 + j)]) (80 + j) [C (80 + i)]) w' := by
  obtain ⟨x, hx⟩ := hn i (by omega)
  obtain ⟨y, hy⟩ := hn j (by omega)
  have c1 := h.cell (80 + i) (by omega)
  have c2 := h.cell (80 + j) (by omega)
  rw [hx] at c1
  rw [hy] at c2
  rw [hx, hy]
  have i1 : (i : Int) < 16 := by omega
  have j1 : (j : Int) < 16 := by omega
  have HH := Lib.hid h
  have HN := Lib.hid hn
  clear h hn
  go_enter Try.func78, Try.ntmps78
  go_wp2_with fail
  refine wp_region_held_drew (S := fun _ => True) (by kernel_rfl) trivial (fun hHeld => ?_)
  refine anyH_gen _ (fun AZ hgen => ?_)
  have HZ := Lib.hid (by rw [hgen]; exact HpR.drew HH.out HN.out : HpR w b C C AZ)
  clear hgen
  have z1 := HZ.out.blk.cell (80 + i) (by omega)
  have z2 := HZ.out.blk.cell (80 + j) (by omega)
  have z3 := HZ.out.blk.frz (80 + i) (by omega)
  rw [hx] at z1
  rw [hy] at z2
  refine wpAnyH_take (i := 0) (oi := { dst := some 6, op := .move (.tmp 0), type := _, pos := _, after := _, guard := none }) (v := .pointer (some ⟨b, 80, none⟩)) rfl (by kernel_rfl) (by kernel_rfl) (by kernel_rfl) (fun _ _ _ h => h) (Or.inl ⟨by rfl, fun wh hSw => ?_⟩) hHeld ?_
  · (go_simp)
  try simp only [Act.put, List.setIfInBounds_toArray, List.set_cons_zero, List.set_cons_succ]
  refine wpAnyH_take (i := 1) (oi := { dst := some 7, op := .move (.tmp 1), type := _, pos := _, after := _, guard := none }) (v := .int .i64 (i : Int)) rfl (by kernel_rfl) (by kernel_rfl) (by kernel_rfl) (fun _ _ _ h => h) (Or.inl ⟨by rfl, fun wh hSw => ?_⟩) hHeld ?_
  · (go_simp)
  try simp only [Act.put, List.setIfInBounds_toArray, List.set_cons_zero, List.set_cons_succ]
  refine wpAnyH_take (i := 2) (oi := { dst := some 8, op := .move (.tmp 0), type := _, pos := _, after := _, guard := none }) (v := .pointer (some ⟨b, 80, none⟩)) rfl (by kernel_rfl) (by kernel_rfl) (by kernel_rfl) (fun _ _ _ h => h) (Or.inl ⟨by rfl, fun wh hSw => ?_⟩) hHeld ?_
  · (go_simp)
  try simp only [Act.put, List.setIfInBounds_toArray, List.set_cons_zero, List.set_cons_succ]
  refine wpAnyH_take (i := 3) (oi := { dst := some 9, op := .move (.tmp 2), type := _, pos := _, after := _, guard := none }) (v := .int .i64 (j : Int)) rfl (by kernel_rfl) (by kernel_rfl) (by kernel_rfl) (fun _ _ _ h => h) (Or.inl ⟨by rfl, fun wh hSw => ?_⟩) hHeld ?_
  · (go_simp)
  try simp only [Act.put, List.setIfInBounds_toArray, List.set_cons_zero, List.set_cons_succ]
  refine wpAnyH_take (i := 4) (oi := { dst := some 10, op := .move (.tmp 0), type := _, pos := _, after := _, guard := none }) (v := .pointer (some ⟨b, 80, none⟩)) rfl (by kernel_rfl) (by kernel_rfl) (by kernel_rfl) (fun _ _ _ h => h) (Or.inl ⟨by rfl, fun wh hSw => ?_⟩) hHeld ?_
  · (go_simp)
  try simp only [Act.put, List.setIfInBounds_toArray, List.set_cons_zero, List.set_cons_succ]
  refine wpAnyH_take (i := 5) (oi := { dst := some 11, op := .move (.tmp 2), type := _, pos := _, after := _, guard := none }) (v := .int .i64 (j : Int)) rfl (by kernel_rfl) (by kernel_rfl) (by kernel_rfl) (fun _ _ _ h => h) (Or.inl ⟨by rfl, fun wh hSw => ?_⟩) hHeld ?_
  · (go_simp)
  try simp only [Act.put, List.setIfInBounds_toArray, List.set_cons_zero, List.set_cons_succ]
  refine wpAnyH_take (i := 6) (oi := { dst := some 12, op := .nilCheck (.tmp 10), type := _, pos := _, after := _, guard := none }) (v := .pointer (some ⟨b, 80, none⟩)) rfl (by kernel_rfl) (by kernel_rfl) (by kernel_rfl) (fun _ _ _ h => h) (Or.inl ⟨by rfl, fun wh hSw => ?_⟩) hHeld ?_
  · (go_simp)
  try simp only [Act.put, List.setIfInBounds_toArray, List.set_cons_zero, List.set_cons_succ]
  refine wpAnyH_take (i := 7) (oi := { dst := some 13, op := .fieldAddr 58 (.tmp 12) 0, type := _, pos := _, after := _, guard := none }) (v := .pointer (some ⟨b, 80, none⟩)) rfl (by kernel_rfl) (by kernel_rfl) (by kernel_rfl) (fun _ _ _ h => h) (Or.inl ⟨by rfl, fun wh hSw => ?_⟩) hHeld ?_
  · (go_simp)
  try simp only [Act.put, List.setIfInBounds_toArray, List.set_cons_zero, List.set_cons_succ]
  refine wpAnyH_take (i := 8) (oi := { dst := some 14, op := .indexAddr 56 (.tmp 13) (.tmp 11), type := _, pos := _, after := _, guard := none }) (v := .pointer (some ⟨b, 80 + j, none⟩)) rfl (by kernel_rfl) (by kernel_rfl) (by kernel_rfl) (fun _ _ _ h => h) (Or.inl ⟨by rfl, fun wh hSw => ?_⟩) hHeld ?_
  · (go_simp)
  try simp only [Act.put, List.setIfInBounds_toArray, List.set_cons_zero, List.set_cons_succ]
  refine wpAnyH_take (i := 10) (oi := { dst := some 16, op := .move (.tmp 0), type := _, pos := _, after := _, guard := none }) (v := .pointer (some ⟨b, 80, none⟩)) rfl (by kernel_rfl) (by kernel_rfl) (by kernel_rfl) (fun _ _ _ h => h) (Or.inl ⟨by rfl, fun wh hSw => ?_⟩) hHeld ?_
  · (go_simp)
  try simp only [Act.put, List.setIfInBounds_toArray, List.set_cons_zero, List.set_cons_succ]
  refine wpAnyH_take (i := 11) (oi := { dst := some 17, op := .move (.tmp 1), type := _, pos := _, after := _, guard := none }) (v := .int .i64 (i : Int)) rfl (by kernel_rfl) (by kernel_rfl) (by kernel_rfl) (fun _ _ _ h => h) (Or.inl ⟨by rfl, fun wh hSw => ?_⟩) hHeld ?_
  · (go_simp)
  try simp only [Act.put, List.setIfInBounds_toArray, List.set_cons_zero, List.set_cons_succ]
  refine wpAnyH_take (i := 12) (oi := { dst := some 18, op := .nilCheck (.tmp 16), type := _, pos := _, after := _, guard := none }) (v := .pointer (some ⟨b, 80, none⟩)) rfl (by kernel_rfl) (by kernel_rfl) (by kernel_rfl) (fun _ _ _ h => h) (Or.inl ⟨by rfl, fun wh hSw => ?_⟩) hHeld ?_
  · (go_simp)
  try simp only [Act.put, List.setIfInBounds_toArray, List.set_cons_zero, List.set_cons_succ]
  refine wpAnyH_take (i := 13) (oi := { dst := some 19, op := .fieldAddr 58 (.tmp 18) 0, type := _, pos := _, after := _, guard := none }) (v := .pointer (some ⟨b, 80, none⟩)) rfl (by kernel_rfl) (by kernel_rfl) (by kernel_rfl) (fun _ _ _ h => h) (Or.inl ⟨by rfl, fun wh hSw => ?_⟩) hHeld ?_
  · (go_simp)
  try simp only [Act.put, List.setIfInBounds_toArray, List.set_cons_zero, List.set_cons_succ]
  refine wpAnyH_take (i := 14) (oi := { dst := some 20, op := .indexAddr 56 (.tmp 19) (.tmp 17), type := _, pos := _, after := _, guard := none }) (v := .pointer (some ⟨b, 80 + i, none⟩)) rfl (by kernel_rfl) (by kernel_rfl) (by kernel_rfl) (fun _ _ _ h => h) (Or.inl ⟨by rfl, fun wh hSw => ?_⟩) hHeld ?_
  · (go_simp)
  try simp only [Act.put, List.setIfInBounds_toArray, List.set_cons_zero, List.set_cons_succ]
  refine wpAnyH_take (i := 16) (oi := { dst := some 22, op := .nilCheck (.tmp 6), type := _, pos := _, after := _, guard := none }) (v := .pointer (some ⟨b, 80, none⟩)) rfl (by kernel_rfl) (by kernel_rfl) (by kernel_rfl) (fun _ _ _ h => h) (Or.inl ⟨by rfl, fun wh hSw => ?_⟩) hHeld ?_
  · (go_simp)
  try simp only [Act.put, List.setIfInBounds_toArray, List.set_cons_zero, List.set_cons_succ]
  refine wpAnyH_take (i := 17) (oi := { dst := some 23, op := .fieldAddr 58 (.tmp 22) 0, type := _, pos := _, after := _, guard := none }) (v := .pointer (some ⟨b, 80, none⟩)) rfl (by kernel_rfl) (by kernel_rfl) (by kernel_rfl) (fun _ _ _ h => h) (Or.inl ⟨by rfl, fun wh hSw => ?_⟩) hHeld ?_
  · (go_simp)
  try simp only [Act.put, List.setIfInBounds_toArray, List.set_cons_zero, List.set_cons_succ]
  refine wpAnyH_take (i := 20) (oi := { dst := some 25, op := .nilCheck (.tmp 8), type := _, pos := _, after := _, guard := none }) (v := .pointer (some ⟨b, 80, none⟩)) rfl (by kernel_rfl) (by kernel_rfl) (by kernel_rfl) (fun _ _ _ h => h) (Or.inl ⟨by rfl, fun wh hSw => ?_⟩) hHeld ?_
  · (go_simp)
  try simp only [Act.put, List.setIfInBounds_toArray, List.set_cons_zero, List.set_cons_succ]
  refine wpAnyH_take (i := 21) (oi := { dst := some 26, op := .fieldAddr 58 (.tmp 25) 0, type := _, pos := _, after := _, guard := none }) (v := .pointer (some ⟨b, 80, none⟩)) rfl (by kernel_rfl) (by kernel_rfl) (by kernel_rfl) (fun _ _ _ h => h) (Or.inl ⟨by rfl, fun wh hSw => ?_⟩) hHeld ?_
  · (go_simp)
  try simp only [Act.put, List.setIfInBounds_toArray, List.set_cons_zero, List.set_cons_succ]
  refine wpAnyH_ready (rs := [9, 15]) (by kernel_rfl) (by simp) ?_
  refine AllReadyH.cons (o := { dst := some 15, op := .load 3 (.tmp 14), type := _, pos := _, after := _, guard := none }) rfl (fun K hK => ?_) (AllReadyH.cons (o := { dst := some 21, op := .load 3 (.tmp 20), type := _, pos := _, after := _, guard := none }) rfl (fun K hK => ?_) AllReadyH.nil)
  · go_simp
    refine hK.out _ _ ?_ (fun hHeld => ?_)
    · trivial
    clear hK K
    try simp only [Act.put, List.setIfInBounds_toArray, List.set_cons_zero, List.set_cons_succ]
    refine wpAnyH_ready (rs := [15]) (by kernel_rfl) (by simp) ?_
    refine AllReadyH.cons (o := { dst := some 21, op := .load 3 (.tmp 20), type := _, pos := _, after := _, guard := none }) rfl (fun K hK => ?_) AllReadyH.nil
    go_simp
    refine hK.out _ _ ?_ (fun hHeld => ?_)
    · trivial
    clear hK K
    try simp only [Act.put, List.setIfInBounds_toArray, List.set_cons_zero, List.set_cons_succ]
    refine wpAnyH_take (i := 18) (oi := { dst := some 24, op := .indexAddr 56 (.tmp 23) (.tmp 7), type := _, pos := _, after := _, guard := none }) (v := .pointer (some ⟨b, 80 + i, none⟩)) rfl (by kernel_rfl) (by kernel_rfl) (by kernel_rfl) (fun _ _ _ h => h) (Or.inl ⟨by rfl, fun wh hSw => ?_⟩) hHeld ?_
    · (go_simp)
    try simp only [Act.put, List.setIfInBounds_toArray, List.set_cons_zero, List.set_cons_succ]
    refine wpAnyH_ready (rs := [19]) (by kernel_rfl) (by simp) ?_
    refine AllReadyH.cons (o := { dst := none, op := .store 3 (.tmp 24) (.tmp 15), type := _, pos := _, after := _, guard := none }) rfl (fun K hK => ?_) AllReadyH.nil
    go_simp
    refine hK.out _ _ ?_ (fun hHeld => ?_)
    · trivial
    clear hK K
    try simp only [Act.put, List.setIfInBounds_toArray, List.set_cons_zero, List.set_cons_succ]
    obtain ⟨A2, hA2⟩ : ∃ A2, A2 = AZ.setCell ⟨b, 80 + i, none⟩ (.int .i64 y) := ⟨_, rfl⟩
    rw [← hA2]
    have H2 : Hid (HpR w b C (putC C (80 + i) [.int .i64 y]) A2) := Lib.hid (by rw [hA2]; exact HZ.out.trans (HpR.set HZ.out.blk HZ.out.nums i (by omega) y))
    obtain ⟨z, hz⟩ := H2.out.nums j (by omega)
    have k1 := H2.out.blk.cell (80 + j) (by omega)
    have k2 := H2.out.blk.frz (80 + j) (by omega)
    rw [hz] at k1
    clear hz hA2
    refine wpAnyH_take (i := 22) (oi := { dst := some 27, op := .indexAddr 56 (.tmp 26) (.tmp 9), type := _, pos := _, after := _, guard := none }) (v := .pointer (some ⟨b, 80 + j, none⟩)) rfl (by kernel_rfl) (by kernel_rfl) (by kernel_rfl) (fun _ _ _ h => h) (Or.inl ⟨by rfl, fun wh hSw => ?_⟩) hHeld ?_
    · (go_simp)
    try simp only [Act.put, List.setIfInBounds_toArray, List.set_cons_zero, List.set_cons_succ]
    refine wpAnyH_ready (rs := [23]) (by kernel_rfl) (by simp) ?_
    refine AllReadyH.cons (o := { dst := none, op := .store 3 (.tmp 27) (.tmp 21), type := _, pos := _, after := _, guard := none }) rfl (fun K hK => ?_) AllReadyH.nil
    go_simp
    refine hK.out _ _ ?_ (fun hHeld => ?_)
    · trivial
    clear hK K
    try simp only [Act.put, List.setIfInBounds_toArray, List.set_cons_zero, List.set_cons_succ]
    refine wpAnyH_done (by kernel_rfl) ?_ _
    go_wp2_with fail
    refine bodyPost_end (results_none rfl _ _ _) rfl ?_
    exact ⟨rfl, H2.out.trans (HpR.set H2.out.blk H2.out.nums j (by omega) x)⟩
  · go_simp
    refine hK.out _ _ ?_ (fun hHeld => ?_)
    · trivial
    clear hK K
    try simp only [Act.put, List.setIfInBounds_toArray, List.set_cons_zero, List.set_cons_succ]
    refine wpAnyH_ready (rs := [9]) (by kernel_rfl) (by simp) ?_
    refine AllReadyH.cons (o := { dst := some 15, op := .load 3 (.tmp 14), type := _, pos := _, after := _, guard := none }) rfl (fun K hK => ?_) AllReadyH.nil
    go_simp
    refine hK.out _ _ ?_ (fun hHeld => ?_)
    · trivial
    clear hK K
    try simp only [Act.put, List.setIfInBounds_toArray, List.set_cons_zero, List.set_cons_succ]
    refine wpAnyH_take (i := 18) (oi := { dst := some 24, op := .indexAddr 56 (.tmp 23) (.tmp 7), type := _, pos := _, after := _, guard := none }) (v := .pointer (some ⟨b, 80 + i, none⟩)) rfl (by kernel_rfl) (by kernel_rfl) (by kernel_rfl) (fun _ _ _ h => h) (Or.inl ⟨by rfl, fun wh hSw => ?_⟩) hHeld ?_
    · (go_simp)
    try simp only [Act.put, List.setIfInBounds_toArray, List.set_cons_zero, List.set_cons_succ]
    refine wpAnyH_ready (rs := [19]) (by kernel_rfl) (by simp) ?_
    refine AllReadyH.cons (o := { dst := none, op := .store 3 (.tmp 24) (.tmp 15), type := _, pos := _, after := _, guard := none }) rfl (fun K hK => ?_) AllReadyH.nil
    go_simp
    refine hK.out _ _ ?_ (fun hHeld => ?_)
    · trivial
    clear hK K
    try simp only [Act.put, List.setIfInBounds_toArray, List.set_cons_zero, List.set_cons_succ]
    obtain ⟨A2, hA2⟩ : ∃ A2, A2 = AZ.setCell ⟨b, 80 + i, none⟩ (.int .i64 y) := ⟨_, rfl⟩
    rw [← hA2]
    have H2 : Hid (HpR w b C (putC C (80 + i) [.int .i64 y]) A2) := Lib.hid (by rw [hA2]; exact HZ.out.trans (HpR.set HZ.out.blk HZ.out.nums i (by omega) y))
    obtain ⟨z, hz⟩ := H2.out.nums j (by omega)
    have k1 := H2.out.blk.cell (80 + j) (by omega)
    have k2 := H2.out.blk.frz (80 + j) (by omega)
    rw [hz] at k1
    clear hz hA2
    refine wpAnyH_take (i := 22) (oi := { dst := some 27, op := .indexAddr 56 (.tmp 26) (.tmp 9), type := _, pos := _, after := _, guard := none }) (v := .pointer (some ⟨b, 80 + j, none⟩)) rfl (by kernel_rfl) (by kernel_rfl) (by kernel_rfl) (fun _ _ _ h => h) (Or.inl ⟨by rfl, fun wh hSw => ?_⟩) hHeld ?_
    · (go_simp)
    try simp only [Act.put, List.setIfInBounds_toArray, List.set_cons_zero, List.set_cons_succ]
    refine wpAnyH_ready (rs := [23]) (by kernel_rfl) (by simp) ?_
    refine AllReadyH.cons (o := { dst := none, op := .store 3 (.tmp 27) (.tmp 21), type := _, pos := _, after := _, guard := none }) rfl (fun K hK => ?_) AllReadyH.nil
    go_simp
    refine hK.out _ _ ?_ (fun hHeld => ?_)
    · trivial
    clear hK K
    try simp only [Act.put, List.setIfInBounds_toArray, List.set_cons_zero, List.set_cons_succ]
    refine wpAnyH_done (by kernel_rfl) ?_ _
    go_wp2_with fail
    refine bodyPost_end (results_none rfl _ _ _) rfl ?_
    exact ⟨rfl, H2.out.trans (HpR.set H2.out.blk H2.out.nums j (by omega) x)⟩
end Go.Proofs.Ytaalnjinocicgaa
namespace Go.Proofs.Ytaalnjinocicgaa
open Go.ChangeShapes Go.WideShapes Go.ChangeAt Go.RowKit
set_option linter.unusedVariables false
set_option linter.unusedSimpArgs false
theorem m_len (w : World) (b : Nat) : (method 255 76 (.pointer (some ⟨b, 80, none⟩)) "Len").run Try.prog w = .ok (53, .pointer (some ⟨b, 80, none⟩)) w := by kernel_rfl
theorem m_less (w : World) (b : Nat) : (method 255 76 (.pointer (some ⟨b, 80, none⟩)) "Less").run Try.prog w = .ok (75, .pointer (some ⟨b, 80, none⟩)) w := by kernel_rfl
theorem m_swap (w : World) (b : Nat) : (method 255 76 (.pointer (some ⟨b, 80, none⟩)) "Swap").run Try.prog w = .ok (78, .pointer (some ⟨b, 80, none⟩)) w := by kernel_rfl
theorem m_push (w : World) (b : Nat) : (method 255 76 (.pointer (some ⟨b, 80, none⟩)) "Push").run Try.prog w = .ok (77, .pointer (some ⟨b, 80, none⟩)) w := by kernel_rfl
theorem HpR.sames {w w1 w2 : World} {b : Nat} {C C1 : Nat → Value} (h : HpR w b C C1 w1) (k : Below w1.heap.size w1 w2) (hs : w2.heap.size = w1.heap.size) : HpR w b C C1 w2 :=
  ⟨h.blk.below k h.blk.lt, h.nums, h.low, h.chg.trans (Chg.of_bel k), hs.trans h.size⟩
def Stay (C : Nat → Value) (j : Nat) : Prop := 0 < j → ∀ x y : Int, C (80 + (j - 1) / 2) = .int .i64 x → C (80 + j) = .int .i64 y → x ≤ y
def UpR (w : World) (b : Nat) (C : Nat → Value) (j : Nat) (e : Ending) (w' : World) : Prop :=
  e = .returned (.tuple #[]) ∧ ∃ C', HpR w b C C' w' ∧ C' 96 = C 96 ∧ (Stay C j → ∀ m, C' m = C m)
set_option maxHeartbeats 1000000 in
theorem up_any (w : World) (b : Nat) (C : Nat → Value) (h : Blk w b C) (hn : Nums C) (j : Nat) (hj : j < 16) :
    Calls Try.prog 56 #[.iface 76 (.pointer (some ⟨b, 80, none⟩)), .int .i64 j] w (UpR w b C j) := by
  have ML := m_less
  have MS := m_swap
  have HR := Lib.hid (HpR.refl h hn)
  clear h hn
  go_enter Try.func56, Try.ntmps56
  go_wp2_with fail
  go_loopw [1] (fun i wr => ∃ (k : Nat) (C' : Nat → Value), k < 16 ∧ i = .int .i64 k ∧ Hid (HpR w b C C' wr) ∧ Hid (C' 96 = C 96) ∧ Hid ((k = j ∧ ∀ m, C' m = C m) ∨ ¬ Stay C j)) (fun i _ => (intOf i).toNat)
  case atStart => exact ⟨j, C, hj, rfl, HR, Lib.hid rfl, Lib.hid (.inl ⟨rfl, fun _ => rfl⟩)⟩
  case round =>
    obtain ⟨k, C', hk, rfl, HK, H96, HS⟩ := hrel
    by_cases h0 : k = 0
    · subst h0
      go_wp2_with fail
      refine bodyPost_end (results_none rfl _ _ _) rfl ?_
      exact ⟨rfl, C', HK.out, H96.out, fun hs => HS.out.elim (fun h => h.2) (fun h => absurd hs h)⟩
    · obtain ⟨p, hp⟩ : ∃ p, p = (k - 1) / 2 := ⟨_, rfl⟩
      obtain ⟨x, hx⟩ := HK.out.nums k (by omega)
      obtain ⟨y, hy⟩ := HK.out.nums p (by omega)
      have HX := Lib.hid hx
      have HY := Lib.hid hy
      have HP := Lib.hid hp
      have HL := Lib.hid (less_any wr b C' HK.out.blk k p hk (by omega) x y hx hy)
      have e : ((k : Int) - 1) / 2 = (p : Int) := by omega
      clear hx hy hp
      go_wp2_with fail
      try simp only [e]
      clear e
      refine HL.out.mono ?_
      rintro en w5 ⟨rfl, hb5, hs5⟩
      have HK5 := Lib.hid (HK.out.sames hb5 hs5)
      clear hb5 hs5
      by_cases hxy : x < y
      · have HW := Lib.hid (swp_any w5 b C' HK5.out.blk HK5.out.nums p k (by have := HP.out; omega) hk)
        go_wp2_with fail
        refine HW.out.mono ?_
        rintro en w6 ⟨rfl, hh6⟩
        have HK6 := Lib.hid (HK5.out.trans hh6)
        clear hh6
        go_wp2_with fail
        go_roundw
        case rel =>
          refine ⟨p, _, by have := HP.out; omega, rfl, HK6, Lib.hid (by rw [putC_ne (by omega), putC_ne (by have := HP.out; omega)]; exact H96.out), Lib.hid (.inr (fun hs => ?_))⟩
          rcases HS.out with ⟨rfl, hc⟩ | h
          · have := hs (by omega) y x (by rw [← hc, ← HP.out]; exact HY.out) (by rw [← hc]; exact HX.out)
            omega
          · exact h hs
        case measure => simp [intOf]; have := HP.out; omega
      · have hxy' : decide (x < y) = false := decide_eq_false hxy
        rw [hxy']
        clear hxy hxy'
        go_wp2_with fail
        refine bodyPost_end (results_none rfl _ _ _) rfl ?_
        exact ⟨rfl, C', HK5.out, H96.out, fun hs => HS.out.elim (fun h => h.2) (fun h => absurd hs h)⟩
end Go.Proofs.Ytaalnjinocicgaa
namespace Go.Proofs.Ytaalnjinocicgaa
open Go.ChangeShapes Go.WideShapes Go.ChangeAt Go.RowKit
set_option linter.unusedVariables false
set_option linter.unusedSimpArgs false
def PushR (w : World) (b : Nat) (C : Nat → Value) (c : Nat) (x : Int) (e : Ending) (w' : World) : Prop :=
  e = .returned (.tuple #[]) ∧ ∃ C', HpR w b C C' w' ∧ ((∀ i, i < c → ∀ y : Int, C (80 + i) = .int .i64 y → y ≤ x) → ∀ m, C' m = putC (putC C (80 + c) [.int .i64 x]) 96 [.int .i64 ((c : Int) + 1)] m)
theorem hpush_any (w : World) (b : Nat) (C : Nat → Value) (h : Blk w b C) (hn : Nums C) (c : Nat) (hc : C 96 = .int .i64 (c : Int)) (hc15 : c < 16) (x : Int) :
    Calls Try.prog 51 #[.iface 76 (.pointer (some ⟨b, 80, none⟩)), .iface 3 (.int .i64 x)] w (PushR w b C c x) := by
  have ML := m_len
  have MP := m_push
  have HP := Lib.hid (push_any w b C h hn c hc hc15 x)
  clear h hn hc
  go_enter Try.func51, Try.ntmps51
  go_wp2_with fail
  refine HP.out.mono ?_
  rintro en w1 ⟨rfl, h1⟩
  obtain ⟨C1, hC1⟩ : ∃ C1, C1 = putC (putC C (80 + c) [.int .i64 x]) 96 [.int .i64 ((c : Int) + 1)] := ⟨_, rfl⟩
  rw [← hC1] at h1
  have H1 := Lib.hid h1
  have HE := Lib.hid hC1
  have h96 : C1 96 = .int .i64 ((c : Int) + 1) := by rw [hC1, putC_at]
  have HL := Lib.hid (len_any w1 b C1 h1.blk ((c : Int) + 1) h96)
  have HU := Lib.hid (up_any w1 b C1 h1.blk h1.nums c hc15)
  clear h1 h96 hC1 HP
  go_wp2_with fail
  refine HL.out.mono ?_
  rintro en w2 ⟨rfl, rfl⟩
  go_wp2_with fail
  refine HU.out.mono ?_
  rintro en w3 ⟨rfl, C', hh, _, hs⟩
  have HH := Lib.hid (H1.out.trans hh)
  have HS := Lib.hid hs
  clear hh hs
  go_wp2_with fail
  refine bodyPost_end (results_none rfl _ _ _) rfl ?_
  refine ⟨rfl, C', HH.out, fun hb m => ?_⟩
  rw [← HE.out]
  refine HS.out (fun hp y z hy hz => ?_) m
  rw [HE.out, putC_ne (by omega), putC_ne (by omega)] at hy
  rw [HE.out, putC_ne (by omega), putC_at] at hz
  cases hz
  exact hb _ (by omega) y hy
end Go.Proofs.Ytaalnjinocicgaa
namespace Go.Proofs.Ytaalnjinocicgaa
open Go.ChangeShapes Go.WideShapes Go.ChangeAt Go.RowKit
set_option linter.unusedVariables false
set_option linter.unusedSimpArgs false
def rowL (xs : List Int) : List Value := xs.map (Value.int .i64) ++ [.bool true]
theorem rowL_get {xs : List Int} (h : xs.length = 4) {j : Nat} (hj : j < 4) : (rowL xs)[j]? = some (.int .i64 (xs.getD j 0)) := by
  unfold rowL
  rw [List.getElem?_append_left (by simp; omega), List.getElem?_map, List.getElem?_eq_getElem (by omega)]
  simp [List.getD_eq_getElem?_getD, List.getElem?_eq_getElem (show j < xs.length by omega)]
theorem rowL_flag {xs : List Int} (h : xs.length = 4) : (rowL xs)[4]? = some (.bool true) := by
  unfold rowL
  rw [List.getElem?_append_right (by simp; omega)]
  simp [h]
theorem rowL_len {xs : List Int} (h : xs.length = 4) : (rowL xs).length = 5 := by simp [rowL, h]
def PlaceC (C : Nat → Value) (i : Nat) (xs : List Int) : Prop := C (i * 5 + 4) = .bool (decide (xs ≠ [])) ∧ (xs ≠ [] → ∀ j, j < 4 → C (i * 5 + j) = .int .i64 (xs.getD j 0))
theorem PlaceC.congr {C C' : Nat → Value} {i : Nat} {xs : List Int} (h : PlaceC C i xs) (e : ∀ j, j < 5 → C' (i * 5 + j) = C (i * 5 + j)) : PlaceC C' i xs :=
  ⟨(e 4 (by omega)).trans h.1, fun hx j hj => (e j (by omega)).trans (h.2 hx j hj)⟩
theorem PlaceC.put {C : Nat → Value} {i k : Nat} {xs : List Int} {vs : List Value} (h : PlaceC C i xs) (hl : vs.length = 5) (hk : i ≠ k) : PlaceC (putC C (k * 5) vs) i xs :=
  h.congr (fun j hj => putC_out (by omega))
theorem PlaceC.words (C : Nat → Value) (i : Nat) {xs : List Int} (h : xs.length = 4) : PlaceC (putC C (i * 5) (rowL xs)) i xs := by
  have hn : xs ≠ [] := by intro e; rw [e] at h; simp at h
  exact ⟨by rw [decide_eq_true hn]; exact putC_in (rowL_flag h), fun _ j hj => putC_in (rowL_get h hj)⟩
theorem PlaceC.free (C : Nat → Value) (i : Nat) {vs : List Value} (h : vs[4]? = some (.bool false)) : PlaceC (putC C (i * 5) vs) i [] :=
  ⟨putC_in h, fun hh => absurd rfl hh⟩
theorem One.put {C : Nat → Value} (h : One C) (o : Nat) {vs : List Value} (hv : ∀ v ∈ vs, v.oneCell' = true) : One (putC C o vs) := fun j hj => by
  unfold putC
  by_cases hin : o ≤ j ∧ j < o + vs.length
  · rw [if_pos hin, List.getD_eq_getElem?_getD, List.getElem?_eq_getElem (show j - o < vs.length by omega)]
    exact hv _ (List.getElem_mem _)
  · rw [if_neg hin]; exact h j hj
theorem Nums.put {C : Nat → Value} (h : Nums C) {k : Nat} (hk : k < 16) {vs : List Value} (hl : vs.length = 5) : Nums (putC C (k * 5) vs) := fun i hi => by
  rw [putC_out (by omega)]; exact h i hi
theorem rowL_mem (xs : List Int) : ∀ v ∈ rowL xs, v.oneCell' = true := fun v hv => by
  unfold rowL at hv
  rcases List.mem_append.1 hv with h | h
  · obtain ⟨x, _, rfl⟩ := List.mem_map.1 h
    rfl
  · simp at h; rw [h]; rfl
structure Hp (C : Nat → Value) (xss : Rs) (k c : Nat) : Prop where
  le : c ≤ k
  cnt : C 96 = .int .i64 (c : Int)
  small : ∀ i, i < c → ∀ y : Int, C (80 + i) = .int .i64 y → y ≤ k
  none : c = 0 → ∀ i, i < k → xss.getD i [] ≠ []
  some : 0 < c → sidx xss < k ∧ C 80 = .int .i64 (sidx xss : Int)
  full : c = k → ∀ i, i < k → xss.getD i [] = []
structure SwSt (xss : Rs) (k c : Nat) (C : Nat → Value) : Prop where
  done : ∀ i, i < k → PlaceC C i (xss.getD i [])
  rows : ∀ i, i < k → rowOk (xss.getD i []) = true
  rest : ∀ i, k ≤ i → i < 16 → C (i * 5 + 4) = .bool false
  nums : Nums C
  one : One C
  hp : Hp C xss k c
def Z0 (j : Nat) : Value := if j < 80 ∧ j % 5 = 4 then .bool false else .int .i64 0
theorem Z0_nums : Nums Z0 := fun i hi => ⟨0, by unfold Z0; rw [if_neg (by omega)]⟩
theorem Z0_one : One Z0 := fun j hj => by unfold Z0; split <;> rfl
theorem SwSt.start (xss : Rs) : SwSt xss 0 0 Z0 :=
  ⟨fun i hi => by omega, fun i hi => by omega, fun i _ hi => by unfold Z0; rw [if_pos (by omega)], Z0_nums, Z0_one,
    ⟨Nat.le_refl _, by unfold Z0; rw [if_neg (by omega)]; rfl, fun i hi => by omega, fun _ i hi => by omega, fun h => by omega, fun _ i hi => by omega⟩⟩
theorem SwSt.words {xss : Rs} {k c : Nat} {C : Nat → Value} (h : SwSt xss k c C) (hk : k < 16) {xs : List Int} (hx : xs = xss.getD k []) (hw : wordsOk xs = true) : SwSt xss (k + 1) c (putC C (k * 5) (rowL xs)) := by
  have hl := words_len hw
  have h5 := rowL_len hl
  have hne : xs ≠ [] := by intro e; rw [e] at hl; simp at hl
  refine ⟨fun i hi => ?_, fun i hi => ?_, fun i h1 h2 => ?_, h.nums.put hk h5, h.one.put _ (rowL_mem xs), ?_⟩
  · by_cases hik : i = k
    · subst hik; rw [← hx]; exact PlaceC.words C i hl
    · exact (h.done i (by omega)).put h5 hik
  · by_cases hik : i = k
    · subst hik; rw [← hx]; exact row_words hw
    · exact h.rows i (by omega)
  · rw [putC_out (by omega)]; exact h.rest i (by omega) h2
  · have hp := h.hp
    refine ⟨by have := hp.le; omega, by rw [putC_out (by omega)]; exact hp.cnt, fun i hi y hy => ?_, fun h0 i hi => ?_, fun h0 => ?_, fun h0 => by have := hp.le; omega⟩
    · rw [putC_out (by omega)] at hy
      have := hp.small i hi y hy
      omega
    · by_cases hik : i = k
      · subst hik; rw [← hx]; exact hne
      · exact hp.none h0 i (by omega)
    · have := hp.some h0
      exact ⟨by omega, by rw [putC_out (by omega)]; exact this.2⟩
theorem SwSt.free {xss : Rs} {k c : Nat} {C C' : Nat → Value} (h : SwSt xss k c C) (hk : k < 16) (hl : k < xss.length) (hx : xss.getD k [] = []) (e : ∀ m, C' m = putC (putC C (80 + c) [.int .i64 (k : Int)]) 96 [.int .i64 ((c : Int) + 1)] m) : SwSt xss (k + 1) (c + 1) C' := by
  have hp := h.hp
  have hc := hp.le
  have low : ∀ j, j < 80 → C' j = C j := fun j hj => by rw [e, putC_ne (by omega), putC_ne (by omega)]
  have nums : Nums C' := fun i hi => by
    rw [e]
    by_cases h1 : i = 16
    · subst h1; exact ⟨_, putC_at⟩
    · rw [putC_ne (by omega)]
      by_cases h2 : i = c
      · subst h2; exact ⟨_, putC_at⟩
      · rw [putC_ne (by omega)]; exact h.nums i hi
  refine ⟨fun i hi => ?_, fun i hi => ?_, fun i h1 h2 => ?_, nums, fun j hj => ?_, ?_⟩
  · by_cases hik : i = k
    · subst hik
      rw [hx]
      exact ⟨by rw [low _ (by omega), h.rest i (Nat.le_refl _) hk]; rfl, fun hh => absurd rfl hh⟩
    · exact (h.done i (by omega)).congr (fun j hj => low _ (by omega))
  · by_cases hik : i = k
    · subst hik; rw [hx]; rfl
    · exact h.rows i (by omega)
  · rw [low _ (by omega)]; exact h.rest i (by omega) h2
  · by_cases h8 : j < 80
    · rw [low j h8]; exact h.one j hj
    · obtain ⟨x, hx⟩ := nums (j - 80) (by omega)
      rw [show 80 + (j - 80) = j by omega] at hx
      rw [hx]; rfl
  · refine ⟨by omega, by rw [e, putC_at]; simp, fun i hi y hy => ?_, fun h0 => by omega, fun _ => ?_, fun h0 i hi => ?_⟩
    · rw [e, putC_ne (by omega)] at hy
      by_cases hic : i = c
      · subst hic
        rw [putC_at] at hy
        cases hy; omega
      · rw [putC_ne (by omega)] at hy
        have := hp.small i (by omega) y hy
        omega
    · by_cases h0 : c = 0
      · have hs : sidx xss = k := sidx_first hl (fun i hi => hp.none h0 i hi) hx
        refine ⟨by omega, ?_⟩
        rw [e, putC_ne (by omega), hs]
        subst h0
        exact putC_at
      · have := hp.some (by omega)
        refine ⟨by omega, ?_⟩
        rw [e, putC_ne (by omega), putC_ne (by omega)]
        exact this.2
    · by_cases hik : i = k
      · subst hik; exact hx
      · exact hp.full (by omega) i (by omega)
theorem SwSt.ok {xss : Rs} {c : Nat} {C : Nat → Value} (h : SwSt xss 16 c C) (hl : xss.length = 16) : swOk xss = true := by
  rw [sw_end (n := 16) hl.symm (fun i hi => h.rows i (by omega))]; rfl
end Go.Proofs.Ytaalnjinocicgaa
namespace Go.Proofs.Ytaalnjinocicgaa
open Go.ChangeShapes Go.WideShapes Go.ChangeAt Go.RowKit
set_option linter.unusedVariables false
set_option linter.unusedSimpArgs false
theorem swap_info {L : List Value} (h : L.length = 97) : (Try.prog.info? 60).map (·.size) = some L.length := by rw [h]; kernel_rfl
theorem swap_info' {L : List Value} (h : L.length = 97) : (Try.prog.info? 60).map (·.size) = some L.toArray.size := by rw [List.size_toArray]; exact swap_info h
theorem Z0_zero (w : World) : (zeroValue 60).run Try.prog w = .ok (.agg (cells Z0).toArray) w := by kernel_rfl
theorem Z0_build (w : World) : (Instr.build 60 #[]).run Try.prog w = .ok (.agg (cells Z0).toArray) w := by kernel_rfl
theorem slot_info : (Try.prog.info? 54).map (·.size) = some 5 := by kernel_rfl
theorem slot_size (w : World) : (sizeOf 54).run Try.prog w = .ok 5 w := Try.sizeOf54 w
theorem row4 {xs : List Int} (h : wordsOk xs = true) : ∃ x0 x1 x2 x3, xs = [x0, x1, x2, x3] := by
  have hl := (of_decide_eq_true h).2
  match xs, hl with
  | [x0, x1, x2, x3], _ => exact ⟨x0, x1, x2, x3, rfl⟩
def OfR (w : World) (xss : Rs) (b : Bool) (e : Ending) (w' : World) : Prop :=
  ∃ C, e = .returned (.tuple #[.agg (cells C).toArray, .bool b]) ∧ One C ∧ (b = true → ∃ c, SwSt xss 16 c C) ∧ Below w.heap.size w w'
theorem build_zero {P : Program} {ops : Array Oper} {rest : List Oper} {a : Act} {w : World} {Q : Exit → Act → World → Prop} {dst : Option Nat} {tt : TypeId} {pos : String} {after : Array Edge} (t : TypeId)
    (z : Array Value) (hz : ∀ w, (Instr.build t #[]).run P w = .ok (.agg z) w)
    (h : wpList P ops Q rest (a.put dst (.agg z)) w) : wpList P ops Q ({ dst := dst, op := .build t #[], type := tt, pos := pos, after := after, guard := none } :: rest) a w :=
  wpList_plain rfl fun _ hK => by
    unfold Oper.wp execOp
    simp only [List.map_toArray, List.map_nil, Sem.run_bind, Sem.run_pure, Result.andThen_ok, hz]
    exact hK _ _ h
set_option maxRecDepth 100000 in
set_option maxHeartbeats 2000000 in
theorem swapOf_any (w : World) (v : Value) (xss : Rs) (h : Rows2 w v xss) :
    Calls Try.prog 38 #[v] w (OfR w xss (swOk xss)) := by
  obtain ⟨a, ca, rfl, hla, hma, hxa⟩ := h
  unfold maxLen at hma
  obtain ⟨R, HR⟩ : ∃ R, Hid (R = OfR w xss (swOk xss)) := ⟨_, Lib.hid rfl⟩
  rw [← HR.out]
  have HXA := Lib.hid hxa
  obtain ⟨n, hN⟩ : ∃ n, n = xss.length := ⟨_, rfl⟩
  rw [← hN] at hla ⊢
  have HN := Lib.hid hN
  clear hN hxa
  have HBX := Lib.hid (Blk.boxed · Z0 60)
  have HST := Lib.hid (SwSt.start xss)
  obtain ⟨Z, hZ⟩ : ∃ Z, Z = cells Z0 := ⟨_, rfl⟩
  have HAL : Hid (∀ w, (zeroValue 60).run Try.prog w = .ok (.agg Z.toArray) w) := Lib.hid (by rw [hZ]; exact Z0_zero)
  have HBU : Hid (∀ w, (Instr.build 60 #[]).run Try.prog w = .ok (.agg Z.toArray) w) := Lib.hid (by rw [hZ]; exact Z0_build)
  have HZL : Hid (Z.length = 97) := Lib.hid (by rw [hZ]; exact cells_len _)
  have HZS : Hid (Z.toArray.size = 97) := Lib.hid (by rw [hZ]; exact cells_size _)
  have HZO : Hid (Z.toArray.all (·.oneCell') = true) := Lib.hid (by rw [hZ]; exact Z0_one.all)
  have HZE := Lib.hid hZ
  rw [← hZ] at HBX
  clear hZ
  have HB0 := Lib.hid ((Below.refl w.heap.size w).alloc (Nat.le_refl _) (.cells Z.toArray 60))
  by_cases hn : n = 16
  · have hn' : ((n : Int) != 16) = false := by simp; omega
    subst hn
    go_enter Try.func38, Try.ntmps38
    go_wp2_with (first | ((with_reducible refine alloc_is 60 ?_); refine alloc_arr 60 Z.toArray HAL.out ?_) | fail)
    obtain ⟨X, hX⟩ : ∃ X, w.heap.size = X := ⟨_, rfl⟩
    obtain ⟨w0, hw0⟩ : ∃ w0, (w.alloc (.cells Z.toArray 60)).alloc (.cells Z.toArray 60) = w0 := ⟨_, rfl⟩
    have HT0 : Hid (w0.there X 0 97) := Lib.hid (by rw [← hw0, ← hX]; exact ((HBX.out w).of_block (heap_alloc_old _ _ (by simp))).there)
    have HK0 : Hid (Blk w0 (X + 1) Z0) := Lib.hid (by
      have h := HBX.out (w.alloc (.cells Z.toArray 60))
      rw [World.size_alloc] at h
      rw [← hw0, ← hX]
      exact h)
    have HB : Hid (Below X w w0) := Lib.hid (by rw [← hw0, ← hX]; exact ((Below.refl _ _).alloc (Nat.le_refl _) _).alloc (by simp) _)
    have HXW := Lib.hid hX
    simp only [hX, hw0]
    clear hw0 HB0 hX
    go_loopw [15] (fun i wr => ∃ (k c : Nat) (C : Nat → Value), k ≤ 16 ∧ i = .int .i64 k ∧ Hid (wr.there X 0 97) ∧ Hid (Blk wr (X + 1) C) ∧ Hid (SwSt xss k c C) ∧ Hid (Below X w wr)) (fun i _ => 16 - (intOf i).toNat)
    case atStart => exact ⟨0, 0, Z0, Nat.zero_le _, rfl, HT0, HK0, HST, HB⟩
    case round =>
      obtain ⟨k, c, C, hk, rfl, HT, HK, HS, HBE⟩ := hrel
      by_cases hlt : k < 16
      · have hlt' : (k : Int) < 16 := by omega
        obtain ⟨b, o, ur, rfl, hc, hur⟩ := HXA.out k (by have := HN.out; omega)
        have HBW : Hid (Below w.heap.size w wr) := Lib.hid (by rw [HXW.out]; exact HBE.out)
        have hcr := (HBW.out.cell (p := ⟨b, o + k, none⟩) (cell_lt hc)).trans hc
        obtain ⟨xs, hxs⟩ : ∃ xs, xs = xss.getD k [] := ⟨_, rfl⟩
        rw [← hxs] at hur
        have HU : Hid (Ints wr ur xs) := Lib.hid (Ints.below (B := 0) hur HBW.out)
        have HX := Lib.hid hxs
        have HXB : Hid (X + 1 < wr.heap.size) := Lib.hid HK.out.lt
        clear hc hur hxs
        obtain ⟨ra, rc, hur, hr1, hr2, -⟩ := HU.out
        subst hur
        obtain ⟨m, hm⟩ : ∃ m, m = xs.length := ⟨_, rfl⟩
        rw [← hm] at HU hr1 hcr
        have HM := Lib.hid hm
        clear hm
        by_cases h0 : m = 0
        · have hc16 : c < 16 := by have := HS.out.hp.le; omega
          have HP := Lib.hid (hpush_any wr (X + 1) C HK.out HS.out.nums c HS.out.hp.cnt hc16 (k : Int))
          have HSF := Lib.hid (fun C' => HS.out.free (C' := C') hlt (by have := HN.out; omega) (by rw [← HX.out]; exact List.length_eq_zero_iff.1 (HM.out.symm.trans h0)))
          subst h0
          go_wp2_with fail
          refine HP.out.mono ?_
          rintro en w1 ⟨rfl, C1, h1, he⟩
          have HS1 := Lib.hid (HSF.out C1 (he (fun i hi y hy => HS.out.hp.small i hi y hy)))
          have HK1 := Lib.hid h1.blk
          have HB1 := Lib.hid (HBE.out.trans ((Chg.bel (Below.refl _ _) h1.chg (Nat.le_succ X) (by have := HXB.out; omega)).mono (Nat.le_refl _)))
          have HT1 : Hid (w1.there X 0 97) := Lib.hid (there_blocks HT.out (h1.chg.block X (by have := HXB.out; omega) (.inl (by omega))))
          clear h1 he
          go_wp2_with fail
          exact ⟨⟨k + 1, c + 1, C1, by omega, by go_num, HT1, HK1, HS1, HB1⟩, by simp [intOf]; omega⟩
        · have h0' : ((m : Int) == 0) = false := by simp; omega
          have HW := Lib.hid (wordsOf_any HU.out)
          by_cases hok : wordsOk xs = true
          · obtain ⟨x0, x1, x2, x3, rfl⟩ := row4 hok
            have HOK := Lib.hid hok
            rw [hok] at HW
            have HW' : Hid (Calls Try.prog 39 #[.slice ra m rc] wr (ArrRes wr #[.int .i64 x0, .int .i64 x1, .int .i64 x2, .int .i64 x3] true)) := Lib.hid HW.out
            have HIX := run_indexAt_arr (P := Try.prog) 55 16 54 5 Try.underlying55 slot_size (by omega) (X + 1) k (by omega)
            clear hok HW
            go_wp2_with fail
            refine HW'.out.mono ?_
            rintro e w1 ⟨rfl, hb1⟩
            have HBW1 : Hid (∀ ob, Blk (w1.alloc ob) (X + 1) C ∧ (w1.alloc ob).there X 0 97 ∧ Below X w (w1.alloc ob)) := Lib.hid (fun ob => by
              have hx := HXB.out
              have hs1 := hb1.size
              have e : ∀ q, q < wr.heap.size → (w1.alloc ob).heap[q]? = wr.heap[q]? := fun q hq => (Below.heap_alloc w1 ob q (by omega)).trans (hb1.block q hq)
              refine ⟨HK.out.of_block (e _ hx), there_blocks HT.out (e _ (by omega)), ?_⟩
              exact (HBE.out.trans (hb1.mono (by omega))).alloc (by omega) ob)
            go_wp2_with (first | ((with_reducible refine store_is 54 (.tmp 40) (.tmp 38) ?_); refine store_arr 54 (.tmp 40) (.tmp 38) (X + 1) (k * 5) #[.int .i64 x0, .int .i64 x1, .int .i64 x2, .int .i64 x3, .bool true] rfl rfl ((HBW1.out _).1.part (k * 5) 5 (by omega)) slot_info (by kernel_rfl) ?_) | fail)
            exact ⟨⟨k + 1, c, putC C (k * 5) (rowL [x0, x1, x2, x3]), by omega, by go_num, Lib.hid (World.there_setCells (HBW1.out _).2.1 _ _ _), Lib.hid ((HBW1.out _).1.put (k * 5) (rowL [x0, x1, x2, x3]) (by rw [rowL_len rfl]; omega)), Lib.hid (HS.out.words hlt HX.out HOK.out), Lib.hid (Below.setCells (Below.refl _ _) _ (by omega) _ _ _ (HBW1.out _).2.2)⟩, by simp [intOf]; omega⟩
          · have hno : wordsOk xs = false := by simpa using hok
            have HBAD : Hid (swOk xss = false) := Lib.hid (sw_bad (k := k) (by have := HN.out; omega) (by
              rw [← HX.out]
              unfold rowOk
              rw [hno, Bool.or_false, decide_eq_false_iff_not]
              intro e
              have := HM.out
              rw [e] at this
              exact h0 this))
            rw [hno] at HW
            have HW' : Hid (Calls Try.prog 39 #[.slice ra m rc] wr (ArrRes wr #[.int .i64 0, .int .i64 0, .int .i64 0, .int .i64 0] false)) := Lib.hid HW.out
            clear hok hno HW
            go_wp2_with fail
            refine HW'.out.mono ?_
            rintro e w1 ⟨rfl, hb1⟩
            have HBW1 : Hid (∀ ob, (w1.alloc ob).there X 0 97 ∧ Below X w (w1.alloc ob)) := Lib.hid (fun ob => by
              have hx := HXB.out
              have hs1 := hb1.size
              have e : ∀ q, q < wr.heap.size → (w1.alloc ob).heap[q]? = wr.heap[q]? := fun q hq => (Below.heap_alloc w1 ob q (by omega)).trans (hb1.block q hq)
              exact ⟨there_blocks HT.out (e _ (by omega)), (HBE.out.trans (hb1.mono (by omega))).alloc (by omega) ob⟩)
            go_wp2_with (first | ((with_reducible refine build_is 60 ?_); refine build_zero 60 Z.toArray HBU.out ?_) | ((with_reducible refine store_is 60 (.tmp 2) (.tmp 35) ?_); refine store_arr 60 (.tmp 2) (.tmp 35) X 0 Z.toArray rfl rfl (by rw [HZS.out]; exact (HBW1.out _).1) (swap_info' HZL.out) HZO.out ?_) | fail)
            refine bodyPost_ret (results_cell_mid rfl _ _ X 0 Z _ rfl (World.rangeAt_setCells_same _ _ _ _ (by rw [HZL.out]; exact (HBW1.out _).1)) Try.underlying60 rfl (swap_info HZL.out)) rfl ?_
            rw [HR.out, HBAD.out]
            exact ⟨Z0, by rw [HZE.out]; rfl, Z0_one, fun h => Bool.noConfusion h, by rw [HXW.out]; exact Below.setCells (Below.refl _ _) _ (Nat.le_refl _) _ _ _ (HBW1.out _).2⟩
      · obtain rfl : k = 16 := by omega
        have HOK : Hid (swOk xss = true) := Lib.hid (HS.out.ok HN.out.symm)
        obtain ⟨L, hL⟩ : ∃ L, L = cells C := ⟨_, rfl⟩
        have HLL : Hid (L.length = 97) := Lib.hid (by rw [hL]; exact cells_len _)
        have HLO : Hid (L.toArray.all (·.oneCell') = true) := Lib.hid (by rw [hL]; exact HS.out.one.all)
        have HLR : Hid (wr.rangeAt (X + 1) 0 L) := Lib.hid (by rw [hL]; exact HK.out.range)
        have HLE := Lib.hid hL
        clear hL
        go_wp2_with (first | ((with_reducible refine load_is 60 (.tmp 4) ?_); refine load_arr 60 (.tmp 4) (X + 1) 0 L _ rfl HLR.out Try.underlying60 rfl (swap_info HLL.out) ?_) | ((with_reducible refine store_is 60 (.tmp 2) (.tmp 42) ?_); refine store_arr 60 (.tmp 2) (.tmp 42) X 0 L.toArray rfl rfl (by rw [List.size_toArray, HLL.out]; exact HT.out) (swap_info' HLL.out) HLO.out ?_) | fail)
        refine bodyPost_ret (results_cell_mid rfl _ _ X 0 L _ rfl (World.rangeAt_setCells_same _ _ _ _ (by rw [HLL.out]; exact HT.out)) Try.underlying60 rfl (swap_info HLL.out)) rfl ?_
        rw [HR.out, HOK.out]
        exact ⟨C, by rw [HLE.out]; rfl, HS.out.one, fun _ => ⟨c, HS.out⟩, by rw [HXW.out]; exact Below.setCells (Below.refl _ _) _ (Nat.le_refl _) _ _ _ HBE.out⟩
  · have hn' : ((n : Int) != 16) = true := by simp; omega
    have HBAD : Hid (swOk xss = false) := Lib.hid (by
      rw [Bool.eq_false_iff]
      intro hc
      have := sw_len hc
      have := HN.out
      omega)
    have HT2 : Hid (((w.alloc (.cells Z.toArray 60)).alloc (.cells Z.toArray 60)).there w.heap.size 0 97) := Lib.hid ((HBX.out w).of_block (heap_alloc_old _ _ (by simp))).there
    have HB2 : Hid (Below w.heap.size w ((w.alloc (.cells Z.toArray 60)).alloc (.cells Z.toArray 60))) := Lib.hid (HB0.out.alloc (by simp) _)
    go_enter Try.func38, Try.ntmps38
    go_wp2_with (first | ((with_reducible refine alloc_is 60 ?_); refine alloc_arr 60 Z.toArray HAL.out ?_) | ((with_reducible refine build_is 60 ?_); refine build_zero 60 Z.toArray HBU.out ?_) | ((with_reducible refine store_is 60 (.tmp 2) (.tmp 12) ?_); refine store_arr 60 (.tmp 2) (.tmp 12) w.heap.size 0 Z.toArray rfl rfl (by rw [HZS.out]; exact HT2.out) (swap_info' HZL.out) HZO.out ?_) | fail)
    refine bodyPost_ret (results_cell_mid rfl _ _ w.heap.size 0 Z _ rfl (World.rangeAt_setCells_same _ _ _ _ (by rw [HZL.out]; exact HT2.out)) Try.underlying60 rfl (swap_info HZL.out)) rfl ?_
    rw [HR.out, HBAD.out]
    exact ⟨Z0, by rw [HZE.out]; rfl, Z0_one, fun h => Bool.noConfusion h, Below.setCells (Below.refl _ _) _ (Nat.le_refl _) _ _ _ HB2.out⟩
end Go.Proofs.Ytaalnjinocicgaa
namespace Go.Proofs.Ytaalnjinocicgaa
open Go.ChangeShapes Go.WideShapes Go.ChangeAt Go.RowKit
set_option linter.unusedVariables false
set_option linter.unusedSimpArgs false
theorem MatW.low {w : World} {B0 B0' B1 : Nat} {v : Value} {xss : Rs} (h : MatW w B0 B1 v xss) (hB : B0' ≤ B0) : MatW w B0' B1 v xss := by
  obtain ⟨a, cap, A, C, rfl, h1, h2, h3⟩ := h
  refine ⟨a, cap, A, C, rfl, h1, h2, fun j hj => ?_, fun j hj i hi => ?_, h3.apart⟩
  · obtain ⟨b, o, e, k1, k2⟩ := h3.top j hj
    exact ⟨b, o, e, Nat.le_trans hB k1, k2⟩
  · obtain ⟨g, p, e, k1, k2⟩ := h3.row j hj i hi
    exact ⟨g, p, e, Nat.le_trans hB k1, k2⟩
end Go.Proofs.Ytaalnjinocicgaa
namespace Go.Proofs.Ytaalnjinocicgaa
open Go.ChangeShapes Go.WideShapes Go.ChangeAt Go.RowKit
set_option linter.unusedVariables false
set_option linter.unusedSimpArgs false
theorem laid_var {w w1 : World} (hb : Below w.heap.size w w1) (C : Nat → Value) (Z : Array Value) (hz : Z.size = 97) (t : TypeId) :
    Blk ((w1.alloc (.cells Z t)).setCells w1.heap.size 0 (cells C)) w1.heap.size C ∧ Below w.heap.size w ((w1.alloc (.cells Z t)).setCells w1.heap.size 0 (cells C)) ∧ (w1.alloc (.cells Z t)).there w1.heap.size 0 97 := by
  have ht : (w1.alloc (.cells Z t)).there w1.heap.size 0 97 := there_row (heap_alloc_new w1 _) (by omega)
  exact ⟨Blk.stored C ht, Below.setCells (Below.refl _ _) _ hb.size _ _ _ (hb.alloc hb.size _), ht⟩
end Go.Proofs.Ytaalnjinocicgaa
