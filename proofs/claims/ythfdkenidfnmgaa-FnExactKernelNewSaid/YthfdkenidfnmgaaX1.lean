/- What the proofs stand on, part 1. -/
import Derived.Test.YthfdkenidfnmgaaRows
import Derived.WalkKit
import Derived.ProofKit
import Derived.OpenShut
import Derived.Below
import Derived.Lib.Hide
import Derived.Deep.Draws
import Derived.Deep.OwnRows
import Derived.Deep.QuietTactic
import Derived.BigQuiet
import Derived.LoopTactic
import Derived.Outline
import Derived.OwnWalk
import Derived.Laws.AppendOwn
import Derived.Maps.AppendAt
import Derived.Deep.MidRow
import Derived.Deep.WholeRow
import Derived.Laws.ResultCell
import Derived.Handy
import Derived.Tactics
import Derived.Laws.Strings
import Derived.Laws.Concat
import Derived.Deep.RegionWith
import Derived.Deep.RegionHeld3
import Derived.Laws.BytesString
import Derived.Laws.IdiomStrings
import Derived.Laws.AppendOwnNone
import Derived.Laws.DeepStrings4
import Derived.Laws.Cover1
import Derived.Deep.RegionHeld
import Derived.Maps.Ext
import Derived.Maps.OwnSet
import Derived.Sort.Walk0
import Derived.Sort.KeysCollected
import Derived.Lib.SlMapFilter
import Derived.Deep.SlicePairs
import Derived.Shelf.Lays
import Derived.Shelf.Lays2
import Derived.Shelf.Sort.Plain
import Derived.Shelf.Slices.CompactI
import Derived.Shelf.Slices.In.SortNone
import Derived.Lib.SortBridge
import Derived.RangeFuncNested
import Derived.RangeFuncBound
import Derived.RangeFuncCalls
import Derived.RangeFuncLeaves
import Derived.RangeFuncBox
import Derived.RangeFuncFrom
import Derived.Shelf.Abstract
import Derived.Shelf.RegionOpen
import Derived.OwnWalkIn
import Derived.TacticsInMore
import Derived.LoopNIn
import Derived.LoopIn
import Derived.RangeFuncWrites
import Derived.Maps.OwnIn
import Derived.Shelf.SlLaysM
import Derived.Shelf.SlLaysZ
import Derived.Shelf.SlIter.Nil
import Derived.Shelf.SortM.Plain
import Derived.Shelf.SortM.SortNone
import Derived.Deep.Matrix
import Derived.SliceStrings
set_option linter.unusedSimpArgs false
set_option linter.unusedVariables false
namespace Go.Proofs.Ythfdkenidfnmgaa
open Go.ChangeShapes Go.WideShapes Go.ChangeAt Go.RowKit
def Ints (w : World) (v : Value) (xs : List Int) : Prop :=
  ∃ (a : Option Addr) (cap : Nat), v = .slice a xs.length cap ∧ xs.length ≤ cap ∧ cap ≤ maxLen ∧
    ∀ i, i < xs.length → ∃ b o, a = some ⟨b, o, none⟩ ∧ w.cell? ⟨b, o + i, none⟩ = some (.int .i64 (xs.getD i 0))
def Rows2 (w : World) (v : Value) (xss : List (List Int)) : Prop :=
  ∃ (a : Option Addr) (cap : Nat), v = .slice a xss.length cap ∧ xss.length ≤ cap ∧ cap ≤ maxLen ∧
    ∀ i, i < xss.length → ∃ b o u, a = some ⟨b, o, none⟩ ∧ w.cell? ⟨b, o + i, none⟩ = some u ∧ Ints w u (xss.getD i [])
theorem Ints.drewN {w : World} {v : Value} {xs : List Int} (h : Ints w v xs) (n : Nat) : Ints (w.drewN n) v xs := h
theorem Rows2.drewN {w : World} {v : Value} {xss : List (List Int)} (h : Rows2 w v xss) (n : Nat) : Rows2 (w.drewN n) v xss := h
theorem getD_lt {α : Type} {l : List α} {i : Nat} {d : α} (h : i < l.length) : l.getD i d = l[i] := by simp [List.getD, h]
theorem take_snoc_getD {α : Type} (l : List α) (k : Nat) (d : α) (h : k < l.length) : l.take (k + 1) = l.take k ++ [l.getD k d] := by
  rw [getD_lt h, List.take_succ_eq_append_getElem h]
theorem take_all {α : Type} {l : List α} {k : Nat} (h : k = l.length) : l.take k = l := by rw [h, List.take_length]
theorem take_eq_succ {α : Type} {xs ys : List α} {d : α} {k : Nat} (hl : xs.length = ys.length) (hk : k < xs.length) (h : xs.take k = ys.take k) (he : xs.getD k d = ys.getD k d) : xs.take (k + 1) = ys.take (k + 1) := by
  rw [take_snoc_getD xs k d hk, take_snoc_getD ys k d (by omega), h, he]
theorem eq_of_take {α : Type} {xs ys : List α} {k : Nat} (hl : xs.length = ys.length) (hk : k = xs.length) (h : xs.take k = ys.take k) : xs = ys := by
  have h1 := take_all hk
  have h2 := take_all (l := ys) (k := k) (by omega)
  rw [← h1, ← h2, h]
theorem ne_of_getD {α : Type} {xs ys : List α} {d : α} {k : Nat} (h : xs.getD k d ≠ ys.getD k d) : xs ≠ ys := fun e => h (by rw [e])
end Go.Proofs.Ythfdkenidfnmgaa
namespace Go.Proofs.Ythfdkenidfnmgaa
open Go.ChangeShapes Go.WideShapes Go.ChangeAt Go.RowKit
set_option linter.unusedVariables false
set_option maxRecDepth 100000
def Reads (v : Value) (w : World) (e : Ending) (w' : World) : Prop := e = .returned v ∧ ∃ n, w' = w.drewN n
theorem reads_mk {b c : Bool} {w : World} {n : Nat} (h : b = c) : Reads (.bool c) w (.returned (.bool b)) (w.drewN n) := ⟨by rw [h], n, rfl⟩
theorem reads_mk0 {b c : Bool} {w : World} (h : b = c) : Reads (.bool c) w (.returned (.bool b)) w := ⟨by rw [h], 0, rfl⟩
theorem reads_mk2 {b c : Bool} {w : World} {n m : Nat} (h : b = c) : Reads (.bool c) w (.returned (.bool b)) ((w.drewN n).drewN m) := ⟨by rw [h], n + m, by rw [World.drewN_drewN]⟩
theorem reads_add {P : Program} {f : FuncId} {args : Array Value} {w : World} {a n : Nat} {v : Value} (h : Calls P f args (w.drewN (a + n)) (Reads v (w.drewN (a + n)))) :
    Calls P f args (w.drewN (a + n)) fun e w'' => e = .returned v ∧ ∃ m, w'' = w.drewN (a + m) :=
  h.mono fun _ _ ⟨he, m, hm⟩ => ⟨he, n + m, by rw [hm, World.drewN_drewN, Nat.add_assoc]⟩
theorem eqIntS_any (w : World) (va vb : Value) (xs ys : List Int) (ha : Ints w va xs) (hb : Ints w vb ys) :
    Calls Try.prog 39 #[va, vb] w (Reads (.bool (decide (xs = ys))) w) := by
  obtain ⟨a, ca, rfl, hla, hma, hxa⟩ := ha
  obtain ⟨b, cb, rfl, hlb, hmb, hxb⟩ := hb
  unfold maxLen at hma hmb
  by_cases hl : xs.length = ys.length
  · obtain ⟨n, hn⟩ : ∃ n, n = xs.length := ⟨_, rfl⟩
    have hn2 : ys.length = n := by omega
    rw [← hn] at hla hxa ⊢
    rw [hn2] at hlb hxb ⊢
    have HN := Lib.hid hn
    have HN2 := Lib.hid hn2
    clear hn hn2 hl
    go_enter Try.func39, Try.ntmps39
    go_wp2
    go_loopw [5] (fun i wr => ∃ k d : Nat, k ≤ n ∧ i = .int .i64 k ∧ Hid (xs.take k = ys.take k) ∧ wr = w.drewN d) (fun i _ => n - (intOf i).toNat)
    case atStart => exact ⟨0, 0, Nat.zero_le _, rfl, Lib.hid rfl, rfl⟩
    case round =>
      obtain ⟨k, d, hk, rfl, HT, rfl⟩ := hrel
      by_cases hlt : k < n
      · obtain ⟨ba, oa, rfl, hca⟩ := hxa k hlt
        obtain ⟨bb, ob, rfl, hcb⟩ := hxb k hlt
        generalize hx : xs.getD k 0 = x at hca
        generalize hy : ys.getD k 0 = y at hcb
        have HX := Lib.hid hx
        have HY := Lib.hid hy
        clear hx hy hxa hxb
        have hlt' : (k : Int) < (n : Int) := by omega
        by_cases he : x = y
        · subst he
          go_wp2_with fail
          go_quiet (fail)
          go_wp2
          go_roundw
          case rel => exact ⟨k + 1, _, by omega, by go_num, Lib.hid (take_eq_succ (d := 0) (HN.out.symm.trans HN2.out.symm) (by have := HN.out; omega) HT.out (HX.out.trans HY.out.symm)), rfl⟩
          case measure => simp [intOf]; omega
        · have hne : (x != y) = true := by simpa using he
          have HE : Hid (¬ x = y) := Lib.hid he
          clear he
          go_wp2_with fail
          go_quiet (fail)
          go_wp2
          go_ret
          exact reads_mk2 (by symm; exact decide_eq_false (ne_of_getD (d := 0) (k := k) (fun h => HE.out (HX.out.symm.trans (h.trans HY.out)))))
      · go_wp2
        go_ret
        exact reads_mk (by symm; exact decide_eq_true (eq_of_take (HN.out.symm.trans HN2.out.symm) (by have := HN.out; omega) HT.out))
  · have hne : ((xs.length : Int) != (ys.length : Int)) = true := by simp; omega
    have HL := Lib.hid hl
    clear hl
    go_enter Try.func39, Try.ntmps39
    go_wp2
    go_ret
    exact reads_mk0 (by symm; exact decide_eq_false (fun h => HL.out (by rw [h])))
theorem eqIntSS_any (w : World) (va vb : Value) (xs ys : List (List Int)) (ha : Rows2 w va xs) (hb : Rows2 w vb ys) :
    Calls Try.prog 19 #[va, vb] w (Reads (.bool (decide (xs = ys))) w) := by
  obtain ⟨a, ca, rfl, hla, hma, hxa⟩ := ha
  obtain ⟨b, cb, rfl, hlb, hmb, hxb⟩ := hb
  unfold maxLen at hma hmb
  by_cases hl : xs.length = ys.length
  · obtain ⟨n, hn⟩ : ∃ n, n = xs.length := ⟨_, rfl⟩
    have hn2 : ys.length = n := by omega
    rw [← hn] at hla hxa ⊢
    rw [hn2] at hlb hxb ⊢
    have HN := Lib.hid hn
    have HN2 := Lib.hid hn2
    clear hn hn2 hl
    go_enter Try.func19, Try.ntmps19
    go_wp2
    go_loopw [5] (fun i wr => ∃ k d : Nat, k ≤ n ∧ i = .int .i64 k ∧ Hid (xs.take k = ys.take k) ∧ wr = w.drewN d) (fun i _ => n - (intOf i).toNat)
    case atStart => exact ⟨0, 0, Nat.zero_le _, rfl, Lib.hid rfl, rfl⟩
    case round =>
      obtain ⟨k, d, hk, rfl, HT, rfl⟩ := hrel
      by_cases hlt : k < n
      · obtain ⟨ba, oa, ua, rfl, hca, hia⟩ := hxa k hlt
        obtain ⟨bb, ob, ub, rfl, hcb, hib⟩ := hxb k hlt
        generalize hx : xs.getD k [] = x at hia
        generalize hy : ys.getD k [] = y at hib
        have HX := Lib.hid hx
        have HY := Lib.hid hy
        clear hx hy hxa hxb
        have hlt' : (k : Int) < (n : Int) := by omega
        have HA := Lib.hid hia
        have HB := Lib.hid hib
        clear hia hib
        by_cases he : x = y
        · have hd : decide (x = y) = true := decide_eq_true he
          have HE := Lib.hid he
          clear he
          have HC : ∀ m, Calls Try.prog 39 #[ua, ub] (w.drewN m) (Reads (.bool true) (w.drewN m)) := fun m => by
            have := eqIntS_any (w.drewN m) ua ub x y HA.out HB.out
            rw [hd] at this
            exact this
          have HC' := Lib.hid HC
          clear HC hd
          go_wp2_with fail
          go_quiet ((go_at_call 39; exact reads_add (HC'.out _)))
          go_wp2
          go_roundw
          case rel => exact ⟨k + 1, _, by omega, by go_num, Lib.hid (take_eq_succ (d := []) (HN.out.symm.trans HN2.out.symm) (by have := HN.out; omega) HT.out (HX.out.trans (HE.out.trans HY.out.symm))), rfl⟩
          case measure => simp [intOf]; omega
        · have hd : decide (x = y) = false := decide_eq_false he
          have HE : Hid (¬ x = y) := Lib.hid he
          clear he
          have HC : ∀ m, Calls Try.prog 39 #[ua, ub] (w.drewN m) (Reads (.bool false) (w.drewN m)) := fun m => by
            have := eqIntS_any (w.drewN m) ua ub x y HA.out HB.out
            rw [hd] at this
            exact this
          have HC' := Lib.hid HC
          clear HC hd
          go_wp2_with fail
          go_quiet ((go_at_call 39; exact reads_add (HC'.out _)))
          go_wp2
          go_ret
          exact reads_mk2 (by symm; exact decide_eq_false (ne_of_getD (d := []) (k := k) (fun h => HE.out (HX.out.symm.trans (h.trans HY.out)))))
      · go_wp2
        go_ret
        exact reads_mk (by symm; exact decide_eq_true (eq_of_take (HN.out.symm.trans HN2.out.symm) (by have := HN.out; omega) HT.out))
  · have hne : ((xs.length : Int) != (ys.length : Int)) = true := by simp; omega
    have HL := Lib.hid hl
    clear hl
    go_enter Try.func19, Try.ntmps19
    go_wp2
    go_ret
    exact reads_mk0 (by symm; exact decide_eq_false (fun h => HL.out (by rw [h])))
end Go.Proofs.Ythfdkenidfnmgaa
namespace Go.Proofs.Ythfdkenidfnmgaa
open Go.ChangeShapes Go.WideShapes Go.ChangeAt Go.RowKit
set_option linter.unusedVariables false
set_option maxRecDepth 100000
def total (xss : List (List Int)) : Nat := (xss.map List.length).sum
theorem total_snoc (xss : List (List Int)) (k : Nat) (h : k < xss.length) : total (xss.take (k + 1)) = total (xss.take k) + (xss.getD k []).length := by
  rw [take_snoc_getD xss k [] h]; simp [total]
def wordsOk (xs : List Int) : Bool := decide ((∀ x ∈ xs, 0 ≤ x ∧ x ≤ 9999) ∧ xs.length = 4)
def memOk (xss : List (List Int)) : Bool := decide ((∀ xs ∈ xss, wordsOk xs = true) ∧ xss.length = 12)
end Go.Proofs.Ythfdkenidfnmgaa
namespace Go.Proofs.Ythfdkenidfnmgaa
open Go.ChangeShapes Go.WideShapes Go.ChangeAt Go.RowKit
set_option linter.unusedVariables false
set_option maxRecDepth 100000
theorem intInfo : (Try.prog.info? 3).map (fun i => (i.zero, i.size, i.bytes)) = some (some (.int .i64 0), 1, 8) := by kernel_rfl
theorem intsInfo : (Try.prog.info? 77).map (fun i => (i.zero, i.size, i.bytes)) = some (some (.slice none 0 0), 1, 24) := by kernel_rfl
theorem cell_lt {w : World} {b o : Nat} {v : Value} (h : w.cell? ⟨b, o, none⟩ = some v) : b < w.heap.size := by
  rcases Nat.lt_or_ge b w.heap.size with h' | h'
  · exact h'
  · simp [World.cell?, Array.getElem?_eq_none h'] at h
theorem Ints.below {B : Nat} {w w' : World} {v : Value} {xs : List Int} (h : Ints w v xs) (hb : Below w.heap.size w w') : Ints w' v xs := by
  obtain ⟨a, cap, rfl, h1, h2, h3⟩ := h
  refine ⟨a, cap, rfl, h1, h2, fun i hi => ?_⟩
  obtain ⟨b, o, rfl, hc⟩ := h3 i hi
  exact ⟨b, o, rfl, (hb.cell (p := ⟨b, o + i, none⟩) (cell_lt hc)).trans hc⟩
theorem Rows2.below {w w' : World} {v : Value} {xss : List (List Int)} (h : Rows2 w v xss) (hb : Below w.heap.size w w') : Rows2 w' v xss := by
  obtain ⟨a, cap, rfl, h1, h2, h3⟩ := h
  refine ⟨a, cap, rfl, h1, h2, fun i hi => ?_⟩
  obtain ⟨b, o, u, rfl, hc, hu⟩ := h3 i hi
  exact ⟨b, o, u, rfl, (hb.cell (p := ⟨b, o + i, none⟩) (cell_lt hc)).trans hc, Ints.below (B := 0) hu hb⟩
end Go.Proofs.Ythfdkenidfnmgaa
namespace Go.Proofs.Ythfdkenidfnmgaa
open Go.ChangeShapes Go.WideShapes Go.ChangeAt Go.RowKit
set_option linter.unusedVariables false
set_option maxRecDepth 100000
theorem cell_set_same {w : World} {g p : Nat} {u v : Value} (h : w.cell? ⟨g, p, none⟩ = some u) : (w.setCell ⟨g, p, none⟩ v).cell? ⟨g, p, none⟩ = some v := by
  unfold World.cell? at h ⊢
  simp only [World.setCell, Array.getElem?_modify, if_pos]
  cases hb : w.heap[g]? with
  | none => rw [hb] at h; simp at h
  | some o =>
    rw [hb] at h
    cases o with
    | cells c t f =>
      have hp : p < c.size := by
        rcases Nat.lt_or_ge p c.size with h' | h'
        · exact h'
        · simp [Array.getElem?_eq_none h'] at h
      simp [hp]
    | _ => simp at h
theorem cell_set_other {w : World} {g p c o : Nat} {v : Value} (h : c ≠ g ∨ o ≠ p) : (w.setCell ⟨g, p, none⟩ v).cell? ⟨c, o, none⟩ = w.cell? ⟨c, o, none⟩ := by
  by_cases hc : c = g
  · subst hc
    have ho : o ≠ p := by rcases h with h | h <;> omega
    unfold World.cell?
    simp only [World.setCell, Array.getElem?_modify, if_pos]
    cases hb : w.heap[c]? with
    | none => rfl
    | some o =>
      cases o with
      | cells d t f => simp [Ne.symm ho]
      | _ => rfl
  · exact World.cell?_of_block (Below.heap_setCell w ⟨g, p, none⟩ v c hc)
theorem frozen_set {w : World} {a : Addr} {v : Value} (b : Addr) : (w.setCell a v).frozen? b = w.frozen? b := by
  unfold World.frozen?
  by_cases hc : b.block = a.block
  · simp only [World.setCell, Array.getElem?_modify, hc, if_pos]
    cases hb : w.heap[a.block]? with
    | none => rfl
    | some o => cases o <;> rfl
  · rw [Below.heap_setCell w a v b.block hc]
structure Marked (a : Option Addr) (n : Nat) (k : Int) (w w' : World) : Prop where
  os : w'.os = w.os
  tape : w'.tape = w.tape
  output : w'.output = w.output
  size : w'.heap.size = w.heap.size
  block : ∀ b, (∀ p, n = 0 ∨ a ≠ some ⟨b, p, none⟩) → w'.heap[b]? = w.heap[b]?
  frozen : ∀ b, w'.frozen? b = w.frozen? b
  inside : ∀ g p, a = some ⟨g, p, none⟩ → ∀ i, i < n → w'.cell? ⟨g, p + i, none⟩ = some (.int .i64 (k + i))
  outside : ∀ g p, a = some ⟨g, p, none⟩ → ∀ o, (o < p ∨ p + n ≤ o) → w'.cell? ⟨g, o, none⟩ = w.cell? ⟨g, o, none⟩
theorem Marked.zero (a : Option Addr) (k : Int) (w : World) : Marked a 0 k w w := ⟨rfl, rfl, rfl, rfl, fun _ _ => rfl, fun _ => rfl, fun _ _ _ i hi => by omega, fun _ _ _ _ _ => rfl⟩
theorem Marked.step {g p n : Nat} {k : Int} {w w' : World} (h : Marked (some ⟨g, p, none⟩) n k w w') {u : Value} (hc : w.cell? ⟨g, p + n, none⟩ = some u) :
    Marked (some ⟨g, p, none⟩) (n + 1) k w (w'.setCell ⟨g, p + n, none⟩ (.int .i64 (k + n))) := by
  refine ⟨h.os, h.tape, h.output, by simpa [World.setCell] using h.size, fun b hb => ?_, fun b => (frozen_set b).trans (h.frozen b), fun g' p' e i hi => ?_, fun g' p' e o ho => ?_⟩
  · have : b ≠ g := fun e => by
      rcases hb p with h' | h'
      · omega
      · exact h' (by rw [e])
    exact (Below.heap_setCell w' ⟨g, p + n, none⟩ _ b this).trans (h.block b (fun q => (hb q).elim (fun h' => by omega) .inr))
  · cases e
    by_cases hin : i = n
    · subst hin
      exact cell_set_same ((h.outside g p rfl (p + i) (.inr (Nat.le_refl _))).trans hc)
    · exact (cell_set_other (.inr (by omega))).trans (h.inside g p rfl i (by omega))
  · cases e
    exact (cell_set_other (.inr (by omega))).trans (h.outside g p rfl o (by omega))
def Marks (a : Option Addr) (n : Nat) (k : Int) (w : World) (e : Ending) (w' : World) : Prop := e = .returned (.int .i64 (k + n)) ∧ Marked a n k w w'
theorem marks_mk {a : Option Addr} {n : Nat} {k x : Int} {w w' : World} (h : x = k + n) (hm : Marked a n k w w') : Marks a n k w (.returned (.int .i64 x)) w' := ⟨by rw [h], hm⟩
theorem markIntS_any (w : World) (a : Option Addr) (n cap : Nat) (k : Int) (hn : n ≤ 1048576) (hk : 0 ≤ k) (hk2 : k ≤ 1000000000000)
    (h : ∀ i, i < n → ∃ g p u, a = some ⟨g, p, none⟩ ∧ w.cell? ⟨g, p + i, none⟩ = some u ∧ w.frozen? ⟨g, p + i, none⟩ = false) :
    Calls Try.prog 44 #[.slice a n cap, .int .i64 k] w (Marks a n k w) := by
  have H := Lib.hid h
  clear h
  go_enter Try.func44, Try.ntmps44
  go_wp2
  go_loopw [1, 5] (fun l i wr => ∃ j : Nat, j ≤ n ∧ i = .int .i64 j ∧ l = .int .i64 (k + j) ∧ Marked a j k w wr) (fun _ i _ => n - (intOf i).toNat)
  case atStart => exact ⟨0, Nat.zero_le _, rfl, by simp, Marked.zero _ _ _⟩
  case round =>
    obtain ⟨j, hj, rfl, rfl, hm⟩ := hrel
    by_cases hlt : j < n
    · obtain ⟨g, p, u, rfl, hc, hf⟩ := H.out j hlt
      have hcr := (hm.outside g p rfl (p + j) (.inr (Nat.le_refl _))).trans hc
      have hfr := (hm.frozen _).trans hf
      have hst := Lib.hid (hm.step hc)
      clear hc hf
      have hlt' : (j : Int) < (n : Int) := by omega
      go_wp2
      go_roundw
      case rel => exact ⟨j + 1, by omega, by go_num, by go_num, hst.out⟩
      case measure => simp [intOf]; omega
    · go_wp2
      go_ret
      have e : j = n := by omega
      subst e
      exact marks_mk rfl hm
theorem Marked.cell_same {a : Option Addr} {n : Nat} {k : Int} {w w' : World} (h : Marked a n k w w') (c o : Nat) (hh : ∀ g p, a = some ⟨g, p, none⟩ → c ≠ g ∨ o < p ∨ p + n ≤ o) :
    w'.cell? ⟨c, o, none⟩ = w.cell? ⟨c, o, none⟩ := by
  by_cases he : ∃ p, a = some ⟨c, p, none⟩
  · obtain ⟨p, rfl⟩ := he
    rcases hh c p rfl with h1 | h1
    · exact absurd rfl h1
    · exact h.outside c p rfl o h1
  · exact World.cell?_of_block (h.block c (fun p => .inr (fun e => he ⟨p, e⟩)))
structure Kept (B0 B1 : Nat) (w w' : World) : Prop where
  os : w'.os = w.os
  tape : w'.tape = w.tape
  output : w'.output = w.output
  size : w'.heap.size = w.heap.size
  block : ∀ b, (b < B0 ∨ B1 ≤ b) → w'.heap[b]? = w.heap[b]?
theorem Kept.refl (B0 B1 : Nat) (w : World) : Kept B0 B1 w w := ⟨rfl, rfl, rfl, rfl, fun _ _ => rfl⟩
theorem Kept.trans {B0 B1 : Nat} {a b c : World} (h : Kept B0 B1 a b) (k : Kept B0 B1 b c) : Kept B0 B1 a c :=
  ⟨k.os.trans h.os, k.tape.trans h.tape, k.output.trans h.output, k.size.trans h.size, fun i hi => (k.block i hi).trans (h.block i hi)⟩
theorem Kept.below {B0 B1 B : Nat} {a b w : World} (h : Kept B0 B1 a b) (hb : Below B w a) (hB : B ≤ B0) : Below B w b :=
  ⟨h.os.trans hb.os, h.tape.trans hb.tape, h.output.trans hb.output, by rw [h.size]; exact hb.size, fun k hk => (h.block k (.inl (by omega))).trans (hb.block k hk)⟩
structure MatAt (w : World) (B0 B1 : Nat) (a : Option Addr) (n : Nat) (A : Nat → Option Addr) (L C : Nat → Nat) (X : Nat → Nat → Int) : Prop where
  top : ∀ j, j < n → ∃ b o, a = some ⟨b, o, none⟩ ∧ B0 ≤ b ∧ b < B1 ∧ w.cell? ⟨b, o + j, none⟩ = some (.slice (A j) (L j) (C j)) ∧ L j ≤ C j ∧ C j ≤ maxLen ∧ w.frozen? ⟨b, o + j, none⟩ = false
  row : ∀ j, j < n → ∀ i, i < L j → ∃ g p, A j = some ⟨g, p, none⟩ ∧ B0 ≤ g ∧ g < B1 ∧ w.cell? ⟨g, p + i, none⟩ = some (.int .i64 (X j i)) ∧ w.frozen? ⟨g, p + i, none⟩ = false ∧ ∀ b o, a = some ⟨b, o, none⟩ → b ≠ g
  apart : ∀ j, j < n → ∀ j', j' < n → j ≠ j' → 0 < L j → 0 < L j' → ∀ g p g' p', A j = some ⟨g, p, none⟩ → A j' = some ⟨g', p', none⟩ → g ≠ g' ∨ p + L j ≤ p' ∨ p' + L j' ≤ p
def off (L : Nat → Nat) : Nat → Nat
  | 0 => 0
  | j + 1 => off L j + L j
def marks (L : Nat → Nat) (k : Int) (X : Nat → Nat → Int) (m : Nat) (j i : Nat) : Int := if j < m then k + off L j + i else X j i
theorem MatAt.marked {w w' : World} {B0 B1 : Nat} {a : Option Addr} {n : Nat} {A : Nat → Option Addr} {L C : Nat → Nat} {X : Nat → Nat → Int} {k : Int} {m : Nat} (hm : m < n)
    (h : MatAt w B0 B1 a n A L C (marks L k X m)) (hk : Marked (A m) (L m) (k + off L m) w w') : MatAt w' B0 B1 a n A L C (marks L k X (m + 1)) := by
  refine ⟨fun j hj => ?_, fun j hj i hi => ?_, h.apart⟩
  · obtain ⟨b, o, rfl, h1, h2, h3, h4⟩ := h.top j hj
    refine ⟨b, o, rfl, h1, h2, (hk.cell_same b (o + j) fun g p e => ?_).trans h3, h4.1, h4.2.1, (hk.frozen _).trans h4.2.2⟩
    by_cases hL : 0 < L m
    · obtain ⟨g', p', e', _, _, _, _, h5⟩ := h.row m hm 0 hL
      rw [e] at e'; cases e'
      exact .inl (h5 b o rfl)
    · omega
  · obtain ⟨g, p, e, h1, h2, h3, h4, h5⟩ := h.row j hj i hi
    refine ⟨g, p, e, h1, h2, ?_, (hk.frozen _).trans h4, h5⟩
    by_cases hjm : j = m
    · subst hjm
      rw [hk.inside g p e i hi]
      simp [marks]
    · have hx : marks L k X (m + 1) j i = marks L k X m j i := by
        unfold marks
        by_cases h6 : j < m
        · rw [if_pos h6, if_pos (by omega)]
        · rw [if_neg h6, if_neg (by omega)]
      rw [hx]
      refine (hk.cell_same g (p + i) fun g' p' e' => ?_).trans h3
      by_cases hL : 0 < L m
      · rcases h.apart j hj m hm hjm (by omega) hL g p g' p' e e' with h7 | h7 | h7
        · exact .inl h7
        · omega
        · omega
      · omega
theorem MatAt.kept {w w' : World} {B0 B1 : Nat} {a : Option Addr} {n : Nat} {A : Nat → Option Addr} {L C : Nat → Nat} {X : Nat → Nat → Int} {k : Int} {m : Nat} (hm : m < n)
    (h : MatAt w B0 B1 a n A L C X) (hk : Marked (A m) (L m) k w w') : Kept B0 B1 w w' :=
  ⟨hk.os, hk.tape, hk.output, hk.size, fun b hb => hk.block b fun p => by
    by_cases hL : 0 < L m
    · obtain ⟨g, p', e, h1, h2, _⟩ := h.row m hm 0 hL
      refine .inr (fun e' => ?_)
      rw [e] at e'; cases e'
      omega
    · exact .inl (by omega)⟩
def MarksAll (B0 B1 : Nat) (a : Option Addr) (n : Nat) (A : Nat → Option Addr) (L C : Nat → Nat) (k : Int) (w : World) (e : Ending) (w' : World) : Prop :=
  e = .returned (.int .i64 (k + off L n)) ∧ MatAt w' B0 B1 a n A L C (fun j i => k + off L j + i) ∧ Kept B0 B1 w w'
theorem marksAll_mk {B0 B1 : Nat} {a : Option Addr} {n : Nat} {A : Nat → Option Addr} {L C : Nat → Nat} {X : Nat → Nat → Int} {k x : Int} {w w' : World} (hx : x = k + off L n)
    (h : MatAt w' B0 B1 a n A L C (marks L k X n)) (hk : Kept B0 B1 w w') : MarksAll B0 B1 a n A L C k w (.returned (.int .i64 x)) w' :=
  ⟨by rw [hx], ⟨h.top, fun j hj i hi => by
    obtain ⟨g, p, e, h1, h2, h3, h4⟩ := h.row j hj i hi
    refine ⟨g, p, e, h1, h2, ?_, h4⟩
    rw [h3]; simp [marks, hj], h.apart⟩, hk⟩
theorem off_mono (L : Nat → Nat) {j n : Nat} (h : j ≤ n) : off L j ≤ off L n := by
  induction n with
  | zero => have : j = 0 := by omega
            rw [this]; exact Nat.le_refl _
  | succ n ih =>
    by_cases hj : j ≤ n
    · exact Nat.le_trans (ih hj) (Nat.le_add_right _ _)
    · have : j = n + 1 := by omega
      rw [this]; exact Nat.le_refl _
theorem off_row (L : Nat → Nat) {j n : Nat} (h : j < n) : off L j + L j ≤ off L n := off_mono L (j := j + 1) h
theorem markIntSS_any (w : World) (B0 B1 : Nat) (a : Option Addr) (n cap : Nat) (A : Nat → Option Addr) (L C : Nat → Nat) (X : Nat → Nat → Int) (k : Int) (hn : n ≤ 1048576) (ho : off L n ≤ 1048576) (hk : 0 ≤ k) (hk2 : k ≤ 1000000)
    (h : MatAt w B0 B1 a n A L C X) :
    Calls Try.prog 25 #[.slice a n cap, .int .i64 k] w (MarksAll B0 B1 a n A L C k w) := by
  have HO := Lib.hid (fun j (hj : j < n) => off_row L hj)
  have h0 : MatAt w B0 B1 a n A L C (marks L k X 0) := by
    have : marks L k X 0 = X := by funext j i; simp [marks]
    rw [this]; exact h
  clear h
  go_enter Try.func25, Try.ntmps25
  go_wp2
  go_loopw [1, 5] (fun l i wr => ∃ j : Nat, j ≤ n ∧ i = .int .i64 j ∧ l = .int .i64 (k + off L j) ∧ MatAt wr B0 B1 a n A L C (marks L k X j) ∧ Kept B0 B1 w wr) (fun _ i _ => n - (intOf i).toNat)
  case atStart => exact ⟨0, Nat.zero_le _, rfl, by simp [off], h0, Kept.refl _ _ _⟩
  case round =>
    obtain ⟨j, hj, rfl, rfl, hm, hkept⟩ := hrel
    by_cases hlt : j < n
    · have hoff := HO.out j hlt
      obtain ⟨b, o, rfl, _, _, hc, hLC, hCm⟩ := hm.top j hlt
      have HC := Lib.hid (markIntS_any wr (A j) (L j) (C j) (k + off L j) (by omega) (by omega) (by omega) (fun i hi => by
        obtain ⟨g, p, e, _, _, h3, h4, _⟩ := hm.row j hlt i hi
        exact ⟨g, p, _, e, h3, h4⟩))
      have hlt' : (j : Int) < (n : Int) := by omega
      have HM := Lib.hid hm
      clear hm
      go_wp2_with fail
      refine HC.out.mono ?_
      rintro e w2 ⟨rfl, hmk⟩
      have HM2 := Lib.hid (HM.out.marked hlt hmk)
      have HK2 := Lib.hid (hkept.trans (HM.out.kept hlt hmk))
      clear hmk hc
      go_wp2_with fail
      go_roundw
      case rel => exact ⟨j + 1, by omega, by go_num, by simp [off]; omega, HM2.out, HK2.out⟩
      case measure => simp [intOf]; omega
    · go_wp2
      go_ret
      have e : j = n := by omega
      subst e
      exact marksAll_mk rfl hm hkept
end Go.Proofs.Ythfdkenidfnmgaa
namespace Go.Proofs.Ythfdkenidfnmgaa
open Go.ChangeShapes Go.WideShapes Go.ChangeAt Go.RowKit
set_option linter.unusedVariables false
set_option maxRecDepth 100000
theorem heldIntS_any (w : World) (a : Option Addr) (n cap : Nat) (k : Int) (hn : n ≤ 1048576) (hk : 0 ≤ k) (hk2 : k ≤ 1000000000000)
    (h : ∀ i, i < n → ∃ g p, a = some ⟨g, p, none⟩ ∧ w.cell? ⟨g, p + i, none⟩ = some (.int .i64 (k + i))) :
    Calls Try.prog 45 #[.slice a n cap, .int .i64 k] w fun e w' => e = .returned (.int .i64 (k + n)) ∧ w = w' := by
  have H := Lib.hid h
  clear h
  go_enter Try.func45, Try.ntmps45
  go_wp2
  go_loop [1, 5] (fun l i => ∃ j : Nat, j ≤ n ∧ i = .int .i64 j ∧ l = .int .i64 (k + j)) (fun _ i => n - (intOf i).toNat)
  case atStart => exact ⟨0, Nat.zero_le _, rfl, by simp⟩
  case round =>
    obtain ⟨j, hj, rfl, rfl⟩ := hrel
    by_cases hlt : j < n
    · obtain ⟨g, p, rfl, hc⟩ := H.out j hlt
      have hlt' : (j : Int) < (n : Int) := by omega
      go_wp2
      go_round
      case rel => exact ⟨j + 1, by omega, by go_num, by go_num⟩
      case measure => simp [intOf]; omega
    · go_wp2
      go_ret
      have e : j = n := by omega
      subst e
      exact ⟨rfl, rfl⟩
theorem heldIntSS_any (w : World) (B0 B1 : Nat) (a : Option Addr) (n cap : Nat) (A : Nat → Option Addr) (L C : Nat → Nat) (k : Int) (hn : n ≤ 1048576) (ho : off L n ≤ 1048576) (hk : 0 ≤ k) (hk2 : k ≤ 1000000)
    (h : MatAt w B0 B1 a n A L C (fun j i => k + off L j + i)) :
    Calls Try.prog 29 #[.slice a n cap, .int .i64 k] w fun e w' => e = .returned (.int .i64 (k + off L n)) ∧ w = w' := by
  have HO := Lib.hid (fun j (hj : j < n) => off_row L hj)
  go_enter Try.func29, Try.ntmps29
  go_wp2
  go_loop [1, 5] (fun l i => ∃ j : Nat, j ≤ n ∧ i = .int .i64 j ∧ l = .int .i64 (k + off L j)) (fun _ i => n - (intOf i).toNat)
  case atStart => exact ⟨0, Nat.zero_le _, rfl, by simp [off]⟩
  case round =>
    obtain ⟨j, hj, rfl, rfl⟩ := hrel
    by_cases hlt : j < n
    · have hoff := HO.out j hlt
      obtain ⟨b, o, rfl, _, _, hc, hLC, hCm⟩ := h.top j hlt
      have HC := Lib.hid (heldIntS_any w (A j) (L j) (C j) (k + off L j) (by omega) (by omega) (by omega) (fun i hi => by
        obtain ⟨g, p, e, _, _, h3, h4, _⟩ := h.row j hlt i hi
        exact ⟨g, p, e, h3⟩))
      have hlt' : (j : Int) < (n : Int) := by omega
      have hge : decide (k + off L j + L j < 0) = false := by simp; omega
      go_wp2_with fail
      refine HC.out.mono ?_
      rintro e w2 ⟨rfl, rfl⟩
      go_wp2_with fail
      go_round
      case rel => exact ⟨j + 1, by omega, by go_num, by simp [off]; omega⟩
      case measure => simp [intOf]; omega
    · go_wp2
      go_ret
      have e : j = n := by omega
      subst e
      exact ⟨rfl, rfl⟩
theorem MatAt.rows {w : World} {B0 B1 : Nat} {a : Option Addr} {cap : Nat} {A : Nat → Option Addr} {L C : Nat → Nat} {X : Nat → Nat → Int} {xss : List (List Int)}
    (h : MatAt w B0 B1 a xss.length A L C X) (hc : xss.length ≤ cap) (hm : cap ≤ maxLen) (hL : ∀ j, j < xss.length → L j = (xss.getD j []).length) (hX : ∀ j, j < xss.length → ∀ i, i < L j → X j i = (xss.getD j []).getD i 0) :
    Rows2 w (.slice a xss.length cap) xss := by
  refine ⟨a, cap, rfl, hc, hm, fun j hj => ?_⟩
  obtain ⟨b, o, rfl, _, _, h3, h4, h5⟩ := h.top j hj
  refine ⟨b, o, _, rfl, h3, A j, C j, by rw [hL j hj], by rw [← hL j hj]; exact h4, h5.1, fun i hi => ?_⟩
  rw [← hL j hj] at hi
  obtain ⟨g, p, e, _, _, h6, _⟩ := h.row j hj i hi
  exact ⟨g, p, e, by rw [h6, hX j hj i hi]⟩
theorem MatAt.of_blocks {w w' : World} {B0 B1 : Nat} {a : Option Addr} {n : Nat} {A : Nat → Option Addr} {L C : Nat → Nat} {X : Nat → Nat → Int} (h : MatAt w B0 B1 a n A L C X)
    (e : ∀ b, B0 ≤ b → b < B1 → w'.heap[b]? = w.heap[b]?) : MatAt w' B0 B1 a n A L C X := by
  refine ⟨fun j hj => ?_, fun j hj i hi => ?_, h.apart⟩
  · obtain ⟨b, o, e1, h1, h2, h3, h4⟩ := h.top j hj
    exact ⟨b, o, e1, h1, h2, (World.cell?_of_block (e b h1 h2)).trans h3, h4.1, h4.2.1, (World.frozen?_of_block (e b h1 h2)).trans h4.2.2⟩
  · obtain ⟨g, p, e1, h1, h2, h3, h4, h5⟩ := h.row j hj i hi
    exact ⟨g, p, e1, h1, h2, (World.cell?_of_block (e g h1 h2)).trans h3, (World.frozen?_of_block (e g h1 h2)).trans h4, h5⟩
theorem off_total (xss : List (List Int)) (m : Nat) (h : m ≤ xss.length) : off (fun j => (xss.getD j []).length) m = total (xss.take m) := by
  induction m with
  | zero => simp [off, total]
  | succ m ih => rw [total_snoc xss m (by omega), ← ih (by omega)]; rfl
theorem off_all (xss : List (List Int)) : off (fun j => (xss.getD j []).length) xss.length = total xss := by
  rw [off_total xss _ (Nat.le_refl _), List.take_length]
end Go.Proofs.Ythfdkenidfnmgaa
namespace Go.Proofs.Ythfdkenidfnmgaa
open Go.ChangeShapes Go.WideShapes Go.ChangeAt Go.RowKit
set_option linter.unusedVariables false
set_option maxRecDepth 100000
theorem add0 (g j : Nat) : (⟨g, 0, none⟩ : Addr).add j = ⟨g, j, none⟩ := by unfold Addr.add; split <;> simp_all
def MatW (w : World) (B0 B1 : Nat) (v : Value) (xss : List (List Int)) : Prop :=
  ∃ (a : Option Addr) (cap : Nat) (A : Nat → Option Addr) (C : Nat → Nat), v = .slice a xss.length cap ∧ xss.length ≤ cap ∧ cap ≤ maxLen ∧
    MatAt w B0 B1 a xss.length A (fun j => (xss.getD j []).length) C (fun j i => (xss.getD j []).getD i 0)
theorem MatW.rows {w : World} {B0 B1 : Nat} {v : Value} {xss : List (List Int)} (h : MatW w B0 B1 v xss) : Rows2 w v xss := by
  obtain ⟨a, cap, A, C, rfl, h1, h2, h3⟩ := h
  exact h3.rows h1 h2 (fun _ _ => rfl) (fun _ _ _ _ => rfl)
theorem MatW.of_blocks {w w' : World} {B0 B1 : Nat} {v : Value} {xss : List (List Int)} (h : MatW w B0 B1 v xss) (e : ∀ b, B0 ≤ b → b < B1 → w'.heap[b]? = w.heap[b]?) : MatW w' B0 B1 v xss := by
  obtain ⟨a, cap, A, C, rfl, h1, h2, h3⟩ := h
  exact ⟨a, cap, A, C, rfl, h1, h2, h3.of_blocks e⟩
theorem own_apart {w : World} {B1 B2 : Nat} {e1 e2 : TypeId} {v1 v2 : Value} {n1 n2 : Nat} {x1 x2 : List Value} (h1 : w.ownsRow B1 e1 1 v1 n1 x1) (h2 : w.ownsRow B2 e2 1 v2 n2 x2) (he : e1 ≠ e2) {g : Nat}
    (hg : v2.ownBlock = some g) : v1.ownBlock ≠ some g := by
  intro hh
  rcases h1.2 with ⟨rfl, _⟩ | ⟨g1, c1, cur1, rfl, _, hb1, _⟩
  · simp [Value.ownBlock] at hh
  rcases h2.2 with ⟨rfl, _⟩ | ⟨g2, c2, cur2, rfl, _, hb2, _⟩
  · simp [Value.ownBlock] at hg
  simp [Value.ownBlock] at hh hg
  subst hh
  subst hg
  rw [hb1] at hb2
  simp at hb2
  exact he hb2.2
def RowG (w : World) (B g : Nat) (V : Value) (xs : List Int) : Prop := w.ownsRow B 3 1 V xs.length (xs.map (.int .i64)) ∧ V.ownBlock = some g
theorem RowG.mono {w : World} {B B' g : Nat} {V : Value} {xs : List Int} (h : RowG w B g V xs) (hB : B' ≤ B) : RowG w B' g V xs := by
  refine ⟨⟨h.1.1, ?_⟩, h.2⟩
  rcases h.1.2 with hn | ⟨g', cap, cur, e, hb, rest⟩
  · exact .inl hn
  · exact .inr ⟨g', cap, cur, e, by omega, rest⟩
theorem own_slice {w : World} {B : Nat} {e : TypeId} {v : Value} {n : Nat} {x : List Value} (h : w.ownsRow B e 1 v n x) (hn : 0 < n) : ∃ g c, v = .slice (some ⟨g, 0, none⟩) n c := by
  rcases h.2 with ⟨_, hz⟩ | ⟨g, c, _, rfl, _⟩
  · omega
  · exact ⟨g, c, rfl⟩
theorem ints_one (xs : List Int) : ∀ u ∈ xs.map (Value.int .i64), u.oneCell' = true := fun u hu => by
  obtain ⟨x, _, rfl⟩ := List.mem_map.1 hu
  rfl
structure CRel (w : World) (xss : List (List Int)) (k : Nat) (v : Value) (wr : World) (V : Nat → Value) (G : Nat → Nat) : Prop where
  own : wr.ownsRow w.heap.size 77 1 v k ((List.range k).map V)
  rows : ∀ j, j < k → RowG wr w.heap.size (G j) (V j) (xss.getD j [])
  inj : ∀ i, i < k → ∀ j, j < k → G i = G j → i = j
  bel : Below w.heap.size w wr
theorem CRel.start (w : World) (xss : List (List Int)) : CRel w xss 0 (.slice (some ⟨w.heap.size, 0, none⟩) 0 0) (w.alloc (.cells #[] 77)) (fun _ => undef) (fun _ => 0) :=
  ⟨World.ownsRow_made w #[] 0 (Nat.le_refl _) (Nat.zero_le _) rfl, fun j hj => by omega, fun i hi => by omega, (Below.refl _ _).alloc (Nat.le_refl _) _⟩
theorem CRel.step {w wr w1 w2 : World} {xss : List (List Int)} {k : Nat} {v v1 v2 : Value} {V : Nat → Value} {G : Nat → Nat} {xs : List Int} {o1 o2 : Obj} (h : CRel w xss k v wr V G)
    (hx : xss.getD k [] = xs) (hpos : 0 < xs.length)
    (ho1 : w1.ownsRow wr.heap.size 3 1 v1 xs.length (xs.map (.int .i64))) (hg1 : (wr.alloc o1).grownBy w1 (some wr.heap.size))
    (ho2 : w2.ownsRow w.heap.size 77 1 v2 (k + 1) ((List.range k).map V ++ [v1])) (hg2 : (w1.alloc o2).grownBy w2 v.ownBlock) :
    ∃ V' G', CRel w xss (k + 1) v2 w2 V' G' := by
  have hsz := h.bel.size
  have hs1 : wr.heap.size + 1 ≤ w1.heap.size := by have := hg1.size; simpa using this
  obtain ⟨g1, e1, hb1⟩ : ∃ g, v1.ownBlock = some g ∧ wr.heap.size ≤ g := by
    rcases ho1.2 with ⟨_, hn⟩ | ⟨g, cap, cur, rfl, hb, _⟩
    · omega
    · exact ⟨g, rfl, hb⟩
  have hg1lt := (ho1.lt g1 e1).2
  have hvlt : ∀ b, v.ownBlock = some b → w.heap.size ≤ b ∧ b < wr.heap.size := h.own.lt
  have hold : ∀ j, j < k → G j < wr.heap.size := fun j hj => ((h.rows j hj).1.lt _ (h.rows j hj).2).2
  have hrow2 : RowG w2 wr.heap.size g1 v1 xs := ⟨((ho1.alloc o2).kept hg2 (.inr (fun e => by have := hvlt g1 (e.symm.trans e1); omega))), e1⟩
  refine ⟨fun j => if j = k then v1 else V j, fun j => if j = k then g1 else G j, ⟨?_, fun j hj => ?_, fun i hi j hj hij => ?_, ?_⟩⟩
  · have : (List.range (k + 1)).map (fun j => if j = k then v1 else V j) = (List.range k).map V ++ [v1] := by
      rw [List.range_succ, List.map_append]
      congr 1
      · exact List.map_congr_left (fun j hj => by have := List.mem_range.1 hj; rw [if_neg (by omega)])
      · simp
    rw [this]; exact ho2
  · by_cases hjk : j = k
    · subst hjk
      simp only [if_true]
      rw [hx]
      exact hrow2.mono hsz
    · simp only [if_neg hjk]
      have hr := h.rows j (by omega)
      have hG := hold j (by omega)
      refine ⟨?_, hr.2⟩
      have a1 := (hr.1.alloc o1).kept hg1 (.inr (by rw [hr.2]; intro e; injection e with e; omega))
      have a0 : v.ownBlock ≠ some (G j) := own_apart h.own hr.1 (by decide) hr.2
      exact (a1.alloc o2).kept hg2 (.inr (by rw [hr.2]; exact fun e => a0 e.symm))
  · by_cases h1 : i = k <;> by_cases h2 : j = k
    · omega
    · simp only [h1, if_true, if_neg h2] at hij
      have := hold j (by omega); omega
    · simp only [h2, if_true, if_neg h1] at hij
      have := hold i (by omega); omega
    · simp only [if_neg h1, if_neg h2] at hij
      exact h.inj i (by omega) j (by omega) hij
  · have b1 := (h.bel.alloc hsz o1).grown hg1 (by simp; omega) (fun b hb => by injection hb with hb; omega)
    exact (b1.alloc (by omega) o2).grown hg2 (by simp; omega) (fun b hb => (hvlt b hb).1)
theorem CRel.own_mid {w wr w1 : World} {xss : List (List Int)} {k : Nat} {v : Value} {V : Nat → Value} {G : Nat → Nat} {o1 o2 : Obj} (h : CRel w xss k v wr V G) (hg1 : (wr.alloc o1).grownBy w1 (some wr.heap.size)) :
    (w1.alloc o2).ownsRow w.heap.size 77 1 v k ((List.range k).map V) :=
  ((h.own.alloc o1).kept hg1 (by
    cases hv : v.ownBlock with
    | none => exact .inl rfl
    | some b => exact .inr (fun e => by injection e with e; have := h.own.lt b hv; omega))).alloc o2
theorem CRel.mat {w wr : World} {xss : List (List Int)} {n : Nat} {v : Value} {V : Nat → Value} {G : Nat → Nat} (h : CRel w xss n v wr V G) (hn : n = xss.length) (h0 : 0 < n) (hne : ∀ j, j < n → 0 < (xss.getD j []).length) :
    MatW wr w.heap.size wr.heap.size v xss := by
  subst hn
  rcases h.own.2 with ⟨_, hz⟩ | ⟨g, cap, cur, rfl, hb, hbl, hnc, hcm, hcs, htk⟩
  · omega
  have hgl := (Array.getElem?_eq_some_iff.1 hbl).1
  have each : ∀ j, j < xss.length → ∃ c, V j = .slice (some ⟨G j, 0, none⟩) (xss.getD j []).length c ∧ (xss.getD j []).length ≤ c ∧ c ≤ maxLen := fun j hj => by
    rcases (h.rows j hj).1.2 with ⟨_, hz⟩ | ⟨g', c, cur', e, _, _, h1, h2, _⟩
    · have := hne j hj; omega
    · have h3 := (h.rows j hj).2
      rw [e] at h3 ⊢
      simp [Value.ownBlock] at h3
      subst h3
      exact ⟨c, rfl, h1, h2⟩
  have hcell : ∀ j, j < xss.length → wr.cell? ⟨g, j, none⟩ = some (V j) := fun j hj => by
    have := h.own.cells (g := g) rfl j (V j) (by simp [hj])
    rwa [add0] at this
  obtain ⟨C, hC⟩ : ∃ C : Nat → Nat, ∀ j, j < xss.length → V j = .slice (some ⟨G j, 0, none⟩) (xss.getD j []).length (C j) ∧ (xss.getD j []).length ≤ C j ∧ C j ≤ maxLen :=
    ⟨fun j => if hj : j < xss.length then (each j hj).choose else 0, fun j hj => by simp only [hj, dif_pos]; exact (each j hj).choose_spec⟩
  refine ⟨some ⟨g, 0, none⟩, cap, fun j => some ⟨G j, 0, none⟩, C, rfl, hnc, hcm, ⟨fun j hj => ?_, fun j hj i hi => ?_, fun j hj j' hj' hne' _ _ g1 p1 g2 p2 e1 e2 => ?_⟩⟩
  · have hc := hC j hj
    exact ⟨g, 0, rfl, hb, hgl, by rw [Nat.zero_add, hcell j hj, hc.1], hc.2.1, hc.2.2, by simp [World.frozen?, hbl]⟩
  · have hr := h.rows j hj
    have hlt := hr.1.lt _ hr.2
    have hcl := hr.1.cells (g := G j) hr.2 i (.int .i64 ((xss.getD j []).getD i 0)) (by rw [getD_lt hi]; simp)
    rw [add0] at hcl
    refine ⟨G j, 0, rfl, hlt.1, hlt.2, by rw [Nat.zero_add]; exact hcl, ?_, fun b o e => ?_⟩
    · rcases hr.1.2 with ⟨_, hz⟩ | ⟨g', c, cur', e, _, hbb, _⟩
      · omega
      · have h3 := hr.2
        rw [e] at h3
        simp [Value.ownBlock] at h3
        subst h3
        simp [World.frozen?, hbb]
    · injection e with e
      injection e with e e'
      subst e
      intro hh
      exact own_apart h.own hr.1 (by decide) hr.2 (by rw [hh]; rfl)
  · injection e1 with e1; injection e1 with e1 _
    injection e2 with e2; injection e2 with e2 _
    exact .inl (fun hh => hne' (h.inj j hj j' hj' (by omega)))
def ToMat (xss : List (List Int)) (w : World) (e : Ending) (w' : World) : Prop := ∃ v, e = .returned v ∧ MatW w' w.heap.size w'.heap.size v xss ∧ Below w.heap.size w w'
end Go.Proofs.Ythfdkenidfnmgaa
namespace Go.Proofs.Ythfdkenidfnmgaa
open Go.ChangeShapes Go.WideShapes Go.ChangeAt Go.RowKit
set_option linter.unusedVariables false
set_option maxRecDepth 100000
theorem MatAt.store {w : World} {B0 B1 : Nat} {a : Option Addr} {n : Nat} {A : Nat → Option Addr} {L C : Nat → Nat} {X : Nat → Nat → Int} (h : MatAt w B0 B1 a n A L C X) {i j : Nat} (hi : i < n) (hj : j < L i)
    {g p : Nat} (hA : A i = some ⟨g, p, none⟩) (x : Int) : MatAt (w.setCell ⟨g, p + j, none⟩ (.int .i64 x)) B0 B1 a n A L C (fun k m => if k = i ∧ m = j then x else X k m) := by
  refine ⟨fun k hk => ?_, fun k hk m hm => ?_, h.apart⟩
  · obtain ⟨b, o, rfl, h1, h2, h3, h4⟩ := h.top k hk
    refine ⟨b, o, rfl, h1, h2, (cell_set_other (.inl ?_)).trans h3, h4.1, h4.2.1, (frozen_set _).trans h4.2.2⟩
    obtain ⟨g', p', e, _, _, _, _, h5⟩ := h.row i hi j hj
    rw [hA] at e; cases e
    exact h5 b o rfl
  · obtain ⟨g', p', e, h1, h2, h3, h4, h5⟩ := h.row k hk m hm
    refine ⟨g', p', e, h1, h2, ?_, (frozen_set _).trans h4, h5⟩
    by_cases hki : k = i
    · subst hki
      rw [hA] at e; cases e
      by_cases hmj : m = j
      · subst hmj
        rw [if_pos ⟨rfl, rfl⟩]
        exact cell_set_same h3
      · rw [if_neg (fun hh => hmj hh.2)]
        exact (cell_set_other (.inr (by omega))).trans h3
    · rw [if_neg (fun hh => hki hh.1)]
      refine (cell_set_other ?_).trans h3
      rcases h.apart k hk i hi hki (by omega) (by omega) g' p' g p e hA with h7 | h7 | h7
      · exact .inl h7
      · exact .inr (by omega)
      · exact .inr (by omega)
theorem MatAt.congr {w : World} {B0 B1 : Nat} {a : Option Addr} {n n' : Nat} {A : Nat → Option Addr} {L L' C : Nat → Nat} {X X' : Nat → Nat → Int} (h : MatAt w B0 B1 a n A L C X) (hn : n' = n) (hL : ∀ j, j < n → L' j = L j)
    (hX : ∀ j, j < n → ∀ i, i < L j → X' j i = X j i) : MatAt w B0 B1 a n' A L' C X' := by
  subst hn
  refine ⟨fun k hk => ?_, fun k hk m hm => ?_, fun j hj j' hj' hne h0 h0' g p g' p' e e' => ?_⟩
  · rw [hL k hk]; exact h.top k hk
  · rw [hL k hk] at hm
    rw [hX k hk m hm]; exact h.row k hk m hm
  · rw [hL j hj] at h0 ⊢
    rw [hL j' hj'] at h0' ⊢
    exact h.apart j hj j' hj' hne h0 h0' g p g' p' e e'
theorem MatAt.mono {w : World} {B0 B1 B2 : Nat} {a : Option Addr} {n : Nat} {A : Nat → Option Addr} {L C : Nat → Nat} {X : Nat → Nat → Int} (h : MatAt w B0 B1 a n A L C X) (hB : B1 ≤ B2) : MatAt w B0 B2 a n A L C X := by
  refine ⟨fun k hk => ?_, fun k hk m hm => ?_, h.apart⟩
  · obtain ⟨b, o, e, h1, h2, h3⟩ := h.top k hk
    exact ⟨b, o, e, h1, by omega, h3⟩
  · obtain ⟨g, p, e, h1, h2, h3⟩ := h.row k hk m hm
    exact ⟨g, p, e, h1, by omega, h3⟩
end Go.Proofs.Ythfdkenidfnmgaa
namespace Go.Proofs.Ythfdkenidfnmgaa
open Go.ChangeShapes Go.WideShapes Go.ChangeAt Go.RowKit
set_option linter.unusedVariables false
set_option maxRecDepth 100000
theorem mem_len {xss : List (List Int)} (h : memOk xss = true) : xss.length = 12 := (of_decide_eq_true h).2
theorem mem_row {xss : List (List Int)} (h : memOk xss = true) {i : Nat} (hi : i < 12) : (xss.getD i []).length = 4 := by
  have hl := mem_len h
  have := (of_decide_eq_true h).1 _ (List.getElem_mem (show i < xss.length by omega))
  rw [getD_lt (by omega)]
  exact (of_decide_eq_true this).2
end Go.Proofs.Ythfdkenidfnmgaa
namespace Go.Proofs.Ythfdkenidfnmgaa
open Go.ChangeShapes Go.WideShapes Go.ChangeAt Go.RowKit
set_option linter.unusedVariables false
set_option maxRecDepth 100000
structure Chg (lo hi : Nat) (w w' : World) : Prop where
  os : w'.os = w.os
  tape : w'.tape = w.tape
  output : w'.output = w.output
  size : w.heap.size ≤ w'.heap.size
  block : ∀ b, b < w.heap.size → (b < lo ∨ hi ≤ b) → w'.heap[b]? = w.heap[b]?
theorem Chg.of_below {w w' : World} (h : Below w.heap.size w w') : Chg 0 0 w w' := ⟨h.os, h.tape, h.output, h.size, fun b hb _ => h.block b hb⟩
theorem Chg.of_kept {lo hi : Nat} {w w' : World} (h : Kept lo hi w w') : Chg lo hi w w' := ⟨h.os, h.tape, h.output, Nat.le_of_eq h.size.symm, fun b _ hb => h.block b hb⟩
theorem Below.chg {lo hi S : Nat} {W w w' : World} (h : Below S W w) (c : Chg lo hi w w') (hS : S ≤ w.heap.size) (hh : S ≤ lo ∨ hi = 0) : Below S W w' :=
  ⟨c.os.trans h.os, c.tape.trans h.tape, c.output.trans h.output, Nat.le_trans h.size c.size, fun b hb => (c.block b (by omega) (by omega)).trans (h.block b hb)⟩
theorem MatW.chg {lo hi B0 B1 : Nat} {w w' : World} {v : Value} {xss : List (List Int)} (h : MatW w B0 B1 v xss) (c : Chg lo hi w w') (hB : B1 ≤ w.heap.size) (hh : B1 ≤ lo ∨ hi ≤ B0) : MatW w' B0 B1 v xss :=
  h.of_blocks (fun b h0 h1 => c.block b (by omega) (by omega))
theorem MatAt.chg {lo hi B0 B1 : Nat} {w w' : World} {a : Option Addr} {n : Nat} {A : Nat → Option Addr} {L C : Nat → Nat} {X : Nat → Nat → Int} (h : MatAt w B0 B1 a n A L C X) (c : Chg lo hi w w') (hB : B1 ≤ w.heap.size) (hh : B1 ≤ lo ∨ hi ≤ B0) :
    MatAt w' B0 B1 a n A L C X := h.of_blocks (fun b h0 h1 => c.block b (by omega) (by omega))
end Go.Proofs.Ythfdkenidfnmgaa
namespace Go.Proofs.Ythfdkenidfnmgaa
open Go.ChangeShapes Go.WideShapes Go.ChangeAt Go.RowKit
set_option linter.unusedVariables false
set_option maxRecDepth 100000
section
variable {P : Program}
theorem wpList_alloc_arr {ops : Array Oper} {rest : List Oper} {op : Oper} {a : Act} {w : World} {Q : Exit → Act → World → Prop} (hgd : op.guard = none) (t : TypeId) (ho : op.op = .alloc t)
    (z : Array Value) (hz : ∀ w, (zeroValue t).run P w = .ok (.agg z) w)
    (h : wpList P ops Q rest (a.put op.dst (.pointer (some ⟨w.heap.size, 0, none⟩))) (w.alloc (.cells z t))) : wpList P ops Q (op :: rest) a w :=
  wpList_plain hgd fun _ hK => by
    unfold Oper.wp execOp
    simp only [ho, Instr.alloc, Sem.run_bind, Sem.run_pure, Result.andThen_ok, hz]
    exact hK _ _ h
theorem wpList_box_arr {ops : Array Oper} {rest : List Oper} {op : Oper} {a : Act} {w : World} {Q : Exit → Act → World → Prop} (hgd : op.guard = none) (t : TypeId) (x : Operand) (ho : op.op = .box t x)
    (z : Array Value) (hx : a.eval x = .agg z)
    (h : wpList P ops Q rest (a.put op.dst (.pointer (some ⟨w.heap.size, 0, none⟩))) (w.alloc (.cells z t))) : wpList P ops Q (op :: rest) a w :=
  wpList_plain hgd fun _ hK => by
    unfold Oper.wp execOp
    simp only [ho, hx]
    exact hK _ _ h
theorem store_arr {ops : Array Oper} {rest : List Oper} {a : Act} {w : World} {Q : Exit → Act → World → Prop} {dst : Option Nat} {tt : TypeId} {pos : String} {after : Array Edge} (ty : TypeId) (x y : Operand)
    (b o : Nat) (cells : Array Value) (hx : a.eval x = .pointer (some ⟨b, o, none⟩)) (hy : a.eval y = .agg cells)
    (ht : w.there b o cells.size) (hi : (P.info? ty).map (·.size) = some cells.size) (h1 : cells.all (·.oneCell') = true)
    (h : wpList P ops Q rest (a.put dst undef) (w.setCells b o cells.toList)) : wpList P ops Q ({ dst := dst, op := .store ty x y, type := tt, pos := pos, after := after, guard := none } :: rest) a w :=
  wpList_store_mid rfl ty x y rfl b o cells hx hy ht hi h1 h
theorem alloc_arr {ops : Array Oper} {rest : List Oper} {a : Act} {w : World} {Q : Exit → Act → World → Prop} {dst : Option Nat} {tt : TypeId} {pos : String} {after : Array Edge} (t : TypeId)
    (z : Array Value) (hz : ∀ w, (zeroValue t).run P w = .ok (.agg z) w)
    (h : wpList P ops Q rest (a.put dst (.pointer (some ⟨w.heap.size, 0, none⟩))) (w.alloc (.cells z t))) : wpList P ops Q ({ dst := dst, op := .alloc t, type := tt, pos := pos, after := after, guard := none } :: rest) a w :=
  wpList_alloc_arr rfl t rfl z hz h
theorem box_arr {ops : Array Oper} {rest : List Oper} {a : Act} {w : World} {Q : Exit → Act → World → Prop} {dst : Option Nat} {tt : TypeId} {pos : String} {after : Array Edge} (t : TypeId) (x : Operand)
    (z : Array Value) (hx : a.eval x = .agg z)
    (h : wpList P ops Q rest (a.put dst (.pointer (some ⟨w.heap.size, 0, none⟩))) (w.alloc (.cells z t))) : wpList P ops Q ({ dst := dst, op := .box t x, type := tt, pos := pos, after := after, guard := none } :: rest) a w :=
  wpList_box_arr rfl t x rfl z hx h
theorem load_arr {ops : Array Oper} {rest : List Oper} {a : Act} {w : World} {Q : Exit → Act → World → Prop} {dst : Option Nat} {tt : TypeId} {pos : String} {after : Array Edge} (ty : TypeId) (x : Operand)
    (b o : Nat) (cs : List Value) (d : TypeDesc) (hx : a.eval x = .pointer (some ⟨b, o, none⟩)) (hc : w.rangeAt b o cs)
    (hu : P.underlying ty = some d) (hd : d.isRow = true) (hi : (P.info? ty).map (·.size) = some cs.length)
    (h : wpList P ops Q rest (a.put dst (.agg cs.toArray)) w) : wpList P ops Q ({ dst := dst, op := .load ty x, type := tt, pos := pos, after := after, guard := none } :: rest) a w :=
  wpList_load_mid rfl ty x rfl b o hx cs d hc hu hd hi h
theorem run_index_arr (t : TypeId) (n : Nat) (e : TypeId) (s : Nat) (hu : P.underlying t = some (.array n e)) (ha : ∀ w, (isAgg e).run P w = .ok true w) (hs : ∀ w, (sizeOf e).run P w = .ok s w)
    (cs : Array Value) (k : Nat) (hk : k < n) (W : World) : (Instr.index t (.agg cs) (.int .i64 k)).run P W = .ok (.agg (cs.extract (k * s) (k * s + s))) W := by
  have h1 : (0 : Int) ≤ (k : Int) ∧ (k : Int) < (n : Int) := by omega
  unfold Instr.index
  simp only [asIntOf, Sem.run_bind, Sem.run_pure, Result.andThen_ok, run_underlying hu, hs, part, ha, if_pos h1, Int.toNat_natCast, if_true]
theorem run_indexAt_arr (t : TypeId) (n : Nat) (e : TypeId) (s : Nat) (hu : P.underlying t = some (.array n e)) (hs : ∀ w, (sizeOf e).run P w = .ok s w) (hn : 1 < n)
    (b : Nat) (k : Nat) (hk : k < n) (W : World) : (Instr.indexAt t (.pointer (some ⟨b, 0, none⟩)) (.int .i64 k)).run P W = .ok (.pointer (some ⟨b, k * s, none⟩)) W := by
  have h1 : (0 : Int) ≤ (k : Int) ∧ (k : Int) < (n : Int) := by omega
  unfold Instr.indexAt
  simp only [asIntOf, Instr.sureAddr, Sem.run_bind, Sem.run_pure, Result.andThen_ok, run_underlying hu, hs, if_pos h1, Int.toNat_natCast, add0]
theorem results_cell_mid {fn : Func} {p u : Tmp} {ty : TypeId} (h : fn.results = #[.cell p ty, .tmp u]) (tmps : Array Value) (w : World) (b o : Nat) (cs : List Value) (d : TypeDesc)
    (hp : tmps.getD p undef = .pointer (some ⟨b, o, none⟩)) (hc : w.rangeAt b o cs)
    (hu : P.underlying ty = some d) (hd : d.isRow = true) (hi : (P.info? ty).map (·.size) = some cs.length) :
    (results fn tmps).run P w = .ok (.tuple #[.agg cs.toArray, tmps.getD u undef]) w := by
  rw [results_cell_tmp h, hp]
  simp only [asAddr, Sem.run_pure, Result.andThen_ok, run_loadVar_mid w b o ty cs d hc hu hd hi]
end
theorem store_is {P : Program} {ops : Array Oper} {rest : List Oper} {a : Act} {w : World} {Q : Exit → Act → World → Prop} {dst : Option Nat} {tt : TypeId} {pos : String} {after : Array Edge} (ty : TypeId) (x y : Operand) (h : wpList P ops Q ({ dst := dst, op := .store ty x y, type := tt, pos := pos, after := after, guard := none } :: rest) a w) : wpList P ops Q ({ dst := dst, op := .store ty x y, type := tt, pos := pos, after := after, guard := none } :: rest) a w := h
theorem load_is {P : Program} {ops : Array Oper} {rest : List Oper} {a : Act} {w : World} {Q : Exit → Act → World → Prop} {dst : Option Nat} {tt : TypeId} {pos : String} {after : Array Edge} (ty : TypeId) (x : Operand) (h : wpList P ops Q ({ dst := dst, op := .load ty x, type := tt, pos := pos, after := after, guard := none } :: rest) a w) : wpList P ops Q ({ dst := dst, op := .load ty x, type := tt, pos := pos, after := after, guard := none } :: rest) a w := h
theorem build_is {P : Program} {ops : Array Oper} {rest : List Oper} {a : Act} {w : World} {Q : Exit → Act → World → Prop} {dst : Option Nat} {tt : TypeId} {pos : String} {after : Array Edge} (ty : TypeId) (h : wpList P ops Q ({ dst := dst, op := .build ty #[], type := tt, pos := pos, after := after, guard := none } :: rest) a w) : wpList P ops Q ({ dst := dst, op := .build ty #[], type := tt, pos := pos, after := after, guard := none } :: rest) a w := h
theorem alloc_is {P : Program} {ops : Array Oper} {rest : List Oper} {a : Act} {w : World} {Q : Exit → Act → World → Prop} {dst : Option Nat} {tt : TypeId} {pos : String} {after : Array Edge} (ty : TypeId) (h : wpList P ops Q ({ dst := dst, op := .alloc ty, type := tt, pos := pos, after := after, guard := none } :: rest) a w) : wpList P ops Q ({ dst := dst, op := .alloc ty, type := tt, pos := pos, after := after, guard := none } :: rest) a w := h
theorem box_is {P : Program} {ops : Array Oper} {rest : List Oper} {a : Act} {w : World} {Q : Exit → Act → World → Prop} {dst : Option Nat} {tt : TypeId} {pos : String} {after : Array Edge} (ty : TypeId) (x : Operand) (h : wpList P ops Q ({ dst := dst, op := .box ty x, type := tt, pos := pos, after := after, guard := none } :: rest) a w) : wpList P ops Q ({ dst := dst, op := .box ty x, type := tt, pos := pos, after := after, guard := none } :: rest) a w := h
theorem make_is {P : Program} {ops : Array Oper} {rest : List Oper} {a : Act} {w : World} {Q : Exit → Act → World → Prop} {dst : Option Nat} {tt : TypeId} {pos : String} {after : Array Edge} (ty : TypeId) (x y : Operand) (h : wpList P ops Q ({ dst := dst, op := .makeSlice ty x y, type := tt, pos := pos, after := after, guard := none } :: rest) a w) : wpList P ops Q ({ dst := dst, op := .makeSlice ty x y, type := tt, pos := pos, after := after, guard := none } :: rest) a w := h
theorem range_append {w : World} {b o : Nat} {l1 l2 : List Value} {o2 : Nat} (h1 : w.rangeAt b o l1) (h2 : w.rangeAt b o2 l2) (ho : o2 = o + l1.length) : w.rangeAt b o (l1 ++ l2) := by
  subst ho
  intro j v hv
  rw [List.getElem?_append] at hv
  by_cases hj : j < l1.length
  · rw [if_pos hj] at hv
    exact h1 j v hv
  · rw [if_neg hj] at hv
    have := h2 _ v hv
    have e : o + l1.length + (j - l1.length) = o + j := by omega
    rwa [e] at this
theorem range_row {w : World} {b : Nat} {C : Array Value} {t : TypeId} {fr : Nat × Nat} (hb : w.heap[b]? = some (.cells C t fr)) : w.rangeAt b 0 C.toList := fun j v hv => by
  rw [cell_of_row w b (0 + j) C t fr hb, Nat.zero_add]
  simpa using hv
theorem range_blocks {w w' : World} {b o : Nat} {cs : List Value} (h : w.rangeAt b o cs) (e : w'.heap[b]? = w.heap[b]?) : w'.rangeAt b o cs := fun j v hv => by
  rw [World.cell?_of_block e]; exact h j v hv
theorem there_blocks {w w' : World} {b o n : Nat} (h : w.there b o n) (e : w'.heap[b]? = w.heap[b]?) : w'.there b o n := fun j hj => by
  rw [World.cell?_of_block e, World.frozen?_of_block e]; exact h j hj
theorem there_row {w : World} {b : Nat} {C : Array Value} {t : TypeId} {n : Nat} (hb : w.heap[b]? = some (.cells C t (0, 0))) (hn : n ≤ C.size) : w.there b 0 n := fun j hj => by
  rw [cell_of_row w b (0 + j) C t (0, 0) hb, frozen_of_row w b (0 + j) C t hb, Nat.zero_add]
  exact ⟨by simp; omega, rfl⟩
theorem heap_setCells_other (w : World) (b : Nat) : ∀ (vs : List Value) (o : Nat) (w : World) (k : Nat), k ≠ b → (w.setCells b o vs).heap[k]? = w.heap[k]?
  | [], _, _, _, _ => rfl
  | v :: r, o, w, k, h => by
    rw [World.setCells, heap_setCells_other w b r (o + 1) _ k h, heap_setCell_other _ _ _ _ h]
theorem size_setCells (b : Nat) : ∀ (vs : List Value) (o : Nat) (w : World), (w.setCells b o vs).heap.size = w.heap.size
  | [], _, _ => rfl
  | v :: r, o, w => by rw [World.setCells, size_setCells b r (o + 1)]; simp [World.setCell]
theorem Below.setCells {S : Nat} {W w : World} (h : Below S W w) (b : Nat) (hb : S ≤ b) : ∀ (vs : List Value) (o : Nat) (w : World), Below S W w → Below S W (w.setCells b o vs)
  | [], _, _, h => h
  | v :: r, o, w, h => by rw [World.setCells]; exact Below.setCells h b hb r (o + 1) _ (h.setCell (p := ⟨b, o, none⟩) hb v)
end Go.Proofs.Ythfdkenidfnmgaa
namespace Go.Proofs.Ythfdkenidfnmgaa
open Go.ChangeShapes Go.WideShapes Go.ChangeAt Go.RowKit
set_option linter.unusedVariables false
set_option maxRecDepth 100000
def goodB (w : Int) : Prop := 0 < w ∧ w % 2 = 1 ∧ w < 48
end Go.Proofs.Ythfdkenidfnmgaa
namespace Go.Proofs.Ythfdkenidfnmgaa
open Go.ChangeShapes Go.WideShapes Go.ChangeAt Go.RowKit
set_option linter.unusedVariables false
set_option maxRecDepth 100000
theorem Rows2.word {w : World} {v : Value} {xss : List (List Int)} (h : Rows2 w v xss) (hm : memOk xss = true) {i j : Nat} (hi : i < 12) (hj : j < 4) :
    ∃ b o c g p d, v = .slice (some ⟨b, o, none⟩) 12 c ∧ w.cell? ⟨b, o + i, none⟩ = some (.slice (some ⟨g, p, none⟩) 4 d) ∧ w.cell? ⟨g, p + j, none⟩ = some (.int .i64 ((xss.getD i []).getD j 0)) := by
  obtain ⟨a, c, rfl, h1, h2, h3⟩ := h
  have hl := mem_len hm
  have hr := mem_row hm hi
  obtain ⟨b, o, u, rfl, hc, hu⟩ := h3 i (by omega)
  obtain ⟨ga, d, rfl, hg1, hg2, hg3⟩ := hu
  obtain ⟨g, p, rfl, hgc⟩ := hg3 j (by omega)
  rw [hr] at hc
  exact ⟨b, o, c, g, p, d, by rw [hl], hc, hgc⟩
instance (x : Int) : Decidable (goodB x) := by unfold goodB; infer_instance
def wd (xss : List (List Int)) (i j : Nat) : Int := (xss.getD i []).getD j 0
def top (xss : List (List Int)) (r a : Int) : Int := wd xss r.toNat (a / 16).toNat
def wOk (xss : List (List Int)) (r a : Int) : Prop := memOk xss = true ∧ (0 ≤ r ∧ r < 12) ∧ 0 ≤ a ∧ a < 64
instance (xss : List (List Int)) (r a : Int) : Decidable (wOk xss r a) := by unfold wOk; infer_instance
end Go.Proofs.Ythfdkenidfnmgaa
namespace Go.Proofs.Ythfdkenidfnmgaa
set_option linter.unusedVariables false
set_option maxRecDepth 100000
abbrev Bs := List UInt8
def lok (b : UInt8) : Bool := decide (97 ≤ b.toNat) && decide (b.toNat ≤ 99)
def rv (s : Bs) : Bool := s.all lok && decide (s.length ≤ 4)
def bl (a b : Bs) : Bool := Op.bytesLess a b
theorem bl_nil (a : Bs) : bl a [] = false := by cases a <;> rfl
theorem bl_cons (a b : UInt8) (x y : Bs) : bl (a :: x) (b :: y) = (decide (a < b) || (a == b && bl x y)) := rfl
theorem bl_cons_iff {a b : UInt8} {x y : Bs} : bl (a :: x) (b :: y) = true ↔ a.toNat < b.toNat ∨ (a = b ∧ bl x y = true) := by
  rw [bl_cons]
  simp only [Bool.or_eq_true, decide_eq_true_eq, Bool.and_eq_true, beq_iff_eq, UInt8.lt_iff_toNat_lt]
theorem bl_irrefl : ∀ a : Bs, bl a a = false
  | [] => rfl
  | a :: x => by
    rw [Bool.eq_false_iff]
    intro h
    rcases bl_cons_iff.1 h with h | ⟨_, h⟩
    · omega
    · rw [bl_irrefl x] at h; cases h
theorem bl_trans : ∀ {a b c : Bs}, bl a b = true → bl b c = true → bl a c = true
  | _, [], _, h, _ => by rw [bl_nil] at h; cases h
  | _, _ :: _, [], _, h => by rw [bl_nil] at h; cases h
  | [], _ :: _, _ :: _, _, _ => rfl
  | a :: x, b :: y, c :: z, h1, h2 => by
    rw [bl_cons_iff] at h1 h2 ⊢
    rcases h1 with h1 | ⟨e1, h1⟩
    · rcases h2 with h2 | ⟨e2, h2⟩
      · left; omega
      · left; rw [← e2]; exact h1
    · rcases h2 with h2 | ⟨e2, h2⟩
      · left; rw [e1]; exact h2
      · right; exact ⟨e1.trans e2, bl_trans h1 h2⟩
theorem bl_asymm {a b : Bs} (h : bl a b = true) : bl b a = false := by
  rw [Bool.eq_false_iff]
  intro h2
  have := bl_trans h h2
  rw [bl_irrefl] at this; cases this
theorem bl_tri : ∀ {a b : Bs}, bl a b = false → bl b a = false → a = b
  | [], [], _, _ => rfl
  | [], _ :: _, h, _ => by cases h
  | _ :: _, [], _, h => by cases h
  | a :: x, b :: y, h1, h2 => by
    rw [Bool.eq_false_iff] at h1 h2
    have h1 := fun h => h1 (bl_cons_iff.2 h)
    have h2 := fun h => h2 (bl_cons_iff.2 h)
    have e : a = b := UInt8.toNat.inj (by
      have a1 : ¬ a.toNat < b.toNat := fun h => h1 (.inl h)
      have a2 : ¬ b.toNat < a.toNat := fun h => h2 (.inl h)
      omega)
    subst e
    have : x = y := bl_tri (by rw [Bool.eq_false_iff]; exact fun h => h1 (.inr ⟨rfl, h⟩)) (by rw [Bool.eq_false_iff]; exact fun h => h2 (.inr ⟨rfl, h⟩))
    rw [this]
theorem bl_ne {a b : Bs} (h : bl a b = true) : a ≠ b := fun e => by rw [e, bl_irrefl] at h; cases h
def Asc (xs : List Bs) : Prop := xs.Pairwise (fun a b => bl a b = true)
def rok (xs : List Bs) : Bool := decide (∀ j, j < xs.length → rv (xs.getD j []) = true ∧ (0 < j → bl (xs.getD (j - 1) []) (xs.getD j []) = true))
def rvs (xs : List Bs) : Bool := rok xs && decide (xs.length ≤ 6)
theorem rok_iff {xs : List Bs} : rok xs = true ↔ ∀ j, j < xs.length → rv (xs.getD j []) = true ∧ (0 < j → bl (xs.getD (j - 1) []) (xs.getD j []) = true) := by
  simp only [rok, decide_eq_true_eq]
theorem rok_asc {xs : List Bs} (h : rok xs = true) : Asc xs := by
  rw [rok_iff] at h
  have key : ∀ d i, i + d + 1 < xs.length → bl (xs.getD i []) (xs.getD (i + d + 1) []) = true := by
    intro d
    induction d with
    | zero => intro i hi; exact (h (i + 1) hi).2 (by omega)
    | succ d ih =>
      intro i hi
      exact bl_trans (ih i (by omega)) ((h (i + d + 1 + 1) (by omega)).2 (by omega))
  unfold Asc
  rw [List.pairwise_iff_getElem]
  intro i j hi hj hij
  have := key (j - i - 1) i (by omega)
  rw [show i + (j - i - 1) + 1 = j by omega, getD_lt hi, getD_lt hj] at this
  exact this
theorem rok_all {xs : List Bs} (h : rok xs = true) : ∀ x ∈ xs, rv x = true := by
  rw [rok_iff] at h
  intro x hx
  obtain ⟨i, hi, rfl⟩ := List.getElem_of_mem hx
  have := (h i hi).1
  rwa [getD_lt hi] at this
theorem rok_of {xs : List Bs} (h1 : Asc xs) (h2 : ∀ x ∈ xs, rv x = true) : rok xs = true := by
  rw [rok_iff]
  intro j hj
  refine ⟨h2 _ (by rw [getD_lt hj]; exact List.getElem_mem hj), fun h0 => ?_⟩
  rw [getD_lt hj, getD_lt (show j - 1 < xs.length by omega)]
  exact (List.pairwise_iff_getElem.1 h1) (j - 1) j (by omega) hj (by omega)
theorem rok_cases {xs : List Bs} : rok xs = true ↔ Asc xs ∧ ∀ x ∈ xs, rv x = true :=
  ⟨fun h => ⟨rok_asc h, rok_all h⟩, fun h => rok_of h.1 h.2⟩
theorem rvs_iff {xs : List Bs} : rvs xs = true ↔ (Asc xs ∧ ∀ x ∈ xs, rv x = true) ∧ xs.length ≤ 6 := by
  rw [rvs, Bool.and_eq_true, rok_cases, decide_eq_true_eq]
theorem rvs_len {xs : List Bs} (h : rvs xs = true) : xs.length ≤ 6 := (rvs_iff.1 h).2
theorem rvs_asc {xs : List Bs} (h : rvs xs = true) : Asc xs := (rvs_iff.1 h).1.1
theorem rv_iff {s : Bs} : rv s = true ↔ (∀ b ∈ s, lok b = true) ∧ s.length ≤ 4 := by
  rw [rv, Bool.and_eq_true, List.all_eq_true, decide_eq_true_eq]
theorem rv_len {s : Bs} (h : rv s = true) : s.length ≤ 4 := (rv_iff.1 h).2
theorem asc_ext : ∀ {xs ys : List Bs}, Asc xs → Asc ys → (∀ z, z ∈ xs ↔ z ∈ ys) → xs = ys
  | [], [], _, _, _ => rfl
  | [], y :: ys, _, _, h => absurd ((h y).2 (List.mem_cons_self ..)) (List.not_mem_nil)
  | x :: xs, [], _, _, h => absurd ((h x).1 (List.mem_cons_self ..)) (List.not_mem_nil)
  | x :: xs, y :: ys, hx, hy, h => by
    have hx' := List.pairwise_cons.1 hx
    have hy' := List.pairwise_cons.1 hy
    have e : x = y := by
      rcases List.mem_cons.1 ((h x).1 (List.mem_cons_self ..)) with e | hm
      · exact e
      · rcases List.mem_cons.1 ((h y).2 (List.mem_cons_self ..)) with e | hm2
        · exact e.symm
        · have a := hy'.1 x hm
          have b := hx'.1 y hm2
          rw [bl_asymm a] at b; cases b
    subst e
    rw [asc_ext hx'.2 hy'.2 (fun z => ?_)]
    constructor
    · intro hz
      rcases List.mem_cons.1 ((h z).1 (List.mem_cons_of_mem _ hz)) with e | hm
      · subst e; exact absurd rfl (bl_ne (hx'.1 _ hz))
      · exact hm
    · intro hz
      rcases List.mem_cons.1 ((h z).2 (List.mem_cons_of_mem _ hz)) with e | hm
      · subst e; exact absurd rfl (bl_ne (hy'.1 _ hz))
      · exact hm
theorem asc_nodup {xs : List Bs} (h : Asc xs) : xs.Nodup := h.imp (fun hab => bl_ne hab)
end Go.Proofs.Ythfdkenidfnmgaa
namespace Go.Proofs.Ythfdkenidfnmgaa
open Go.ChangeShapes Go.WideShapes Go.ChangeAt Go.RowKit
set_option linter.unusedVariables false
set_option maxRecDepth 100000
def Strs (w : World) (v : Value) (xs : List Bs) : Prop :=
  ∃ (a : Option Addr) (cap : Nat), v = .slice a xs.length cap ∧ xs.length ≤ cap ∧ cap ≤ maxLen ∧
    ∀ i, i < xs.length → ∃ b o, a = some ⟨b, o, none⟩ ∧ w.cell? ⟨b, o + i, none⟩ = some (.string ⟨(xs.getD i []).toArray⟩)
theorem Strs.below {w w' : World} {v : Value} {xs : List Bs} (h : Strs w v xs) (hb : Below w.heap.size w w') : Strs w' v xs := by
  obtain ⟨a, cap, rfl, h1, h2, h3⟩ := h
  refine ⟨a, cap, rfl, h1, h2, fun i hi => ?_⟩
  obtain ⟨b, o, rfl, hc⟩ := h3 i hi
  exact ⟨b, o, rfl, (hb.cell (p := ⟨b, o + i, none⟩) (cell_lt hc)).trans hc⟩
theorem Strs.drewN {w : World} {v : Value} {xs : List Bs} (h : Strs w v xs) (n : Nat) : Strs (w.drewN n) v xs := h
def StrsW (w : World) (B0 B1 : Nat) (v : Value) (xs : List Bs) : Prop :=
  ∃ (a : Option Addr) (cap : Nat), v = .slice a xs.length cap ∧ xs.length ≤ cap ∧ cap ≤ maxLen ∧
    ∀ i, i < xs.length → ∃ g p, a = some ⟨g, p, none⟩ ∧ B0 ≤ g ∧ g < B1 ∧ w.cell? ⟨g, p + i, none⟩ = some (.string ⟨(xs.getD i []).toArray⟩) ∧ w.frozen? ⟨g, p + i, none⟩ = false
theorem StrsW.strs {w : World} {B0 B1 : Nat} {v : Value} {xs : List Bs} (h : StrsW w B0 B1 v xs) : Strs w v xs := by
  obtain ⟨a, cap, rfl, h1, h2, h3⟩ := h
  refine ⟨a, cap, rfl, h1, h2, fun i hi => ?_⟩
  obtain ⟨g, p, e, _, _, hc, _⟩ := h3 i hi
  exact ⟨g, p, e, hc⟩
theorem StrsW.chg {lo hi B0 B1 : Nat} {w w' : World} {v : Value} {xs : List Bs} (h : StrsW w B0 B1 v xs) (c : Chg lo hi w w') (hB : B1 ≤ w.heap.size) (hh : B1 ≤ lo ∨ hi ≤ B0) : StrsW w' B0 B1 v xs := by
  obtain ⟨a, cap, rfl, h1, h2, h3⟩ := h
  refine ⟨a, cap, rfl, h1, h2, fun i hi => ?_⟩
  obtain ⟨g, p, e, hg0, hg1, hc, hf⟩ := h3 i hi
  have hb := c.block g (by omega) (by omega)
  exact ⟨g, p, e, hg0, hg1, (World.cell?_of_block hb).trans hc, (World.frozen?_of_block hb).trans hf⟩
theorem StrsW.below {B0 B1 : Nat} {w w' : World} {v : Value} {xs : List Bs} (h : StrsW w B0 B1 v xs) (c : Below w.heap.size w w') (hB : B1 ≤ w.heap.size) : StrsW w' B0 B1 v xs :=
  h.chg (Chg.of_below c) hB (.inr (Nat.zero_le _))
theorem StrsW.wide {B0 B1 C0 C1 : Nat} {w : World} {v : Value} {xs : List Bs} (h : StrsW w B0 B1 v xs) (h0 : C0 ≤ B0) (h1 : B1 ≤ C1) : StrsW w C0 C1 v xs := by
  obtain ⟨a, cap, e, h2, h3, h4⟩ := h
  refine ⟨a, cap, e, h2, h3, fun i hi => ?_⟩
  obtain ⟨g, p, e, hg0, hg1, r⟩ := h4 i hi
  exact ⟨g, p, e, by omega, by omega, r⟩
theorem StrsW.drewN {B0 B1 : Nat} {w : World} {v : Value} {xs : List Bs} (h : StrsW w B0 B1 v xs) (n : Nat) : StrsW (w.drewN n) B0 B1 v xs := h
theorem StrsW.put {B0 B1 : Nat} {w : World} {a : Option Addr} {n cap : Nat} {xs : List Bs} (h : StrsW w B0 B1 (.slice a n cap) xs) {g p k : Nat} (ha : a = some ⟨g, p, none⟩) (hk : k < n) (t : Bs) :
    StrsW (w.setCell ⟨g, p + k, none⟩ (.string ⟨t.toArray⟩)) B0 B1 (.slice a n cap) (xs.set k t) := by
  obtain ⟨a', cap', e, h1, h2, h3⟩ := h
  injection e with e1 e2 e3
  subst e1
  subst e3
  subst e2
  subst ha
  refine ⟨_, cap, by rw [List.length_set], by rw [List.length_set]; exact h1, h2, fun i hi => ?_⟩
  rw [List.length_set] at hi
  obtain ⟨g', p', e, hg0, hg1, hc, hf⟩ := h3 i hi
  cases e
  refine ⟨g, p, rfl, hg0, hg1, ?_, (frozen_set _).trans hf⟩
  by_cases hik : i = k
  · subst hik
    rw [cell_set_same hc, getD_lt (by rw [List.length_set]; exact hi), List.getElem_set_self]
  · rw [cell_set_other (.inr (by omega)), hc, getD_lt hi, getD_lt (by rw [List.length_set]; exact hi), List.getElem_set_ne (by omega)]
theorem chg_set {lo hi : Nat} {w w' : World} (h : Chg lo hi w w') {g p : Nat} {v : Value} (h0 : lo ≤ g) (h1 : g < hi) : Chg lo hi w (w'.setCell ⟨g, p, none⟩ v) :=
  ⟨h.os, h.tape, h.output, by have := h.size; simpa [World.setCell] using this, fun b hb hh => (Below.heap_setCell w' ⟨g, p, none⟩ v b (by show b ≠ g; omega)).trans (h.block b hb hh)⟩
theorem chg_below {lo hi : Nat} {w w1 w2 : World} (h : Chg lo hi w w1) (hb : Below w1.heap.size w1 w2) : Chg lo hi w w2 :=
  ⟨hb.os.trans h.os, hb.tape.trans h.tape, hb.output.trans h.output, Nat.le_trans h.size hb.size, fun b hb' hh => (hb.block b (Nat.lt_of_lt_of_le hb' h.size)).trans (h.block b hb' hh)⟩
theorem chg_trans {lo hi : Nat} {w w1 w2 : World} (h : Chg lo hi w w1) (k : Chg lo hi w1 w2) : Chg lo hi w w2 :=
  ⟨k.os.trans h.os, k.tape.trans h.tape, k.output.trans h.output, Nat.le_trans h.size k.size, fun b hb hh => (k.block b (Nat.lt_of_lt_of_le hb h.size) hh).trans (h.block b hb hh)⟩
structure OwnS (w : World) (v : Value) (ys : List Bs) (w' : World) : Prop where
  own : w'.ownsRow w.heap.size 9 1 v ys.length (ys.map (fun s => .string ⟨s.toArray⟩))
  bel : Below w.heap.size w w'
theorem getD_map_str {ys : List Bs} {i : Nat} (hi : i < ys.length) : (ys.map (fun s : Bs => Value.string ⟨s.toArray⟩))[i]? = some (.string ⟨(ys.getD i []).toArray⟩) := by
  rw [List.getElem?_map, List.getElem?_eq_getElem hi, getD_lt hi]
  rfl
theorem StrsW.of_ownsRow {w : World} {B : Nat} {v : Value} {ys : List Bs} (h : w.ownsRow B 9 1 v ys.length (ys.map (fun s => .string ⟨s.toArray⟩))) : StrsW w B w.heap.size v ys := by
  rcases h.2 with ⟨e, hz⟩ | ⟨g, cap, cur, rfl, hb, hbl, hnc, hcm, hcs, htk⟩
  · refine ⟨none, 0, by rw [e, hz], by omega, Nat.zero_le _, fun i hi => by omega⟩
  · refine ⟨some ⟨g, 0, none⟩, cap, rfl, hnc, hcm, fun i hi => ⟨g, 0, rfl, hb, (Array.getElem?_eq_some_iff.1 hbl).1, ?_, ?_⟩⟩
    · have := h.cells (g := g) rfl i _ (getD_map_str hi)
      rw [add0] at this
      rw [Nat.zero_add]; exact this
    · simp [World.frozen?, hbl]
theorem OwnS.row {w w' : World} {v : Value} {ys : List Bs} (h : OwnS w v ys w') : StrsW w' w.heap.size w'.heap.size v ys := StrsW.of_ownsRow h.own
theorem OwnS.strs {w w' : World} {v : Value} {ys : List Bs} (h : OwnS w v ys w') : Strs w' v ys := h.row.strs
theorem OwnS.start (w : World) : OwnS w (.slice (some ⟨w.heap.size, 0, none⟩) 0 0) [] (w.alloc (.cells #[] 9)) :=
  ⟨World.ownsRow_made w #[] 0 (Nat.le_refl _) (Nat.zero_le _) rfl, (Below.refl _ _).alloc (Nat.le_refl _) _⟩
theorem OwnS.nil (w : World) : OwnS w (.slice none 0 0) [] w := ⟨World.ownsRow_nil _ _ _ _, Below.refl _ _⟩
theorem own_lowS {w : World} {B B' : Nat} {e : TypeId} {s : Nat} {v : Value} {n : Nat} {x : List Value} (h : w.ownsRow B e s v n x) (hB : B' ≤ B) : w.ownsRow B' e s v n x := by
  refine ⟨h.1, ?_⟩
  rcases h.2 with hn | ⟨g, cap, cur, e, hb, rest⟩
  · exact .inl hn
  · exact .inr ⟨g, cap, cur, e, by omega, rest⟩
theorem OwnS.from {w w1 w2 : World} {v : Value} {ys : List Bs} (h : OwnS w1 v ys w2) (hb : Below w.heap.size w w1) : OwnS w v ys w2 :=
  ⟨own_lowS h.own hb.size, hb.trans (h.bel.mono hb.size)⟩
theorem OwnS.grow {w wr w2 : World} {v v2 : Value} {ys zs : List Bs} {o : Obj} {n : Nat} (h : OwnS w v ys wr) (hn : n = ys.length + zs.length) (h2 : w2.ownsRow w.heap.size 9 1 v2 n (ys.map (fun s => .string ⟨s.toArray⟩) ++ zs.map (fun s => .string ⟨s.toArray⟩))) (hg : (wr.alloc o).grownBy w2 v.ownBlock) :
    OwnS w v2 (ys ++ zs) w2 := by
  subst hn
  exact ⟨by rw [List.length_append, List.map_append]; exact h2, (h.bel.alloc h.bel.size o).grown hg (by have := h.bel.size; simp; omega) (fun b hb => (h.own.lt b hb).1)⟩
def NewS (ys : List Bs) (w : World) (e : Ending) (w' : World) : Prop := ∃ v, e = .returned v ∧ StrsW w' w.heap.size w'.heap.size v ys ∧ Below w.heap.size w w'
theorem NewS.of_own {ys : List Bs} {w w' : World} {v : Value} (h : OwnS w v ys w') : NewS ys w (.returned v) w' := ⟨v, rfl, h.row, h.bel⟩
end Go.Proofs.Ythfdkenidfnmgaa
namespace Go.Proofs.Ythfdkenidfnmgaa
open Go.ChangeShapes Go.WideShapes Go.ChangeAt Go.RowKit
set_option linter.unusedVariables false
set_option maxRecDepth 100000
structure IV where
  k : Int
  g : Bs
  r : Int
deriving DecidableEq
instance : Inhabited IV := ⟨⟨0, [], 0⟩⟩
def iz : IV := ⟨0, [], 0⟩
def ivC (x : IV) : List Value := [.int .i64 x.k, .string ⟨x.g.toArray⟩, .int .i64 x.r]
abbrev ivV (x : IV) : Value := .agg #[.int .i64 x.k, .string ⟨x.g.toArray⟩, .int .i64 x.r]
theorem iv_ext {x y : IV} : x = y ↔ x.k = y.k ∧ x.g = y.g ∧ x.r = y.r := by cases x; cases y; simp
structure Tri (w : World) (b o : Nat) (x : IV) : Prop where
  c0 : w.cell? ⟨b, o, none⟩ = some (.int .i64 x.k)
  c1 : w.cell? ⟨b, o + 1, none⟩ = some (.string ⟨x.g.toArray⟩)
  c2 : w.cell? ⟨b, o + 2, none⟩ = some (.int .i64 x.r)
theorem Tri.block {w w' : World} {b o : Nat} {x : IV} (h : Tri w b o x) (e : w'.heap[b]? = w.heap[b]?) : Tri w' b o x :=
  ⟨(World.cell?_of_block e).trans h.c0, (World.cell?_of_block e).trans h.c1, (World.cell?_of_block e).trans h.c2⟩
theorem Tri.below {w w' : World} {B b o : Nat} {x : IV} (h : Tri w b o x) (hb : Below B w w') (hB : b < B) : Tri w' b o x := h.block (hb.block b hB)
theorem Tri.lt {w : World} {b o : Nat} {x : IV} (h : Tri w b o x) : b < w.heap.size := block_lt_of_cell h.c0
theorem Tri.drewN {w : World} {b o : Nat} {x : IV} (h : Tri w b o x) (n : Nat) : Tri (w.drewN n) b o x := ⟨h.c0, h.c1, h.c2⟩
def Is (w : World) (v : Value) (xs : List IV) : Prop :=
  ∃ (a : Option Addr) (cap : Nat), v = .slice a xs.length cap ∧ xs.length ≤ cap ∧ cap ≤ maxLen ∧
    ∀ i, i < xs.length → ∃ b o, a = some ⟨b, o, none⟩ ∧ Tri w b (o + i * 3) (xs.getD i iz)
theorem Is.below {w w' : World} {v : Value} {xs : List IV} (h : Is w v xs) (hb : Below w.heap.size w w') : Is w' v xs := by
  obtain ⟨a, cap, rfl, h1, h2, h3⟩ := h
  refine ⟨a, cap, rfl, h1, h2, fun i hi => ?_⟩
  obtain ⟨b, o, e, hc⟩ := h3 i hi
  exact ⟨b, o, e, hc.below hb hc.lt⟩
theorem Is.drewN {w : World} {v : Value} {xs : List IV} (h : Is w v xs) (n : Nat) : Is (w.drewN n) v xs := by
  obtain ⟨a, cap, e, h1, h2, h3⟩ := h
  refine ⟨a, cap, e, h1, h2, fun i hi => ?_⟩
  obtain ⟨b, o, e2, h4⟩ := h3 i hi
  exact ⟨b, o, e2, h4.drewN n⟩
structure TriW (w : World) (b o : Nat) (x : IV) : Prop where
  at3 : Tri w b o x
  fr : ∀ j, j < 3 → w.frozen? ⟨b, o + j, none⟩ = false
theorem TriW.block {w w' : World} {b o : Nat} {x : IV} (h : TriW w b o x) (e : w'.heap[b]? = w.heap[b]?) : TriW w' b o x :=
  ⟨h.at3.block e, fun j hj => (World.frozen?_of_block e).trans (h.fr j hj)⟩
theorem TriW.there {w : World} {b o : Nat} {x : IV} (h : TriW w b o x) : w.there b o 3 := fun j hj => by
  refine ⟨?_, h.fr j hj⟩
  obtain rfl | rfl | rfl : j = 0 ∨ j = 1 ∨ j = 2 := by omega
  · rw [Nat.add_zero, h.at3.c0]; rfl
  · rw [h.at3.c1]; rfl
  · rw [h.at3.c2]; rfl
theorem TriW.stored {w : World} {b o : Nat} {x : IV} (h : w.there b o 3) : TriW (w.setCells b o (ivC x)) b o x := by
  have hr := World.rangeAt_setCells_same w b o (ivC x) h
  exact ⟨⟨hr 0 _ rfl, hr 1 _ rfl, hr 2 _ rfl⟩, fun j hj => by rw [World.frozen?_setCells]; exact (h j hj).2⟩
theorem TriW.apart {w : World} {b b' o o' : Nat} {x : IV} {vs : List Value} (h : TriW w b' o' x) (ha : b' ≠ b ∨ o' + 3 ≤ o ∨ o + vs.length ≤ o') : TriW (w.setCells b o vs) b' o' x := by
  have hr : w.rangeAt b' o' (ivC x) := fun j v hv => by
    have hj : j < 3 := (List.getElem?_eq_some_iff.1 hv).1
    obtain rfl | rfl | rfl : j = 0 ∨ j = 1 ∨ j = 2 := by omega
    · cases hv; exact h.at3.c0
    · cases hv; exact h.at3.c1
    · cases hv; exact h.at3.c2
  have h2 := World.rangeAt_setCells_apart hr b o vs ha
  exact ⟨⟨h2 0 _ rfl, h2 1 _ rfl, h2 2 _ rfl⟩, fun j hj => by rw [World.frozen?_setCells]; exact h.fr j hj⟩
theorem TriW.set0 {w : World} {b o : Nat} {x : IV} (h : TriW w b o x) (n : Int) : TriW (w.setCell ⟨b, o, none⟩ (.int .i64 n)) b o ⟨n, x.g, x.r⟩ :=
  ⟨⟨cell_set_same h.at3.c0, (cell_set_other (.inr (by omega))).trans h.at3.c1, (cell_set_other (.inr (by omega))).trans h.at3.c2⟩, fun j hj => (frozen_set _).trans (h.fr j hj)⟩
theorem TriW.set1 {w : World} {b o : Nat} {x : IV} (h : TriW w b o x) (s : Bs) : TriW (w.setCell ⟨b, o + 1, none⟩ (.string ⟨s.toArray⟩)) b o ⟨x.k, s, x.r⟩ :=
  ⟨⟨(cell_set_other (.inr (by omega))).trans h.at3.c0, cell_set_same h.at3.c1, (cell_set_other (.inr (by omega))).trans h.at3.c2⟩, fun j hj => (frozen_set _).trans (h.fr j hj)⟩
theorem TriW.set2 {w : World} {b o : Nat} {x : IV} (h : TriW w b o x) (n : Int) : TriW (w.setCell ⟨b, o + 2, none⟩ (.int .i64 n)) b o ⟨x.k, x.g, n⟩ :=
  ⟨⟨(cell_set_other (.inr (by omega))).trans h.at3.c0, (cell_set_other (.inr (by omega))).trans h.at3.c1, cell_set_same h.at3.c2⟩, fun j hj => (frozen_set _).trans (h.fr j hj)⟩
theorem TriW.off {w : World} {b o c p : Nat} {x : IV} (h : TriW w b o x) (hp : c ≠ b ∨ p < o ∨ o + 3 ≤ p) (u : Value) : TriW (w.setCell ⟨c, p, none⟩ u) b o x := by
  have ht : ∀ j, j < 3 → b ≠ c ∨ o + j ≠ p := fun j hj => by omega
  exact ⟨⟨(cell_set_other (ht 0 (by omega))).trans h.at3.c0, (cell_set_other (ht 1 (by omega))).trans h.at3.c1, (cell_set_other (ht 2 (by omega))).trans h.at3.c2⟩, fun j hj => (frozen_set _).trans (h.fr j hj)⟩
def IsW (w : World) (B0 B1 : Nat) (v : Value) (xs : List IV) : Prop :=
  ∃ (a : Option Addr) (cap : Nat), v = .slice a xs.length cap ∧ xs.length ≤ cap ∧ cap ≤ maxLen ∧
    ∀ i, i < xs.length → ∃ g p, a = some ⟨g, p, none⟩ ∧ B0 ≤ g ∧ g < B1 ∧ TriW w g (p + i * 3) (xs.getD i iz)
theorem IsW.is {w : World} {B0 B1 : Nat} {v : Value} {xs : List IV} (h : IsW w B0 B1 v xs) : Is w v xs := by
  obtain ⟨a, cap, rfl, h1, h2, h3⟩ := h
  refine ⟨a, cap, rfl, h1, h2, fun i hi => ?_⟩
  obtain ⟨g, p, e, _, _, hf⟩ := h3 i hi
  exact ⟨g, p, e, hf.at3⟩
theorem IsW.chg {lo hi B0 B1 : Nat} {w w' : World} {v : Value} {xs : List IV} (h : IsW w B0 B1 v xs) (c : Chg lo hi w w') (hB : B1 ≤ w.heap.size) (hh : B1 ≤ lo ∨ hi ≤ B0) : IsW w' B0 B1 v xs := by
  obtain ⟨a, cap, rfl, h1, h2, h3⟩ := h
  refine ⟨a, cap, rfl, h1, h2, fun i hi => ?_⟩
  obtain ⟨g, p, e, hg0, hg1, hf⟩ := h3 i hi
  exact ⟨g, p, e, hg0, hg1, hf.block (c.block g (by omega) (by omega))⟩
theorem IsW.below {B0 B1 : Nat} {w w' : World} {v : Value} {xs : List IV} (h : IsW w B0 B1 v xs) (c : Below w.heap.size w w') (hB : B1 ≤ w.heap.size) : IsW w' B0 B1 v xs :=
  h.chg (Chg.of_below c) hB (.inr (Nat.zero_le _))
theorem IsW.wide {B0 B1 C0 C1 : Nat} {w : World} {v : Value} {xs : List IV} (h : IsW w B0 B1 v xs) (h0 : C0 ≤ B0) (h1 : B1 ≤ C1) : IsW w C0 C1 v xs := by
  obtain ⟨a, cap, e, h2, h3, h4⟩ := h
  refine ⟨a, cap, e, h2, h3, fun i hi => ?_⟩
  obtain ⟨g, p, e, hg0, hg1, r⟩ := h4 i hi
  exact ⟨g, p, e, by omega, by omega, r⟩
theorem IsW.upd {B0 B1 : Nat} {w w' : World} {a : Option Addr} {n cap : Nat} {xs : List IV} (h : IsW w B0 B1 (.slice a n cap) xs) {g p k : Nat} (ha : a = some ⟨g, p, none⟩) (hk : k < n) {x : IV}
    (hx : TriW w' g (p + k * 3) x) (ho : ∀ i y, i ≠ k → TriW w g (p + i * 3) y → TriW w' g (p + i * 3) y) : IsW w' B0 B1 (.slice a n cap) (xs.set k x) := by
  obtain ⟨a', cap', e, h1, h2, h3⟩ := h
  injection e with e1 e2 e3
  subst e1
  subst e3
  subst e2
  subst ha
  refine ⟨_, cap, by rw [List.length_set], by rw [List.length_set]; exact h1, h2, fun i hi => ?_⟩
  rw [List.length_set] at hi
  obtain ⟨g', p', e, hg0, hg1, hf⟩ := h3 i hi
  cases e
  refine ⟨g, p, rfl, hg0, hg1, ?_⟩
  by_cases hik : i = k
  · subst hik
    rw [getD_lt (by rw [List.length_set]; exact hi), List.getElem_set_self]
    exact hx
  · have := ho i _ hik hf
    rwa [getD_lt (by rw [List.length_set]; exact hi), List.getElem_set_ne (by omega), ← getD_lt (d := iz) hi]
end Go.Proofs.Ythfdkenidfnmgaa
namespace Go.Proofs.Ythfdkenidfnmgaa
set_option linter.unusedVariables false
set_option maxRecDepth 100000
def inR (x lo hi : Int) : Bool := decide (lo ≤ x ∧ x ≤ hi)
def iok (x : IV) : Bool := if x.k = 0 then decide (x = iz) else inR x.k 1 3 && (rv x.g && inR x.r 0 50)
def isok (xs : List IV) : Bool := decide (∀ i, i < xs.length → iok (xs.getD i iz) = true) && decide (xs.length = 12)
theorem isok_iff {xs : List IV} : isok xs = true ↔ (∀ i, i < xs.length → iok (xs.getD i iz) = true) ∧ xs.length = 12 := by
  unfold isok
  rw [Bool.and_eq_true, decide_eq_true_eq, decide_eq_true_eq]
theorem isok_len {xs : List IV} (h : isok xs = true) : xs.length = 12 := (isok_iff.1 h).2
end Go.Proofs.Ythfdkenidfnmgaa
namespace Go.Proofs.Ythfdkenidfnmgaa
open Go.ChangeShapes Go.WideShapes Go.ChangeAt Go.RowKit
set_option linter.unusedVariables false
set_option maxRecDepth 100000
def zeros : List (List Int) := List.replicate 12 [0, 0, 0, 0]
theorem zeros_get {k : Nat} (h : k < 12) : zeros.getD k [] = [0, 0, 0, 0] := by
  unfold zeros
  rw [getD_lt (by simpa using h), List.getElem_replicate]
theorem made_owns (w : World) : (w.alloc (.cells (madeCells #[.int .i64 0] 4) 3)).ownsRow w.heap.size 3 1 (.slice (some ⟨w.heap.size, 0, none⟩) 4 4) 4 (([0, 0, 0, 0] : List Int).map (.int .i64)) :=
  ⟨rfl, .inr ⟨w.heap.size, 4, madeCells #[.int .i64 0] 4, rfl, Nat.le_refl _, by show (w.heap.push _)[w.heap.size]? = _; simp, Nat.le_refl _, by unfold maxLen; omega, size_madeCells _ _, by kernel_rfl⟩⟩
theorem l2New_any (w : World) : Calls Try.prog 14 #[] w (ToMat zeros w) := by
  obtain ⟨i1, hj, hy0, hy1, hy2⟩ := info_parts intsInfo
  have HJ := Lib.hid hj
  have HY0 := Lib.hid hy0
  have HY1 := Lib.hid hy1
  have HY2 := Lib.hid hy2
  clear hj hy0 hy1 hy2
  have hmk : ∀ W : World, (Instr.makeSlice 77 (.int .i64 4) (.int .i64 4)).run Try.prog W = .ok (.slice (some ⟨W.heap.size, 0, none⟩) 4 4) (W.alloc (.cells (madeCells #[.int .i64 0] 4) 3)) := fun W =>
    run_make_row' (P := Try.prog) 77 3 (.int .i64 0) 8 Try.underlying77 intInfo rfl .i64 .i64 4 (by omega) (by omega) W
  go_enter Try.func14, Try.ntmps14
  go_wp2
  go_loopw [1, 2] (fun u i wr => ∃ (k : Nat) (V : Nat → Value) (G : Nat → Nat), k ≤ 12 ∧ i = .int .i64 k ∧ CRel w zeros k u wr V G) (fun _ i _ => 12 - (intOf i).toNat)
  case atStart => exact ⟨0, _, _, Nat.zero_le _, rfl, CRel.start w zeros⟩
  case round =>
    obtain ⟨k, V, G, hk, rfl, hrel⟩ := hrel
    by_cases hlt : k < 12
    · have hlt' : (k : Int) < 12 := by omega
      have hsz := hrel.bel.size
      have hmk' := hmk wr
      have hown1 := made_owns wr
      obtain ⟨w1, hw1⟩ : ∃ w1, w1 = wr.alloc (.cells (madeCells #[.int .i64 0] 4) 3) := ⟨_, rfl⟩
      have hg1 : (wr.alloc (.cells #[] 3)).grownBy w1 (some wr.heap.size) := by
        subst hw1
        exact ⟨rfl, rfl, rfl, by simp, fun q hq hne => by
          have : q < wr.heap.size := by
            have : q ≠ wr.heap.size := fun e => hne (by rw [e])
            simp at hq
            omega
          rw [Below.heap_alloc _ _ _ this, Below.heap_alloc _ _ _ this]⟩
      rw [← hw1] at hown1 hmk'
      have hs1 : w.heap.size ≤ w1.heap.size := by rw [hw1]; simp; omega
      clear hmk hw1
      have HO := Lib.hid hown1
      have HG := Lib.hid hg1
      clear hown1 hg1
      go_wp2_with (at_builtin; refine wpList_append_own _ rfl (.tmp 8) (.tmp 10) 24 rfl w.heap.size 77 i1 (.slice none 0 0) 1 24 Try.underlying24 HJ.out HY0.out HY1.out HY2.out rfl (by decide) _ _ _ rfl (hrel.own_mid HG.out) ⟨w1.heap.size, 0, none⟩ 1 1 [.slice (some ⟨wr.heap.size, 0, none⟩) 4 4] rfl rfl (cell_one_new _ _ _) (by intro u hu; simp at hu; subst hu; rfl) (by unfold maxLen; omega) (by omega) (by simp; omega) ?_; intro v2 w2 hown2 hgrow2 _)
      have HREL : Hid (∃ V' G', CRel w zeros (k + 1) v2 w2 V' G') := Lib.hid (hrel.step (zeros_get hlt) (by simp) HO.out HG.out hown2 hgrow2)
      clear hown2 hgrow2 hrel
      go_wp2
      go_roundw
      case rel =>
        obtain ⟨V', G', hR⟩ := HREL.out
        exact ⟨k + 1, V', G', by omega, by go_num, hR⟩
      case measure => simp [intOf]; omega
    · have hge : decide ((k : Int) < 12) = false := by simp; omega
      go_wp2
      go_ret
      have e : k = 12 := by omega
      subst e
      exact ⟨_, rfl, hrel.mat (by simp [zeros]) (by omega) (fun j hj => by rw [zeros_get hj]; simp), hrel.bel⟩
end Go.Proofs.Ythfdkenidfnmgaa
namespace Go.Proofs.Ythfdkenidfnmgaa
open Go.ChangeShapes Go.WideShapes Go.ChangeAt Go.RowKit
set_option linter.unusedVariables false
set_option maxRecDepth 100000
structure OwnI (w : World) (v : Value) (ys : List Int) (w' : World) : Prop where
  own : w'.ownsRow w.heap.size 3 1 v ys.length (ys.map (.int .i64))
  bel : Below w.heap.size w w'
  nn : v ≠ .slice none 0 0
theorem own_lower {w : World} {B B' : Nat} {e : TypeId} {v : Value} {n : Nat} {x : List Value} (h : w.ownsRow B e 1 v n x) (hB : B' ≤ B) : w.ownsRow B' e 1 v n x := by
  refine ⟨h.1, ?_⟩
  rcases h.2 with hn | ⟨g, cap, cur, e, hb, rest⟩
  · exact .inl hn
  · exact .inr ⟨g, cap, cur, e, by omega, rest⟩
theorem OwnI.from {w w1 w2 : World} {v : Value} {ys : List Int} (h : OwnI w1 v ys w2) (hb : Below w.heap.size w w1) : OwnI w v ys w2 :=
  ⟨own_lower h.own hb.size, hb.trans (h.bel.mono hb.size), h.nn⟩
theorem OwnI.start (w : World) : OwnI w (.slice (some ⟨w.heap.size, 0, none⟩) 0 0) [] (w.alloc (.cells #[] 3)) :=
  ⟨World.ownsRow_made w #[] 0 (Nat.le_refl _) (Nat.zero_le _) rfl, (Below.refl _ _).alloc (Nat.le_refl _) _, fun h => by cases h⟩
theorem OwnI.grow {w wr w2 : World} {v v2 : Value} {ys zs : List Int} {o : Obj} {n : Nat} (h : OwnI w v ys wr) (hn : n = ys.length + zs.length) (h2 : w2.ownsRow w.heap.size 3 1 v2 n (ys.map (.int .i64) ++ zs.map (.int .i64))) (hg : (wr.alloc o).grownBy w2 v.ownBlock) (hnn : v2 = .slice none 0 0 → v = .slice none 0 0) :
    OwnI w v2 (ys ++ zs) w2 := by
  subst hn
  refine ⟨by rw [List.length_append, List.map_append]; exact h2, (h.bel.alloc h.bel.size o).grown hg (by have := h.bel.size; simp; omega) (fun b hb => (h.own.lt b hb).1), fun e => h.nn (hnn e)⟩
end Go.Proofs.Ythfdkenidfnmgaa
namespace Go.Proofs.Ythfdkenidfnmgaa
set_option linter.unusedVariables false
set_option maxRecDepth 100000
def fr (w : Int) : Nat := (w / 4).toNat
end Go.Proofs.Ythfdkenidfnmgaa
namespace Go.Proofs.Ythfdkenidfnmgaa
open Go.ChangeShapes Go.WideShapes Go.ChangeAt Go.RowKit
set_option linter.unusedVariables false
set_option maxRecDepth 100000
theorem Rows2.row {w : World} {v : Value} {xss : List (List Int)} (h : Rows2 w v xss) (hm : memOk xss = true) {i : Nat} (hi : i < 12) :
    ∃ b o c u, v = .slice (some ⟨b, o, none⟩) 12 c ∧ w.cell? ⟨b, o + i, none⟩ = some u ∧ Ints w u (xss.getD i []) := by
  obtain ⟨a, c, rfl, h1, h2, h3⟩ := h
  have hl := mem_len hm
  obtain ⟨b, o, u, rfl, hc, hu⟩ := h3 i (by omega)
  exact ⟨b, o, c, u, by rw [hl], hc, hu⟩
end Go.Proofs.Ythfdkenidfnmgaa
namespace Go.Proofs.Ythfdkenidfnmgaa
open Go.ChangeShapes Go.WideShapes Go.ChangeAt Go.RowKit
set_option linter.unusedVariables false
set_option maxRecDepth 100000
theorem OwnI.form {w w' : World} {v : Value} {ys : List Int} (h : OwnI w v ys w') : ∃ g c, v = .slice (some ⟨g, 0, none⟩) ys.length c ∧ w.heap.size ≤ g ∧ g < w'.heap.size := by
  rcases h.own.2 with ⟨e, _⟩ | ⟨g, c, _, e, hb, hbl, _⟩
  · exact absurd e h.nn
  · exact ⟨g, c, e, hb, (Array.getElem?_eq_some_iff.1 hbl).1⟩
theorem own_below {w w' : World} {B : Nat} {e : TypeId} {v : Value} {n : Nat} {x : List Value} (h : w.ownsRow B e 1 v n x) (hb : Below w.heap.size w w') : w'.ownsRow B e 1 v n x := by
  refine ⟨h.1, ?_⟩
  rcases h.2 with hn | ⟨g, cap, cur, e, hg, hbl, rest⟩
  · exact .inl hn
  · exact .inr ⟨g, cap, cur, e, hg, (hb.block g (Array.getElem?_eq_some_iff.1 hbl).1).trans hbl, rest⟩
theorem OwnI.go {w w1 w2 : World} {v : Value} {ys : List Int} (h : OwnI w v ys w1) (hb : Below w1.heap.size w1 w2) : OwnI w v ys w2 :=
  ⟨own_below h.own hb, h.bel.trans (hb.mono h.bel.size), h.nn⟩
end Go.Proofs.Ythfdkenidfnmgaa
namespace Go.Proofs.Ythfdkenidfnmgaa
open Go.ChangeShapes Go.WideShapes Go.ChangeAt Go.RowKit
set_option linter.unusedVariables false
set_option maxRecDepth 100000
theorem strInfo : (Try.prog.info? 9).map (fun i => (i.zero, i.size, i.bytes)) = some (some (.string ⟨#[]⟩), 1, 16) := by kernel_rfl
def contS (xs : List Bs) (k : Nat) (j : Nat) : Value := if j < k then .string ⟨(xs.getD j []).toArray⟩ else .string ⟨#[]⟩
theorem contS_step {xs : List Bs} {k : Nat} (j : Nat) : (if j = k then Value.string ⟨(xs.getD k []).toArray⟩ else contS xs k j) = contS xs (k + 1) j := by
  unfold contS
  by_cases h : j = k
  · subst h; simp
  · by_cases h2 : j < k
    · rw [if_neg h, if_pos h2, if_pos (by omega)]
    · rw [if_neg h, if_neg h2, if_neg (by omega)]
theorem strs_own {w : World} {g n : Nat} {xs : List Bs} (hN : n = xs.length) (hn : n ≤ 1048576) (hr : w.rowIs g 9 n (contS xs n)) : StrsW w g (g + 1) (.slice (some ⟨g, 0, none⟩) n n) xs := by
  subst hN
  refine ⟨_, _, rfl, Nat.le_refl _, by unfold maxLen; omega, fun i hi => ⟨g, 0, rfl, Nat.le_refl _, Nat.lt_succ_self _, ?_, ?_⟩⟩
  · have := hr.cell hi
    rw [Nat.zero_add, this]
    simp [contS, hi]
  · exact hr.frozen (0 + i)
def ToStrs (xs : List Bs) (w : World) (e : Ending) (w' : World) : Prop :=
  ∃ v, e = .returned v ∧ StrsW w' w.heap.size (w.heap.size + 1) v xs ∧ Below w.heap.size w w' ∧ w'.heap.size = w.heap.size + 1 ∧ v = .slice (some ⟨w.heap.size, 0, none⟩) xs.length xs.length
theorem toStringS_any (w : World) (v : Value) (xs : List Bs) (h : Strs w v xs) (hn : xs.length ≤ 1048576) :
    Calls Try.prog 16 #[v] w (ToStrs xs w) := by
  obtain ⟨a, ca, rfl, hla, hma, hxa⟩ := h
  unfold maxLen at hma
  obtain ⟨n, hN⟩ : ∃ n, n = xs.length := ⟨_, rfl⟩
  rw [← hN] at hla hxa hn ⊢
  have HN := Lib.hid hN
  clear hN
  have hmk := run_make_row' (P := Try.prog) 38 9 (.string ⟨#[]⟩) 16 Try.underlying38 strInfo rfl .i64 .i64 n (by omega) (by omega)
  go_enter Try.func16, Try.ntmps16
  go_wp2
  clear hmk
  go_loopw [4] (fun i wr => ∃ k : Nat, k ≤ n ∧ i = .int .i64 k ∧ Below w.heap.size w wr ∧ wr.rowIs w.heap.size 9 n (contS xs k) ∧ Hid (wr.heap.size = w.heap.size + 1)) (fun i _ => n - (intOf i).toNat)
  case atStart => exact ⟨0, Nat.zero_le _, rfl, (Below.refl _ _).alloc (Nat.le_refl _) _, (World.rowIs_made w (.string ⟨#[]⟩) n 9).congr (fun j _ => by simp [contS]), Lib.hid (by simp)⟩
  case round =>
    obtain ⟨k, hk, rfl, hbel, hrow, HS⟩ := hrel
    by_cases hlt : k < n
    · obtain ⟨b, o, rfl, hc⟩ := hxa k hlt
      have hb := cell_lt hc
      have hcr := (hbel.cell (p := ⟨b, o + k, none⟩) hb).trans hc
      have hdst := hrow.cell hlt
      have hfr := hrow.frozen k
      generalize hx : xs.getD k [] = x at hcr
      have HX := Lib.hid hx
      clear hx hc hxa
      have hlt' : (k : Int) < (n : Int) := by omega
      go_wp2
      go_roundw
      case rel => exact ⟨k + 1, by omega, by go_num, hbel.setCell (p := ⟨w.heap.size, k, none⟩) (Nat.le_refl _) _, (hrow.set k _).congr (fun j _ => by rw [← HX.out]; exact contS_step j), Lib.hid (by have := HS.out; simpa [World.setCell] using this)⟩
      case measure => simp [intOf]; omega
    · go_wp2
      go_ret
      have e : k = n := by omega
      subst e
      exact ⟨_, rfl, strs_own HN.out hn hrow, hbel, HS.out, congrArg (fun q => Value.slice (some ⟨w.heap.size, 0, none⟩) q q) HN.out⟩
theorem eqStringS_any (w : World) (va vb : Value) (xs ys : List Bs) (ha : Strs w va xs) (hb : Strs w vb ys) :
    Calls Try.prog 23 #[va, vb] w (Reads (.bool (decide (xs = ys))) w) := by
  obtain ⟨a, ca, rfl, hla, hma, hxa⟩ := ha
  obtain ⟨b, cb, rfl, hlb, hmb, hxb⟩ := hb
  unfold maxLen at hma hmb
  by_cases hl : xs.length = ys.length
  · obtain ⟨n, hn⟩ : ∃ n, n = xs.length := ⟨_, rfl⟩
    have hn2 : ys.length = n := by omega
    rw [← hn] at hla hxa ⊢
    rw [hn2] at hlb hxb ⊢
    have HN := Lib.hid hn
    have HN2 := Lib.hid hn2
    clear hn hn2 hl
    go_enter Try.func23, Try.ntmps23
    go_wp2
    go_loopw [5] (fun i wr => ∃ k d : Nat, k ≤ n ∧ i = .int .i64 k ∧ Hid (xs.take k = ys.take k) ∧ wr = w.drewN d) (fun i _ => n - (intOf i).toNat)
    case atStart => exact ⟨0, 0, Nat.zero_le _, rfl, Lib.hid rfl, rfl⟩
    case round =>
      obtain ⟨k, d, hk, rfl, HT, rfl⟩ := hrel
      by_cases hlt : k < n
      · obtain ⟨ba, oa, rfl, hca⟩ := hxa k hlt
        obtain ⟨bb, ob, rfl, hcb⟩ := hxb k hlt
        generalize hx : xs.getD k [] = x at hca
        generalize hy : ys.getD k [] = y at hcb
        have HX := Lib.hid hx
        have HY := Lib.hid hy
        clear hx hy hxa hxb
        have hlt' : (k : Int) < (n : Int) := by omega
        by_cases he : x = y
        · subst he
          go_wp2_with fail
          go_quiet (fail)
          go_wp2
          go_roundw
          case rel => exact ⟨k + 1, _, by omega, by go_num, Lib.hid (take_eq_succ (d := []) (HN.out.symm.trans HN2.out.symm) (by have := HN.out; omega) HT.out (HX.out.trans HY.out.symm)), rfl⟩
          case measure => simp [intOf]; omega
        · have hne : (x == y) = false := by simpa using he
          have HE : Hid (¬ x = y) := Lib.hid he
          clear he
          go_wp2_with fail
          go_quiet (fail)
          go_wp2
          go_ret
          exact reads_mk2 (by symm; exact decide_eq_false (ne_of_getD (d := []) (k := k) (fun h => HE.out (HX.out.symm.trans (h.trans HY.out)))))
      · go_wp2
        go_ret
        exact reads_mk (by symm; exact decide_eq_true (eq_of_take (HN.out.symm.trans HN2.out.symm) (by have := HN.out; omega) HT.out))
  · have hne : ((xs.length : Int) != (ys.length : Int)) = true := by simp; omega
    have HL := Lib.hid hl
    clear hl
    go_enter Try.func23, Try.ntmps23
    go_wp2
    go_ret
    exact reads_mk0 (by symm; exact decide_eq_false (fun h => HL.out (by rw [h])))
end Go.Proofs.Ythfdkenidfnmgaa
namespace Go.Proofs.Ythfdkenidfnmgaa
open Go.ChangeShapes Go.WideShapes Go.ChangeAt Go.RowKit
set_option linter.unusedVariables false
set_option maxRecDepth 100000
def Fit (xs : List Bs) : Prop := ∀ x ∈ xs, x.length ≤ maxLen
theorem Fit.at {xs : List Bs} (h : Fit xs) (i : Nat) : (xs.getD i []).length ≤ maxLen := by
  by_cases hi : i < xs.length
  · rw [getD_lt hi]; exact h _ (List.getElem_mem hi)
  · rw [List.getD, List.getElem?_eq_none (Nat.le_of_not_lt hi)]; exact Nat.zero_le _
def totalS (xs : List Bs) : Nat := (xs.map List.length).sum
theorem totalS_snoc (xs : List Bs) (k : Nat) (h : k < xs.length) : totalS (xs.take (k + 1)) = totalS (xs.take k) + (xs.getD k []).length := by
  rw [take_snoc_getD xs k [] h]; simp [totalS]
def LeftS (xs : List Bs) (left : Int) (w : World) (e : Ending) (w' : World) : Prop :=
  ∃ r : Int, (r < 0 ∨ (0 ≤ r ∧ r + xs.length + totalS xs = left)) ∧ e = .returned (.int .i64 r) ∧ w = w'
theorem leftS_neg {xs : List Bs} {left : Int} {w : World} : LeftS xs left w (.returned (.int .i64 (-1))) w := ⟨-1, .inl (by omega), rfl, rfl⟩
theorem szStringS_any (w : World) (v : Value) (xs : List Bs) (left : Int) (h : Strs w v xs) (hf : Fit xs) (h0 : 0 ≤ left) (h1 : left ≤ 1048576) :
    Calls Try.prog 13 #[v, .int .i64 left] w (LeftS xs left w) := by
  obtain ⟨a, ca, rfl, hla, hma, hxa⟩ := h
  unfold maxLen at hma
  obtain ⟨n, hN⟩ : ∃ n, n = xs.length := ⟨_, rfl⟩
  rw [← hN] at hla hxa ⊢
  have HN := Lib.hid hN
  have HF := Lib.hid hf
  clear hN hf
  by_cases hneg : left < (n : Int)
  · have hneg' : left - (n : Int) < 0 := by omega
    go_enter Try.func13, Try.ntmps13
    go_wp2
    go_ret
    exact leftS_neg
  · have hpos : ¬ left - (n : Int) < 0 := by omega
    go_enter Try.func13, Try.ntmps13
    go_wp2
    go_loop [1, 5] (fun l i => ∃ (k : Nat) (r : Int), k ≤ n ∧ i = .int .i64 k ∧ l = .int .i64 r ∧ 0 ≤ r ∧ r ≤ 1048576 ∧ Hid (r + n + totalS (xs.take k) = left)) (fun _ i => n - (intOf i).toNat)
    case atStart => exact ⟨0, left - n, Nat.zero_le _, rfl, rfl, by omega, by omega, Lib.hid (by simp [totalS])⟩
    case round =>
      obtain ⟨k, r, hk, rfl, rfl, hr0, hr1, HT⟩ := hrel
      by_cases hlt : k < n
      · obtain ⟨b, o, rfl, hc⟩ := hxa k hlt
        have hx0 := HF.out.at k
        unfold maxLen at hx0
        generalize hx : xs.getD k [] = x at hc hx0
        have HX := Lib.hid hx
        clear hx hxa
        have hlt' : (k : Int) < (n : Int) := by omega
        by_cases hng : r < (x.length : Int)
        · have hng' : r - (x.length : Int) < 0 := by omega
          go_wp2
          go_ret
          exact leftS_neg
        · have hng' : ¬ r - (x.length : Int) < 0 := by omega
          go_wp2
          go_round
          case rel => exact ⟨k + 1, r - x.length, by omega, by go_num, rfl, by omega, by omega, Lib.hid (by have h1 := HT.out; have h2 := totalS_snoc xs k (by have := HN.out; omega); rw [HX.out] at h2; rw [h2]; omega)⟩
          case measure => simp [intOf]; omega
      · go_wp2
        go_ret
        have e : k = n := by omega
        subst e
        exact ⟨r, .inr ⟨hr0, by have h1 := HT.out; rw [take_all HN.out] at h1; rw [← HN.out]; exact h1⟩, rfl, rfl⟩
end Go.Proofs.Ythfdkenidfnmgaa
namespace Go.Proofs.Ythfdkenidfnmgaa
open Go.ChangeShapes Go.WideShapes Go.ChangeAt Go.RowKit
set_option linter.unusedVariables false
set_option maxRecDepth 100000
theorem new_cell {w : World} {cs : Array Value} {t : TypeId} {j : Nat} {v : Value} (h : cs[j]? = some v) : (w.alloc (.cells cs t)).cell? ⟨w.heap.size, j, none⟩ = some v := by
  have e : (w.alloc (.cells cs t)).heap[w.heap.size]? = some (.cells cs t) := by
    show (w.heap.push _)[w.heap.size]? = _
    simp
  unfold World.cell?
  rw [e]
  exact h
end Go.Proofs.Ythfdkenidfnmgaa
namespace Go.Proofs.Ythfdkenidfnmgaa
open Go.ChangeShapes Go.WideShapes Go.ChangeAt Go.RowKit
set_option linter.unusedVariables false
set_option maxRecDepth 100000
def dig (k : Nat) : UInt8 := UInt8.ofNat (48 + k % 10)
def digs (k : Nat) (acc : Bs) : Bs := if h : k = 0 then acc else digs (k / 10) (dig k :: acc)
termination_by k
decreasing_by omega
theorem digs_zero (acc : Bs) : digs 0 acc = acc := by rw [digs]; simp
theorem digs_step {k : Nat} (h : k ≠ 0) (acc : Bs) : digs k acc = digs (k / 10) (dig k :: acc) := by rw [digs, dif_neg h]
theorem dig_nat (k : Nat) : ((dig k).toNat : Int) = 48 + (k : Int) % 10 := by
  have : (dig k).toNat = 48 + k % 10 := by
    show (48 + k % 10) % 256 = _
    omega
  rw [this]; omega
def mtext (k : Nat) : Bs := 109 :: digs k []
theorem markText_any (w : World) (k : Nat) (h0 : 1 ≤ k) (h1 : k ≤ 4000000) :
    Calls Try.prog 43 #[.int .i64 k] w fun e w' => e = .returned (.string ⟨(mtext k).toArray⟩) ∧ Below w.heap.size w w' := by
  have hk : ¬ (k : Int) ≤ 0 := by omega
  go_enter Try.func43, Try.ntmps43
  go_wp2
  go_loopw [0, 3] (fun a b wr => ∃ (j : Nat) (t : Bs), a = .int .i64 j ∧ b = .string ⟨t.toArray⟩ ∧ t.length + j ≤ k ∧ Hid (digs j t = digs k []) ∧ Below w.heap.size w wr) (fun a _ _ => (intOf a).toNat)
  case atStart => exact ⟨k, [], rfl, rfl, by simp, Lib.hid rfl, Below.refl _ _⟩
  case round =>
    obtain ⟨j, t, rfl, rfl, hl, HD, hb⟩ := hrel
    by_cases hj : 0 < j
    · have hj' : (0 : Int) < (j : Int) := by omega
      have hcv := run_convert_bytes_back (P := Try.prog) (wr.alloc (Obj.cells #[Value.int IntKind.u8 (48 + (j : Int) % 10)] 5)) 94 9 5 ⟨wr.heap.size, 0, none⟩ 1 [dig j] Try.underlying94 Try.underlying5 Try.underlying9 (fun i hi => by
        have e : i = 0 := by simpa using hi
        subst e
        show _ = some (Value.int .u8 ((dig j).toNat : Int))
        rw [dig_nat]
        exact new_cell rfl)
      simp only [List.length_singleton] at hcv
      have hb2 := Lib.hid (hb.alloc hb.size (Obj.cells #[Value.int IntKind.u8 (48 + (j : Int) % 10)] 5))
      have hsz : (t.length : Int) ≤ 4000000 := by omega
      go_wp2
      go_roundw
      case rel =>
        refine ⟨j / 10, dig j :: t, by simp, ?_, by simp only [List.length_cons]; omega, Lib.hid (by rw [← HD.out, digs_step (k := j) (by omega)]), hb2.out⟩
        rw [show (ByteArray.mk #[dig j]) = ByteArray.mk ([dig j] : List UInt8).toArray from rfl, ByteArray.mk_append_mk]
        rfl
      case measure => simp [intOf]; omega
    · have e : j = 0 := by omega
      subst e
      have hsz : (t.length : Int) ≤ 4000000 := by omega
      go_wp2
      go_ret
      have ht : t = digs k [] := by rw [← HD.out, digs_zero]
      refine ⟨?_, hb⟩
      rw [ht, show (ByteArray.mk #[109]) = ByteArray.mk ([109] : List UInt8).toArray from rfl, ByteArray.mk_append_mk]
      rfl
theorem list_ext_getD {xs ys : List Bs} (hl : xs.length = ys.length) (h : ∀ i, i < xs.length → xs.getD i [] = ys.getD i []) : xs = ys := by
  refine List.ext_getElem hl (fun i h1 h2 => ?_)
  have := h i h1
  rwa [getD_lt h1, getD_lt h2] at this
theorem set_getD {xs : List Bs} {k i : Nat} {t : Bs} (hk : k < xs.length) : (xs.set k t).getD i [] = if i = k then t else xs.getD i [] := by
  by_cases h : i = k
  · subst h
    rw [if_pos rfl, getD_lt (by rw [List.length_set]; exact hk), List.getElem_set_self]
  · rw [if_neg h]
    by_cases hi : i < xs.length
    · rw [getD_lt (by rw [List.length_set]; exact hi), getD_lt hi, List.getElem_set_ne (by omega)]
    · simp [List.getD, List.getElem?_eq_none (Nat.le_of_not_lt hi), List.getElem?_eq_none (show (xs.set k t).length ≤ i by rw [List.length_set]; omega)]
end Go.Proofs.Ythfdkenidfnmgaa
namespace Go.Proofs.Ythfdkenidfnmgaa
open Go.ChangeShapes Go.WideShapes Go.ChangeAt Go.RowKit
set_option linter.unusedVariables false
set_option maxRecDepth 100000
theorem anyH_gen {P : Program} {md : Region.Mode} {ops : Array Oper} {Q : Exit → Act → World → Prop} {S : World → Prop} {fuel : Nat} {listed : Array Bool} {a : Act} (w : World) (h : ∀ w', w' = w → wpAnyH P md ops Q S fuel listed a w') : wpAnyH P md ops Q S fuel listed a w := h w rfl
def NilOk (v : Value) : Prop := ∀ n c, v = .slice none n c → n = 0 ∧ c = 0
theorem nilOk_some {a : Addr} {n c : Nat} : NilOk (.slice (some a) n c) := fun _ _ e => by cases e
theorem texts_get {zs : List Bs} {j : Nat} {u : Value} (h : (zs.map (fun s : Bs => Value.string ⟨s.toArray⟩))[j]? = some u) : j < zs.length ∧ u = .string ⟨(zs.getD j []).toArray⟩ := by
  have hj : j < zs.length := by
    have := (List.getElem?_eq_some_iff.1 h).1
    simpa using this
  refine ⟨hj, ?_⟩
  rw [getD_map_str hj] at h
  exact (Option.some.inj h).symm
theorem texts_one (zs : List Bs) : ∀ u ∈ zs.map (fun s : Bs => Value.string ⟨s.toArray⟩), u.oneCell' = true := by
  intro u hu
  obtain ⟨s, _, rfl⟩ := List.mem_map.1 hu
  rfl
theorem addN (b o j : Nat) : (⟨b, o, none⟩ : Addr).add j = ⟨b, o + j, none⟩ := by unfold Addr.add; split <;> simp_all
theorem wp_append_row {a : Act} {w : World} {K : Act → World → Prop} {Q : Exit → Act → World → Prop} {dst : Option Nat} {tt : TypeId} {pos : String} {after : Array Edge} {gd : Option (Nat × Bool)} (s x : Operand)
    (base : Nat) (v : Value) (ys : List Bs) (hs : a.eval s = v) (hown : w.ownsRow base 9 1 v ys.length (ys.map (fun s => .string ⟨s.toArray⟩))) (hbase : base ≤ w.heap.size) (xv : Value) (zs : List Bs) (hx : a.eval x = xv) (hz : Strs w xv zs) (hn : NilOk xv) (hl : ys.length + zs.length ≤ 1100000)
    (h : ∀ v' w', w'.ownsRow base 9 1 v' (ys ++ zs).length ((ys ++ zs).map (fun s => .string ⟨s.toArray⟩)) → (v' = .slice none 0 0 ↔ v = .slice none 0 0 ∧ zs.length = 0) → w.grownBy w' v.ownBlock → K (a.put dst v') w') :
    Oper.wp Try.prog { dst := dst, op := .call { callee := .builtin .append, args := #[s, x], argTypes := #[38, 38] }, type := tt, pos := pos, after := after, guard := gd } a w K Q := by
  obtain ⟨i0, hi, hz0, hz1, hz2⟩ := info_parts strInfo
  obtain ⟨ad, cap, rfl, h1, h2, h3⟩ := hz
  cases ad with
  | none =>
    obtain ⟨e1, e2⟩ := hn _ _ rfl
    subst e2
    have hrun := run_append_owned_none (P := Try.prog) (w := w) base 38 tt 9 i0 1 Try.underlying38 hi v ys.length _ hown
    have hzs : zs = [] := List.length_eq_zero_iff.1 e1
    subst hzs
    have hk := h v w (by rw [List.append_nil]; exact hown) (by simp) (World.grownBy.refl w _)
    unfold Oper.wp
    simp [execOp, resolve, invoke, builtin, hs, hx, hrun, Result.andThen]
    exact hk
  | some ad =>
    have hnews : ∀ j u, (zs.map (fun s : Bs => Value.string ⟨s.toArray⟩))[j]? = some u → w.cell? (ad.add j) = some u := by
      intro j u hj
      obtain ⟨hjl, rfl⟩ := texts_get hj
      obtain ⟨b, o, e, hc⟩ := h3 j hjl
      cases e
      rw [addN]
      exact hc
    obtain ⟨v', w', hr, g2, g3, g4, g5⟩ := run_append_own_at (P := Try.prog) w base 38 tt 9 i0 (.string ⟨#[]⟩) 1 16 Try.underlying38 hi hz0 hz1 hz2 rfl (by decide) v ys.length _ hown ad zs.length cap (zs.map (fun s : Bs => Value.string ⟨s.toArray⟩)) (by simp) hnews (texts_one zs) (by unfold maxLen; omega) (by omega) hbase
    have hk := h v' w' (by rw [List.length_append, List.map_append]; exact g2) g4 g3
    unfold Oper.wp execOp
    simp only [resolve, invoke, builtin, Sem.run_bind, Sem.run_pure, Result.andThen_ok, List.map_toArray, List.map_cons, List.map_nil, hs, hx, hr]
    exact hk
theorem wp_append_strs {a : Act} {w : World} {K : Act → World → Prop} {Q : Exit → Act → World → Prop} {dst : Option Nat} {tt : TypeId} {pos : String} {after : Array Edge} {gd : Option (Nat × Bool)} (s x : Operand)
    (W0 : World) (v : Value) (ys : List Bs) (hs : a.eval s = v) (hown : OwnS W0 v ys w) (xv : Value) (zs : List Bs) (hx : a.eval x = xv) (hz : Strs w xv zs) (hn : NilOk xv) (hl : ys.length + zs.length ≤ 1100000)
    (h : ∀ v' w', OwnS W0 v' (ys ++ zs) w' → (v' = .slice none 0 0 ↔ v = .slice none 0 0 ∧ zs.length = 0) → w.grownBy w' v.ownBlock → K (a.put dst v') w') :
    Oper.wp Try.prog { dst := dst, op := .call { callee := .builtin .append, args := #[s, x], argTypes := #[38, 38] }, type := tt, pos := pos, after := after, guard := gd } a w K Q :=
  wp_append_row s x W0.heap.size v ys hs hown.own hown.bel.size xv zs hx hz hn hl (fun v' w' h1 h2 h3 => h v' w' ⟨h1, hown.bel.grown h3 hown.bel.size (fun b hb => (hown.own.lt b hb).1)⟩ h2 h3)
end Go.Proofs.Ythfdkenidfnmgaa
namespace Go.Proofs.Ythfdkenidfnmgaa
open Go.ChangeShapes Go.WideShapes Go.ChangeAt Go.RowKit
set_option linter.unusedVariables false
set_option maxRecDepth 100000
structure CV where
  e : Int
  p : Int
  f : Int
  b : Bool
deriving DecidableEq
instance : Inhabited CV := ⟨⟨0, 0, 0, false⟩⟩
def c0 : CV := ⟨0, 0, 0, false⟩
def cvC (x : CV) : List Value := [.int .i64 x.e, .int .i64 x.p, .int .i64 x.f, .bool x.b]
abbrev cvV (x : CV) : Value := .agg #[.int .i64 x.e, .int .i64 x.p, .int .i64 x.f, .bool x.b]
structure Four (w : World) (b o : Nat) (x : CV) : Prop where
  c0 : w.cell? ⟨b, o, none⟩ = some (.int .i64 x.e)
  c1 : w.cell? ⟨b, o + 1, none⟩ = some (.int .i64 x.p)
  c2 : w.cell? ⟨b, o + 2, none⟩ = some (.int .i64 x.f)
  c3 : w.cell? ⟨b, o + 3, none⟩ = some (.bool x.b)
def Cs (w : World) (v : Value) (xs : List CV) : Prop :=
  ∃ (a : Option Addr) (cap : Nat), v = .slice a xs.length cap ∧ xs.length ≤ cap ∧ cap ≤ maxLen ∧
    ∀ i, i < xs.length → ∃ b o, a = some ⟨b, o, none⟩ ∧ Four w b (o + i * 4) (xs.getD i c0)
theorem Cs.drewN {w : World} {v : Value} {xs : List CV} (h : Cs w v xs) (n : Nat) : Cs (w.drewN n) v xs := by
  obtain ⟨a, c, e, h1, h2, h3⟩ := h
  refine ⟨a, c, e, h1, h2, fun i hi => ?_⟩
  obtain ⟨b, o, e2, h4⟩ := h3 i hi
  exact ⟨b, o, e2, ⟨h4.c0, h4.c1, h4.c2, h4.c3⟩⟩
theorem Four.below {w w' : World} {B b o : Nat} {x : CV} (h : Four w b o x) (hb : Below B w w') (hB : b < B) : Four w' b o x :=
  ⟨(hb.cell (p := ⟨b, _, none⟩) hB).trans h.c0, (hb.cell (p := ⟨b, _, none⟩) hB).trans h.c1, (hb.cell (p := ⟨b, _, none⟩) hB).trans h.c2, (hb.cell (p := ⟨b, _, none⟩) hB).trans h.c3⟩
theorem Cs.below {w w' : World} {v : Value} {xs : List CV} (h : Cs w v xs) (hb : Below w.heap.size w w') : Cs w' v xs := by
  obtain ⟨a, c, e, h1, h2, h3⟩ := h
  refine ⟨a, c, e, h1, h2, fun i hi => ?_⟩
  obtain ⟨b, o, e2, h4⟩ := h3 i hi
  exact ⟨b, o, e2, h4.below hb (block_lt_of_cell h4.c0)⟩
theorem Cs.at {w : World} {a : Option Addr} {n cap : Nat} {xs : List CV} (h : ∀ i, i < xs.length → ∃ b o, a = some ⟨b, o, none⟩ ∧ Four w b (o + i * 4) (xs.getD i c0)) {k : Nat} (hk : k < xs.length) :
    ∃ b o, a = some ⟨b, o, none⟩ ∧ Four w b (o + k * 4) (xs.getD k c0) := h k hk
end Go.Proofs.Ythfdkenidfnmgaa
namespace Go.Proofs.Ythfdkenidfnmgaa
open Go.ChangeShapes Go.WideShapes Go.ChangeAt Go.RowKit
set_option linter.unusedVariables false
set_option maxRecDepth 100000
def BoolResC (w : World) (b : Bool) (e : Ending) (w' : World) : Prop := e = .returned (.bool b) ∧ Below w.heap.size w w'
end Go.Proofs.Ythfdkenidfnmgaa
namespace Go.Proofs.Ythfdkenidfnmgaa
open Go.ChangeShapes Go.WideShapes Go.ChangeAt Go.RowKit
set_option linter.unusedVariables false
set_option maxRecDepth 100000
theorem cvInfo : (Try.prog.info? 61).map (fun i => (i.zero, i.size, i.bytes)) = some (some (.agg #[.int .i64 0, .int .i64 0, .int .i64 0, .bool false]), 4, 32) := by kernel_rfl
def csC (xs : List CV) : List Value := xs.flatMap cvC
theorem csC_len (xs : List CV) : (csC xs).length = xs.length * 4 := by
  induction xs with
  | nil => rfl
  | cons x xs ih => simp only [csC, List.flatMap_cons, List.length_append] at ih ⊢; rw [ih]; simp [cvC]; omega
theorem csC_get (xs : List CV) {i j : Nat} (hi : i < xs.length) (hj : j < 4) : (csC xs)[i * 4 + j]? = (cvC (xs.getD i c0))[j]? := by
  have e : xs = xs.take i ++ ([xs.getD i c0] ++ xs.drop (i + 1)) := by
    rw [← List.append_assoc, ← take_snoc_getD xs i c0 hi, List.take_append_drop]
  have h1 : (csC (xs.take i)).length = i * 4 := by rw [csC_len, List.length_take]; omega
  have h2 : csC xs = csC (xs.take i) ++ (cvC (xs.getD i c0) ++ csC (xs.drop (i + 1))) := by
    conv => lhs; rw [e]
    simp [csC]
  rw [h2, List.getElem?_append_right (by omega), h1, Nat.add_sub_cancel_left, List.getElem?_append_left (by simp [cvC]; omega)]
structure OwnC (w : World) (v : Value) (ys : List CV) (w' : World) : Prop where
  own : w'.ownsRow w.heap.size 61 4 v ys.length (csC ys)
  bel : Below w.heap.size w w'
  nn : v ≠ .slice none 0 0
def NewC (ys : List CV) (w : World) (e : Ending) (w' : World) : Prop := ∃ v, e = .returned v ∧ OwnC w v ys w'
theorem cs_of_own {w : World} {B : Nat} {v : Value} {ys : List CV} (h : w.ownsRow B 61 4 v ys.length (csC ys)) : Cs w v ys := by
  rcases h.2 with ⟨rfl, hz⟩ | ⟨g, cap, cur, rfl, hb, hbl, hnc, hcm, hcs, htk⟩
  · exact ⟨none, 0, by rw [hz], by omega, Nat.zero_le _, fun i hi => by omega⟩
  · refine ⟨some ⟨g, 0, none⟩, cap, rfl, hnc, hcm, fun i hi => ⟨g, 0, rfl, ?_⟩⟩
    have hc : ∀ j v, j < 4 → (cvC (ys.getD i c0))[j]? = some v → w.cell? ⟨g, 0 + i * 4 + j, none⟩ = some v := fun j v hj hv => by
      have := h.cells (g := g) rfl (i * 4 + j) v (by rw [csC_get ys hi hj]; exact hv)
      rw [add0] at this
      rwa [Nat.zero_add]
    exact ⟨hc 0 _ (by omega) rfl, hc 1 _ (by omega) rfl, hc 2 _ (by omega) rfl, hc 3 _ (by omega) rfl⟩
theorem OwnC.form {w w' : World} {v : Value} {ys : List CV} (h : OwnC w v ys w') : ∃ g cap, v = .slice (some ⟨g, 0, none⟩) ys.length cap ∧ ys.length ≤ cap ∧ cap ≤ maxLen ∧ w.heap.size ≤ g := by
  rcases h.own.2 with ⟨e, _⟩ | ⟨g, cap, cur, e, hb, _, hnc, hcm, _⟩
  · exact absurd e h.nn
  · exact ⟨g, cap, e, hnc, hcm, hb⟩
theorem OwnC.drew {w w' : World} {v : Value} {ys : List CV} (h : OwnC w v ys w') : OwnC w v ys w'.drew := ⟨h.own, h.bel.drew, h.nn⟩
theorem OwnC.cs {w w' : World} {v : Value} {ys : List CV} (h : OwnC w v ys w') : Cs w' v ys := cs_of_own h.own
theorem own_lowerC {w : World} {B B' : Nat} {e : TypeId} {s : Nat} {v : Value} {n : Nat} {x : List Value} (h : w.ownsRow B e s v n x) (hB : B' ≤ B) : w.ownsRow B' e s v n x := by
  refine ⟨h.1, ?_⟩
  rcases h.2 with hn | ⟨g, cap, cur, e, hb, rest⟩
  · exact .inl hn
  · exact .inr ⟨g, cap, cur, e, by omega, rest⟩
theorem OwnC.from {w w1 w2 : World} {v : Value} {ys : List CV} (h : OwnC w1 v ys w2) (hb : Below w.heap.size w w1) : OwnC w v ys w2 :=
  ⟨own_lowerC h.own hb.size, hb.trans (h.bel.mono hb.size), h.nn⟩
theorem OwnC.start (w : World) : OwnC w (.slice (some ⟨w.heap.size, 0, none⟩) 0 0) [] (w.alloc (.cells #[] 61)) :=
  ⟨World.ownsRow_made w #[] 0 (Nat.le_refl _) (Nat.zero_le _) rfl, (Below.refl _ _).alloc (Nat.le_refl _) _, fun h => by cases h⟩
theorem OwnC.grow {w wr w2 : World} {v v2 : Value} {ys zs : List CV} {o : Obj} {n : Nat} (h : OwnC w v ys wr) (hn : n = ys.length + zs.length) (h2 : w2.ownsRow w.heap.size 61 4 v2 n (csC ys ++ csC zs)) (hg : (wr.alloc o).grownBy w2 v.ownBlock) (hnn : v2 = .slice none 0 0 → v = .slice none 0 0) :
    OwnC w v2 (ys ++ zs) w2 := by
  subst hn
  refine ⟨by rw [List.length_append, show csC (ys ++ zs) = csC ys ++ csC zs from by simp [csC]]; exact h2, (h.bel.alloc h.bel.size o).grown hg (by have := h.bel.size; simp; omega) (fun b hb => (h.own.lt b hb).1), fun e => h.nn (hnn e)⟩
theorem cell_four_new (w : World) (x : CV) (t : TypeId) : ∀ j u, (cvC x)[j]? = some u → (w.alloc (.cells #[.int .i64 x.e, .int .i64 x.p, .int .i64 x.f, .bool x.b] t)).cell? ((⟨w.heap.size, 0, none⟩ : Addr).add j) = some u := by
  intro j u hj
  rw [add0]
  have := cell_of_row (w.alloc (.cells #[.int .i64 x.e, .int .i64 x.p, .int .i64 x.f, .bool x.b] t)) w.heap.size j _ t (0, 0) (heap_alloc_new w _)
  rw [this]
  simpa [cvC] using hj
end Go.Proofs.Ythfdkenidfnmgaa
namespace Go.Proofs.Ythfdkenidfnmgaa
open Go.ChangeShapes Go.WideShapes Go.ChangeAt Go.RowKit
set_option linter.unusedVariables false
set_option linter.unusedSimpArgs false
structure EV where
  r : List Bs
  t : Int
deriving DecidableEq
def ez : EV := ⟨[], 0⟩
structure KV where
  m : List (List Int)
  i : List IV
  e : List EV
  c : List CV
def kz : KV := ⟨[], [], [], []⟩
def knewOk (rs : List (List Bs)) : Bool := rs.all rvs && decide (rs.length = 3)
def mem0 : List (List Int) := List.replicate 12 [0, 0, 0, 0]
def knew (rs : List (List Bs)) : KV := if knewOk rs = true then ⟨mem0, List.replicate 12 iz, rs.map (fun r => ⟨r, -1⟩), []⟩ else kz
theorem z12_ok : isok (List.replicate 12 iz) = true := by decide
theorem mem0_ok : memOk mem0 = true := by decide
end Go.Proofs.Ythfdkenidfnmgaa
namespace Go.Proofs.Ythfdkenidfnmgaa
open Go.ChangeShapes Go.WideShapes Go.ChangeAt Go.RowKit
set_option linter.unusedVariables false
set_option maxRecDepth 100000
theorem cv_ext {x y : CV} : x = y ↔ x.e = y.e ∧ x.p = y.p ∧ x.f = y.f ∧ x.b = y.b := by
  cases x; cases y; simp
set_option maxRecDepth 100000 in
theorem eqCached_any (w : World) (x y : CV) : Calls Try.prog 42 #[cvV x, cvV y] w (BoolResC w (decide (x = y))) := by
  obtain ⟨xe, xp, xf, xb⟩ := x
  obtain ⟨ye, yp, yf, yb⟩ := y
  have HB : Hid (Below w.heap.size w ((w.alloc (.cells #[.int .i64 xe, .int .i64 xp, .int .i64 xf, .bool xb] 61)).alloc (.cells #[.int .i64 ye, .int .i64 yp, .int .i64 yf, .bool yb] 61))) := Lib.hid (((Below.refl _ _).alloc (Nat.le_refl _) _).alloc (by simp) _)
  obtain ⟨r, hr⟩ : ∃ r, r = decide ((⟨xe, xp, xf, xb⟩ : CV) = ⟨ye, yp, yf, yb⟩) := ⟨_, rfl⟩
  rw [← hr]
  by_cases h0 : xe = ye
  · by_cases h1 : xp = yp
    · by_cases h2 : xf = yf
      · by_cases h3 : xb = yb
        · have HR : Hid (r = true) := Lib.hid (by rw [hr]; exact decide_eq_true (cv_ext.2 ⟨h0, h1, h2, h3⟩))
          have e0 : (xe != ye) = false := by simpa using h0
          have e1 : (xp != yp) = false := by simpa using h1
          have e2 : (xf != yf) = false := by simpa using h2
          have e3 : (!(xb == yb)) = false := by simpa using h3
          clear h0 h1 h2 h3 hr
          go_enter Try.func42, Try.ntmps42
          go_wp2
          go_ret
          exact ⟨by rw [HR.out]; rfl, HB.out⟩
        · have HR : Hid (r = false) := Lib.hid (by rw [hr]; exact decide_eq_false (fun hh => h3 (cv_ext.1 hh).2.2.2))
          have e0 : (xe != ye) = false := by simpa using h0
          have e1 : (xp != yp) = false := by simpa using h1
          have e2 : (xf != yf) = false := by simpa using h2
          have e3 : (!(xb == yb)) = true := by simpa using h3
          clear h0 h1 h2 h3 hr
          go_enter Try.func42, Try.ntmps42
          go_wp2
          go_ret
          exact ⟨by rw [HR.out]; rfl, HB.out⟩
      · have HR : Hid (r = false) := Lib.hid (by rw [hr]; exact decide_eq_false (fun hh => h2 (cv_ext.1 hh).2.2.1))
        have e0 : (xe != ye) = false := by simpa using h0
        have e1 : (xp != yp) = false := by simpa using h1
        have e2 : (xf != yf) = true := by simpa using h2
        clear h0 h1 h2 hr
        go_enter Try.func42, Try.ntmps42
        go_wp2
        go_ret
        exact ⟨by rw [HR.out]; rfl, HB.out⟩
    · have HR : Hid (r = false) := Lib.hid (by rw [hr]; exact decide_eq_false (fun hh => h1 (cv_ext.1 hh).2.1))
      have e0 : (xe != ye) = false := by simpa using h0
      have e1 : (xp != yp) = true := by simpa using h1
      clear h0 h1 hr
      go_enter Try.func42, Try.ntmps42
      go_wp2
      go_ret
      exact ⟨by rw [HR.out]; rfl, HB.out⟩
  · have HR : Hid (r = false) := Lib.hid (by rw [hr]; exact decide_eq_false (fun hh => h0 (cv_ext.1 hh).1))
    have e0 : (xe != ye) = true := by simpa using h0
    clear h0 hr
    go_enter Try.func42, Try.ntmps42
    go_wp2
    go_ret
    exact ⟨by rw [HR.out]; rfl, HB.out⟩
set_option maxRecDepth 100000 in
theorem eqCachedS_any (w : World) (v u : Value) (xs ys : List CV) (h : Cs w v xs) (k : Cs w u ys) : Calls Try.prog 22 #[v, u] w (BoolResC w (decide (xs = ys))) := by
  obtain ⟨a, ca, rfl, ha1, ha2, ha3⟩ := h
  obtain ⟨b, cb, rfl, hb1, hb2, hb3⟩ := k
  unfold maxLen at ha2 hb2
  obtain ⟨r, hr⟩ : ∃ r, r = decide (xs = ys) := ⟨_, rfl⟩
  rw [← hr]
  have HR := Lib.hid hr
  have HA := Lib.hid ha3
  have HBs := Lib.hid hb3
  obtain ⟨m, hm⟩ : ∃ m, m = xs.length := ⟨_, rfl⟩
  obtain ⟨n, hn⟩ : ∃ n, n = ys.length := ⟨_, rfl⟩
  have HM := Lib.hid hm
  have HN := Lib.hid hn
  rw [← hm] at ha1 ⊢
  rw [← hn] at hb1 ⊢
  clear hm hn hr ha3 hb3
  by_cases hl : m = n
  · subst hl
    have hl' : ((m : Int) != (m : Int)) = false := by simp
    go_enter Try.func22, Try.ntmps22
    go_wp2
    go_loopw [5] (fun i wr => ∃ k : Nat, k ≤ m ∧ i = .int .i64 k ∧ Hid (Below w.heap.size w wr) ∧ Hid (xs.take k = ys.take k)) (fun i _ => m - (intOf i).toNat)
    case atStart => exact ⟨0, Nat.zero_le _, rfl, Lib.hid (Below.refl _ _), Lib.hid rfl⟩
    case round =>
      obtain ⟨k, hk, rfl, HBW, HTK⟩ := hrel
      by_cases hlt : k < m
      · obtain ⟨ba, oa, rfl, hfa⟩ := HA.out k (by have := HM.out; omega)
        obtain ⟨bb, ob, rfl, hfb⟩ := HBs.out k (by have := HN.out; omega)
        have hba := block_lt_of_cell hfa.c0
        have hbb := block_lt_of_cell hfb.c0
        obtain ⟨x, hx⟩ : ∃ x, x = xs.getD k c0 := ⟨_, rfl⟩
        obtain ⟨y, hy⟩ : ∃ y, y = ys.getD k c0 := ⟨_, rfl⟩
        rw [← hx] at hfa
        rw [← hy] at hfb
        have HFA := Lib.hid hfa
        have HFB := Lib.hid hfb
        have HX := Lib.hid hx
        have HY := Lib.hid hy
        have FA : Hid (Four wr.drew ba (oa + k * 4) x) := Lib.hid (hfa.below HBW.out.drew hba)
        have FB : Hid (Four wr.drew bb (ob + k * 4) y) := Lib.hid (hfb.below HBW.out.drew hbb)
        have HC1 := Lib.hid (eqCached_any wr.drew x y)
        clear hx hy hfa hfb
        by_cases he : x = y
        · rw [decide_eq_true he] at HC1
          have HT2 : Hid (xs.take (k + 1) = ys.take (k + 1)) := Lib.hid (take_eq_succ (d := c0) (by rw [← HM.out, ← HN.out]) (by have := HM.out; omega) HTK.out (by rw [← HX.out, ← HY.out]; exact he))
          clear he
          go_wp2_with fail
          refine wp_region_held_drew (S := fun w' => Four w' ba (oa + k * 4) x ∧ Four w' bb (ob + k * 4) y) (by kernel_rfl) ⟨FA.out, FB.out⟩ (fun hHeld => ?_)
          refine wpAnyH_take (i := 0) (oi := { dst := some 17, op := .move (.tmp 0), type := _, pos := _, after := _, guard := none }) (v := .slice (some ⟨ba, oa, none⟩) m ca) rfl (by kernel_rfl) (by kernel_rfl) (by kernel_rfl) (fun _ _ _ h => h) (Or.inl ⟨by rfl, fun wh hSw => ?_⟩) hHeld ?_
          · (obtain ⟨⟨s0, s1, s2, s3⟩, t0, t1, t2, t3⟩ := hSw; go_simp)
          try simp only [Act.put, List.setIfInBounds_toArray, List.set_cons_zero, List.set_cons_succ]
          refine wpAnyH_take (i := 1) (oi := { dst := some 18, op := .move (.tmp 5), type := _, pos := _, after := _, guard := none }) (v := .int .i64 (k : Int)) rfl (by kernel_rfl) (by kernel_rfl) (by kernel_rfl) (fun _ _ _ h => h) (Or.inl ⟨by rfl, fun wh hSw => ?_⟩) hHeld ?_
          · (obtain ⟨⟨s0, s1, s2, s3⟩, t0, t1, t2, t3⟩ := hSw; go_simp)
          try simp only [Act.put, List.setIfInBounds_toArray, List.set_cons_zero, List.set_cons_succ]
          refine wpAnyH_take (i := 2) (oi := { dst := some 19, op := .indexAddr 27 (.tmp 17) (.tmp 18), type := _, pos := _, after := _, guard := none }) (v := .pointer (some ⟨ba, oa + k * 4, none⟩)) rfl (by kernel_rfl) (by kernel_rfl) (by kernel_rfl) (fun _ _ _ h => h) (Or.inl ⟨by rfl, fun wh hSw => ?_⟩) hHeld ?_
          · (obtain ⟨⟨s0, s1, s2, s3⟩, t0, t1, t2, t3⟩ := hSw; go_simp)
          try simp only [Act.put, List.setIfInBounds_toArray, List.set_cons_zero, List.set_cons_succ]
          refine wpAnyH_take (i := 3) (oi := { dst := some 20, op := .load 61 (.tmp 19), type := _, pos := _, after := _, guard := none }) (v := cvV x) rfl (by kernel_rfl) (by kernel_rfl) (by kernel_rfl) (fun _ _ _ h => h) (Or.inl ⟨by rfl, fun wh hSw => ?_⟩) hHeld ?_
          · (obtain ⟨⟨s0, s1, s2, s3⟩, t0, t1, t2, t3⟩ := hSw; go_simp)
          try simp only [Act.put, List.setIfInBounds_toArray, List.set_cons_zero, List.set_cons_succ]
          refine wpAnyH_take (i := 4) (oi := { dst := some 21, op := .move (.tmp 1), type := _, pos := _, after := _, guard := none }) (v := .slice (some ⟨bb, ob, none⟩) m cb) rfl (by kernel_rfl) (by kernel_rfl) (by kernel_rfl) (fun _ _ _ h => h) (Or.inl ⟨by rfl, fun wh hSw => ?_⟩) hHeld ?_
          · (obtain ⟨⟨s0, s1, s2, s3⟩, t0, t1, t2, t3⟩ := hSw; go_simp)
          try simp only [Act.put, List.setIfInBounds_toArray, List.set_cons_zero, List.set_cons_succ]
          refine wpAnyH_take (i := 5) (oi := { dst := some 22, op := .move (.tmp 5), type := _, pos := _, after := _, guard := none }) (v := .int .i64 (k : Int)) rfl (by kernel_rfl) (by kernel_rfl) (by kernel_rfl) (fun _ _ _ h => h) (Or.inl ⟨by rfl, fun wh hSw => ?_⟩) hHeld ?_
          · (obtain ⟨⟨s0, s1, s2, s3⟩, t0, t1, t2, t3⟩ := hSw; go_simp)
          try simp only [Act.put, List.setIfInBounds_toArray, List.set_cons_zero, List.set_cons_succ]
          refine wpAnyH_take (i := 6) (oi := { dst := some 23, op := .indexAddr 27 (.tmp 21) (.tmp 22), type := _, pos := _, after := _, guard := none }) (v := .pointer (some ⟨bb, ob + k * 4, none⟩)) rfl (by kernel_rfl) (by kernel_rfl) (by kernel_rfl) (fun _ _ _ h => h) (Or.inl ⟨by rfl, fun wh hSw => ?_⟩) hHeld ?_
          · (obtain ⟨⟨s0, s1, s2, s3⟩, t0, t1, t2, t3⟩ := hSw; go_simp)
          try simp only [Act.put, List.setIfInBounds_toArray, List.set_cons_zero, List.set_cons_succ]
          refine wpAnyH_take (i := 7) (oi := { dst := some 24, op := .load 61 (.tmp 23), type := _, pos := _, after := _, guard := none }) (v := cvV y) rfl (by kernel_rfl) (by kernel_rfl) (by kernel_rfl) (fun _ _ _ h => h) (Or.inl ⟨by rfl, fun wh hSw => ?_⟩) hHeld ?_
          · (obtain ⟨⟨s0, s1, s2, s3⟩, t0, t1, t2, t3⟩ := hSw; go_simp)
          try simp only [Act.put, List.setIfInBounds_toArray, List.set_cons_zero, List.set_cons_succ]
          refine wpAnyH_ready (rs := [8]) (by kernel_rfl) (by simp) ?_
          refine AllReadyH.cons (o := { dst := some 25, op := .call { callee := .value (.func 42), args := #[.tmp 20, .tmp 24], argTypes := #[61, 61] }, type := _, pos := _, after := _, guard := none }) rfl (fun K hK => ?_) AllReadyH.nil
          go_simp
          refine HC1.out.mono ?_
          rintro e w1 ⟨rfl, hb1⟩
          have HB1 := Lib.hid ((HBW.out.drew).trans (hb1.mono HBW.out.size))
          clear hb1
          try go_simp
          refine hK.out _ _ ?_ (fun hHeld => ?_)
          · exact ⟨HFA.out.below HB1.out hba, HFB.out.below HB1.out hbb⟩
          clear hK K
          try simp only [Act.put, List.setIfInBounds_toArray, List.set_cons_zero, List.set_cons_succ]
          refine wpAnyH_take (i := 9) (oi := { dst := some 26, op := .unOp .not 4 (.tmp 25), type := _, pos := _, after := _, guard := none }) (v := .bool false) rfl (by kernel_rfl) (by kernel_rfl) (by kernel_rfl) (fun _ _ _ h => h) (Or.inl ⟨by rfl, fun wh hSw => ?_⟩) hHeld ?_
          · (obtain ⟨⟨s0, s1, s2, s3⟩, t0, t1, t2, t3⟩ := hSw; go_simp)
          try simp only [Act.put, List.setIfInBounds_toArray, List.set_cons_zero, List.set_cons_succ]
          refine wpAnyH_done (by kernel_rfl) ?_ _
          go_wp2
          go_roundw
          case rel => exact ⟨k + 1, by omega, by go_num, HB1, HT2⟩
          case measure => simp [intOf]; omega
        · rw [decide_eq_false he] at HC1
          have HF : Hid (r = false) := Lib.hid (by rw [HR.out]; exact decide_eq_false (fun hh => he (by rw [HX.out, HY.out, hh])))
          clear he
          go_wp2_with fail
          refine wp_region_held_drew (S := fun w' => Four w' ba (oa + k * 4) x ∧ Four w' bb (ob + k * 4) y) (by kernel_rfl) ⟨FA.out, FB.out⟩ (fun hHeld => ?_)
          refine wpAnyH_take (i := 0) (oi := { dst := some 17, op := .move (.tmp 0), type := _, pos := _, after := _, guard := none }) (v := .slice (some ⟨ba, oa, none⟩) m ca) rfl (by kernel_rfl) (by kernel_rfl) (by kernel_rfl) (fun _ _ _ h => h) (Or.inl ⟨by rfl, fun wh hSw => ?_⟩) hHeld ?_
          · (obtain ⟨⟨s0, s1, s2, s3⟩, t0, t1, t2, t3⟩ := hSw; go_simp)
          try simp only [Act.put, List.setIfInBounds_toArray, List.set_cons_zero, List.set_cons_succ]
          refine wpAnyH_take (i := 1) (oi := { dst := some 18, op := .move (.tmp 5), type := _, pos := _, after := _, guard := none }) (v := .int .i64 (k : Int)) rfl (by kernel_rfl) (by kernel_rfl) (by kernel_rfl) (fun _ _ _ h => h) (Or.inl ⟨by rfl, fun wh hSw => ?_⟩) hHeld ?_
          · (obtain ⟨⟨s0, s1, s2, s3⟩, t0, t1, t2, t3⟩ := hSw; go_simp)
          try simp only [Act.put, List.setIfInBounds_toArray, List.set_cons_zero, List.set_cons_succ]
          refine wpAnyH_take (i := 2) (oi := { dst := some 19, op := .indexAddr 27 (.tmp 17) (.tmp 18), type := _, pos := _, after := _, guard := none }) (v := .pointer (some ⟨ba, oa + k * 4, none⟩)) rfl (by kernel_rfl) (by kernel_rfl) (by kernel_rfl) (fun _ _ _ h => h) (Or.inl ⟨by rfl, fun wh hSw => ?_⟩) hHeld ?_
          · (obtain ⟨⟨s0, s1, s2, s3⟩, t0, t1, t2, t3⟩ := hSw; go_simp)
          try simp only [Act.put, List.setIfInBounds_toArray, List.set_cons_zero, List.set_cons_succ]
          refine wpAnyH_take (i := 3) (oi := { dst := some 20, op := .load 61 (.tmp 19), type := _, pos := _, after := _, guard := none }) (v := cvV x) rfl (by kernel_rfl) (by kernel_rfl) (by kernel_rfl) (fun _ _ _ h => h) (Or.inl ⟨by rfl, fun wh hSw => ?_⟩) hHeld ?_
          · (obtain ⟨⟨s0, s1, s2, s3⟩, t0, t1, t2, t3⟩ := hSw; go_simp)
          try simp only [Act.put, List.setIfInBounds_toArray, List.set_cons_zero, List.set_cons_succ]
          refine wpAnyH_take (i := 4) (oi := { dst := some 21, op := .move (.tmp 1), type := _, pos := _, after := _, guard := none }) (v := .slice (some ⟨bb, ob, none⟩) m cb) rfl (by kernel_rfl) (by kernel_rfl) (by kernel_rfl) (fun _ _ _ h => h) (Or.inl ⟨by rfl, fun wh hSw => ?_⟩) hHeld ?_
          · (obtain ⟨⟨s0, s1, s2, s3⟩, t0, t1, t2, t3⟩ := hSw; go_simp)
          try simp only [Act.put, List.setIfInBounds_toArray, List.set_cons_zero, List.set_cons_succ]
          refine wpAnyH_take (i := 5) (oi := { dst := some 22, op := .move (.tmp 5), type := _, pos := _, after := _, guard := none }) (v := .int .i64 (k : Int)) rfl (by kernel_rfl) (by kernel_rfl) (by kernel_rfl) (fun _ _ _ h => h) (Or.inl ⟨by rfl, fun wh hSw => ?_⟩) hHeld ?_
          · (obtain ⟨⟨s0, s1, s2, s3⟩, t0, t1, t2, t3⟩ := hSw; go_simp)
          try simp only [Act.put, List.setIfInBounds_toArray, List.set_cons_zero, List.set_cons_succ]
          refine wpAnyH_take (i := 6) (oi := { dst := some 23, op := .indexAddr 27 (.tmp 21) (.tmp 22), type := _, pos := _, after := _, guard := none }) (v := .pointer (some ⟨bb, ob + k * 4, none⟩)) rfl (by kernel_rfl) (by kernel_rfl) (by kernel_rfl) (fun _ _ _ h => h) (Or.inl ⟨by rfl, fun wh hSw => ?_⟩) hHeld ?_
          · (obtain ⟨⟨s0, s1, s2, s3⟩, t0, t1, t2, t3⟩ := hSw; go_simp)
          try simp only [Act.put, List.setIfInBounds_toArray, List.set_cons_zero, List.set_cons_succ]
          refine wpAnyH_take (i := 7) (oi := { dst := some 24, op := .load 61 (.tmp 23), type := _, pos := _, after := _, guard := none }) (v := cvV y) rfl (by kernel_rfl) (by kernel_rfl) (by kernel_rfl) (fun _ _ _ h => h) (Or.inl ⟨by rfl, fun wh hSw => ?_⟩) hHeld ?_
          · (obtain ⟨⟨s0, s1, s2, s3⟩, t0, t1, t2, t3⟩ := hSw; go_simp)
          try simp only [Act.put, List.setIfInBounds_toArray, List.set_cons_zero, List.set_cons_succ]
          refine wpAnyH_ready (rs := [8]) (by kernel_rfl) (by simp) ?_
          refine AllReadyH.cons (o := { dst := some 25, op := .call { callee := .value (.func 42), args := #[.tmp 20, .tmp 24], argTypes := #[61, 61] }, type := _, pos := _, after := _, guard := none }) rfl (fun K hK => ?_) AllReadyH.nil
          go_simp
          refine HC1.out.mono ?_
          rintro e w1 ⟨rfl, hb1⟩
          have HB1 := Lib.hid ((HBW.out.drew).trans (hb1.mono HBW.out.size))
          clear hb1
          try go_simp
          refine hK.out _ _ ?_ (fun hHeld => ?_)
          · exact ⟨HFA.out.below HB1.out hba, HFB.out.below HB1.out hbb⟩
          clear hK K
          try simp only [Act.put, List.setIfInBounds_toArray, List.set_cons_zero, List.set_cons_succ]
          refine wpAnyH_take (i := 9) (oi := { dst := some 26, op := .unOp .not 4 (.tmp 25), type := _, pos := _, after := _, guard := none }) (v := .bool true) rfl (by kernel_rfl) (by kernel_rfl) (by kernel_rfl) (fun _ _ _ h => h) (Or.inl ⟨by rfl, fun wh hSw => ?_⟩) hHeld ?_
          · (obtain ⟨⟨s0, s1, s2, s3⟩, t0, t1, t2, t3⟩ := hSw; go_simp)
          try simp only [Act.put, List.setIfInBounds_toArray, List.set_cons_zero, List.set_cons_succ]
          refine wpAnyH_done (by kernel_rfl) ?_ _
          go_wp2
          go_ret
          exact ⟨by rw [HF.out]; rfl, HB1.out⟩
      · have ek : k = m := by omega
        subst ek
        have HF : Hid (r = true) := Lib.hid (by rw [HR.out]; exact decide_eq_true (eq_of_take (by rw [← HM.out, ← HN.out]) HM.out HTK.out))
        go_wp2
        go_ret
        exact ⟨by rw [HF.out]; rfl, HBW.out⟩
  · have hl' : ((m : Int) != (n : Int)) = true := by simp; omega
    have HF : Hid (r = false) := Lib.hid (by rw [HR.out]; exact decide_eq_false (fun hh => hl (by rw [HM.out, HN.out, hh])))
    go_enter Try.func22, Try.ntmps22
    go_wp2
    go_ret
    exact ⟨by rw [HF.out]; rfl, Below.refl _ _⟩
end Go.Proofs.Ythfdkenidfnmgaa
namespace Go.Proofs.Ythfdkenidfnmgaa
open Go.ChangeShapes Go.WideShapes Go.ChangeAt Go.RowKit
set_option linter.unusedVariables false
set_option maxRecDepth 100000
structure FourW (w : World) (b o : Nat) (x : CV) : Prop where
  at4 : Four w b o x
  fr : ∀ j, j < 4 → w.frozen? ⟨b, o + j, none⟩ = false
def CsW (w : World) (B0 B1 : Nat) (v : Value) (xs : List CV) : Prop :=
  ∃ (a : Option Addr) (cap : Nat), v = .slice a xs.length cap ∧ xs.length ≤ cap ∧ cap ≤ maxLen ∧
    ∀ i, i < xs.length → ∃ g p, a = some ⟨g, p, none⟩ ∧ B0 ≤ g ∧ g < B1 ∧ FourW w g (p + i * 4) (xs.getD i c0)
theorem CsW.cs {w : World} {B0 B1 : Nat} {v : Value} {xs : List CV} (h : CsW w B0 B1 v xs) : Cs w v xs := by
  obtain ⟨a, cap, rfl, h1, h2, h3⟩ := h
  refine ⟨a, cap, rfl, h1, h2, fun i hi => ?_⟩
  obtain ⟨g, p, e, _, _, hf⟩ := h3 i hi
  exact ⟨g, p, e, hf.at4⟩
theorem FourW.block {w w' : World} {b o : Nat} {x : CV} (h : FourW w b o x) (e : w'.heap[b]? = w.heap[b]?) : FourW w' b o x :=
  ⟨⟨(World.cell?_of_block e).trans h.at4.c0, (World.cell?_of_block e).trans h.at4.c1, (World.cell?_of_block e).trans h.at4.c2, (World.cell?_of_block e).trans h.at4.c3⟩, fun j hj => (World.frozen?_of_block e).trans (h.fr j hj)⟩
theorem FourW.there {w : World} {b o : Nat} {x : CV} (h : FourW w b o x) : w.there b o 4 := fun j hj => by
  refine ⟨?_, h.fr j hj⟩
  obtain rfl | rfl | rfl | rfl : j = 0 ∨ j = 1 ∨ j = 2 ∨ j = 3 := by omega
  · rw [Nat.add_zero, h.at4.c0]; rfl
  · rw [h.at4.c1]; rfl
  · rw [h.at4.c2]; rfl
  · rw [h.at4.c3]; rfl
theorem FourW.stored {w : World} {b o : Nat} {x : CV} (h : w.there b o 4) : FourW (w.setCells b o (cvC x)) b o x := by
  have hr := World.rangeAt_setCells_same w b o (cvC x) h
  exact ⟨⟨hr 0 _ rfl, hr 1 _ rfl, hr 2 _ rfl, hr 3 _ rfl⟩, fun j hj => by rw [World.frozen?_setCells]; exact (h j hj).2⟩
theorem FourW.apart {w : World} {b o o' : Nat} {x : CV} {vs : List Value} (h : FourW w b o' x) (ha : o' + 4 ≤ o ∨ o + vs.length ≤ o') : FourW (w.setCells b o vs) b o' x := by
  have hr : w.rangeAt b o' (cvC x) := fun j v hv => by
    have hj : j < 4 := (List.getElem?_eq_some_iff.1 hv).1
    obtain rfl | rfl | rfl | rfl : j = 0 ∨ j = 1 ∨ j = 2 ∨ j = 3 := by omega
    · cases hv; exact h.at4.c0
    · cases hv; exact h.at4.c1
    · cases hv; exact h.at4.c2
    · cases hv; exact h.at4.c3
  have h2 := World.rangeAt_setCells_apart hr b o vs (.inr ha)
  exact ⟨⟨h2 0 _ rfl, h2 1 _ rfl, h2 2 _ rfl, h2 3 _ rfl⟩, fun j hj => by rw [World.frozen?_setCells]; exact h.fr j hj⟩
theorem CsW.of_own {w w' : World} {v : Value} {ys : List CV} (h : OwnC w v ys w') : CsW w' w.heap.size w'.heap.size v ys := by
  have hc := h.cs
  rcases h.own.2 with ⟨e, _⟩ | ⟨g, cap, cur, rfl, hb, hbl, hnc, hcm, hcs, htk⟩
  · exact absurd e h.nn
  · refine ⟨some ⟨g, 0, none⟩, cap, rfl, hnc, hcm, fun i hi => ⟨g, 0, rfl, hb, (Array.getElem?_eq_some_iff.1 hbl).1, ?_, fun j hj => frozen_of_row w' g _ cur _ hbl⟩⟩
    obtain ⟨a, cp, e, _, _, h3⟩ := hc
    obtain ⟨b, o, e2, hf⟩ := h3 i hi
    injection e with e _ _
    rw [← e] at e2
    injection e2 with e2
    injection e2 with e3 e4
    subst e3; subst e4
    exact hf
end Go.Proofs.Ythfdkenidfnmgaa
namespace Go.Proofs.Ythfdkenidfnmgaa
open Go.ChangeShapes Go.WideShapes Go.ChangeAt Go.RowKit
set_option linter.unusedVariables false
set_option linter.unusedSimpArgs false
set_option maxRecDepth 100000
def Sss (w : World) (v : Value) (xss : List (List Bs)) : Prop :=
  ∃ (a : Option Addr) (cap : Nat), v = .slice a xss.length cap ∧ xss.length ≤ cap ∧ cap ≤ maxLen ∧
    ∀ i, i < xss.length → ∃ b o u, a = some ⟨b, o, none⟩ ∧ w.cell? ⟨b, o + i, none⟩ = some u ∧ Strs w u (xss.getD i [])
theorem Sss.below {w w' : World} {v : Value} {xss : List (List Bs)} (h : Sss w v xss) (hb : Below w.heap.size w w') : Sss w' v xss := by
  obtain ⟨a, cap, rfl, h1, h2, h3⟩ := h
  refine ⟨a, cap, rfl, h1, h2, fun i hi => ?_⟩
  obtain ⟨b, o, u, rfl, hc, hu⟩ := h3 i hi
  exact ⟨b, o, u, rfl, (hb.cell (p := ⟨b, o + i, none⟩) (cell_lt hc)).trans hc, hu.below hb⟩
def Es (w : World) (v : Value) (es : List EV) : Prop :=
  ∃ (a : Option Addr) (cap : Nat), v = .slice a es.length cap ∧ es.length ≤ cap ∧ cap ≤ maxLen ∧
    ∀ i, i < es.length → ∃ b o u, a = some ⟨b, o, none⟩ ∧ w.cell? ⟨b, o + i * 2, none⟩ = some u ∧ w.cell? ⟨b, o + i * 2 + 1, none⟩ = some (.int .i64 (es.getD i ez).t) ∧ Strs w u (es.getD i ez).r
theorem Es.below {w w' : World} {v : Value} {es : List EV} (h : Es w v es) (hb : Below w.heap.size w w') : Es w' v es := by
  obtain ⟨a, cap, rfl, h1, h2, h3⟩ := h
  refine ⟨a, cap, rfl, h1, h2, fun i hi => ?_⟩
  obtain ⟨b, o, u, rfl, hc, hd, hu⟩ := h3 i hi
  exact ⟨b, o, u, rfl, (hb.cell (p := ⟨b, o + i * 2, none⟩) (cell_lt hc)).trans hc, (hb.cell (p := ⟨b, o + i * 2 + 1, none⟩) (cell_lt hd)).trans hd, hu.below hb⟩
theorem StrsW.of_blocks {w w' : World} {B0 B1 : Nat} {v : Value} {xs : List Bs} (h : StrsW w B0 B1 v xs) (e : ∀ b, B0 ≤ b → b < B1 → w'.heap[b]? = w.heap[b]?) : StrsW w' B0 B1 v xs := by
  obtain ⟨a, cap, rfl, h1, h2, h3⟩ := h
  refine ⟨a, cap, rfl, h1, h2, fun i hi => ?_⟩
  obtain ⟨g, p, ea, hg0, hg1, hc, hf⟩ := h3 i hi
  have hb := e g hg0 hg1
  exact ⟨g, p, ea, hg0, hg1, (World.cell?_of_block hb).trans hc, (World.frozen?_of_block hb).trans hf⟩
abbrev kV (vm vi ve vc : Value) : Value := .agg #[vm, vi, ve, vc]
structure Ks (w : World) (vm vi ve vc : Value) (K : KV) : Prop where
  m : Rows2 w vm K.m
  i : Is w vi K.i
  e : Es w ve K.e
  c : Cs w vc K.c
theorem Ks.below {w w' : World} {vm vi ve vc : Value} {K : KV} (h : Ks w vm vi ve vc K) (hb : Below w.heap.size w w') : Ks w' vm vi ve vc K :=
  ⟨h.m.below hb, h.i.below hb, h.e.below hb, h.c.below hb⟩
structure TAt (w : World) (B0 B1 : Nat) (s : Nat) (a : Option Addr) (n : Nat) (A : Nat → Option Addr) (L C : Nat → Nat) (X : Nat → Nat → Bs) : Prop where
  top : ∀ j, j < n → ∃ b o, a = some ⟨b, o, none⟩ ∧ B0 ≤ b ∧ b < B1 ∧ w.cell? ⟨b, o + j * s, none⟩ = some (.slice (A j) (L j) (C j)) ∧ L j ≤ C j ∧ C j ≤ maxLen ∧ w.frozen? ⟨b, o + j * s, none⟩ = false
  row : ∀ j, j < n → ∀ i, i < L j → ∃ g p, A j = some ⟨g, p, none⟩ ∧ B0 ≤ g ∧ g < B1 ∧ w.cell? ⟨g, p + i, none⟩ = some (.string ⟨(X j i).toArray⟩) ∧ w.frozen? ⟨g, p + i, none⟩ = false ∧ ∀ b o, a = some ⟨b, o, none⟩ → g ≠ b
  apart : ∀ j, j < n → ∀ j', j' < n → j ≠ j' → 0 < L j → 0 < L j' → ∀ g p g' p', A j = some ⟨g, p, none⟩ → A j' = some ⟨g', p', none⟩ → g ≠ g'
theorem TAt.of_blocks {w w' : World} {B0 B1 s : Nat} {a : Option Addr} {n : Nat} {A : Nat → Option Addr} {L C : Nat → Nat} {X : Nat → Nat → Bs} (h : TAt w B0 B1 s a n A L C X)
    (e : ∀ b, B0 ≤ b → b < B1 → w'.heap[b]? = w.heap[b]?) : TAt w' B0 B1 s a n A L C X := by
  refine ⟨fun j hj => ?_, fun j hj i hi => ?_, h.apart⟩
  · obtain ⟨b, o, e1, h1, h2, h3, h4⟩ := h.top j hj
    exact ⟨b, o, e1, h1, h2, (World.cell?_of_block (e b h1 h2)).trans h3, h4.1, h4.2.1, (World.frozen?_of_block (e b h1 h2)).trans h4.2.2⟩
  · obtain ⟨g, p, e1, h1, h2, h3, h4, h5⟩ := h.row j hj i hi
    exact ⟨g, p, e1, h1, h2, (World.cell?_of_block (e g h1 h2)).trans h3, (World.frozen?_of_block (e g h1 h2)).trans h4, h5⟩
theorem TAt.chg {lo hi B0 B1 s : Nat} {w w' : World} {a : Option Addr} {n : Nat} {A : Nat → Option Addr} {L C : Nat → Nat} {X : Nat → Nat → Bs} (h : TAt w B0 B1 s a n A L C X) (c : Chg lo hi w w') (hB : B1 ≤ w.heap.size) (hh : B1 ≤ lo ∨ hi ≤ B0) : TAt w' B0 B1 s a n A L C X :=
  h.of_blocks (fun b h0 h1 => c.block b (by omega) (by omega))
def RAt (w : World) (B0 B1 : Nat) (a : Option Addr) (n : Nat) (R : Nat → Int) : Prop :=
  ∀ j, j < n → ∃ b o, a = some ⟨b, o, none⟩ ∧ B0 ≤ b ∧ b < B1 ∧ w.cell? ⟨b, o + j * 2 + 1, none⟩ = some (.int .i64 (R j)) ∧ w.frozen? ⟨b, o + j * 2 + 1, none⟩ = false
theorem RAt.of_blocks {w w' : World} {B0 B1 : Nat} {a : Option Addr} {n : Nat} {R : Nat → Int} (h : RAt w B0 B1 a n R) (e : ∀ b, B0 ≤ b → b < B1 → w'.heap[b]? = w.heap[b]?) : RAt w' B0 B1 a n R := fun j hj => by
  obtain ⟨b, o, e1, h1, h2, h3, h4⟩ := h j hj
  exact ⟨b, o, e1, h1, h2, (World.cell?_of_block (e b h1 h2)).trans h3, (World.frozen?_of_block (e b h1 h2)).trans h4⟩
def SssW (w : World) (B0 B1 : Nat) (v : Value) (xss : List (List Bs)) : Prop :=
  ∃ (a : Option Addr) (cap : Nat) (A : Nat → Option Addr) (C : Nat → Nat), v = .slice a xss.length cap ∧ xss.length ≤ cap ∧ cap ≤ maxLen ∧
    TAt w B0 B1 1 a xss.length A (fun j => (xss.getD j []).length) C (fun j i => (xss.getD j []).getD i [])
def EsW (w : World) (B0 B1 : Nat) (v : Value) (es : List EV) : Prop :=
  ∃ (a : Option Addr) (cap : Nat) (A : Nat → Option Addr) (C : Nat → Nat), v = .slice a es.length cap ∧ es.length ≤ cap ∧ cap ≤ maxLen ∧
    TAt w B0 B1 2 a es.length A (fun j => (es.getD j ez).r.length) C (fun j i => (es.getD j ez).r.getD i []) ∧ RAt w B0 B1 a es.length (fun j => (es.getD j ez).t)
theorem SssW.sss {w : World} {B0 B1 : Nat} {v : Value} {xss : List (List Bs)} (h : SssW w B0 B1 v xss) : Sss w v xss := by
  obtain ⟨a, cap, A, C, rfl, h1, h2, h3⟩ := h
  refine ⟨a, cap, rfl, h1, h2, fun i hi => ?_⟩
  obtain ⟨b, o, rfl, _, _, hc, hl, hm, _⟩ := h3.top i hi
  rw [Nat.mul_one] at hc
  refine ⟨b, o, _, rfl, hc, A i, C i, rfl, hl, hm, fun k hk => ?_⟩
  obtain ⟨g, p, e, _, _, hk, _⟩ := h3.row i hi k hk
  exact ⟨g, p, e, hk⟩
theorem EsW.es {w : World} {B0 B1 : Nat} {v : Value} {es : List EV} (h : EsW w B0 B1 v es) : Es w v es := by
  obtain ⟨a, cap, A, C, rfl, h1, h2, h3, h4⟩ := h
  refine ⟨a, cap, rfl, h1, h2, fun i hi => ?_⟩
  obtain ⟨b, o, rfl, _, _, hc, hl, hm, _⟩ := h3.top i hi
  obtain ⟨b', o', e', _, _, hr, _⟩ := h4 i hi
  cases e'
  refine ⟨b, o, _, rfl, hc, hr, A i, C i, rfl, hl, hm, fun k hk => ?_⟩
  obtain ⟨g, p, e, _, _, hk, _⟩ := h3.row i hi k hk
  exact ⟨g, p, e, hk⟩
theorem SssW.chg {lo hi B0 B1 : Nat} {w w' : World} {v : Value} {xss : List (List Bs)} (h : SssW w B0 B1 v xss) (c : Chg lo hi w w') (hB : B1 ≤ w.heap.size) (hh : B1 ≤ lo ∨ hi ≤ B0) : SssW w' B0 B1 v xss := by
  obtain ⟨a, cap, A, C, e, h1, h2, h3⟩ := h
  exact ⟨a, cap, A, C, e, h1, h2, h3.chg c hB hh⟩
theorem EsW.chg {lo hi B0 B1 : Nat} {w w' : World} {v : Value} {es : List EV} (h : EsW w B0 B1 v es) (c : Chg lo hi w w') (hB : B1 ≤ w.heap.size) (hh : B1 ≤ lo ∨ hi ≤ B0) : EsW w' B0 B1 v es := by
  obtain ⟨a, cap, A, C, e, h1, h2, h3, h4⟩ := h
  exact ⟨a, cap, A, C, e, h1, h2, h3.chg c hB hh, h4.of_blocks (fun b h0 h1 => c.block b (by omega) (by omega))⟩
theorem EsW.below {B0 B1 : Nat} {w w' : World} {v : Value} {es : List EV} (h : EsW w B0 B1 v es) (c : Below w.heap.size w w') (hB : B1 ≤ w.heap.size) : EsW w' B0 B1 v es := h.chg (Chg.of_below c) hB (.inr (Nat.zero_le _))
theorem SssW.below {B0 B1 : Nat} {w w' : World} {v : Value} {xss : List (List Bs)} (h : SssW w B0 B1 v xss) (c : Below w.heap.size w w') (hB : B1 ≤ w.heap.size) : SssW w' B0 B1 v xss := h.chg (Chg.of_below c) hB (.inr (Nat.zero_le _))
theorem esW_none {w : World} {B0 B1 : Nat} : EsW w B0 B1 (.slice none 0 0) [] :=
  ⟨none, 0, fun _ => none, fun _ => 0, rfl, Nat.le_refl _, Nat.zero_le _, ⟨fun j hj => absurd hj (Nat.not_lt_zero j), fun j hj => absurd hj (Nat.not_lt_zero j), fun j hj => absurd hj (Nat.not_lt_zero j)⟩, fun j hj => absurd hj (Nat.not_lt_zero j)⟩
end Go.Proofs.Ythfdkenidfnmgaa
namespace Go.Proofs.Ythfdkenidfnmgaa
open Go.ChangeShapes Go.WideShapes Go.ChangeAt Go.RowKit
set_option linter.unusedVariables false
set_option maxRecDepth 100000
theorem ivInfo : (Try.prog.info? 57).map (fun i => (i.zero, i.size, i.bytes)) = some (some (.agg #[.int .i64 0, .string ⟨#[]⟩, .int .i64 0]), 3, 32) := by kernel_rfl
def isC (xs : List IV) : List Value := xs.flatMap ivC
theorem isC_app (xs ys : List IV) : isC (xs ++ ys) = isC xs ++ isC ys := by simp [isC]
theorem isC_len (xs : List IV) : (isC xs).length = xs.length * 3 := by
  induction xs with
  | nil => rfl
  | cons x xs ih => simp only [isC, List.flatMap_cons, List.length_append] at ih ⊢; rw [ih]; simp [ivC]; omega
theorem isC_get (xs : List IV) {i j : Nat} (hi : i < xs.length) (hj : j < 3) : (isC xs)[i * 3 + j]? = (ivC (xs.getD i iz))[j]? := by
  have e : xs = xs.take i ++ ([xs.getD i iz] ++ xs.drop (i + 1)) := by
    rw [← List.append_assoc, ← take_snoc_getD xs i iz hi, List.take_append_drop]
  have h1 : (isC (xs.take i)).length = i * 3 := by rw [isC_len, List.length_take]; omega
  have h2 : isC xs = isC (xs.take i) ++ (ivC (xs.getD i iz) ++ isC (xs.drop (i + 1))) := by
    conv => lhs; rw [e]
    simp [isC]
  rw [h2, List.getElem?_append_right (by omega), h1, Nat.add_sub_cancel_left, List.getElem?_append_left (by simp [ivC]; omega)]
theorem isC_one (xs : List IV) : ∀ u ∈ isC xs, u.oneCell' = true := by
  intro u hu
  obtain ⟨x, _, hx⟩ := List.mem_flatMap.1 hu
  simp only [ivC, List.mem_cons, List.not_mem_nil, or_false] at hx
  rcases hx with rfl | rfl | rfl <;> rfl
theorem is_cells {w : World} {b o : Nat} {xs : List IV} (h : ∀ i, i < xs.length → Tri w b (o + i * 3) (xs.getD i iz)) : ∀ j u, (isC xs)[j]? = some u → w.cell? ⟨b, o + j, none⟩ = some u := by
  intro j u hj
  have hjl : j < xs.length * 3 := by
    have := (List.getElem?_eq_some_iff.1 hj).1
    rwa [isC_len] at this
  have hi : j / 3 < xs.length := by omega
  have hq : j % 3 < 3 := by omega
  have e : j = j / 3 * 3 + j % 3 := by omega
  have hg := isC_get xs hi hq
  rw [← e, hj] at hg
  have ht := h _ hi
  have e2 : o + j = o + j / 3 * 3 + j % 3 := by omega
  rw [e2]
  obtain h0 | h0 | h0 : j % 3 = 0 ∨ j % 3 = 1 ∨ j % 3 = 2 := by omega
  · rw [h0] at hg ⊢; cases hg; exact ht.c0
  · rw [h0] at hg ⊢; cases hg; exact ht.c1
  · rw [h0] at hg ⊢; cases hg; exact ht.c2
structure OwnV (w : World) (v : Value) (ys : List IV) (w' : World) : Prop where
  own : w'.ownsRow w.heap.size 57 3 v ys.length (isC ys)
  bel : Below w.heap.size w w'
theorem IsW.of_ownsRow {w : World} {B : Nat} {v : Value} {ys : List IV} (h : w.ownsRow B 57 3 v ys.length (isC ys)) : IsW w B w.heap.size v ys := by
  rcases h.2 with ⟨e, hz⟩ | ⟨g, cap, cur, rfl, hb, hbl, hnc, hcm, hcs, htk⟩
  · exact ⟨none, 0, by rw [e, hz], by omega, Nat.zero_le _, fun i hi => by omega⟩
  · refine ⟨some ⟨g, 0, none⟩, cap, rfl, hnc, hcm, fun i hi => ⟨g, 0, rfl, hb, (Array.getElem?_eq_some_iff.1 hbl).1, ?_, fun j hj => frozen_of_row w g _ cur _ hbl⟩⟩
    have hc : ∀ j v, j < 3 → (ivC (ys.getD i iz))[j]? = some v → w.cell? ⟨g, 0 + i * 3 + j, none⟩ = some v := fun j v hj hv => by
      have := h.cells (g := g) rfl (i * 3 + j) v (by rw [isC_get ys hi hj]; exact hv)
      rw [add0] at this
      rwa [Nat.zero_add]
    exact ⟨hc 0 _ (by omega) rfl, hc 1 _ (by omega) rfl, hc 2 _ (by omega) rfl⟩
theorem OwnV.row {w w' : World} {v : Value} {ys : List IV} (h : OwnV w v ys w') : IsW w' w.heap.size w'.heap.size v ys := IsW.of_ownsRow h.own
theorem OwnV.is {w w' : World} {v : Value} {ys : List IV} (h : OwnV w v ys w') : Is w' v ys := h.row.is
theorem OwnV.start (w : World) : OwnV w (.slice (some ⟨w.heap.size, 0, none⟩) 0 0) [] (w.alloc (.cells #[] 57)) :=
  ⟨World.ownsRow_made w #[] 0 (Nat.le_refl _) (Nat.zero_le _) rfl, (Below.refl _ _).alloc (Nat.le_refl _) _⟩
theorem OwnV.nil (w : World) : OwnV w (.slice none 0 0) [] w := ⟨World.ownsRow_nil _ _ _ _, Below.refl _ _⟩
theorem OwnV.from {w w1 w2 : World} {v : Value} {ys : List IV} (h : OwnV w1 v ys w2) (hb : Below w.heap.size w w1) : OwnV w v ys w2 :=
  ⟨own_lowS h.own hb.size, hb.trans (h.bel.mono hb.size)⟩
theorem OwnV.alloc {w w' : World} {v : Value} {ys : List IV} (h : OwnV w v ys w') (o : Obj) : OwnV w v ys (w'.alloc o) := ⟨h.own.alloc _, h.bel.alloc h.bel.size o⟩
def NewV (ys : List IV) (w : World) (e : Ending) (w' : World) : Prop := ∃ v, e = .returned v ∧ IsW w' w.heap.size w'.heap.size v ys ∧ Below w.heap.size w w'
def NilOkI (v : Value) : Prop := ∀ n c, v = .slice none n c → n = 0 ∧ c = 0
theorem nilOkI_some {a : Addr} {n c : Nat} : NilOkI (.slice (some a) n c) := fun _ _ e => by cases e
theorem wp_append_rowI {a : Act} {w : World} {K : Act → World → Prop} {Q : Exit → Act → World → Prop} {dst : Option Nat} {tt : TypeId} {pos : String} {after : Array Edge} {gd : Option (Nat × Bool)} (s x : Operand)
    (base : Nat) (v : Value) (ys : List IV) (hs : a.eval s = v) (hown : w.ownsRow base 57 3 v ys.length (isC ys)) (hbase : base ≤ w.heap.size) (xv : Value) (zs : List IV) (hx : a.eval x = xv) (hz : Is w xv zs) (hn : NilOkI xv) (hl : ys.length + zs.length ≤ 1000000)
    (h : ∀ v' w', w'.ownsRow base 57 3 v' (ys ++ zs).length (isC (ys ++ zs)) → (v' = .slice none 0 0 ↔ v = .slice none 0 0 ∧ zs.length = 0) → w.grownBy w' v.ownBlock → K (a.put dst v') w') :
    Oper.wp Try.prog { dst := dst, op := .call { callee := .builtin .append, args := #[s, x], argTypes := #[25, 25] }, type := tt, pos := pos, after := after, guard := gd } a w K Q := by
  obtain ⟨i0, hi, hz0, hz1, hz2⟩ := info_parts ivInfo
  obtain ⟨ad, cap, rfl, h1, h2, h3⟩ := hz
  cases ad with
  | none =>
    obtain ⟨e1, e2⟩ := hn _ _ rfl
    subst e2
    have hrun := run_append_owned_none (P := Try.prog) (w := w) base 25 tt 57 i0 3 Try.underlying25 hi v ys.length _ hown
    have hzs : zs = [] := List.length_eq_zero_iff.1 e1
    subst hzs
    have hk := h v w (by rw [List.append_nil]; exact hown) (by simp) (World.grownBy.refl w _)
    unfold Oper.wp
    simp [execOp, resolve, invoke, builtin, hs, hx, hrun, Result.andThen]
    exact hk
  | some ad =>
    have hnews : ∀ j u, (isC zs)[j]? = some u → w.cell? (ad.add j) = some u := by
      intro j u hj
      have hjl : j < zs.length * 3 := by
        have := (List.getElem?_eq_some_iff.1 hj).1
        rwa [isC_len] at this
      obtain ⟨b, o, e, _⟩ := h3 0 (by omega)
      cases e
      have hcs : ∀ i, i < zs.length → Tri w b (o + i * 3) (zs.getD i iz) := fun i hi => by
        obtain ⟨b', o', e', ht⟩ := h3 i hi
        cases e'
        exact ht
      rw [show (⟨b, o, none⟩ : Addr).add j = ⟨b, o + j, none⟩ from by unfold Addr.add; split <;> simp_all]
      exact is_cells hcs j u hj
    obtain ⟨v', w', hr, g2, g3, g4, g5⟩ := run_append_own_at (P := Try.prog) w base 25 tt 57 i0 (.agg #[.int .i64 0, .string ⟨#[]⟩, .int .i64 0]) 3 32 Try.underlying25 hi hz0 hz1 hz2 rfl (by decide) v ys.length _ hown ad zs.length cap (isC zs) (isC_len zs) hnews (isC_one zs) (by unfold maxLen; omega) (by omega) hbase
    have hk := h v' w' (by rw [List.length_append, isC_app]; exact g2) g4 g3
    unfold Oper.wp execOp
    simp only [resolve, invoke, builtin, Sem.run_bind, Sem.run_pure, Result.andThen_ok, List.map_toArray, List.map_cons, List.map_nil, hs, hx, hr]
    exact hk
theorem wp_append_is {a : Act} {w : World} {K : Act → World → Prop} {Q : Exit → Act → World → Prop} {dst : Option Nat} {tt : TypeId} {pos : String} {after : Array Edge} {gd : Option (Nat × Bool)} (s x : Operand)
    (W0 : World) (v : Value) (ys : List IV) (hs : a.eval s = v) (hown : OwnV W0 v ys w) (xv : Value) (zs : List IV) (hx : a.eval x = xv) (hz : Is w xv zs) (hn : NilOkI xv) (hl : ys.length + zs.length ≤ 1000000)
    (h : ∀ v' w', OwnV W0 v' (ys ++ zs) w' → (v' = .slice none 0 0 ↔ v = .slice none 0 0 ∧ zs.length = 0) → w.grownBy w' v.ownBlock → K (a.put dst v') w') :
    Oper.wp Try.prog { dst := dst, op := .call { callee := .builtin .append, args := #[s, x], argTypes := #[25, 25] }, type := tt, pos := pos, after := after, guard := gd } a w K Q :=
  wp_append_rowI s x W0.heap.size v ys hs hown.own hown.bel.size xv zs hx hz hn hl (fun v' w' h1 h2 h3 => h v' w' ⟨h1, hown.bel.grown h3 hown.bel.size (fun b hb => (hown.own.lt b hb).1)⟩ h2 h3)
theorem wpList_append_is {ops : Array Oper} {rest : List Oper} {a : Act} {w : World} {Q : Exit → Act → World → Prop} {dst : Option Nat} {tt : TypeId} {pos : String} {after : Array Edge} (s x : Operand)
    (W0 : World) (v : Value) (ys : List IV) (hs : a.eval s = v) (hown : OwnV W0 v ys w) (xv : Value) (zs : List IV) (hx : a.eval x = xv) (hz : Is w xv zs) (hn : NilOkI xv) (hl : ys.length + zs.length ≤ 1000000)
    (h : ∀ v' w', OwnV W0 v' (ys ++ zs) w' → (v' = .slice none 0 0 ↔ v = .slice none 0 0 ∧ zs.length = 0) → w.grownBy w' v.ownBlock → wpList Try.prog ops Q rest (a.put dst v') w') :
    wpList Try.prog ops Q ({ dst := dst, op := .call { callee := .builtin .append, args := #[s, x], argTypes := #[25, 25] }, type := tt, pos := pos, after := after, guard := none } :: rest) a w :=
  wpList_plain rfl fun K hK => wp_append_is s x W0 v ys hs hown xv zs hx hz hn hl (fun v' w' h1 h2 h3 => hK _ _ (h v' w' h1 h2 h3))
end Go.Proofs.Ythfdkenidfnmgaa
namespace Go.Proofs.Ythfdkenidfnmgaa
open Go.ChangeShapes Go.WideShapes Go.ChangeAt Go.RowKit
set_option linter.unusedVariables false
set_option maxRecDepth 100000
def totalI (xs : List IV) : Nat := (xs.map (fun x => x.g.length)).sum
end Go.Proofs.Ythfdkenidfnmgaa
namespace Go.Proofs.Ythfdkenidfnmgaa
open Go.ChangeShapes Go.WideShapes Go.ChangeAt Go.RowKit
set_option linter.unusedVariables false
set_option linter.unusedSimpArgs false
set_option maxRecDepth 100000
abbrev eV (u : Value) (t : Int) : Value := .agg #[u, .int .i64 t]
def tot3 (es : List EV) : Nat := (es.map (fun x => x.r.length + totalS x.r)).sum
theorem tot3_snoc (es : List EV) (k : Nat) (h : k < es.length) : tot3 (es.take (k + 1)) = tot3 (es.take k) + ((es.getD k ez).r.length + totalS (es.getD k ez).r) := by
  rw [take_snoc_getD es k ez h]; simp [tot3]
end Go.Proofs.Ythfdkenidfnmgaa
namespace Go.Proofs.Ythfdkenidfnmgaa
open Go.ChangeShapes Go.WideShapes Go.ChangeAt Go.RowKit
set_option linter.unusedVariables false
set_option maxRecDepth 100000
def BRes (b : Bool) (w : World) (e : Ending) (w' : World) : Prop := e = .returned (.bool b) ∧ Below w.heap.size w w'
set_option maxRecDepth 100000 in
theorem eqInfo_any (w : World) (x y : IV) : Calls Try.prog 40 #[ivV x, ivV y] w (BRes (decide (x = y)) w) := by
  obtain ⟨xk, xg, xr⟩ := x
  obtain ⟨yk, yg, yr⟩ := y
  have HB : Hid (Below w.heap.size w ((w.alloc (.cells #[.int .i64 xk, .string ⟨xg.toArray⟩, .int .i64 xr] 57)).alloc (.cells #[.int .i64 yk, .string ⟨yg.toArray⟩, .int .i64 yr] 57))) := Lib.hid (((Below.refl _ _).alloc (Nat.le_refl _) _).alloc (by simp) _)
  obtain ⟨r, hr⟩ : ∃ r, r = decide ((⟨xk, xg, xr⟩ : IV) = ⟨yk, yg, yr⟩) := ⟨_, rfl⟩
  rw [← hr]
  by_cases h0 : xk = yk
  · by_cases h1 : xg = yg
    · by_cases h2 : xr = yr
      · have HR : Hid (r = true) := Lib.hid (by rw [hr]; exact decide_eq_true (iv_ext.2 ⟨h0, h1, h2⟩))
        have e0 : (xk != yk) = false := by simpa using h0
        have e1 : (xg == yg) = true := by simpa using h1
        have e2 : (xr != yr) = false := by simpa using h2
        clear h0 h1 h2 hr
        go_enter Try.func40, Try.ntmps40
        go_wp2
        go_ret
        exact ⟨by rw [HR.out]; rfl, HB.out⟩
      · have HR : Hid (r = false) := Lib.hid (by rw [hr]; exact decide_eq_false (fun hh => h2 (iv_ext.1 hh).2.2))
        have e0 : (xk != yk) = false := by simpa using h0
        have e1 : (xg == yg) = true := by simpa using h1
        have e2 : (xr != yr) = true := by simpa using h2
        clear h0 h1 h2 hr
        go_enter Try.func40, Try.ntmps40
        go_wp2
        go_ret
        exact ⟨by rw [HR.out]; rfl, HB.out⟩
    · have HR : Hid (r = false) := Lib.hid (by rw [hr]; exact decide_eq_false (fun hh => h1 (iv_ext.1 hh).2.1))
      have e0 : (xk != yk) = false := by simpa using h0
      have e1 : (xg == yg) = false := by simpa using h1
      clear h0 h1 hr
      go_enter Try.func40, Try.ntmps40
      go_wp2
      go_ret
      exact ⟨by rw [HR.out]; rfl, HB.out⟩
  · have HR : Hid (r = false) := Lib.hid (by rw [hr]; exact decide_eq_false (fun hh => h0 (iv_ext.1 hh).1))
    have e0 : (xk != yk) = true := by simpa using h0
    clear h0 hr
    go_enter Try.func40, Try.ntmps40
    go_wp2
    go_ret
    exact ⟨by rw [HR.out]; rfl, HB.out⟩
set_option maxRecDepth 100000 in
theorem eqInfoS_any (w : World) (v u : Value) (xs ys : List IV) (h : Is w v xs) (k : Is w u ys) : Calls Try.prog 20 #[v, u] w (BRes (decide (xs = ys)) w) := by
  obtain ⟨a, ca, rfl, ha1, ha2, ha3⟩ := h
  obtain ⟨b, cb, rfl, hb1, hb2, hb3⟩ := k
  unfold maxLen at ha2 hb2
  obtain ⟨r, hr⟩ : ∃ r, r = decide (xs = ys) := ⟨_, rfl⟩
  rw [← hr]
  have HR := Lib.hid hr
  have HA := Lib.hid ha3
  have HBs := Lib.hid hb3
  obtain ⟨m, hm⟩ : ∃ m, m = xs.length := ⟨_, rfl⟩
  obtain ⟨n, hn⟩ : ∃ n, n = ys.length := ⟨_, rfl⟩
  have HM := Lib.hid hm
  have HN := Lib.hid hn
  rw [← hm] at ha1 ⊢
  rw [← hn] at hb1 ⊢
  clear hm hn hr ha3 hb3
  by_cases hl : m = n
  · subst hl
    have hl' : ((m : Int) != (m : Int)) = false := by simp
    go_enter Try.func20, Try.ntmps20
    go_wp2
    go_loopw [5] (fun i wr => ∃ k : Nat, k ≤ m ∧ i = .int .i64 k ∧ Hid (Below w.heap.size w wr) ∧ Hid (xs.take k = ys.take k)) (fun i _ => m - (intOf i).toNat)
    case atStart => exact ⟨0, Nat.zero_le _, rfl, Lib.hid (Below.refl _ _), Lib.hid rfl⟩
    case round =>
      obtain ⟨k, hk, rfl, HBW, HTK⟩ := hrel
      by_cases hlt : k < m
      · obtain ⟨ba, oa, rfl, hfa⟩ := HA.out k (by have := HM.out; omega)
        obtain ⟨bb, ob, rfl, hfb⟩ := HBs.out k (by have := HN.out; omega)
        have hba := block_lt_of_cell hfa.c0
        have hbb := block_lt_of_cell hfb.c0
        obtain ⟨x, hx⟩ : ∃ x, x = xs.getD k iz := ⟨_, rfl⟩
        obtain ⟨y, hy⟩ : ∃ y, y = ys.getD k iz := ⟨_, rfl⟩
        rw [← hx] at hfa
        rw [← hy] at hfb
        have HFA := Lib.hid hfa
        have HFB := Lib.hid hfb
        have HX := Lib.hid hx
        have HY := Lib.hid hy
        have FA : Hid (Tri wr.drew ba (oa + k * 3) x) := Lib.hid (hfa.below HBW.out.drew hba)
        have FB : Hid (Tri wr.drew bb (ob + k * 3) y) := Lib.hid (hfb.below HBW.out.drew hbb)
        have HC1 := Lib.hid (eqInfo_any wr.drew x y)
        have hlt' : (k : Int) < (m : Int) := by omega
        clear hx hy hfa hfb
        by_cases he : x = y
        · rw [decide_eq_true he] at HC1
          have HT2 : Hid (xs.take (k + 1) = ys.take (k + 1)) := Lib.hid (take_eq_succ (d := iz) (by rw [← HM.out, ← HN.out]) (by have := HM.out; omega) HTK.out (by rw [← HX.out, ← HY.out]; exact he))
          clear he
          go_wp2_with fail
          refine wp_region_held_drew (S := fun w' => Tri w' ba (oa + k * 3) x ∧ Tri w' bb (ob + k * 3) y) (by kernel_rfl) ⟨FA.out, FB.out⟩ (fun hHeld => ?_)
          refine wpAnyH_take (i := 0) (oi := { dst := some 17, op := .move (.tmp 0), type := _, pos := _, after := _, guard := none }) (v := .slice (some ⟨ba, oa, none⟩) m ca) rfl (by kernel_rfl) (by kernel_rfl) (by kernel_rfl) (fun _ _ _ h => h) (Or.inl ⟨by rfl, fun wh hSw => ?_⟩) hHeld ?_
          · (obtain ⟨⟨s0, s1, s2⟩, t0, t1, t2⟩ := hSw; go_simp)
          try simp only [Act.put, List.setIfInBounds_toArray, List.set_cons_zero, List.set_cons_succ]
          refine wpAnyH_take (i := 1) (oi := { dst := some 18, op := .move (.tmp 5), type := _, pos := _, after := _, guard := none }) (v := .int .i64 (k : Int)) rfl (by kernel_rfl) (by kernel_rfl) (by kernel_rfl) (fun _ _ _ h => h) (Or.inl ⟨by rfl, fun wh hSw => ?_⟩) hHeld ?_
          · (obtain ⟨⟨s0, s1, s2⟩, t0, t1, t2⟩ := hSw; go_simp)
          try simp only [Act.put, List.setIfInBounds_toArray, List.set_cons_zero, List.set_cons_succ]
          refine wpAnyH_take (i := 2) (oi := { dst := some 19, op := .indexAddr 25 (.tmp 17) (.tmp 18), type := _, pos := _, after := _, guard := none }) (v := .pointer (some ⟨ba, oa + k * 3, none⟩)) rfl (by kernel_rfl) (by kernel_rfl) (by kernel_rfl) (fun _ _ _ h => h) (Or.inl ⟨by rfl, fun wh hSw => ?_⟩) hHeld ?_
          · (obtain ⟨⟨s0, s1, s2⟩, t0, t1, t2⟩ := hSw; go_simp)
          try simp only [Act.put, List.setIfInBounds_toArray, List.set_cons_zero, List.set_cons_succ]
          refine wpAnyH_take (i := 3) (oi := { dst := some 20, op := .load 57 (.tmp 19), type := _, pos := _, after := _, guard := none }) (v := ivV x) rfl (by kernel_rfl) (by kernel_rfl) (by kernel_rfl) (fun _ _ _ h => h) (Or.inl ⟨by rfl, fun wh hSw => ?_⟩) hHeld ?_
          · (obtain ⟨⟨s0, s1, s2⟩, t0, t1, t2⟩ := hSw; go_simp)
          try simp only [Act.put, List.setIfInBounds_toArray, List.set_cons_zero, List.set_cons_succ]
          refine wpAnyH_take (i := 4) (oi := { dst := some 21, op := .move (.tmp 1), type := _, pos := _, after := _, guard := none }) (v := .slice (some ⟨bb, ob, none⟩) m cb) rfl (by kernel_rfl) (by kernel_rfl) (by kernel_rfl) (fun _ _ _ h => h) (Or.inl ⟨by rfl, fun wh hSw => ?_⟩) hHeld ?_
          · (obtain ⟨⟨s0, s1, s2⟩, t0, t1, t2⟩ := hSw; go_simp)
          try simp only [Act.put, List.setIfInBounds_toArray, List.set_cons_zero, List.set_cons_succ]
          refine wpAnyH_take (i := 5) (oi := { dst := some 22, op := .move (.tmp 5), type := _, pos := _, after := _, guard := none }) (v := .int .i64 (k : Int)) rfl (by kernel_rfl) (by kernel_rfl) (by kernel_rfl) (fun _ _ _ h => h) (Or.inl ⟨by rfl, fun wh hSw => ?_⟩) hHeld ?_
          · (obtain ⟨⟨s0, s1, s2⟩, t0, t1, t2⟩ := hSw; go_simp)
          try simp only [Act.put, List.setIfInBounds_toArray, List.set_cons_zero, List.set_cons_succ]
          refine wpAnyH_take (i := 6) (oi := { dst := some 23, op := .indexAddr 25 (.tmp 21) (.tmp 22), type := _, pos := _, after := _, guard := none }) (v := .pointer (some ⟨bb, ob + k * 3, none⟩)) rfl (by kernel_rfl) (by kernel_rfl) (by kernel_rfl) (fun _ _ _ h => h) (Or.inl ⟨by rfl, fun wh hSw => ?_⟩) hHeld ?_
          · (obtain ⟨⟨s0, s1, s2⟩, t0, t1, t2⟩ := hSw; go_simp)
          try simp only [Act.put, List.setIfInBounds_toArray, List.set_cons_zero, List.set_cons_succ]
          refine wpAnyH_take (i := 7) (oi := { dst := some 24, op := .load 57 (.tmp 23), type := _, pos := _, after := _, guard := none }) (v := ivV y) rfl (by kernel_rfl) (by kernel_rfl) (by kernel_rfl) (fun _ _ _ h => h) (Or.inl ⟨by rfl, fun wh hSw => ?_⟩) hHeld ?_
          · (obtain ⟨⟨s0, s1, s2⟩, t0, t1, t2⟩ := hSw; go_simp)
          try simp only [Act.put, List.setIfInBounds_toArray, List.set_cons_zero, List.set_cons_succ]
          refine wpAnyH_ready (rs := [8]) (by kernel_rfl) (by simp) ?_
          refine AllReadyH.cons (o := { dst := some 25, op := .call { callee := .value (.func 40), args := #[.tmp 20, .tmp 24], argTypes := #[57, 57] }, type := _, pos := _, after := _, guard := none }) rfl (fun K hK => ?_) AllReadyH.nil
          go_simp
          refine HC1.out.mono ?_
          rintro e w1 ⟨rfl, hb1⟩
          have HB1 := Lib.hid ((HBW.out.drew).trans (hb1.mono HBW.out.size))
          clear hb1
          try go_simp
          refine hK.out _ _ ?_ (fun hHeld => ?_)
          · exact ⟨HFA.out.below HB1.out hba, HFB.out.below HB1.out hbb⟩
          clear hK K
          try simp only [Act.put, List.setIfInBounds_toArray, List.set_cons_zero, List.set_cons_succ]
          refine wpAnyH_take (i := 9) (oi := { dst := some 26, op := .unOp .not 4 (.tmp 25), type := _, pos := _, after := _, guard := none }) (v := .bool false) rfl (by kernel_rfl) (by kernel_rfl) (by kernel_rfl) (fun _ _ _ h => h) (Or.inl ⟨by rfl, fun wh hSw => ?_⟩) hHeld ?_
          · (obtain ⟨⟨s0, s1, s2⟩, t0, t1, t2⟩ := hSw; go_simp)
          try simp only [Act.put, List.setIfInBounds_toArray, List.set_cons_zero, List.set_cons_succ]
          refine wpAnyH_done (by kernel_rfl) ?_ _
          go_wp2
          go_roundw
          case rel => exact ⟨k + 1, by omega, by go_num, HB1, HT2⟩
          case measure => simp [intOf]; omega
        · rw [decide_eq_false he] at HC1
          have HF : Hid (r = false) := Lib.hid (by rw [HR.out]; exact decide_eq_false (fun hh => he (by rw [HX.out, HY.out, hh])))
          clear he
          go_wp2_with fail
          refine wp_region_held_drew (S := fun w' => Tri w' ba (oa + k * 3) x ∧ Tri w' bb (ob + k * 3) y) (by kernel_rfl) ⟨FA.out, FB.out⟩ (fun hHeld => ?_)
          refine wpAnyH_take (i := 0) (oi := { dst := some 17, op := .move (.tmp 0), type := _, pos := _, after := _, guard := none }) (v := .slice (some ⟨ba, oa, none⟩) m ca) rfl (by kernel_rfl) (by kernel_rfl) (by kernel_rfl) (fun _ _ _ h => h) (Or.inl ⟨by rfl, fun wh hSw => ?_⟩) hHeld ?_
          · (obtain ⟨⟨s0, s1, s2⟩, t0, t1, t2⟩ := hSw; go_simp)
          try simp only [Act.put, List.setIfInBounds_toArray, List.set_cons_zero, List.set_cons_succ]
          refine wpAnyH_take (i := 1) (oi := { dst := some 18, op := .move (.tmp 5), type := _, pos := _, after := _, guard := none }) (v := .int .i64 (k : Int)) rfl (by kernel_rfl) (by kernel_rfl) (by kernel_rfl) (fun _ _ _ h => h) (Or.inl ⟨by rfl, fun wh hSw => ?_⟩) hHeld ?_
          · (obtain ⟨⟨s0, s1, s2⟩, t0, t1, t2⟩ := hSw; go_simp)
          try simp only [Act.put, List.setIfInBounds_toArray, List.set_cons_zero, List.set_cons_succ]
          refine wpAnyH_take (i := 2) (oi := { dst := some 19, op := .indexAddr 25 (.tmp 17) (.tmp 18), type := _, pos := _, after := _, guard := none }) (v := .pointer (some ⟨ba, oa + k * 3, none⟩)) rfl (by kernel_rfl) (by kernel_rfl) (by kernel_rfl) (fun _ _ _ h => h) (Or.inl ⟨by rfl, fun wh hSw => ?_⟩) hHeld ?_
          · (obtain ⟨⟨s0, s1, s2⟩, t0, t1, t2⟩ := hSw; go_simp)
          try simp only [Act.put, List.setIfInBounds_toArray, List.set_cons_zero, List.set_cons_succ]
          refine wpAnyH_take (i := 3) (oi := { dst := some 20, op := .load 57 (.tmp 19), type := _, pos := _, after := _, guard := none }) (v := ivV x) rfl (by kernel_rfl) (by kernel_rfl) (by kernel_rfl) (fun _ _ _ h => h) (Or.inl ⟨by rfl, fun wh hSw => ?_⟩) hHeld ?_
          · (obtain ⟨⟨s0, s1, s2⟩, t0, t1, t2⟩ := hSw; go_simp)
          try simp only [Act.put, List.setIfInBounds_toArray, List.set_cons_zero, List.set_cons_succ]
          refine wpAnyH_take (i := 4) (oi := { dst := some 21, op := .move (.tmp 1), type := _, pos := _, after := _, guard := none }) (v := .slice (some ⟨bb, ob, none⟩) m cb) rfl (by kernel_rfl) (by kernel_rfl) (by kernel_rfl) (fun _ _ _ h => h) (Or.inl ⟨by rfl, fun wh hSw => ?_⟩) hHeld ?_
          · (obtain ⟨⟨s0, s1, s2⟩, t0, t1, t2⟩ := hSw; go_simp)
          try simp only [Act.put, List.setIfInBounds_toArray, List.set_cons_zero, List.set_cons_succ]
          refine wpAnyH_take (i := 5) (oi := { dst := some 22, op := .move (.tmp 5), type := _, pos := _, after := _, guard := none }) (v := .int .i64 (k : Int)) rfl (by kernel_rfl) (by kernel_rfl) (by kernel_rfl) (fun _ _ _ h => h) (Or.inl ⟨by rfl, fun wh hSw => ?_⟩) hHeld ?_
          · (obtain ⟨⟨s0, s1, s2⟩, t0, t1, t2⟩ := hSw; go_simp)
          try simp only [Act.put, List.setIfInBounds_toArray, List.set_cons_zero, List.set_cons_succ]
          refine wpAnyH_take (i := 6) (oi := { dst := some 23, op := .indexAddr 25 (.tmp 21) (.tmp 22), type := _, pos := _, after := _, guard := none }) (v := .pointer (some ⟨bb, ob + k * 3, none⟩)) rfl (by kernel_rfl) (by kernel_rfl) (by kernel_rfl) (fun _ _ _ h => h) (Or.inl ⟨by rfl, fun wh hSw => ?_⟩) hHeld ?_
          · (obtain ⟨⟨s0, s1, s2⟩, t0, t1, t2⟩ := hSw; go_simp)
          try simp only [Act.put, List.setIfInBounds_toArray, List.set_cons_zero, List.set_cons_succ]
          refine wpAnyH_take (i := 7) (oi := { dst := some 24, op := .load 57 (.tmp 23), type := _, pos := _, after := _, guard := none }) (v := ivV y) rfl (by kernel_rfl) (by kernel_rfl) (by kernel_rfl) (fun _ _ _ h => h) (Or.inl ⟨by rfl, fun wh hSw => ?_⟩) hHeld ?_
          · (obtain ⟨⟨s0, s1, s2⟩, t0, t1, t2⟩ := hSw; go_simp)
          try simp only [Act.put, List.setIfInBounds_toArray, List.set_cons_zero, List.set_cons_succ]
          refine wpAnyH_ready (rs := [8]) (by kernel_rfl) (by simp) ?_
          refine AllReadyH.cons (o := { dst := some 25, op := .call { callee := .value (.func 40), args := #[.tmp 20, .tmp 24], argTypes := #[57, 57] }, type := _, pos := _, after := _, guard := none }) rfl (fun K hK => ?_) AllReadyH.nil
          go_simp
          refine HC1.out.mono ?_
          rintro e w1 ⟨rfl, hb1⟩
          have HB1 := Lib.hid ((HBW.out.drew).trans (hb1.mono HBW.out.size))
          clear hb1
          try go_simp
          refine hK.out _ _ ?_ (fun hHeld => ?_)
          · exact ⟨HFA.out.below HB1.out hba, HFB.out.below HB1.out hbb⟩
          clear hK K
          try simp only [Act.put, List.setIfInBounds_toArray, List.set_cons_zero, List.set_cons_succ]
          refine wpAnyH_take (i := 9) (oi := { dst := some 26, op := .unOp .not 4 (.tmp 25), type := _, pos := _, after := _, guard := none }) (v := .bool true) rfl (by kernel_rfl) (by kernel_rfl) (by kernel_rfl) (fun _ _ _ h => h) (Or.inl ⟨by rfl, fun wh hSw => ?_⟩) hHeld ?_
          · (obtain ⟨⟨s0, s1, s2⟩, t0, t1, t2⟩ := hSw; go_simp)
          try simp only [Act.put, List.setIfInBounds_toArray, List.set_cons_zero, List.set_cons_succ]
          refine wpAnyH_done (by kernel_rfl) ?_ _
          go_wp2
          go_ret
          exact ⟨by rw [HF.out]; rfl, HB1.out⟩
      · have ek : k = m := by omega
        subst ek
        have HF : Hid (r = true) := Lib.hid (by rw [HR.out]; exact decide_eq_true (eq_of_take (by rw [← HM.out, ← HN.out]) HM.out HTK.out))
        go_wp2
        go_ret
        exact ⟨by rw [HF.out]; rfl, HBW.out⟩
  · have hl' : ((m : Int) != (n : Int)) = true := by simp; omega
    have HF : Hid (r = false) := Lib.hid (by rw [HR.out]; exact decide_eq_false (fun hh => hl (by rw [HM.out, HN.out, hh])))
    go_enter Try.func20, Try.ntmps20
    go_wp2
    go_ret
    exact ⟨by rw [HF.out]; rfl, Below.refl _ _⟩
end Go.Proofs.Ythfdkenidfnmgaa
namespace Go.Proofs.Ythfdkenidfnmgaa
open Go.ChangeShapes Go.WideShapes Go.ChangeAt Go.RowKit
set_option linter.unusedVariables false
set_option linter.unusedSimpArgs false
set_option maxRecDepth 100000
theorem reads_below {b : Bool} {w : World} {e : Ending} {w' : World} (h : Reads (.bool b) w e w') : e = .returned (.bool b) ∧ Below w.heap.size w w' := by
  obtain ⟨he, n, hw⟩ := h
  refine ⟨he, ?_⟩
  rw [hw]
  exact ⟨rfl, rfl, rfl, Nat.le_refl _, fun _ _ => rfl⟩
theorem two_first (w : World) (u a : Value) (t : TypeId) (o : Obj) : ((w.alloc (.cells #[u, a] t)).alloc o).cell? ⟨w.heap.size, 1, none⟩ = some a := by
  rw [World.cell?_alloc_past _ _ _ (by simp)]
  exact new_cell rfl
theorem two_second (w : World) (u a : Value) (t : TypeId) (o : Obj) : ((w.alloc o).alloc (.cells #[u, a] t)).cell? ⟨w.heap.size + 1, 1, none⟩ = some a := by
  have : ((w.alloc o).alloc (.cells #[u, a] t)).cell? ⟨(w.alloc o).heap.size, 1, none⟩ = some a := new_cell rfl
  rwa [World.size_alloc] at this
theorem eqEnv_any (w : World) (u v : Value) (x y : EV) (hu : Strs w u x.r) (hv : Strs w v y.r) :
    Calls Try.prog 41 #[eV u x.t, eV v y.t] w (BRes (decide (x = y)) w) := by
  obtain ⟨xr, xt⟩ := x
  obtain ⟨yr, yt⟩ := y
  dsimp only at hu hv ⊢
  have HB : Hid (∀ o1 o2, Below w.heap.size w ((w.alloc o1).alloc o2)) := Lib.hid (fun o1 o2 => ((Below.refl _ _).alloc (Nat.le_refl _) _).alloc (by simp) _)
  have HC : Hid (∀ o1 o2, Calls Try.prog 23 #[u, v] ((w.alloc o1).alloc o2) (BRes (decide (xr = yr)) ((w.alloc o1).alloc o2))) := Lib.hid (fun o1 o2 => (eqStringS_any _ u v xr yr (hu.below (HB.out o1 o2)) (hv.below (HB.out o1 o2))).mono fun e w' h => reads_below h)
  obtain ⟨r, hr⟩ : ∃ r, r = decide ((⟨xr, xt⟩ : EV) = ⟨yr, yt⟩) := ⟨_, rfl⟩
  have HR : Hid (r = (decide (xr = yr) && decide (xt = yt))) := Lib.hid (by rw [hr, Bool.eq_iff_iff]; simp)
  rw [← hr]
  obtain ⟨q, hq⟩ : ∃ q, q = decide (xr = yr) := ⟨_, rfl⟩
  rw [← hq] at HC HR
  clear hr hq hu hv
  unfold BRes at HC
  cases q with
  | false =>
    go_enter Try.func41, Try.ntmps41
    go_wp2_with fail
    refine (HC.out _ _).mono ?_
    rintro e w' ⟨rfl, hb⟩
    have B1 := Lib.hid ((HB.out _ _).trans (hb.mono (HB.out _ _).size))
    clear hb
    go_wp2_with fail
    go_ret
    exact ⟨by rw [HR.out]; rfl, B1.out⟩
  | true =>
    by_cases ht : xt = yt
    · have HT : Hid (r = true) := Lib.hid (by rw [HR.out, decide_eq_true ht]; rfl)
      have ht' : (xt != yt) = false := by simpa using ht
      clear ht
      go_enter Try.func41, Try.ntmps41
      go_wp2_with fail
      refine (HC.out _ _).mono ?_
      rintro e w' ⟨rfl, hb⟩
      have B1 := Lib.hid ((HB.out _ _).trans (hb.mono (HB.out _ _).size))
      have q1 := (hb.cell (p := ⟨w.heap.size, 1, none⟩) (by simp; omega)).trans (two_first w u (.int .i64 xt) _ _)
      have q2 := (hb.cell (p := ⟨w.heap.size + 1, 1, none⟩) (by simp)).trans (two_second w v (.int .i64 yt) _ _)
      clear hb
      go_wp2_with fail
      go_ret
      exact ⟨by rw [HT.out]; rfl, B1.out⟩
    · have HT : Hid (r = false) := Lib.hid (by rw [HR.out, decide_eq_false ht]; rfl)
      have ht' : (xt != yt) = true := by simpa using ht
      clear ht
      go_enter Try.func41, Try.ntmps41
      go_wp2_with fail
      refine (HC.out _ _).mono ?_
      rintro e w' ⟨rfl, hb⟩
      have B1 := Lib.hid ((HB.out _ _).trans (hb.mono (HB.out _ _).size))
      have q1 := (hb.cell (p := ⟨w.heap.size, 1, none⟩) (by simp; omega)).trans (two_first w u (.int .i64 xt) _ _)
      have q2 := (hb.cell (p := ⟨w.heap.size + 1, 1, none⟩) (by simp)).trans (two_second w v (.int .i64 yt) _ _)
      clear hb
      go_wp2_with fail
      go_ret
      exact ⟨by rw [HT.out]; rfl, B1.out⟩
theorem eqEnvS_any (w : World) (va vb : Value) (xs ys : List EV) (ha : Es w va xs) (hb : Es w vb ys) :
    Calls Try.prog 21 #[va, vb] w (BRes (decide (xs = ys)) w) := by
  obtain ⟨a, ca, rfl, hla, hma, hxa⟩ := ha
  obtain ⟨b, cb, rfl, hlb, hmb, hxb⟩ := hb
  unfold maxLen at hma hmb
  obtain ⟨r, hr⟩ : ∃ r, r = decide (xs = ys) := ⟨_, rfl⟩
  have HR := Lib.hid hr
  rw [← hr]
  clear hr
  by_cases hl : xs.length = ys.length
  · obtain ⟨n, hn⟩ : ∃ n, n = xs.length := ⟨_, rfl⟩
    have hn2 : ys.length = n := by omega
    rw [← hn] at hla hxa ⊢
    rw [hn2] at hlb hxb ⊢
    have HN := Lib.hid hn
    have HN2 := Lib.hid hn2
    have HA := Lib.hid hxa
    have HB := Lib.hid hxb
    clear hn hn2 hl hxa hxb
    go_enter Try.func21, Try.ntmps21
    go_wp2
    go_loopw [5] (fun i wr => ∃ k : Nat, k ≤ n ∧ i = .int .i64 k ∧ Hid (xs.take k = ys.take k) ∧ Hid (Below w.heap.size w wr)) (fun i _ => n - (intOf i).toNat)
    case atStart => exact ⟨0, Nat.zero_le _, rfl, Lib.hid rfl, Lib.hid (Below.refl _ _)⟩
    case round =>
      obtain ⟨k, hk, rfl, HT, HBW⟩ := hrel
      by_cases hlt : k < n
      · obtain ⟨ba, oa, ua, rfl, hca0, hda0, hia⟩ := HA.out k hlt
        obtain ⟨bb, ob, ub, rfl, hcb0, hdb0, hib⟩ := HB.out k hlt
        have hba := cell_lt hca0
        have hbb := cell_lt hcb0
        have hba1 := cell_lt hda0
        have hbb1 := cell_lt hdb0
        have HC := Lib.hid (eqEnv_any wr.drew ua ub (xs.getD k ez) (ys.getD k ez) (hia.below HBW.out.drew) (hib.below HBW.out.drew))
        generalize hx : xs.getD k ez = x at HC hda0
        generalize hy : ys.getD k ez = y at HC hdb0
        have HX := Lib.hid hx
        have HY := Lib.hid hy
        have FA0 := Lib.hid hca0
        have FA1 := Lib.hid hda0
        have FB0 := Lib.hid hcb0
        have FB1 := Lib.hid hdb0
        have FS : Hid (∀ w', Below w.heap.size w w' → w'.cell? ⟨ba, oa + k * 2, none⟩ = some ua ∧ w'.cell? ⟨ba, oa + k * 2 + 1, none⟩ = some (.int .i64 x.t) ∧ w'.cell? ⟨bb, ob + k * 2, none⟩ = some ub ∧ w'.cell? ⟨bb, ob + k * 2 + 1, none⟩ = some (.int .i64 y.t)) := Lib.hid (fun w' hw => ⟨(hw.cell hba).trans FA0.out, (hw.cell hba1).trans FA1.out, (hw.cell hbb).trans FB0.out, (hw.cell hbb1).trans FB1.out⟩)
        clear hx hy hia hib hca0 hda0 hcb0 hdb0 hba hbb hba1 hbb1
        have hlt' : (k : Int) < (n : Int) := by omega
        obtain ⟨q, hq⟩ : ∃ q, q = decide (x = y) := ⟨_, rfl⟩
        rw [← hq] at HC
        have HQ := Lib.hid hq
        clear hq
        unfold BRes at HC
        cases q with
        | true =>
          have HE : Hid (x = y) := Lib.hid (of_decide_eq_true HQ.out.symm)
          go_wp2_with fail
          refine wp_region_held_drew (S := fun w' => w'.cell? ⟨ba, oa + k * 2, none⟩ = some ua ∧ w'.cell? ⟨ba, oa + k * 2 + 1, none⟩ = some (.int .i64 x.t) ∧ w'.cell? ⟨bb, ob + k * 2, none⟩ = some ub ∧ w'.cell? ⟨bb, ob + k * 2 + 1, none⟩ = some (.int .i64 y.t)) (by kernel_rfl) (FS.out _ HBW.out.drew) (fun hHeld => ?_)
          refine wpAnyH_take (i := 0) (oi := { dst := some 17, op := .move (.tmp 0), type := _, pos := _, after := _, guard := none }) (v := .slice (some ⟨ba, oa, none⟩) n ca) rfl (by kernel_rfl) (by kernel_rfl) (by kernel_rfl) (fun _ _ _ h => h) (Or.inl ⟨by rfl, fun wh hSw => ?_⟩) hHeld ?_
          · (obtain ⟨s0, s1, t0, t1⟩ := hSw; go_simp)
          try simp only [Act.put, List.setIfInBounds_toArray, List.set_cons_zero, List.set_cons_succ]
          refine wpAnyH_take (i := 1) (oi := { dst := some 18, op := .move (.tmp 5), type := _, pos := _, after := _, guard := none }) (v := .int .i64 (k : Int)) rfl (by kernel_rfl) (by kernel_rfl) (by kernel_rfl) (fun _ _ _ h => h) (Or.inl ⟨by rfl, fun wh hSw => ?_⟩) hHeld ?_
          · (obtain ⟨s0, s1, t0, t1⟩ := hSw; go_simp)
          try simp only [Act.put, List.setIfInBounds_toArray, List.set_cons_zero, List.set_cons_succ]
          refine wpAnyH_take (i := 2) (oi := { dst := some 19, op := .indexAddr 26 (.tmp 17) (.tmp 18), type := _, pos := _, after := _, guard := none }) (v := .pointer (some ⟨ba, oa + k * 2, none⟩)) rfl (by kernel_rfl) (by kernel_rfl) (by kernel_rfl) (fun _ _ _ h => h) (Or.inl ⟨by rfl, fun wh hSw => ?_⟩) hHeld ?_
          · (obtain ⟨s0, s1, t0, t1⟩ := hSw; go_simp)
          try simp only [Act.put, List.setIfInBounds_toArray, List.set_cons_zero, List.set_cons_succ]
          refine wpAnyH_take (i := 3) (oi := { dst := some 20, op := .load 42 (.tmp 19), type := _, pos := _, after := _, guard := none }) (v := eV ua x.t) rfl (by kernel_rfl) (by kernel_rfl) (by kernel_rfl) (fun _ _ _ h => h) (Or.inl ⟨by rfl, fun wh hSw => ?_⟩) hHeld ?_
          · (obtain ⟨s0, s1, t0, t1⟩ := hSw; go_simp)
          try simp only [Act.put, List.setIfInBounds_toArray, List.set_cons_zero, List.set_cons_succ]
          refine wpAnyH_take (i := 4) (oi := { dst := some 21, op := .move (.tmp 1), type := _, pos := _, after := _, guard := none }) (v := .slice (some ⟨bb, ob, none⟩) n cb) rfl (by kernel_rfl) (by kernel_rfl) (by kernel_rfl) (fun _ _ _ h => h) (Or.inl ⟨by rfl, fun wh hSw => ?_⟩) hHeld ?_
          · (obtain ⟨s0, s1, t0, t1⟩ := hSw; go_simp)
          try simp only [Act.put, List.setIfInBounds_toArray, List.set_cons_zero, List.set_cons_succ]
          refine wpAnyH_take (i := 5) (oi := { dst := some 22, op := .move (.tmp 5), type := _, pos := _, after := _, guard := none }) (v := .int .i64 (k : Int)) rfl (by kernel_rfl) (by kernel_rfl) (by kernel_rfl) (fun _ _ _ h => h) (Or.inl ⟨by rfl, fun wh hSw => ?_⟩) hHeld ?_
          · (obtain ⟨s0, s1, t0, t1⟩ := hSw; go_simp)
          try simp only [Act.put, List.setIfInBounds_toArray, List.set_cons_zero, List.set_cons_succ]
          refine wpAnyH_take (i := 6) (oi := { dst := some 23, op := .indexAddr 26 (.tmp 21) (.tmp 22), type := _, pos := _, after := _, guard := none }) (v := .pointer (some ⟨bb, ob + k * 2, none⟩)) rfl (by kernel_rfl) (by kernel_rfl) (by kernel_rfl) (fun _ _ _ h => h) (Or.inl ⟨by rfl, fun wh hSw => ?_⟩) hHeld ?_
          · (obtain ⟨s0, s1, t0, t1⟩ := hSw; go_simp)
          try simp only [Act.put, List.setIfInBounds_toArray, List.set_cons_zero, List.set_cons_succ]
          refine wpAnyH_take (i := 7) (oi := { dst := some 24, op := .load 42 (.tmp 23), type := _, pos := _, after := _, guard := none }) (v := eV ub y.t) rfl (by kernel_rfl) (by kernel_rfl) (by kernel_rfl) (fun _ _ _ h => h) (Or.inl ⟨by rfl, fun wh hSw => ?_⟩) hHeld ?_
          · (obtain ⟨s0, s1, t0, t1⟩ := hSw; go_simp)
          try simp only [Act.put, List.setIfInBounds_toArray, List.set_cons_zero, List.set_cons_succ]
          refine wpAnyH_ready (rs := [8]) (by kernel_rfl) (by simp) ?_
          refine AllReadyH.cons (o := { dst := some 25, op := .call { callee := .value (.func 41), args := #[.tmp 20, .tmp 24], argTypes := #[42, 42] }, type := _, pos := _, after := _, guard := none }) rfl (fun K hK => ?_) AllReadyH.nil
          go_simp
          refine HC.out.mono ?_
          rintro e w1 ⟨rfl, hb1⟩
          have HB1 := Lib.hid ((HBW.out.drew).trans (hb1.mono HBW.out.size))
          clear hb1
          try go_simp
          refine hK.out _ _ ?_ (fun hHeld => ?_)
          · exact FS.out _ HB1.out
          clear hK K
          try simp only [Act.put, List.setIfInBounds_toArray, List.set_cons_zero, List.set_cons_succ]
          refine wpAnyH_take (i := 9) (oi := { dst := some 26, op := .unOp .not 4 (.tmp 25), type := _, pos := _, after := _, guard := none }) (v := .bool false) rfl (by kernel_rfl) (by kernel_rfl) (by kernel_rfl) (fun _ _ _ h => h) (Or.inl ⟨by rfl, fun wh hSw => ?_⟩) hHeld ?_
          · (obtain ⟨s0, s1, t0, t1⟩ := hSw; go_simp)
          try simp only [Act.put, List.setIfInBounds_toArray, List.set_cons_zero, List.set_cons_succ]
          refine wpAnyH_done (by kernel_rfl) ?_ _
          go_wp2
          go_roundw
          case rel => exact ⟨k + 1, by omega, by go_num, Lib.hid (take_eq_succ (d := ez) (HN.out.symm.trans HN2.out.symm) (by have := HN.out; omega) HT.out (HX.out.trans (HE.out.trans HY.out.symm))), HB1⟩
          case measure => simp [intOf]; omega
        | false =>
          have HE : Hid (¬ x = y) := Lib.hid (of_decide_eq_false HQ.out.symm)
          go_wp2_with fail
          refine wp_region_held_drew (S := fun w' => w'.cell? ⟨ba, oa + k * 2, none⟩ = some ua ∧ w'.cell? ⟨ba, oa + k * 2 + 1, none⟩ = some (.int .i64 x.t) ∧ w'.cell? ⟨bb, ob + k * 2, none⟩ = some ub ∧ w'.cell? ⟨bb, ob + k * 2 + 1, none⟩ = some (.int .i64 y.t)) (by kernel_rfl) (FS.out _ HBW.out.drew) (fun hHeld => ?_)
          refine wpAnyH_take (i := 0) (oi := { dst := some 17, op := .move (.tmp 0), type := _, pos := _, after := _, guard := none }) (v := .slice (some ⟨ba, oa, none⟩) n ca) rfl (by kernel_rfl) (by kernel_rfl) (by kernel_rfl) (fun _ _ _ h => h) (Or.inl ⟨by rfl, fun wh hSw => ?_⟩) hHeld ?_
          · (obtain ⟨s0, s1, t0, t1⟩ := hSw; go_simp)
          try simp only [Act.put, List.setIfInBounds_toArray, List.set_cons_zero, List.set_cons_succ]
          refine wpAnyH_take (i := 1) (oi := { dst := some 18, op := .move (.tmp 5), type := _, pos := _, after := _, guard := none }) (v := .int .i64 (k : Int)) rfl (by kernel_rfl) (by kernel_rfl) (by kernel_rfl) (fun _ _ _ h => h) (Or.inl ⟨by rfl, fun wh hSw => ?_⟩) hHeld ?_
          · (obtain ⟨s0, s1, t0, t1⟩ := hSw; go_simp)
          try simp only [Act.put, List.setIfInBounds_toArray, List.set_cons_zero, List.set_cons_succ]
          refine wpAnyH_take (i := 2) (oi := { dst := some 19, op := .indexAddr 26 (.tmp 17) (.tmp 18), type := _, pos := _, after := _, guard := none }) (v := .pointer (some ⟨ba, oa + k * 2, none⟩)) rfl (by kernel_rfl) (by kernel_rfl) (by kernel_rfl) (fun _ _ _ h => h) (Or.inl ⟨by rfl, fun wh hSw => ?_⟩) hHeld ?_
          · (obtain ⟨s0, s1, t0, t1⟩ := hSw; go_simp)
          try simp only [Act.put, List.setIfInBounds_toArray, List.set_cons_zero, List.set_cons_succ]
          refine wpAnyH_take (i := 3) (oi := { dst := some 20, op := .load 42 (.tmp 19), type := _, pos := _, after := _, guard := none }) (v := eV ua x.t) rfl (by kernel_rfl) (by kernel_rfl) (by kernel_rfl) (fun _ _ _ h => h) (Or.inl ⟨by rfl, fun wh hSw => ?_⟩) hHeld ?_
          · (obtain ⟨s0, s1, t0, t1⟩ := hSw; go_simp)
          try simp only [Act.put, List.setIfInBounds_toArray, List.set_cons_zero, List.set_cons_succ]
          refine wpAnyH_take (i := 4) (oi := { dst := some 21, op := .move (.tmp 1), type := _, pos := _, after := _, guard := none }) (v := .slice (some ⟨bb, ob, none⟩) n cb) rfl (by kernel_rfl) (by kernel_rfl) (by kernel_rfl) (fun _ _ _ h => h) (Or.inl ⟨by rfl, fun wh hSw => ?_⟩) hHeld ?_
          · (obtain ⟨s0, s1, t0, t1⟩ := hSw; go_simp)
          try simp only [Act.put, List.setIfInBounds_toArray, List.set_cons_zero, List.set_cons_succ]
          refine wpAnyH_take (i := 5) (oi := { dst := some 22, op := .move (.tmp 5), type := _, pos := _, after := _, guard := none }) (v := .int .i64 (k : Int)) rfl (by kernel_rfl) (by kernel_rfl) (by kernel_rfl) (fun _ _ _ h => h) (Or.inl ⟨by rfl, fun wh hSw => ?_⟩) hHeld ?_
          · (obtain ⟨s0, s1, t0, t1⟩ := hSw; go_simp)
          try simp only [Act.put, List.setIfInBounds_toArray, List.set_cons_zero, List.set_cons_succ]
          refine wpAnyH_take (i := 6) (oi := { dst := some 23, op := .indexAddr 26 (.tmp 21) (.tmp 22), type := _, pos := _, after := _, guard := none }) (v := .pointer (some ⟨bb, ob + k * 2, none⟩)) rfl (by kernel_rfl) (by kernel_rfl) (by kernel_rfl) (fun _ _ _ h => h) (Or.inl ⟨by rfl, fun wh hSw => ?_⟩) hHeld ?_
          · (obtain ⟨s0, s1, t0, t1⟩ := hSw; go_simp)
          try simp only [Act.put, List.setIfInBounds_toArray, List.set_cons_zero, List.set_cons_succ]
          refine wpAnyH_take (i := 7) (oi := { dst := some 24, op := .load 42 (.tmp 23), type := _, pos := _, after := _, guard := none }) (v := eV ub y.t) rfl (by kernel_rfl) (by kernel_rfl) (by kernel_rfl) (fun _ _ _ h => h) (Or.inl ⟨by rfl, fun wh hSw => ?_⟩) hHeld ?_
          · (obtain ⟨s0, s1, t0, t1⟩ := hSw; go_simp)
          try simp only [Act.put, List.setIfInBounds_toArray, List.set_cons_zero, List.set_cons_succ]
          refine wpAnyH_ready (rs := [8]) (by kernel_rfl) (by simp) ?_
          refine AllReadyH.cons (o := { dst := some 25, op := .call { callee := .value (.func 41), args := #[.tmp 20, .tmp 24], argTypes := #[42, 42] }, type := _, pos := _, after := _, guard := none }) rfl (fun K hK => ?_) AllReadyH.nil
          go_simp
          refine HC.out.mono ?_
          rintro e w1 ⟨rfl, hb1⟩
          have HB1 := Lib.hid ((HBW.out.drew).trans (hb1.mono HBW.out.size))
          clear hb1
          try go_simp
          refine hK.out _ _ ?_ (fun hHeld => ?_)
          · exact FS.out _ HB1.out
          clear hK K
          try simp only [Act.put, List.setIfInBounds_toArray, List.set_cons_zero, List.set_cons_succ]
          refine wpAnyH_take (i := 9) (oi := { dst := some 26, op := .unOp .not 4 (.tmp 25), type := _, pos := _, after := _, guard := none }) (v := .bool true) rfl (by kernel_rfl) (by kernel_rfl) (by kernel_rfl) (fun _ _ _ h => h) (Or.inl ⟨by rfl, fun wh hSw => ?_⟩) hHeld ?_
          · (obtain ⟨s0, s1, t0, t1⟩ := hSw; go_simp)
          try simp only [Act.put, List.setIfInBounds_toArray, List.set_cons_zero, List.set_cons_succ]
          refine wpAnyH_done (by kernel_rfl) ?_ _
          go_wp2
          go_ret
          exact ⟨by rw [HR.out, decide_eq_false (ne_of_getD (d := ez) (k := k) (fun h => HE.out (HX.out.symm.trans (h.trans HY.out))))]; rfl, HB1.out⟩
      · go_wp2
        go_ret
        exact ⟨by rw [HR.out, decide_eq_true (eq_of_take (HN.out.symm.trans HN2.out.symm) (by have := HN.out; omega) HT.out)]; rfl, HBW.out⟩
  · have hne : ((xs.length : Int) != (ys.length : Int)) = true := by simp; omega
    have HL := Lib.hid hl
    clear hl
    go_enter Try.func21, Try.ntmps21
    go_wp2
    go_ret
    exact ⟨by rw [HR.out, decide_eq_false (fun h => HL.out (by rw [h]))]; rfl, Below.refl _ _⟩
end Go.Proofs.Ythfdkenidfnmgaa
namespace Go.Proofs.Ythfdkenidfnmgaa
open Go.ChangeShapes Go.WideShapes Go.ChangeAt Go.RowKit
set_option linter.unusedVariables false
set_option maxRecDepth 100000
def okTo (s : Bs) (k : Nat) : Prop := ∀ b ∈ s.take k, lok b = true
theorem lok_iff {b : UInt8} : lok b = true ↔ 97 ≤ b.toNat ∧ b.toNat ≤ 99 := by
  rw [lok, Bool.and_eq_true, decide_eq_true_eq, decide_eq_true_eq]
theorem okTo_all {s : Bs} {k : Nat} (h : okTo s k) (hk : k = s.length) : rv s = decide (s.length ≤ 4) := by
  have h1 : s.all lok = true := List.all_eq_true.2 (by rw [okTo, take_all hk] at h; exact h)
  rw [rv, h1, Bool.true_and]
theorem okTo_succ {s : Bs} {k : Nat} (h : okTo s k) (hk : k < s.length) (hb : lok s[k] = true) : okTo s (k + 1) := by
  intro b hm
  rw [List.take_succ_eq_append_getElem hk, List.mem_append] at hm
  rcases hm with hm | hm
  · exact h b hm
  · rw [List.mem_singleton.1 hm]; exact hb
theorem rv_bad {s : Bs} {k : Nat} (hk : k < s.length) (hb : lok s[k] = false) : rv s = false := by
  rw [Bool.eq_false_iff]
  intro h
  have := (rv_iff.1 h).1 _ (List.getElem_mem hk)
  rw [hb] at this; cases this
theorem run_index_str (s : Bs) (k : Nat) (hk : k < s.length) (x : Nat) (hx : s[k].toNat = x) (w : World) : (Instr.index 9 (.string ⟨s.toArray⟩) (.int .i64 k)).run Try.prog w = .ok (.int .u8 x) w := by
  subst hx
  have hs : (ByteArray.mk s.toArray).size = s.length := by simp [ByteArray.size]
  rw [run_index_string (P := Try.prog) w 9 ⟨s.toArray⟩ .i64 k Try.underlying9, dif_pos (by rw [hs]; omega)]
  have e : (ByteArray.mk s.toArray)[(k : Int).toNat]'(by rw [hs]; omega) = s[k] := rfl
  rw [e]
def Says (b : Bool) (w : World) (e : Ending) (w' : World) : Prop := e = .returned (.bool b) ∧ w = w'
theorem says_mk {b c : Bool} {w : World} (h : b = c) : Says c w (.returned (.bool b)) w := ⟨by rw [h], rfl⟩
theorem sRightValid_any (w : World) (s : Bs) (hs : s.length ≤ 2000000) :
    Calls Try.prog 33 #[.string ⟨s.toArray⟩] w (Says (rv s) w) := by
  obtain ⟨n, hN⟩ : ∃ n, n = s.length := ⟨_, rfl⟩
  have hn : n ≤ 2000000 := by omega
  have hsz : s.toArray.size = n := by simp [hN]
  have HN := Lib.hid hN
  clear hN hs
  go_enter Try.func33, Try.ntmps33
  go_wp2
  go_loop [3] (fun i => ∃ k : Nat, k ≤ n ∧ i = .int .i64 k ∧ Hid (okTo s k)) (fun i => n - (intOf i).toNat)
  case atStart => exact ⟨0, Nat.zero_le _, rfl, Lib.hid (fun b hb => by simp at hb)⟩
  case round =>
    obtain ⟨k, hk, rfl, HT⟩ := hrel
    by_cases hlt : k < n
    · have hlt' : (k : Int) < (n : Int) := by omega
      have hks : k < s.length := by rw [← HN.out]; exact hlt
      have HB := Lib.hid (@lok_iff s[k])
      have hix := run_index_str s k hks _ rfl
      obtain ⟨x, hx⟩ : ∃ x, x = s[k].toNat := ⟨_, rfl⟩
      rw [← hx] at hix HB
      clear hx
      have HR := Lib.hid (fun h => rv_bad hks h)
      have HO := Lib.hid (fun h => okTo_succ HT.out hks h)
      by_cases h1 : x < 97
      · have h1' : (x : Int) < 97 := by omega
        go_wp2
        go_ret
        exact says_mk (HR.out (by rw [Bool.eq_false_iff]; intro h; have := HB.out.1 h; omega)).symm
      · by_cases h2 : 99 < x
        · have h1' : ¬ (x : Int) < 97 := by omega
          have h2' : (99 : Int) < (x : Int) := by omega
          go_wp2
          go_ret
          exact says_mk (HR.out (by rw [Bool.eq_false_iff]; intro h; have := HB.out.1 h; omega)).symm
        · have h1' : ¬ (x : Int) < 97 := by omega
          have h2' : ¬ (99 : Int) < (x : Int) := by omega
          go_wp2
          go_round
          case rel => exact ⟨k + 1, by omega, by go_num, Lib.hid (HO.out (HB.out.2 ⟨by omega, by omega⟩))⟩
          case measure => simp [intOf]; omega
    · go_wp2
      go_ret
      have e : k = n := by omega
      refine says_mk ?_
      rw [okTo_all HT.out (by rw [e]; exact HN.out), ← HN.out, decide_eq_decide]
      omega
def rokTo (xs : List Bs) (k : Nat) : Prop := ∀ j, j < k → rv (xs.getD j []) = true ∧ (0 < j → bl (xs.getD (j - 1) []) (xs.getD j []) = true)
theorem rokTo_all {xs : List Bs} {k : Nat} (h : rokTo xs k) (hk : k = xs.length) : rok xs = true := rok_iff.2 (by rw [← hk]; exact h)
theorem rokTo_succ {xs : List Bs} {k : Nat} (h : rokTo xs k) (h1 : rv (xs.getD k []) = true) (h2 : 0 < k → bl (xs.getD (k - 1) []) (xs.getD k []) = true) : rokTo xs (k + 1) := by
  intro j hj
  by_cases e : j = k
  · rw [e]; exact ⟨h1, h2⟩
  · exact h j (by omega)
theorem rok_bad1 {xs : List Bs} {k : Nat} (hk : k < xs.length) (h : rv (xs.getD k []) = false) : rvs xs = false := by
  rw [Bool.eq_false_iff]
  intro hh
  rw [rvs, Bool.and_eq_true, rok_iff] at hh
  rw [(hh.1 k hk).1] at h; cases h
theorem rok_bad2 {xs : List Bs} {k : Nat} (hk : k < xs.length) (h0 : 0 < k) (h : bl (xs.getD (k - 1) []) (xs.getD k []) = false) : rvs xs = false := by
  rw [Bool.eq_false_iff]
  intro hh
  rw [rvs, Bool.and_eq_true, rok_iff] at hh
  rw [(hh.1 k hk).2 h0] at h; cases h
def Short (xs : List Bs) : Prop := ∀ x ∈ xs, x.length ≤ 2000000
theorem Short.at {xs : List Bs} (h : Short xs) (i : Nat) : (xs.getD i []).length ≤ 2000000 := by
  by_cases hi : i < xs.length
  · rw [getD_lt hi]; exact h _ (List.getElem_mem hi)
  · rw [List.getD, List.getElem?_eq_none (Nat.le_of_not_lt hi)]; exact Nat.zero_le _
end Go.Proofs.Ythfdkenidfnmgaa
