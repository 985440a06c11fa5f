/- What the proofs stand on, part 1. -/
import Derived.Test.YtfnmnegddhggaaaRows
import Derived.WalkKit
import Derived.ProofKit
import Derived.OpenShut
import Derived.Below
import Derived.Lib.Hide
import Derived.Deep.Draws
import Derived.Deep.OwnRows
import Derived.Deep.QuietTactic
import Derived.BigQuiet
import Derived.LoopTactic
import Derived.Outline
import Derived.Deep.MidRow
import Derived.Deep.WholeRow
import Derived.Laws.ResultCell
import Derived.Handy
import Derived.Deep.RegionHeld
import Derived.Deep.RegionHeld3
import Derived.Tactics
import Derived.OwnWalk
import Derived.Deep.RegionWith
import Derived.Deep.Matrix
set_option linter.unusedSimpArgs false
set_option linter.unusedVariables false
namespace Go.Proofs.Ytfnmnegddhggaaa
open Go.ChangeShapes Go.WideShapes Go.ChangeAt Go.RowKit
def Ints (w : World) (v : Value) (xs : List Int) : Prop :=
  ∃ (a : Option Addr) (cap : Nat), v = .slice a xs.length cap ∧ xs.length ≤ cap ∧ cap ≤ maxLen ∧
    ∀ i, i < xs.length → ∃ b o, a = some ⟨b, o, none⟩ ∧ w.cell? ⟨b, o + i, none⟩ = some (.int .i64 (xs.getD i 0))
theorem Ints.drewN {w : World} {v : Value} {xs : List Int} (h : Ints w v xs) (n : Nat) : Ints (w.drewN n) v xs := h
theorem getD_lt {α : Type} {l : List α} {i : Nat} {d : α} (h : i < l.length) : l.getD i d = l[i] := by simp [List.getD, h]
end Go.Proofs.Ytfnmnegddhggaaa
namespace Go.Proofs.Ytfnmnegddhggaaa
open Go.ChangeShapes Go.WideShapes Go.ChangeAt Go.RowKit
set_option linter.unusedVariables false
theorem intInfo : (Try.prog.info? 3).map (fun i => (i.zero, i.size, i.bytes)) = some (some (.int .i64 0), 1, 8) := by kernel_rfl
theorem cell_lt {w : World} {b o : Nat} {v : Value} (h : w.cell? ⟨b, o, none⟩ = some v) : b < w.heap.size := by
  rcases Nat.lt_or_ge b w.heap.size with h' | h'
  · exact h'
  · simp [World.cell?, Array.getElem?_eq_none h'] at h
theorem Ints.below {B : Nat} {w w' : World} {v : Value} {xs : List Int} (h : Ints w v xs) (hb : Below w.heap.size w w') : Ints w' v xs := by
  obtain ⟨a, cap, rfl, h1, h2, h3⟩ := h
  refine ⟨a, cap, rfl, h1, h2, fun i hi => ?_⟩
  obtain ⟨b, o, rfl, hc⟩ := h3 i hi
  exact ⟨b, o, rfl, (hb.cell (p := ⟨b, o + i, none⟩) (cell_lt hc)).trans hc⟩
end Go.Proofs.Ytfnmnegddhggaaa
namespace Go.Proofs.Ytfnmnegddhggaaa
open Go.ChangeShapes Go.WideShapes Go.ChangeAt Go.RowKit
set_option linter.unusedVariables false
theorem cell_set_same {w : World} {g p : Nat} {u v : Value} (h : w.cell? ⟨g, p, none⟩ = some u) : (w.setCell ⟨g, p, none⟩ v).cell? ⟨g, p, none⟩ = some v := by
  unfold World.cell? at h ⊢
  simp only [World.setCell, Array.getElem?_modify, if_pos]
  cases hb : w.heap[g]? with
  | none => rw [hb] at h; simp at h
  | some o =>
    rw [hb] at h
    cases o with
    | cells c t f =>
      have hp : p < c.size := by
        rcases Nat.lt_or_ge p c.size with h' | h'
        · exact h'
        · simp [Array.getElem?_eq_none h'] at h
      simp [hp]
    | _ => simp at h
theorem cell_set_other {w : World} {g p c o : Nat} {v : Value} (h : c ≠ g ∨ o ≠ p) : (w.setCell ⟨g, p, none⟩ v).cell? ⟨c, o, none⟩ = w.cell? ⟨c, o, none⟩ := by
  by_cases hc : c = g
  · subst hc
    have ho : o ≠ p := by rcases h with h | h <;> omega
    unfold World.cell?
    simp only [World.setCell, Array.getElem?_modify, if_pos]
    cases hb : w.heap[c]? with
    | none => rfl
    | some o =>
      cases o with
      | cells d t f => simp [Ne.symm ho]
      | _ => rfl
  · exact World.cell?_of_block (Below.heap_setCell w ⟨g, p, none⟩ v c hc)
theorem frozen_set {w : World} {a : Addr} {v : Value} (b : Addr) : (w.setCell a v).frozen? b = w.frozen? b := by
  unfold World.frozen?
  by_cases hc : b.block = a.block
  · simp only [World.setCell, Array.getElem?_modify, hc, if_pos]
    cases hb : w.heap[a.block]? with
    | none => rfl
    | some o => cases o <;> rfl
  · rw [Below.heap_setCell w a v b.block hc]
end Go.Proofs.Ytfnmnegddhggaaa
namespace Go.Proofs.Ytfnmnegddhggaaa
open Go.ChangeShapes Go.WideShapes Go.ChangeAt Go.RowKit
set_option linter.unusedVariables false
def IntsW (w : World) (B0 B1 : Nat) (v : Value) (xs : List Int) : Prop :=
  ∃ (a : Option Addr) (cap : Nat), v = .slice a xs.length cap ∧ xs.length ≤ cap ∧ cap ≤ maxLen ∧
    ∀ i, i < xs.length → ∃ g p, a = some ⟨g, p, none⟩ ∧ B0 ≤ g ∧ g < B1 ∧ w.cell? ⟨g, p + i, none⟩ = some (.int .i64 (xs.getD i 0)) ∧ w.frozen? ⟨g, p + i, none⟩ = false
theorem IntsW.ints {w : World} {B0 B1 : Nat} {v : Value} {xs : List Int} (h : IntsW w B0 B1 v xs) : Ints w v xs := by
  obtain ⟨a, cap, rfl, h1, h2, h3⟩ := h
  refine ⟨a, cap, rfl, h1, h2, fun i hi => ?_⟩
  obtain ⟨g, p, e, _, _, hc, _⟩ := h3 i hi
  exact ⟨g, p, e, hc⟩
end Go.Proofs.Ytfnmnegddhggaaa
namespace Go.Proofs.Ytfnmnegddhggaaa
open Go.ChangeShapes Go.WideShapes Go.ChangeAt Go.RowKit
set_option linter.unusedVariables false
def inR (x lo hi : Int) : Bool := decide (lo ≤ x ∧ x ≤ hi)
theorem inR_iff {x lo hi : Int} : inR x lo hi = true ↔ lo ≤ x ∧ x ≤ hi := by unfold inR; rw [decide_eq_true_eq]
theorem l6In_any (w : World) (x lo hi : Int) : Calls Try.prog 44 #[.int .i64 x, .int .i64 lo, .int .i64 hi] w fun e w' => e = .returned (.bool (inR x lo hi)) ∧ w = w' := by
  unfold inR
  by_cases h : lo ≤ x ∧ x ≤ hi
  · rw [decide_eq_true h]
    obtain ⟨h1, h2⟩ := h
    go_enter Try.func44, Try.ntmps44
    go_wp2
    go_ret
    exact ⟨rfl, rfl⟩
  · rw [decide_eq_false h]
    by_cases h1 : lo ≤ x
    · have h2 : decide (x ≤ hi) = false := by simp; omega
      clear h
      go_enter Try.func44, Try.ntmps44
      go_wp2
      go_ret
      exact ⟨rfl, rfl⟩
    · have h2 : decide (lo ≤ x) = false := by simpa using h1
      clear h
      go_enter Try.func44, Try.ntmps44
      go_wp2
      go_ret
      exact ⟨rfl, rfl⟩
def allIn (lo hi : Int) (xs : List Int) : Bool := xs.all (fun x => inR x lo hi)
theorem allIn_iff {lo hi : Int} {xs : List Int} : allIn lo hi xs = true ↔ ∀ i, i < xs.length → lo ≤ xs.getD i 0 ∧ xs.getD i 0 ≤ hi := by
  unfold allIn
  rw [List.all_eq_true]
  constructor
  · intro h i hi
    rw [getD_lt hi]
    exact inR_iff.1 (h _ (List.getElem_mem hi))
  · intro h x hx
    obtain ⟨i, hi, rfl⟩ := List.mem_iff_getElem.1 hx
    have := h i hi
    rw [getD_lt hi] at this
    exact inR_iff.2 this
theorem allIn_no {lo hi : Int} {xs : List Int} {k : Nat} (hk : k < xs.length) (h : inR (xs.getD k 0) lo hi = false) : allIn lo hi xs = false := by
  cases hm : allIn lo hi xs with
  | false => rfl
  | true => rw [inR_iff.2 (allIn_iff.1 hm k hk)] at h; cases h
end Go.Proofs.Ytfnmnegddhggaaa
namespace Go.Proofs.Ytfnmnegddhggaaa
open Go.ChangeShapes Go.WideShapes Go.ChangeAt Go.RowKit
set_option linter.unusedVariables false
def trOk (xs : List Int) : Bool := allIn 0 15 xs && decide (xs.length ≤ 24)
set_option maxHeartbeats 1000000 in
theorem sTraceValid_any (w : World) (v : Value) (xs : List Int) (h : Ints w v xs) :
    Calls Try.prog 22 #[v] w fun e w' => e = .returned (.bool (trOk xs)) ∧ w = w' := by
  obtain ⟨a, ca, rfl, hla, hma, hxa⟩ := h
  unfold maxLen at hma
  obtain ⟨n, hn⟩ : ∃ n, n = xs.length := ⟨_, rfl⟩
  rw [← hn] at hla hxa ⊢
  have HN := Lib.hid hn
  obtain ⟨r, hr⟩ : ∃ r, r = trOk xs := ⟨_, rfl⟩
  rw [← hr]
  have HR := Lib.hid hr
  clear hn hr
  go_enter Try.func22, Try.ntmps22
  go_wp2
  go_loopw [3] (fun i wr => ∃ k : Nat, k ≤ n ∧ i = .int .i64 k ∧ Hid (∀ i, i < k → 0 ≤ xs.getD i 0 ∧ xs.getD i 0 ≤ 15) ∧ w = wr) (fun i _ => n - (intOf i).toNat)
  case atStart => exact ⟨0, Nat.zero_le _, rfl, Lib.hid (fun i hi => by omega), by first | trivial | rfl⟩
  case round =>
    obtain ⟨k, hk, rfl, HB, rfl⟩ := hrel
    by_cases hlt : k < n
    · obtain ⟨ba, oa, rfl, hca⟩ := hxa k hlt
      obtain ⟨x, hx⟩ : ∃ x, x = xs.getD k 0 := ⟨_, rfl⟩
      rw [← hx] at hca
      have HX := Lib.hid hx
      clear hx hxa
      have hlt' : (k : Int) < (n : Int) := by omega
      obtain ⟨c, hc⟩ : ∃ c, c = inR x (0) 15 := ⟨_, rfl⟩
      have HI := Lib.hid (l6In_any w x (0) 15)
      rw [← hc] at HI
      have HC := Lib.hid hc
      clear hc
      go_wp2_with fail
      refine HI.out.mono ?_
      rintro e w' ⟨rfl, rfl⟩
      clear HI
      cases c with
      | true =>
        go_wp2
        go_roundw
        case rel => exact ⟨k + 1, by omega, by go_num, Lib.hid (fun i hik => by
          by_cases hk2 : i = k
          · rw [hk2, ← HX.out]; exact inR_iff.1 HC.out.symm
          · exact HB.out i (by omega)), by first | trivial | rfl⟩
        case measure => simp [intOf]; omega
      | false =>
        have HF : Hid (r = false) := Lib.hid (by rw [HR.out, trOk, allIn_no (k := k) (by rw [← HN.out]; exact hlt) (by rw [← HX.out]; exact HC.out.symm)]; rfl)
        go_wp2_with fail
        go_ret
        exact ⟨by rw [HF.out]; rfl, by first | trivial | rfl⟩
    · have e : k = n := by omega
      subst e
      have HA : Hid (allIn (0) 15 xs = true) := Lib.hid (allIn_iff.2 (by rw [← HN.out]; exact HB.out))
      clear hxa HB
      have HF : Hid (r = decide ((k : Int) ≤ 24)) := Lib.hid (by
        rw [HR.out, trOk, HA.out, ← HN.out, Bool.true_and, Bool.eq_iff_iff, decide_eq_true_eq, decide_eq_true_eq]; omega)
      go_wp2_with fail
      go_ret
      exact ⟨by rw [HF.out]; rfl, by first | trivial | rfl⟩
end Go.Proofs.Ytfnmnegddhggaaa
namespace Go.Proofs.Ytfnmnegddhggaaa
open Go.ChangeShapes Go.WideShapes Go.ChangeAt Go.RowKit
set_option linter.unusedVariables false
theorem IntsW.set {w : World} {B0 B1 g p n cap k : Nat} {xs : List Int} (h : IntsW w B0 B1 (.slice (some ⟨g, p, none⟩) n cap) xs) (hk : k < xs.length) (x : Int) :
    IntsW (w.setCell ⟨g, p + k, none⟩ (.int .i64 x)) B0 B1 (.slice (some ⟨g, p, none⟩) n cap) (xs.set k x) := by
  obtain ⟨a, c, e, h1, h2, h3⟩ := h
  injection e with e1 e2 e3
  subst e1
  subst e3
  refine ⟨some ⟨g, p, none⟩, cap, by rw [List.length_set, e2], by rw [List.length_set]; exact h1, h2, fun i hi => ?_⟩
  rw [List.length_set] at hi
  obtain ⟨g', p', e', hg0, hg1, hc, hf⟩ := h3 i hi
  cases e'
  refine ⟨g, p, rfl, hg0, hg1, ?_, (frozen_set _).trans hf⟩
  by_cases hik : k = i
  · subst hik
    rw [getD_lt (by rw [List.length_set]; exact hi), List.getElem_set_self]
    exact cell_set_same hc
  · refine (cell_set_other (.inr (by omega))).trans ?_
    rw [hc, getD_lt hi, getD_lt (by rw [List.length_set]; exact hi), List.getElem_set_ne hik]
end Go.Proofs.Ytfnmnegddhggaaa
namespace Go.Proofs.Ytfnmnegddhggaaa
open Go.ChangeShapes Go.WideShapes Go.ChangeAt Go.RowKit
set_option linter.unusedVariables false
set_option linter.unusedSimpArgs false
theorem below_any (w : World) (f k : Int) : Calls Try.prog 55 #[.int .i64 f, .int .i64 k] w fun e w' => e = .returned (.bool (decide (0 ≤ f ∧ f < k))) ∧ w = w' := by
  obtain ⟨b, hb⟩ : ∃ b, b = decide (0 ≤ f ∧ f < k) := ⟨_, rfl⟩
  rw [← hb]
  have HB := Lib.hid hb
  clear hb
  by_cases h0 : 0 ≤ f
  · by_cases h1 : f < k
    · have e : Hid (b = true) := Lib.hid (by rw [HB.out]; exact decide_eq_true ⟨h0, h1⟩)
      go_enter Try.func55, Try.ntmps55
      go_wp2
      go_ret
      exact ⟨by rw [e.out]; rfl, rfl⟩
    · have e : Hid (b = false) := Lib.hid (by rw [HB.out]; exact decide_eq_false (fun h => h1 h.2))
      have h1' : decide (f < k) = false := by simpa using h1
      clear h1
      go_enter Try.func55, Try.ntmps55
      go_wp2
      go_ret
      exact ⟨by rw [e.out]; rfl, rfl⟩
  · have e : Hid (b = false) := Lib.hid (by rw [HB.out]; exact decide_eq_false (fun h => h0 h.1))
    have h0' : decide (0 ≤ f) = false := by simpa using h0
    clear h0
    go_enter Try.func55, Try.ntmps55
    go_wp2
    go_ret
    exact ⟨by rw [e.out]; rfl, rfl⟩
end Go.Proofs.Ytfnmnegddhggaaa
namespace Go.Proofs.Ytfnmnegddhggaaa
open Go.ChangeShapes Go.WideShapes Go.ChangeAt Go.RowKit
set_option linter.unusedVariables false
set_option linter.unusedSimpArgs false
set_option maxHeartbeats 1000000 in
theorem iTraceValid_any (w : World) (v : Value) (xs : List Int) (h : Ints w v xs) :
    Calls Try.prog 34 #[v] w fun e w' => e = .returned (.bool (trOk xs)) ∧ w = w' := by
  obtain ⟨a, ca, rfl, hla, hma, hxa⟩ := h
  unfold maxLen at hma
  obtain ⟨n, hn⟩ : ∃ n, n = xs.length := ⟨_, rfl⟩
  rw [← hn] at hla hxa ⊢
  have HN := Lib.hid hn
  have HX := Lib.hid hxa
  obtain ⟨r, hr⟩ : ∃ r, r = trOk xs := ⟨_, rfl⟩
  rw [← hr]
  have HR := Lib.hid hr
  clear hn hxa hr
  by_cases h24 : n ≤ 24
  · have h24' : ((24 : Int) < (n : Int)) ↔ False := by simp; omega
    have h24d : decide ((24 : Int) < (n : Int)) = false := by simp; omega
    have H24 := Lib.hid h24
    clear h24
    go_enter Try.func34, Try.ntmps34
    go_wp2
    go_loopw [10] (fun i wr => ∃ k : Nat, k ≤ n ∧ i = .int .i64 k ∧ Hid (∀ i, i < k → inR (xs.getD i 0) 0 15 = true) ∧ w = wr) (fun i _ => n - (intOf i).toNat)
    case atStart => exact ⟨0, Nat.zero_le _, rfl, Lib.hid (fun i hi => by omega), by first | trivial | rfl⟩
    case round =>
      obtain ⟨k, hk, rfl, HB, rfl⟩ := hrel
      by_cases hlt : k < n
      · obtain ⟨ba, oa, rfl, hca⟩ := HX.out k hlt
        have hlt' : (k : Int) < (n : Int) := by omega
        obtain ⟨x, hx⟩ : ∃ x, x = xs.getD k 0 := ⟨_, rfl⟩
        rw [← hx] at hca
        have HXV := Lib.hid hx
        have HI := Lib.hid (below_any w x 16)
        have e15 : decide (0 ≤ x ∧ x < 16) = inR x 0 15 := by unfold inR; rw [decide_eq_decide]; omega
        rw [e15] at HI
        clear hx HX e15
        cases hb : inR x 0 15 with
        | true =>
          rw [hb] at HI
          have HO := Lib.hid hb
          clear hb
          go_wp2_with fail
          refine HI.out.mono ?_
          rintro e w' ⟨rfl, rfl⟩
          clear HI
          go_wp2
          go_roundw
          case rel => exact ⟨k + 1, by omega, by go_num, Lib.hid (fun i hik => by
            by_cases hk2 : i = k
            · rw [hk2, ← HXV.out]; exact HO.out
            · exact HB.out i (by omega)), by first | trivial | rfl⟩
          case measure => simp [intOf]; omega
        | false =>
          rw [hb] at HI
          have HF : Hid (r = false) := Lib.hid (by rw [HR.out, trOk, allIn_no (k := k) (by rw [← HN.out]; exact hlt) (by rw [← HXV.out]; exact hb)]; rfl)
          clear hb
          go_wp2_with fail
          refine HI.out.mono ?_
          rintro e w' ⟨rfl, rfl⟩
          clear HI
          go_wp2_with fail
          go_ret
          exact ⟨by rw [HF.out]; rfl, by first | trivial | rfl⟩
      · have e : k = n := by omega
        subst e
        have HF : Hid (r = true) := Lib.hid (by
          rw [HR.out, trOk, Bool.and_eq_true, decide_eq_true_eq, ← HN.out]
          exact ⟨allIn_iff.2 (fun i hi => inR_iff.1 (HB.out i (by rw [HN.out]; exact hi))), H24.out⟩)
        clear HX HB
        go_wp2_with fail
        go_ret
        exact ⟨by rw [HF.out]; rfl, by first | trivial | rfl⟩
  · have h24d : decide ((24 : Int) < (n : Int)) = true := by simp; omega
    have HF : Hid (r = false) := Lib.hid (by rw [HR.out, trOk, ← HN.out, decide_eq_false h24, Bool.and_false])
    clear h24
    go_enter Try.func34, Try.ntmps34
    go_wp2_with fail
    go_ret
    exact ⟨by rw [HF.out]; rfl, by first | trivial | rfl⟩
end Go.Proofs.Ytfnmnegddhggaaa
