/- What the proofs stand on, part 1. -/
import Derived.Test.YtachiggolgdocaaRows
import Derived.WalkKit
import Derived.ProofKit
import Derived.OpenShut
import Derived.Below
import Derived.Lib.Hide
import Derived.Deep.Draws
import Derived.Deep.OwnRows
import Derived.Deep.QuietTactic
import Derived.BigQuiet
import Derived.LoopTactic
import Derived.Outline
import Derived.Deep.MidRow
import Derived.Deep.WholeRow
import Derived.Laws.ResultCell
import Derived.Handy
import Derived.Tactics
import Derived.OwnWalk
import Derived.Deep.RegionWith
import Derived.Deep.RegionHeld3
import Derived.Maps.AppendAt
import Derived.Laws.AppendOwnNone
import Derived.Deep.RegionHeld
import Derived.ArgAppend
import Derived.Deep.Matrix
import Derived.SliceStrings
import Derived.Deep.SlicePairs
import Derived.Lib.SmallJoins
import Derived.Deep.Strs
set_option linter.unusedSimpArgs false
set_option linter.unusedVariables false
namespace Go.Proofs.Ytachiggolgdocaa
open Go.ChangeShapes Go.WideShapes Go.ChangeAt Go.RowKit
theorem getD_lt {α : Type} {l : List α} {i : Nat} {d : α} (h : i < l.length) : l.getD i d = l[i] := by simp [List.getD, h]
theorem take_snoc_getD {α : Type} (l : List α) (k : Nat) (d : α) (h : k < l.length) : l.take (k + 1) = l.take k ++ [l.getD k d] := by
  rw [getD_lt h, List.take_succ_eq_append_getElem h]
end Go.Proofs.Ytachiggolgdocaa
namespace Go.Proofs.Ytachiggolgdocaa
open Go.ChangeShapes Go.WideShapes Go.ChangeAt Go.RowKit
set_option linter.unusedVariables false
structure Chg (lo hi : Nat) (w w' : World) : Prop where
  os : w'.os = w.os
  tape : w'.tape = w.tape
  output : w'.output = w.output
  size : w.heap.size ≤ w'.heap.size
  block : ∀ b, b < w.heap.size → (b < lo ∨ hi ≤ b) → w'.heap[b]? = w.heap[b]?
theorem Chg.of_below {w w' : World} (h : Below w.heap.size w w') : Chg 0 0 w w' := ⟨h.os, h.tape, h.output, h.size, fun b hb _ => h.block b hb⟩
theorem Below.chg {lo hi S : Nat} {W w w' : World} (h : Below S W w) (c : Chg lo hi w w') (hS : S ≤ w.heap.size) (hh : S ≤ lo ∨ hi = 0) : Below S W w' :=
  ⟨c.os.trans h.os, c.tape.trans h.tape, c.output.trans h.output, Nat.le_trans h.size c.size, fun b hb => (c.block b (by omega) (by omega)).trans (h.block b hb)⟩
end Go.Proofs.Ytachiggolgdocaa
namespace Go.Proofs.Ytachiggolgdocaa
open Go.ChangeShapes Go.WideShapes Go.ChangeAt Go.RowKit
set_option linter.unusedVariables false
theorem add0 (g j : Nat) : (⟨g, 0, none⟩ : Addr).add j = ⟨g, j, none⟩ := by unfold Addr.add; split <;> simp_all
section
variable {P : Program}
theorem store_arr {ops : Array Oper} {rest : List Oper} {a : Act} {w : World} {Q : Exit → Act → World → Prop} {dst : Option Nat} {tt : TypeId} {pos : String} {after : Array Edge} (ty : TypeId) (x y : Operand)
    (b o : Nat) (cells : Array Value) (hx : a.eval x = .pointer (some ⟨b, o, none⟩)) (hy : a.eval y = .agg cells)
    (ht : w.there b o cells.size) (hi : (P.info? ty).map (·.size) = some cells.size) (h1 : cells.all (·.oneCell') = true)
    (h : wpList P ops Q rest (a.put dst undef) (w.setCells b o cells.toList)) : wpList P ops Q ({ dst := dst, op := .store ty x y, type := tt, pos := pos, after := after, guard := none } :: rest) a w :=
  wpList_store_mid rfl ty x y rfl b o cells hx hy ht hi h1 h
end
theorem store_is {P : Program} {ops : Array Oper} {rest : List Oper} {a : Act} {w : World} {Q : Exit → Act → World → Prop} {dst : Option Nat} {tt : TypeId} {pos : String} {after : Array Edge} (ty : TypeId) (x y : Operand) (h : wpList P ops Q ({ dst := dst, op := .store ty x y, type := tt, pos := pos, after := after, guard := none } :: rest) a w) : wpList P ops Q ({ dst := dst, op := .store ty x y, type := tt, pos := pos, after := after, guard := none } :: rest) a w := h
theorem there_blocks {w w' : World} {b o n : Nat} (h : w.there b o n) (e : w'.heap[b]? = w.heap[b]?) : w'.there b o n := fun j hj => by
  rw [World.cell?_of_block e, World.frozen?_of_block e]; exact h j hj
theorem there_row {w : World} {b : Nat} {C : Array Value} {t : TypeId} {n : Nat} (hb : w.heap[b]? = some (.cells C t (0, 0))) (hn : n ≤ C.size) : w.there b 0 n := fun j hj => by
  rw [cell_of_row w b (0 + j) C t (0, 0) hb, frozen_of_row w b (0 + j) C t hb, Nat.zero_add]
  exact ⟨by simp; omega, rfl⟩
theorem there_part {w : World} {b n o m : Nat} (h : w.there b 0 n) (hm : o + m ≤ n) : w.there b o m := fun j hj => by
  have := h (o + j) (by omega)
  rwa [Nat.zero_add] at this
theorem size_setCells (b : Nat) : ∀ (vs : List Value) (o : Nat) (w : World), (w.setCells b o vs).heap.size = w.heap.size
  | [], _, _ => rfl
  | v :: r, o, w => by rw [World.setCells, size_setCells b r (o + 1)]; simp [World.setCell]
theorem Below.setCells {S : Nat} {W w : World} (h : Below S W w) (b : Nat) (hb : S ≤ b) : ∀ (vs : List Value) (o : Nat) (w : World), Below S W w → Below S W (w.setCells b o vs)
  | [], _, _, h => h
  | v :: r, o, w, h => by rw [World.setCells]; exact Below.setCells h b hb r (o + 1) _ (h.setCell (p := ⟨b, o, none⟩) hb v)
end Go.Proofs.Ytachiggolgdocaa
namespace Go.Proofs.Ytachiggolgdocaa
open Go.ChangeShapes Go.WideShapes Go.ChangeAt Go.RowKit
set_option linter.unusedVariables false
theorem own_lowS {w : World} {B B' : Nat} {e : TypeId} {s : Nat} {v : Value} {n : Nat} {x : List Value} (h : w.ownsRow B e s v n x) (hB : B' ≤ B) : w.ownsRow B' e s v n x := by
  refine ⟨h.1, ?_⟩
  rcases h.2 with hn | ⟨g, cap, cur, e, hb, rest⟩
  · exact .inl hn
  · exact .inr ⟨g, cap, cur, e, by omega, rest⟩
def Says (b : Bool) (w : World) (e : Ending) (w' : World) : Prop := e = .returned (.bool b) ∧ w = w'
theorem says_mk {b c : Bool} {w : World} (h : b = c) : Says c w (.returned (.bool b)) w := ⟨by rw [h], rfl⟩
def inR (x lo hi : Int) : Bool := decide (lo ≤ x ∧ x ≤ hi)
theorem l6In_any (w : World) (x lo hi : Int) : Calls Try.prog 52 #[.int .i64 x, .int .i64 lo, .int .i64 hi] w (Says (inR x lo hi) w) := by
  unfold inR
  by_cases h : lo ≤ x ∧ x ≤ hi
  · rw [decide_eq_true h]
    obtain ⟨h1, h2⟩ := h
    go_enter Try.func52, Try.ntmps52
    go_wp2
    go_ret
    exact says_mk rfl
  · rw [decide_eq_false h]
    by_cases h1 : lo ≤ x
    · have h2 : decide (x ≤ hi) = false := by simp; omega
      clear h
      go_enter Try.func52, Try.ntmps52
      go_wp2
      go_ret
      exact says_mk rfl
    · have h2 : decide (lo ≤ x) = false := by simpa using h1
      clear h
      go_enter Try.func52, Try.ntmps52
      go_wp2
      go_ret
      exact says_mk rfl
end Go.Proofs.Ytachiggolgdocaa
namespace Go.Proofs.Ytachiggolgdocaa
open Go.ChangeShapes Go.WideShapes Go.ChangeAt Go.RowKit
set_option linter.unusedVariables false
structure IV where
  k : Int
  g : Int
  r : Int
deriving DecidableEq
instance : Inhabited IV := ⟨⟨0, 0, 0⟩⟩
def iz : IV := ⟨0, 0, 0⟩
def ivC (x : IV) : List Value := [.int .i64 x.k, .int .i64 x.g, .int .i64 x.r]
abbrev ivV (x : IV) : Value := .agg #[.int .i64 x.k, .int .i64 x.g, .int .i64 x.r]
structure Tri (w : World) (b o : Nat) (x : IV) : Prop where
  c0 : w.cell? ⟨b, o, none⟩ = some (.int .i64 x.k)
  c1 : w.cell? ⟨b, o + 1, none⟩ = some (.int .i64 x.g)
  c2 : w.cell? ⟨b, o + 2, none⟩ = some (.int .i64 x.r)
theorem Tri.block {w w' : World} {b o : Nat} {x : IV} (h : Tri w b o x) (e : w'.heap[b]? = w.heap[b]?) : Tri w' b o x :=
  ⟨(World.cell?_of_block e).trans h.c0, (World.cell?_of_block e).trans h.c1, (World.cell?_of_block e).trans h.c2⟩
theorem Tri.below {w w' : World} {B b o : Nat} {x : IV} (h : Tri w b o x) (hb : Below B w w') (hB : b < B) : Tri w' b o x := h.block (hb.block b hB)
theorem Tri.lt {w : World} {b o : Nat} {x : IV} (h : Tri w b o x) : b < w.heap.size := block_lt_of_cell h.c0
def Is (w : World) (v : Value) (xs : List IV) : Prop :=
  ∃ (a : Option Addr) (cap : Nat), v = .slice a xs.length cap ∧ xs.length ≤ cap ∧ cap ≤ maxLen ∧
    ∀ i, i < xs.length → ∃ b o, a = some ⟨b, o, none⟩ ∧ Tri w b (o + i * 3) (xs.getD i iz)
theorem Is.below {w w' : World} {v : Value} {xs : List IV} (h : Is w v xs) (hb : Below w.heap.size w w') : Is w' v xs := by
  obtain ⟨a, cap, rfl, h1, h2, h3⟩ := h
  refine ⟨a, cap, rfl, h1, h2, fun i hi => ?_⟩
  obtain ⟨b, o, e, hc⟩ := h3 i hi
  exact ⟨b, o, e, hc.below hb hc.lt⟩
structure TriW (w : World) (b o : Nat) (x : IV) : Prop where
  at3 : Tri w b o x
  fr : ∀ j, j < 3 → w.frozen? ⟨b, o + j, none⟩ = false
theorem TriW.block {w w' : World} {b o : Nat} {x : IV} (h : TriW w b o x) (e : w'.heap[b]? = w.heap[b]?) : TriW w' b o x :=
  ⟨h.at3.block e, fun j hj => (World.frozen?_of_block e).trans (h.fr j hj)⟩
theorem TriW.there {w : World} {b o : Nat} {x : IV} (h : TriW w b o x) : w.there b o 3 := fun j hj => by
  refine ⟨?_, h.fr j hj⟩
  obtain rfl | rfl | rfl : j = 0 ∨ j = 1 ∨ j = 2 := by omega
  · rw [Nat.add_zero, h.at3.c0]; rfl
  · rw [h.at3.c1]; rfl
  · rw [h.at3.c2]; rfl
def IsW (w : World) (B0 B1 : Nat) (v : Value) (xs : List IV) : Prop :=
  ∃ (a : Option Addr) (cap : Nat), v = .slice a xs.length cap ∧ xs.length ≤ cap ∧ cap ≤ maxLen ∧
    ∀ i, i < xs.length → ∃ g p, a = some ⟨g, p, none⟩ ∧ B0 ≤ g ∧ g < B1 ∧ TriW w g (p + i * 3) (xs.getD i iz)
theorem IsW.is {w : World} {B0 B1 : Nat} {v : Value} {xs : List IV} (h : IsW w B0 B1 v xs) : Is w v xs := by
  obtain ⟨a, cap, rfl, h1, h2, h3⟩ := h
  refine ⟨a, cap, rfl, h1, h2, fun i hi => ?_⟩
  obtain ⟨g, p, e, _, _, hf⟩ := h3 i hi
  exact ⟨g, p, e, hf.at3⟩
theorem IsW.chg {lo hi B0 B1 : Nat} {w w' : World} {v : Value} {xs : List IV} (h : IsW w B0 B1 v xs) (c : Chg lo hi w w') (hB : B1 ≤ w.heap.size) (hh : B1 ≤ lo ∨ hi ≤ B0) : IsW w' B0 B1 v xs := by
  obtain ⟨a, cap, rfl, h1, h2, h3⟩ := h
  refine ⟨a, cap, rfl, h1, h2, fun i hi => ?_⟩
  obtain ⟨g, p, e, hg0, hg1, hf⟩ := h3 i hi
  exact ⟨g, p, e, hg0, hg1, hf.block (c.block g (by omega) (by omega))⟩
theorem IsW.below {B0 B1 : Nat} {w w' : World} {v : Value} {xs : List IV} (h : IsW w B0 B1 v xs) (c : Below w.heap.size w w') (hB : B1 ≤ w.heap.size) : IsW w' B0 B1 v xs :=
  h.chg (Chg.of_below c) hB (.inr (Nat.zero_le _))
end Go.Proofs.Ytachiggolgdocaa
namespace Go.Proofs.Ytachiggolgdocaa
set_option linter.unusedVariables false
def mok (x : IV) : Bool := inR x.k 0 2 && (inR x.g 0 2 && inR x.r 0 9999)
def mall (xs : List IV) : Bool := decide (∀ i, i < xs.length → mok (xs.getD i iz) = true)
def msok (xs : List IV) : Bool := mall xs && decide (xs.length ≤ 8)
theorem mall_iff {xs : List IV} : mall xs = true ↔ ∀ i, i < xs.length → mok (xs.getD i iz) = true := by unfold mall; rw [decide_eq_true_eq]
theorem mall_bad {xs : List IV} {k : Nat} (hk : k < xs.length) (h : mok (xs.getD k iz) = false) : mall xs = false := by
  cases hm : mall xs with
  | false => rfl
  | true => rw [mall_iff.1 hm k hk] at h; cases h
end Go.Proofs.Ytachiggolgdocaa
namespace Go.Proofs.Ytachiggolgdocaa
open Go.ChangeShapes Go.WideShapes Go.ChangeAt Go.RowKit
set_option linter.unusedVariables false
theorem ivInfo : (Try.prog.info? 25).map (fun i => (i.zero, i.size, i.bytes)) = some (some (.agg #[.int .i64 0, .int .i64 0, .int .i64 0]), 3, 24) := by kernel_rfl
def isC (xs : List IV) : List Value := xs.flatMap ivC
theorem isC_app (xs ys : List IV) : isC (xs ++ ys) = isC xs ++ isC ys := by simp [isC]
theorem isC_len (xs : List IV) : (isC xs).length = xs.length * 3 := by
  induction xs with
  | nil => rfl
  | cons x xs ih => simp only [isC, List.flatMap_cons, List.length_append] at ih ⊢; rw [ih]; simp [ivC]; omega
theorem isC_get (xs : List IV) {i j : Nat} (hi : i < xs.length) (hj : j < 3) : (isC xs)[i * 3 + j]? = (ivC (xs.getD i iz))[j]? := by
  have e : xs = xs.take i ++ ([xs.getD i iz] ++ xs.drop (i + 1)) := by
    rw [← List.append_assoc, ← take_snoc_getD xs i iz hi, List.take_append_drop]
  have h1 : (isC (xs.take i)).length = i * 3 := by rw [isC_len, List.length_take]; omega
  have h2 : isC xs = isC (xs.take i) ++ (ivC (xs.getD i iz) ++ isC (xs.drop (i + 1))) := by
    conv => lhs; rw [e]
    simp [isC]
  rw [h2, List.getElem?_append_right (by omega), h1, Nat.add_sub_cancel_left, List.getElem?_append_left (by simp [ivC]; omega)]
theorem isC_one (xs : List IV) : ∀ u ∈ isC xs, u.oneCell' = true := by
  intro u hu
  obtain ⟨x, _, hx⟩ := List.mem_flatMap.1 hu
  simp only [ivC, List.mem_cons, List.not_mem_nil, or_false] at hx
  rcases hx with rfl | rfl | rfl <;> rfl
theorem is_cells {w : World} {b o : Nat} {xs : List IV} (h : ∀ i, i < xs.length → Tri w b (o + i * 3) (xs.getD i iz)) : ∀ j u, (isC xs)[j]? = some u → w.cell? ⟨b, o + j, none⟩ = some u := by
  intro j u hj
  have hjl : j < xs.length * 3 := by
    have := (List.getElem?_eq_some_iff.1 hj).1
    rwa [isC_len] at this
  have hi : j / 3 < xs.length := by omega
  have hq : j % 3 < 3 := by omega
  have e : j = j / 3 * 3 + j % 3 := by omega
  have hg := isC_get xs hi hq
  rw [← e, hj] at hg
  have ht := h _ hi
  have e2 : o + j = o + j / 3 * 3 + j % 3 := by omega
  rw [e2]
  obtain h0 | h0 | h0 : j % 3 = 0 ∨ j % 3 = 1 ∨ j % 3 = 2 := by omega
  · rw [h0] at hg ⊢; cases hg; exact ht.c0
  · rw [h0] at hg ⊢; cases hg; exact ht.c1
  · rw [h0] at hg ⊢; cases hg; exact ht.c2
structure OwnV (w : World) (v : Value) (ys : List IV) (w' : World) : Prop where
  own : w'.ownsRow w.heap.size 25 3 v ys.length (isC ys)
  bel : Below w.heap.size w w'
theorem IsW.of_ownsRow {w : World} {B : Nat} {v : Value} {ys : List IV} (h : w.ownsRow B 25 3 v ys.length (isC ys)) : IsW w B w.heap.size v ys := by
  rcases h.2 with ⟨e, hz⟩ | ⟨g, cap, cur, rfl, hb, hbl, hnc, hcm, hcs, htk⟩
  · exact ⟨none, 0, by rw [e, hz], by omega, Nat.zero_le _, fun i hi => by omega⟩
  · refine ⟨some ⟨g, 0, none⟩, cap, rfl, hnc, hcm, fun i hi => ⟨g, 0, rfl, hb, (Array.getElem?_eq_some_iff.1 hbl).1, ?_, fun j hj => frozen_of_row w g _ cur _ hbl⟩⟩
    have hc : ∀ j v, j < 3 → (ivC (ys.getD i iz))[j]? = some v → w.cell? ⟨g, 0 + i * 3 + j, none⟩ = some v := fun j v hj hv => by
      have := h.cells (g := g) rfl (i * 3 + j) v (by rw [isC_get ys hi hj]; exact hv)
      rw [add0] at this
      rwa [Nat.zero_add]
    exact ⟨hc 0 _ (by omega) rfl, hc 1 _ (by omega) rfl, hc 2 _ (by omega) rfl⟩
theorem OwnV.row {w w' : World} {v : Value} {ys : List IV} (h : OwnV w v ys w') : IsW w' w.heap.size w'.heap.size v ys := IsW.of_ownsRow h.own
theorem OwnV.is {w w' : World} {v : Value} {ys : List IV} (h : OwnV w v ys w') : Is w' v ys := h.row.is
theorem OwnV.start (w : World) : OwnV w (.slice (some ⟨w.heap.size, 0, none⟩) 0 0) [] (w.alloc (.cells #[] 25)) :=
  ⟨World.ownsRow_made w #[] 0 (Nat.le_refl _) (Nat.zero_le _) rfl, (Below.refl _ _).alloc (Nat.le_refl _) _⟩
theorem OwnV.nil (w : World) : OwnV w (.slice none 0 0) [] w := ⟨World.ownsRow_nil _ _ _ _, Below.refl _ _⟩
theorem OwnV.from {w w1 w2 : World} {v : Value} {ys : List IV} (h : OwnV w1 v ys w2) (hb : Below w.heap.size w w1) : OwnV w v ys w2 :=
  ⟨own_lowS h.own hb.size, hb.trans (h.bel.mono hb.size)⟩
theorem OwnV.alloc {w w' : World} {v : Value} {ys : List IV} (h : OwnV w v ys w') (o : Obj) : OwnV w v ys (w'.alloc o) := ⟨h.own.alloc _, h.bel.alloc h.bel.size o⟩
def NilOkI (v : Value) : Prop := ∀ n c, v = .slice none n c → n = 0 ∧ c = 0
theorem nilOkI_some {a : Addr} {n c : Nat} : NilOkI (.slice (some a) n c) := fun _ _ e => by cases e
theorem wp_append_rowI {a : Act} {w : World} {K : Act → World → Prop} {Q : Exit → Act → World → Prop} {dst : Option Nat} {tt : TypeId} {pos : String} {after : Array Edge} {gd : Option (Nat × Bool)} (s x : Operand)
    (base : Nat) (v : Value) (ys : List IV) (hs : a.eval s = v) (hown : w.ownsRow base 25 3 v ys.length (isC ys)) (hbase : base ≤ w.heap.size) (xv : Value) (zs : List IV) (hx : a.eval x = xv) (hz : Is w xv zs) (hn : NilOkI xv) (hl : ys.length + zs.length ≤ 1000000)
    (h : ∀ v' w', w'.ownsRow base 25 3 v' (ys ++ zs).length (isC (ys ++ zs)) → (v' = .slice none 0 0 ↔ v = .slice none 0 0 ∧ zs.length = 0) → w.grownBy w' v.ownBlock → K (a.put dst v') w') :
    Oper.wp Try.prog { dst := dst, op := .call { callee := .builtin .append, args := #[s, x], argTypes := #[23, 23] }, type := tt, pos := pos, after := after, guard := gd } a w K Q := by
  obtain ⟨i0, hi, hz0, hz1, hz2⟩ := info_parts ivInfo
  obtain ⟨ad, cap, rfl, h1, h2, h3⟩ := hz
  cases ad with
  | none =>
    obtain ⟨e1, e2⟩ := hn _ _ rfl
    subst e2
    have hrun := run_append_owned_none (P := Try.prog) (w := w) base 23 tt 25 i0 3 Try.underlying23 hi v ys.length _ hown
    have hzs : zs = [] := List.length_eq_zero_iff.1 e1
    subst hzs
    have hk := h v w (by rw [List.append_nil]; exact hown) (by simp) (World.grownBy.refl w _)
    unfold Oper.wp
    simp [execOp, resolve, invoke, builtin, hs, hx, hrun, Result.andThen]
    exact hk
  | some ad =>
    have hnews : ∀ j u, (isC zs)[j]? = some u → w.cell? (ad.add j) = some u := by
      intro j u hj
      have hjl : j < zs.length * 3 := by
        have := (List.getElem?_eq_some_iff.1 hj).1
        rwa [isC_len] at this
      obtain ⟨b, o, e, _⟩ := h3 0 (by omega)
      cases e
      have hcs : ∀ i, i < zs.length → Tri w b (o + i * 3) (zs.getD i iz) := fun i hi => by
        obtain ⟨b', o', e', ht⟩ := h3 i hi
        cases e'
        exact ht
      rw [show (⟨b, o, none⟩ : Addr).add j = ⟨b, o + j, none⟩ from by unfold Addr.add; split <;> simp_all]
      exact is_cells hcs j u hj
    obtain ⟨v', w', hr, g2, g3, g4, g5⟩ := run_append_own_at (P := Try.prog) w base 23 tt 25 i0 (.agg #[.int .i64 0, .int .i64 0, .int .i64 0]) 3 24 Try.underlying23 hi hz0 hz1 hz2 rfl (by decide) v ys.length _ hown ad zs.length cap (isC zs) (isC_len zs) hnews (isC_one zs) (by unfold maxLen; omega) (by omega) hbase
    have hk := h v' w' (by rw [List.length_append, isC_app]; exact g2) g4 g3
    unfold Oper.wp execOp
    simp only [resolve, invoke, builtin, Sem.run_bind, Sem.run_pure, Result.andThen_ok, List.map_toArray, List.map_cons, List.map_nil, hs, hx, hr]
    exact hk
theorem wp_append_is {a : Act} {w : World} {K : Act → World → Prop} {Q : Exit → Act → World → Prop} {dst : Option Nat} {tt : TypeId} {pos : String} {after : Array Edge} {gd : Option (Nat × Bool)} (s x : Operand)
    (W0 : World) (v : Value) (ys : List IV) (hs : a.eval s = v) (hown : OwnV W0 v ys w) (xv : Value) (zs : List IV) (hx : a.eval x = xv) (hz : Is w xv zs) (hn : NilOkI xv) (hl : ys.length + zs.length ≤ 1000000)
    (h : ∀ v' w', OwnV W0 v' (ys ++ zs) w' → (v' = .slice none 0 0 ↔ v = .slice none 0 0 ∧ zs.length = 0) → w.grownBy w' v.ownBlock → K (a.put dst v') w') :
    Oper.wp Try.prog { dst := dst, op := .call { callee := .builtin .append, args := #[s, x], argTypes := #[23, 23] }, type := tt, pos := pos, after := after, guard := gd } a w K Q :=
  wp_append_rowI s x W0.heap.size v ys hs hown.own hown.bel.size xv zs hx hz hn hl (fun v' w' h1 h2 h3 => h v' w' ⟨h1, hown.bel.grown h3 hown.bel.size (fun b hb => (hown.own.lt b hb).1)⟩ h2 h3)
theorem wpList_append_is {ops : Array Oper} {rest : List Oper} {a : Act} {w : World} {Q : Exit → Act → World → Prop} {dst : Option Nat} {tt : TypeId} {pos : String} {after : Array Edge} (s x : Operand)
    (W0 : World) (v : Value) (ys : List IV) (hs : a.eval s = v) (hown : OwnV W0 v ys w) (xv : Value) (zs : List IV) (hx : a.eval x = xv) (hz : Is w xv zs) (hn : NilOkI xv) (hl : ys.length + zs.length ≤ 1000000)
    (h : ∀ v' w', OwnV W0 v' (ys ++ zs) w' → (v' = .slice none 0 0 ↔ v = .slice none 0 0 ∧ zs.length = 0) → w.grownBy w' v.ownBlock → wpList Try.prog ops Q rest (a.put dst v') w') :
    wpList Try.prog ops Q ({ dst := dst, op := .call { callee := .builtin .append, args := #[s, x], argTypes := #[23, 23] }, type := tt, pos := pos, after := after, guard := none } :: rest) a w :=
  wpList_plain rfl fun K hK => wp_append_is s x W0 v ys hs hown xv zs hx hz hn hl (fun v' w' h1 h2 h3 => hK _ _ (h v' w' h1 h2 h3))
end Go.Proofs.Ytachiggolgdocaa
namespace Go.Proofs.Ytachiggolgdocaa
open Go.ChangeShapes Go.WideShapes Go.ChangeAt Go.RowKit
set_option linter.unusedVariables false
def BRes (b : Bool) (w : World) (e : Ending) (w' : World) : Prop := e = .returned (.bool b) ∧ Below w.heap.size w w'
end Go.Proofs.Ytachiggolgdocaa
namespace Go.Proofs.Ytachiggolgdocaa
open Go.ChangeShapes Go.WideShapes Go.ChangeAt Go.RowKit
set_option linter.unusedVariables false
set_option maxRecDepth 100000 in
theorem l23Mail_any (w : World) (x : IV) : Calls Try.prog 46 #[ivV x] w (BRes (mok x) w) := by
  obtain ⟨xk, xg, xr⟩ := x
  have HB : Hid (Below w.heap.size w (w.alloc (.cells #[.int .i64 xk, .int .i64 xg, .int .i64 xr] 25))) := Lib.hid ((Below.refl _ _).alloc (Nat.le_refl _) _)
  obtain ⟨r, hr⟩ : ∃ r, r = mok ⟨xk, xg, xr⟩ := ⟨_, rfl⟩
  rw [← hr]
  have HR : Hid (r = (inR xk 0 2 && (inR xg 0 2 && inR xr 0 9999))) := Lib.hid (by rw [hr]; rfl)
  have HI1 := Lib.hid (fun w => l6In_any w xk 0 2)
  have HI2 := Lib.hid (fun w => l6In_any w xg 0 2)
  have HI3 := Lib.hid (fun w => l6In_any w xr 0 9999)
  clear hr
  go_enter Try.func46, Try.ntmps46
  go_wp2_with fail
  refine (HI1.out _).mono ?_
  rintro e w' ⟨rfl, rfl⟩
  cases h1 : inR xk 0 2 with
  | false =>
    rw [h1] at HR
    clear h1
    go_wp2_with fail
    go_ret
    exact ⟨by rw [HR.out]; rfl, HB.out⟩
  | true =>
    rw [h1] at HR
    clear h1
    go_wp2_with fail
    refine (HI2.out _).mono ?_
    rintro e w' ⟨rfl, rfl⟩
    cases h2 : inR xg 0 2 with
    | false =>
      rw [h2] at HR
      clear h2
      go_wp2_with fail
      go_ret
      exact ⟨by rw [HR.out]; rfl, HB.out⟩
    | true =>
      rw [h2] at HR
      clear h2
      go_wp2_with fail
      refine (HI3.out _).mono ?_
      rintro e w' ⟨rfl, rfl⟩
      go_wp2_with fail
      go_ret
      exact ⟨by rw [HR.out]; rfl, HB.out⟩
set_option maxRecDepth 100000 in
theorem sMailsValid_any (w : World) (v : Value) (xs : List IV) (h : Is w v xs) : Calls Try.prog 20 #[v] w (BRes (msok xs) w) := by
  obtain ⟨a, ca, rfl, hla, hma, hxa⟩ := h
  unfold maxLen at hma
  obtain ⟨n, hN⟩ : ∃ n, n = xs.length := ⟨_, rfl⟩
  rw [← hN] at hla hxa ⊢
  have HN := Lib.hid hN
  have HX := Lib.hid hxa
  obtain ⟨r, hr⟩ : ∃ r, r = msok xs := ⟨_, rfl⟩
  rw [← hr]
  have HR := Lib.hid hr
  clear hN hxa hr
  go_enter Try.func20, Try.ntmps20
  go_wp2
  go_loopw [3] (fun i wr => ∃ k : Nat, k ≤ n ∧ i = .int .i64 k ∧ Hid (∀ i, i < k → mok (xs.getD i iz) = true) ∧ Hid (Below w.heap.size w wr)) (fun i _ => n - (intOf i).toNat)
  case atStart => exact ⟨0, Nat.zero_le _, rfl, Lib.hid (fun i hi => by omega), Lib.hid (Below.refl _ _)⟩
  case round =>
    obtain ⟨k, hk, rfl, HOK, HB⟩ := hrel
    by_cases hlt : k < n
    · obtain ⟨b, o, rfl, hc⟩ := HX.out k hlt
      obtain ⟨c0, c1, c2⟩ := hc.below HB.out hc.lt
      obtain ⟨x, hx⟩ : ∃ x, x = xs.getD k iz := ⟨_, rfl⟩
      rw [← hx] at c0 c1 c2
      have HXK := Lib.hid hx
      have hlt' : (k : Int) < (n : Int) := by omega
      have HC := Lib.hid (l23Mail_any wr x)
      clear hc hx
      cases hm : mok x with
      | true =>
        rw [hm] at HC
        have HM := Lib.hid hm
        clear hm
        go_wp2_with fail
        refine HC.out.mono ?_
        rintro e w1 ⟨rfl, hb1⟩
        have B1 := Lib.hid (HB.out.trans (hb1.mono HB.out.size))
        clear hb1
        go_wp2
        go_roundw
        case rel => exact ⟨k + 1, by omega, by go_num, Lib.hid (fun i hi => by
          by_cases he : i = k
          · rw [he, ← HXK.out]; exact HM.out
          · exact HOK.out i (by omega)), B1⟩
        case measure => simp [intOf]; omega
      | false =>
        rw [hm] at HC
        have HF : Hid (r = false) := Lib.hid (by
          rw [HR.out, msok, mall_bad (k := k) (by rw [← HN.out]; exact hlt) (by rw [← HXK.out]; exact hm), Bool.false_and])
        clear hm
        go_wp2_with fail
        refine HC.out.mono ?_
        rintro e w1 ⟨rfl, hb1⟩
        have B1 := Lib.hid (HB.out.trans (hb1.mono HB.out.size))
        clear hb1
        go_wp2
        go_ret
        exact ⟨by rw [HF.out]; rfl, B1.out⟩
    · have e : k = n := by omega
      subst e
      have HF : Hid (r = decide (k ≤ 8)) := Lib.hid (by
        rw [HR.out, msok, mall_iff.2 (fun i hi => HOK.out i (by rw [HN.out]; exact hi)), Bool.true_and, HN.out])
      by_cases h8 : k ≤ 8
      · rw [decide_eq_true h8] at HF
        have h8' : (k : Int) ≤ 8 := by omega
        go_wp2
        go_ret
        exact ⟨by rw [HF.out]; rfl, HB.out⟩
      · rw [decide_eq_false h8] at HF
        have h8' : ¬ (k : Int) ≤ 8 := by omega
        go_wp2
        go_ret
        exact ⟨by rw [HF.out]; rfl, HB.out⟩
end Go.Proofs.Ytachiggolgdocaa
namespace Go.Proofs.Ytachiggolgdocaa
open Go.ChangeShapes Go.WideShapes Go.ChangeAt Go.RowKit
set_option linter.unusedVariables false
theorem getD_takeI {xs : List IV} {k i : Nat} (h : i < k) : (xs.take k).getD i iz = xs.getD i iz := by
  rw [List.getD_eq_getElem?_getD, List.getD_eq_getElem?_getD, List.getElem?_take, if_pos h]
theorem getD_dropI {xs : List IV} {k i : Nat} : (xs.drop k).getD i iz = xs.getD (k + i) iz := by
  rw [List.getD_eq_getElem?_getD, List.getD_eq_getElem?_getD, List.getElem?_drop]
theorem Is.take {w : World} {a : Option Addr} {n c k : Nat} {xs : List IV} (h : Is w (.slice a n c) xs) (hk : k ≤ n) : Is w (.slice a k c) (xs.take k) := by
  obtain ⟨a', c', e, h1, h2, h3⟩ := h
  injection e with e1 e2 e3
  subst e1
  subst e3
  have hl : (xs.take k).length = k := by rw [List.length_take]; omega
  refine ⟨a, c, by rw [hl], by rw [hl]; omega, h2, fun i hi => ?_⟩
  rw [hl] at hi
  obtain ⟨b, o, e, ht⟩ := h3 i (by omega)
  refine ⟨b, o, e, ?_⟩
  rw [getD_takeI hi]
  exact ht
theorem Is.drop {w : World} {g o n c k q : Nat} {xs : List IV} (h : Is w (.slice (some ⟨g, o, none⟩) n c) xs) (hk : k ≤ n) (hq : q = if c = k then o else o + k * 3) : Is w (.slice (some ⟨g, q, none⟩) (n - k) (c - k)) (xs.drop k) := by
  obtain ⟨a', c', e, h1, h2, h3⟩ := h
  injection e with e1 e2 e3
  subst e1
  subst e3
  have hl : (xs.drop k).length = n - k := by rw [List.length_drop]; omega
  refine ⟨_, _, by rw [hl], by rw [hl]; omega, by omega, fun i hi => ?_⟩
  rw [hl] at hi
  obtain ⟨b, o', e, ht⟩ := h3 (k + i) (by omega)
  cases e
  refine ⟨g, q, rfl, ?_⟩
  rw [if_neg (by omega)] at hq
  rw [getD_dropI, hq, show o + k * 3 + i * 3 = o + (k + i) * 3 by omega]
  exact ht
end Go.Proofs.Ytachiggolgdocaa
namespace Go.Proofs.Ytachiggolgdocaa
open Go.ChangeShapes Go.WideShapes Go.ChangeAt Go.RowKit
set_option linter.unusedVariables false
theorem below_any (w : World) (f k : Int) : Calls Try.prog 50 #[.int .i64 f, .int .i64 k] w fun e w' => e = .returned (.bool (decide (0 ≤ f ∧ f < k))) ∧ w = w' := by
  obtain ⟨b, hb⟩ : ∃ b, b = decide (0 ≤ f ∧ f < k) := ⟨_, rfl⟩
  rw [← hb]
  have HB := Lib.hid hb
  clear hb
  by_cases h0 : 0 ≤ f
  · by_cases h1 : f < k
    · have e : Hid (b = true) := Lib.hid (by rw [HB.out]; exact decide_eq_true ⟨h0, h1⟩)
      go_enter Try.func50, Try.ntmps50
      go_wp2
      go_ret
      exact ⟨by rw [e.out]; rfl, rfl⟩
    · have e : Hid (b = false) := Lib.hid (by rw [HB.out]; exact decide_eq_false (fun h => h1 h.2))
      have h1' : decide (f < k) = false := by simpa using h1
      clear h1
      go_enter Try.func50, Try.ntmps50
      go_wp2
      go_ret
      exact ⟨by rw [e.out]; rfl, rfl⟩
  · have e : Hid (b = false) := Lib.hid (by rw [HB.out]; exact decide_eq_false (fun h => h0 h.1))
    have h0' : decide (0 ≤ f) = false := by simpa using h0
    clear h0
    go_enter Try.func50, Try.ntmps50
    go_wp2
    go_ret
    exact ⟨by rw [e.out]; rfl, rfl⟩
theorem isWord_any (w : World) (f : Int) : Calls Try.prog 51 #[.int .i64 f] w fun e w' => e = .returned (.bool (inR f 0 9999)) ∧ w = w' := by
  have HC := Lib.hid (fun w => below_any w f 10000)
  obtain ⟨b, hb⟩ : ∃ b, b = inR f 0 9999 := ⟨_, rfl⟩
  rw [← hb]
  have HB : Hid (decide (0 ≤ f ∧ f < 10000) = b) := Lib.hid (by rw [hb]; unfold inR; rw [decide_eq_decide]; omega)
  rw [HB.out] at HC
  clear hb HB
  go_enter Try.func51, Try.ntmps51
  go_wp2_with fail
  refine (HC.out w).mono ?_
  rintro e w' ⟨rfl, rfl⟩
  go_wp2_with fail
  go_ret
  exact ⟨rfl, rfl⟩
theorem belowE_any (w : World) (f : Int) : Calls Try.prog 50 #[.int .i64 f, .int .i64 3] w fun e w' => e = .returned (.bool (inR f 0 2)) ∧ w = w' := by
  have HB : decide (0 ≤ f ∧ f < 3) = inR f 0 2 := by unfold inR; rw [decide_eq_decide]; omega
  have := below_any w f 3
  rwa [HB] at this
set_option maxRecDepth 100000 in
theorem ivalid_any (w : World) (x : IV) : Calls Try.prog 43 #[ivV x] w (BRes (mok x) w) := by
  obtain ⟨xk, xg, xr⟩ := x
  have HB : Hid (Below w.heap.size w (w.alloc (.cells #[.int .i64 xk, .int .i64 xg, .int .i64 xr] 25))) := Lib.hid ((Below.refl _ _).alloc (Nat.le_refl _) _)
  obtain ⟨r, hr⟩ : ∃ r, r = mok ⟨xk, xg, xr⟩ := ⟨_, rfl⟩
  rw [← hr]
  have HR : Hid (r = (inR xk 0 2 && (inR xg 0 2 && inR xr 0 9999))) := Lib.hid (by rw [hr]; rfl)
  have HI1 := Lib.hid (fun w => belowE_any w xk)
  have HI2 := Lib.hid (fun w => belowE_any w xg)
  have HI3 := Lib.hid (fun w => isWord_any w xr)
  clear hr
  go_enter Try.func43, Try.ntmps43
  go_wp2_with fail
  refine (HI1.out _).mono ?_
  rintro e w' ⟨rfl, rfl⟩
  cases h1 : inR xk 0 2 with
  | false =>
    rw [h1] at HR
    clear h1
    go_wp2_with fail
    go_ret
    exact ⟨by rw [HR.out]; rfl, HB.out⟩
  | true =>
    rw [h1] at HR
    clear h1
    go_wp2_with fail
    refine (HI2.out _).mono ?_
    rintro e w' ⟨rfl, rfl⟩
    cases h2 : inR xg 0 2 with
    | false =>
      rw [h2] at HR
      clear h2
      go_wp2_with fail
      go_ret
      exact ⟨by rw [HR.out]; rfl, HB.out⟩
    | true =>
      rw [h2] at HR
      clear h2
      go_wp2_with fail
      refine (HI3.out _).mono ?_
      rintro e w' ⟨rfl, rfl⟩
      go_wp2_with fail
      go_ret
      exact ⟨by rw [HR.out]; rfl, HB.out⟩
def QR (B : Nat) (w : World) (v : Value) (xs : List IV) : Prop :=
  ∃ (a : Option Addr) (cap : Nat), v = .slice a xs.length cap ∧ xs.length ≤ cap ∧ cap ≤ maxLen ∧
    ∀ i, i < cap → ∃ g p, a = some ⟨g, p, none⟩ ∧ B ≤ g ∧ w.there g (p + i * 3) 3 ∧ (i < xs.length → Tri w g (p + i * 3) (xs.getD i iz))
theorem there_lt {w : World} {b o n : Nat} (h : w.there b o n) (hn : 0 < n) : b < w.heap.size := by
  have := (h 0 hn).1
  obtain ⟨u, hu⟩ := Option.isSome_iff_exists.1 this
  exact block_lt_of_cell hu
theorem QR.of_ownsRow {w : World} {B : Nat} {v : Value} {ys : List IV} (h : w.ownsRow B 25 3 v ys.length (isC ys)) : QR B w v ys := by
  have hI := IsW.of_ownsRow h
  rcases h.2 with ⟨e, hz⟩ | ⟨g, cap, cur, rfl, hb, hbl, hnc, hcm, hcs, htk⟩
  · exact ⟨none, 0, by rw [e, hz], by omega, Nat.zero_le _, fun i hi => by omega⟩
  · refine ⟨some ⟨g, 0, none⟩, cap, rfl, hnc, hcm, fun i hi => ⟨g, 0, rfl, hb, ?_, fun hi2 => ?_⟩⟩
    · have := there_part (there_row (n := cap * 3) hbl (by omega)) (o := i * 3) (m := 3) (by omega)
      rwa [Nat.zero_add]
    · obtain ⟨a', cap', e, h1, h2, h3⟩ := hI
      injection e with e1 e2 e3
      obtain ⟨g', p', e, _, _, hf⟩ := h3 i hi2
      rw [← e1] at e
      cases e
      exact hf.at3
theorem QR.is {B : Nat} {w : World} {v : Value} {xs : List IV} (h : QR B w v xs) : Is w v xs := by
  obtain ⟨a, cap, e, h1, h2, h3⟩ := h
  refine ⟨a, cap, e, h1, h2, fun i hi => ?_⟩
  obtain ⟨g, p, e, _, _, ht⟩ := h3 i (by omega)
  exact ⟨g, p, e, ht hi⟩
theorem QR.below {B : Nat} {w w' : World} {v : Value} {xs : List IV} (h : QR B w v xs) (hb : Below w.heap.size w w') : QR B w' v xs := by
  obtain ⟨a, cap, e, h1, h2, h3⟩ := h
  refine ⟨a, cap, e, h1, h2, fun i hi => ?_⟩
  obtain ⟨g, p, e, hg, hth, ht⟩ := h3 i hi
  have hbl := hb.block g (there_lt hth (by omega))
  exact ⟨g, p, e, hg, there_blocks hth hbl, fun hi2 => (ht hi2).block hbl⟩
theorem QR.low {B C : Nat} {w : World} {v : Value} {xs : List IV} (h : QR B w v xs) (hC : C ≤ B) : QR C w v xs := by
  obtain ⟨a, cap, e, h1, h2, h3⟩ := h
  refine ⟨a, cap, e, h1, h2, fun i hi => ?_⟩
  obtain ⟨g, p, e, hg, r⟩ := h3 i hi
  exact ⟨g, p, e, by omega, r⟩
theorem QR.nil (B : Nat) (w : World) : QR B w (.slice none 0 0) [] := ⟨none, 0, rfl, Nat.le_refl _, Nat.zero_le _, fun i hi => by omega⟩
def NewQ (xs : List IV) (w : World) (e : Ending) (w' : World) : Prop := ∃ v, e = .returned v ∧ QR w.heap.size w' v xs ∧ Below w.heap.size w w'
set_option maxRecDepth 100000 in
theorem iclone_any (w : World) (v : Value) (xs : List IV) (h : Is w v xs) (hl : xs.length ≤ 8) :
    Calls Try.prog 49 #[v] w (NewQ xs w) := by
  have H := Lib.hid h
  have HN := Lib.hid hl
  have HSO := Lib.hid (OwnV.start w)
  have H2 := Lib.hid (H.out.below HSO.out.bel)
  obtain ⟨a, ca, rfl, h1, h2, h3⟩ := h
  cases a with
  | none =>
    have e2 : xs = [] := by
      cases xs with
      | nil => rfl
      | cons x r => obtain ⟨b, o, e, _⟩ := h3 0 (by simp); cases e
    clear h1 h2 h3 hl
    subst e2
    have HE : ∀ W : World, (binOp .eql 23 (.slice none 0 ca) (.slice none 0 0)).run Try.prog W = .ok (.bool true) W := fun _ => by kernel_rfl
    go_enter Try.func49, Try.ntmps49
    go_wp2
    go_ret
    exact ⟨_, rfl, QR.nil _ _, Below.refl _ _⟩
  | some ad =>
    clear h1 h2 h3 hl
    obtain ⟨n, hnn⟩ : ∃ n, n = xs.length := ⟨_, rfl⟩
    rw [← hnn] at H H2 HN ⊢
    have HNN := Lib.hid hnn
    clear hnn
    have HE : ∀ W : World, (binOp .eql 23 (.slice (some ad) n ca) (.slice none 0 0)).run Try.prog W = .ok (.bool false) W := fun _ => by kernel_rfl
    go_enter Try.func49, Try.ntmps49
    go_wp2_with (at_builtin; refine wpList_append_is (.tmp 5) (.tmp 6) w _ [] rfl HSO.out _ xs rfl H2.out nilOkI_some (by simp only [List.length_nil]; have := HN.out; have := HNN.out; omega) ?_; intro v2 w2 hown2 hnn2 hgrow2)
    rw [List.nil_append] at hown2
    have HO := Lib.hid hown2
    clear hown2 hnn2 hgrow2
    go_wp2
    go_ret
    exact ⟨_, rfl, QR.of_ownsRow HO.out.own, HO.out.bel⟩
def QRes (xs : List IV) (b : Bool) (w : World) (e : Ending) (w' : World) : Prop := ∃ v, e = .returned (.tuple #[v, .bool b]) ∧ (b = true → QR w.heap.size w' v xs) ∧ (b = false → v = .slice none 0 0) ∧ Below w.heap.size w w'
set_option maxRecDepth 100000 in
set_option maxHeartbeats 1000000 in
theorem queueOf_any (w : World) (v : Value) (xs : List IV) (h : Is w v xs) :
    Calls Try.prog 42 #[v] w (QRes xs (msok xs) w) := by
  have H := Lib.hid h
  obtain ⟨a, ca, rfl, hla, hma, hxa⟩ := h
  unfold maxLen at hma
  obtain ⟨n, hN⟩ : ∃ n, n = xs.length := ⟨_, rfl⟩
  rw [← hN] at hla hxa H ⊢
  have HN := Lib.hid hN
  have HX := Lib.hid hxa
  obtain ⟨r, hr⟩ : ∃ r, r = msok xs := ⟨_, rfl⟩
  rw [← hr]
  have HR := Lib.hid hr
  clear hN hxa hr
  by_cases h8 : n ≤ 8
  · have h8' : ¬ (8 : Int) < (n : Int) := by omega
    have HR8 : Hid (r = mall xs) := Lib.hid (by rw [HR.out, msok, ← HN.out, decide_eq_true h8, Bool.and_true])
    go_enter Try.func42, Try.ntmps42
    go_wp2
    go_loopw [11] (fun i wr => ∃ k : Nat, k ≤ n ∧ i = .int .i64 k ∧ Hid (∀ i, i < k → mok (xs.getD i iz) = true) ∧ Hid (Below w.heap.size w wr)) (fun i _ => n - (intOf i).toNat)
    case atStart => exact ⟨0, Nat.zero_le _, rfl, Lib.hid (fun i hi => by omega), Lib.hid (Below.refl _ _)⟩
    case round =>
      obtain ⟨k, hk, rfl, HOK, HB⟩ := hrel
      by_cases hlt : k < n
      · obtain ⟨b, o, rfl, hc⟩ := HX.out k hlt
        obtain ⟨c0, c1, c2⟩ := hc.below HB.out hc.lt
        obtain ⟨x, hx⟩ : ∃ x, x = xs.getD k iz := ⟨_, rfl⟩
        rw [← hx] at c0 c1 c2
        have HXK := Lib.hid hx
        have hlt' : (k : Int) < (n : Int) := by omega
        have HC := Lib.hid (fun w => ivalid_any w x)
        clear hc hx
        have HB1 := Lib.hid (HB.out.alloc HB.out.size (.cells #[.int .i64 x.k, .int .i64 x.g, .int .i64 x.r] 25))
        cases hm : mok x with
        | true =>
          rw [hm] at HC
          have HM := Lib.hid hm
          clear hm
          go_wp2_with fail
          refine (HC.out _).mono ?_
          rintro e w1 ⟨rfl, hb1⟩
          have B1 := Lib.hid (HB1.out.trans (hb1.mono HB1.out.size))
          clear hb1
          go_wp2
          go_roundw
          case rel => exact ⟨k + 1, by omega, by go_num, Lib.hid (fun i hi => by
            by_cases he : i = k
            · rw [he, ← HXK.out]; exact HM.out
            · exact HOK.out i (by omega)), B1⟩
          case measure => simp [intOf]; omega
        | false =>
          rw [hm] at HC
          have HF : Hid (r = false) := Lib.hid (by
            rw [HR8.out, mall_bad (k := k) (by rw [← HN.out]; exact hlt) (by rw [← HXK.out]; exact hm)])
          clear hm
          go_wp2_with fail
          refine (HC.out _).mono ?_
          rintro e w1 ⟨rfl, hb1⟩
          have B1 := Lib.hid (HB1.out.trans (hb1.mono HB1.out.size))
          clear hb1
          go_wp2
          go_ret2
          exact ⟨_, by rw [HF.out]; rfl, fun h => (by rw [HF.out] at h; cases h), fun _ => rfl, B1.out⟩
      · have e : k = n := by omega
        subst e
        have HF : Hid (r = true) := Lib.hid (by
          rw [HR8.out, mall_iff.2 (fun i hi => HOK.out i (by rw [HN.out]; exact hi))])
        go_wp2_with fail
        refine (iclone_any wr _ xs (H.out.below HB.out) (by rw [← HN.out]; exact h8)).mono ?_
        rintro e w1 ⟨v1, rfl, hq1, hb1⟩
        have HQ := Lib.hid (hq1.low HB.out.size)
        have B1 := Lib.hid (HB.out.trans (hb1.mono HB.out.size))
        clear hq1 hb1
        go_wp2
        go_ret2
        exact ⟨_, by rw [HF.out]; rfl, fun _ => HQ.out, fun h => (by rw [HF.out] at h; cases h), B1.out⟩
  · have h8' : (8 : Int) < (n : Int) := by omega
    have HF : Hid (r = false) := Lib.hid (by rw [HR.out, msok, ← HN.out, decide_eq_false h8, Bool.and_false])
    go_enter Try.func42, Try.ntmps42
    go_wp2
    go_ret2
    exact ⟨_, by rw [HF.out]; rfl, fun h => (by rw [HF.out] at h; cases h), fun _ => rfl, Below.refl _ _⟩
end Go.Proofs.Ytachiggolgdocaa
