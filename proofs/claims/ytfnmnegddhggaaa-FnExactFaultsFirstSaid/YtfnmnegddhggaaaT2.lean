/- What the proofs stand on, part 2. -/
import Derived.Test.YtfnmnegddhggaaaRows
import Derived.Test.YtfnmnegddhggaaaT1
set_option linter.unusedSimpArgs false
set_option linter.unusedVariables false
namespace Go.Proofs.Ytfnmnegddhggaaa
open Go.ChangeShapes Go.WideShapes Go.ChangeAt Go.RowKit
set_option linter.unusedVariables false
theorem add0 (g j : Nat) : (⟨g, 0, none⟩ : Addr).add j = ⟨g, j, none⟩ := by unfold Addr.add; split <;> simp_all
section
variable {P : Program}
end
end Go.Proofs.Ytfnmnegddhggaaa
namespace Go.Proofs.Ytfnmnegddhggaaa
open Go.ChangeShapes Go.WideShapes Go.ChangeAt Go.RowKit
set_option linter.unusedVariables false
structure OwnI (w : World) (v : Value) (ys : List Int) (w' : World) : Prop where
  own : w'.ownsRow w.heap.size 3 1 v ys.length (ys.map (.int .i64))
  bel : Below w.heap.size w w'
  nn : v ≠ .slice none 0 0
theorem ints_of_own {w : World} {B : Nat} {v : Value} {ys : List Int} (h : w.ownsRow B 3 1 v ys.length (ys.map (.int .i64))) : Ints w v ys := by
  rcases h.2 with ⟨rfl, hz⟩ | ⟨g, cap, cur, rfl, hb, hbl, hnc, hcm, hcs, htk⟩
  · exact ⟨none, 0, by rw [hz], by omega, Nat.zero_le _, fun i hi => by omega⟩
  · refine ⟨some ⟨g, 0, none⟩, cap, rfl, hnc, hcm, fun i hi => ⟨g, 0, rfl, ?_⟩⟩
    have := h.cells (g := g) rfl i (.int .i64 (ys.getD i 0)) (by rw [getD_lt hi]; simp)
    rw [add0] at this
    rw [Nat.zero_add]; exact this
theorem OwnI.ints {w w' : World} {v : Value} {ys : List Int} (h : OwnI w v ys w') : Ints w' v ys := ints_of_own h.own
theorem own_lower {w : World} {B B' : Nat} {e : TypeId} {v : Value} {n : Nat} {x : List Value} (h : w.ownsRow B e 1 v n x) (hB : B' ≤ B) : w.ownsRow B' e 1 v n x := by
  refine ⟨h.1, ?_⟩
  rcases h.2 with hn | ⟨g, cap, cur, e, hb, rest⟩
  · exact .inl hn
  · exact .inr ⟨g, cap, cur, e, by omega, rest⟩
theorem OwnI.from {w w1 w2 : World} {v : Value} {ys : List Int} (h : OwnI w1 v ys w2) (hb : Below w.heap.size w w1) : OwnI w v ys w2 :=
  ⟨own_lower h.own hb.size, hb.trans (h.bel.mono hb.size), h.nn⟩
theorem OwnI.start (w : World) : OwnI w (.slice (some ⟨w.heap.size, 0, none⟩) 0 0) [] (w.alloc (.cells #[] 3)) :=
  ⟨World.ownsRow_made w #[] 0 (Nat.le_refl _) (Nat.zero_le _) rfl, (Below.refl _ _).alloc (Nat.le_refl _) _, fun h => by cases h⟩
end Go.Proofs.Ytfnmnegddhggaaa
namespace Go.Proofs.Ytfnmnegddhggaaa
open Go.ChangeShapes Go.WideShapes Go.ChangeAt Go.RowKit
set_option linter.unusedVariables false
def IRes (n : Int) (w : World) (e : Ending) (w' : World) : Prop := e = .returned (.int .i64 n) ∧ Below w.heap.size w w'
end Go.Proofs.Ytfnmnegddhggaaa
namespace Go.Proofs.Ytfnmnegddhggaaa
open Go.ChangeShapes Go.WideShapes Go.ChangeAt Go.RowKit
set_option linter.unusedVariables false
theorem ints_one (xs : List Int) : ∀ u ∈ xs.map (Value.int .i64), u.oneCell' = true := fun u hu => by
  obtain ⟨x, _, rfl⟩ := List.mem_map.1 hu
  rfl
theorem OwnI.keep {w w1 w2 : World} {v : Value} {ys : List Int} (h : OwnI w v ys w1) (hb : Below w1.heap.size w1 w2) : OwnI w v ys w2 := by
  refine ⟨⟨h.own.1, ?_⟩, h.bel.trans (hb.mono h.bel.size), h.nn⟩
  rcases h.own.2 with hn | ⟨g, cap, cur, e, hg, hbl, rest⟩
  · exact .inl hn
  · exact .inr ⟨g, cap, cur, e, hg, (hb.block g (Array.getElem?_eq_some_iff.1 hbl).1).trans hbl, rest⟩
theorem OwnI.slice {w w' : World} {v : Value} {ys : List Int} (h : OwnI w v ys w') : ∃ g c, v = .slice (some ⟨g, 0, none⟩) ys.length c ∧ ys.length ≤ c ∧ c ≤ maxLen := by
  rcases h.own.2 with ⟨e, _⟩ | ⟨g, cap, cur, rfl, _, _, hnc, hcm, _⟩
  · exact absurd e h.nn
  · exact ⟨g, cap, rfl, hnc, hcm⟩
end Go.Proofs.Ytfnmnegddhggaaa
namespace Go.Proofs.Ytfnmnegddhggaaa
open Go.ChangeShapes Go.WideShapes Go.ChangeAt Go.RowKit
set_option linter.unusedVariables false
def lfind (xs : List Int) (p : Int) : Int := if p ∈ xs then (xs.findIdx (fun x => decide (x = p)) : Nat) else -1
theorem lfind_neg {xs : List Int} {p : Int} : lfind xs p < 0 ↔ p ∉ xs := by
  unfold lfind
  by_cases h : p ∈ xs
  · rw [if_pos h]
    constructor
    · intro hh; omega
    · intro hh; exact absurd h hh
  · rw [if_neg h]
    constructor
    · intro _; exact h
    · intro _; omega
theorem lfind_first {xs : List Int} {p : Int} {k : Nat} (hk : k < xs.length) (hb : ∀ i, i < k → xs.getD i 0 ≠ p) (he : xs.getD k 0 = p) : lfind xs p = k := by
  have hm : p ∈ xs := by rw [← he, getD_lt hk]; exact List.getElem_mem hk
  unfold lfind
  rw [if_pos hm]
  have h1 : ¬ xs.findIdx (fun x => decide (x = p)) < k := fun h => by
    have hl := Nat.lt_trans h hk
    have := List.findIdx_getElem (xs := xs) (p := fun x => decide (x = p)) (w := hl)
    refine hb _ h ?_
    rw [getD_lt hl]
    exact of_decide_eq_true this
  have h2 : ¬ k < xs.findIdx (fun x => decide (x = p)) := fun h => by
    have := List.not_of_lt_findIdx h
    rw [← getD_lt (d := 0) hk, decide_eq_true he] at this
    exact absurd this (by simp)
  have : xs.findIdx (fun x => decide (x = p)) = k := by omega
  rw [this]
theorem lfind_none {xs : List Int} {p : Int} (hb : ∀ i, i < xs.length → xs.getD i 0 ≠ p) : lfind xs p = -1 := by
  unfold lfind
  rw [if_neg]
  intro hm
  obtain ⟨i, hi, rfl⟩ := List.mem_iff_getElem.1 hm
  exact hb i hi (getD_lt hi)
end Go.Proofs.Ytfnmnegddhggaaa
namespace Go.Proofs.Ytfnmnegddhggaaa
open Go.ChangeShapes Go.WideShapes Go.ChangeAt Go.RowKit
set_option linter.unusedVariables false
theorem tr_len {xs : List Int} (h : trOk xs = true) : xs.length ≤ 24 := by
  unfold trOk at h
  rw [Bool.and_eq_true, decide_eq_true_eq] at h
  exact h.2
end Go.Proofs.Ytfnmnegddhggaaa
namespace Go.Proofs.Ytfnmnegddhggaaa
set_option linter.unusedVariables false
set_option linter.unusedSimpArgs false
theorem fLenSub : ∀ {A B : List Int}, A.Nodup → (∀ y ∈ A, y ∈ B) → A.length ≤ B.length
  | [], _, _, _ => by simp
  | a :: A, B, hA, h => by
    have hA' := List.nodup_cons.1 hA
    have hB : a ∈ B := h a (List.mem_cons_self ..)
    have := fLenSub (A := A) (B := B.erase a) hA'.2 (fun y hy => by
      have hya : y ≠ a := fun e => hA'.1 (e ▸ hy)
      exact (List.mem_erase_of_ne hya).2 (h y (List.mem_cons_of_mem _ hy)))
    rw [List.length_erase_of_mem hB] at this
    have hp := List.length_pos_of_mem hB
    simp only [List.length_cons]; omega
end Go.Proofs.Ytfnmnegddhggaaa
namespace Go.Proofs.Ytfnmnegddhggaaa
open Go.ChangeShapes Go.WideShapes Go.ChangeAt Go.RowKit
set_option linter.unusedVariables false
set_option linter.unusedSimpArgs false
theorem trOk_iff {xs : List Int} : trOk xs = true ↔ (∀ x ∈ xs, 0 ≤ x ∧ x ≤ 15) ∧ xs.length ≤ 24 := by
  unfold trOk allIn
  rw [Bool.and_eq_true, decide_eq_true_eq, List.all_eq_true]
  constructor
  · rintro ⟨h, h2⟩; exact ⟨fun x hx => inR_iff.1 (h x hx), h2⟩
  · rintro ⟨h, h2⟩; exact ⟨fun x hx => inR_iff.2 (h x hx), h2⟩
end Go.Proofs.Ytfnmnegddhggaaa
namespace Go.Proofs.Ytfnmnegddhggaaa
open Go.ChangeShapes Go.WideShapes Go.ChangeAt Go.RowKit
set_option linter.unusedVariables false
set_option linter.unusedSimpArgs false
structure ChgL (bs : List Nat) (w w' : World) : Prop where
  os : w'.os = w.os
  tape : w'.tape = w.tape
  output : w'.output = w.output
  size : w.heap.size ≤ w'.heap.size
  block : ∀ b, b < w.heap.size → b ∉ bs → w'.heap[b]? = w.heap[b]?
theorem ChgL.refl (bs : List Nat) (w : World) : ChgL bs w w := ⟨rfl, rfl, rfl, Nat.le_refl _, fun _ _ _ => rfl⟩
theorem ChgL.trans {bs cs : List Nat} {a b c : World} (h : ChgL bs a b) (k : ChgL cs b c) (hs : ∀ x ∈ cs, x ∈ bs ∨ a.heap.size ≤ x) : ChgL bs a c :=
  ⟨k.os.trans h.os, k.tape.trans h.tape, k.output.trans h.output, Nat.le_trans h.size k.size, fun i hi hn => (k.block i (Nat.lt_of_lt_of_le hi h.size) (fun hc => (hs i hc).elim hn (fun h => by omega))).trans (h.block i hi hn)⟩
theorem ChgL.mono {bs cs : List Nat} {w w' : World} (h : ChgL bs w w') (hs : ∀ x ∈ bs, x ∈ cs) : ChgL cs w w' := ⟨h.os, h.tape, h.output, h.size, fun b hb hn => h.block b hb (fun hc => hn (hs b hc))⟩
theorem ChgL.alloc {bs : List Nat} {w w' : World} (h : ChgL bs w w') (o : Obj) : ChgL bs w (w'.alloc o) :=
  ⟨h.os, h.tape, h.output, by have := h.size; simp; omega, fun b hb hn => (heap_alloc_old w' o (by have := h.size; omega)).trans (h.block b hb hn)⟩
theorem ChgL.set {bs : List Nat} {w w' : World} (h : ChgL bs w w') {g p : Nat} (hg : g ∈ bs ∨ w.heap.size ≤ g) (v : Value) : ChgL bs w (w'.setCell ⟨g, p, none⟩ v) := by
  have hb : Below g w' (w'.setCell ⟨g, p, none⟩ v) := Below.setCell (p := ⟨g, p, none⟩) (Below.refl g w') (Nat.le_refl _) v
  refine ⟨hb.os.trans h.os, hb.tape.trans h.tape, hb.output.trans h.output, Nat.le_trans h.size hb.size, fun b hb' hn => ?_⟩
  refine (Below.heap_setCell _ _ _ b (fun e => ?_)).trans (h.block b hb' hn)
  have e : b = g := e
  subst e
  rcases hg with hg | hg
  · exact hn hg
  · omega
theorem ChgL.below {bs : List Nat} {w0 w w' : World} {B : Nat} (h : ChgL bs w w') (hb : Below B w0 w) (hB : B ≤ w.heap.size) (hs : ∀ x ∈ bs, B ≤ x) : Below B w0 w' :=
  ⟨h.os.trans hb.os, h.tape.trans hb.tape, h.output.trans hb.output, Nat.le_trans hb.size h.size, fun k hk => (h.block k (by omega) (fun hc => by have := hs k hc; omega)).trans (hb.block k hk)⟩
def Pg (w : World) : List (Nat × Int) → Option Addr → Prop
  | [], p => p = none
  | m :: ns, p => p = some ⟨m.1, 0, none⟩ ∧ w.cell? ⟨m.1, 0, none⟩ = some (.int .i64 m.2) ∧ w.frozen? ⟨m.1, 1, none⟩ = false ∧ ∃ q, w.cell? ⟨m.1, 1, none⟩ = some (.pointer q) ∧ Pg w ns q
theorem Pg.lt {w : World} : ∀ {ns : List (Nat × Int)} {p : Option Addr}, Pg w ns p → ∀ b ∈ ns.map Prod.fst, b < w.heap.size
  | [], _, _, b, hb => by simp at hb
  | m :: ns, p, ⟨_, h0, _, q, _, h2⟩, b, hb => by
    rw [List.map_cons] at hb
    rcases List.mem_cons.1 hb with e | e
    · rw [e]; exact block_lt_of_cell h0
    · exact Pg.lt h2 b e
theorem Pg.keep {w w' : World} : ∀ {ns : List (Nat × Int)} {p : Option Addr}, Pg w ns p → (∀ b ∈ ns.map Prod.fst, w'.heap[b]? = w.heap[b]?) → Pg w' ns p
  | [], _, h, _ => h
  | m :: ns, p, ⟨e, h0, hf, q, h1, h2⟩, hk => by
    have hb := hk m.1 (List.mem_cons_self ..)
    exact ⟨e, (World.cell?_of_block hb).trans h0, (World.frozen?_of_block hb).trans hf, q, (World.cell?_of_block hb).trans h1, Pg.keep h2 (fun b hb => hk b (List.mem_cons_of_mem _ hb))⟩
theorem Pg.set {w : World} {ns : List (Nat × Int)} {p : Option Addr} {g o : Nat} {v : Value} (h : Pg w ns p) (hg : g ∉ ns.map Prod.fst) : Pg (w.setCell ⟨g, o, none⟩ v) ns p :=
  h.keep (fun b hb => Below.heap_setCell _ _ _ b (fun e => hg (by have e : b = g := e; rw [← e]; exact hb)))
def pgs (ns : List (Nat × Int)) : List Int := ns.map Prod.snd
def blk (ns : List (Nat × Int)) : List Nat := ns.map Prod.fst
theorem lfind_cons_same (x : Int) (xs : List Int) : lfind (x :: xs) x = 0 := by simp [lfind, List.findIdx_cons]
theorem lfind_cons_other {x y : Int} {xs : List Int} (h : y ≠ x) : lfind (y :: xs) x = if lfind xs x < 0 then -1 else lfind xs x + 1 := by
  unfold lfind
  have h' : ¬ x = y := fun e => h e.symm
  by_cases hx : x ∈ xs
  · rw [if_pos (List.mem_cons_of_mem _ hx), if_pos hx, if_neg (by omega), List.findIdx_cons]
    simp [h]
  · rw [if_neg hx, if_neg (by simp [hx, h']), if_pos (by decide)]
set_option maxRecDepth 100000 in
set_option maxHeartbeats 1000000 in
theorem ispan_any (w : World) (ns : List (Nat × Int)) (p : Option Addr) (x : Int) (h : Pg w ns p) (hl : ns.length ≤ 100) :
    Calls Try.prog 41 #[.pointer p, .int .i64 x] w fun e w' => e = .returned (.int .i64 (lfind (pgs ns) x)) ∧ w = w' := by
  have HP := Lib.hid h
  clear h
  obtain ⟨c, hc⟩ : ∃ c, c = ns.length := ⟨_, rfl⟩
  obtain ⟨r, hr⟩ : ∃ r, r = lfind (pgs ns) x := ⟨_, rfl⟩
  rw [← hr]
  have HR := Lib.hid hr
  rw [← hc] at hl
  have HL := Lib.hid hc
  clear hc hr
  go_enter Try.func41, Try.ntmps41
  go_wp2
  go_loopw [0, 5] (fun f n wr => ∃ (t : Nat) (us : List (Nat × Int)) (q : Option Addr), n = .int .i64 t ∧ f = .pointer q ∧ Hid (Pg w us q) ∧ t + us.length = c ∧ Hid (r = if lfind (pgs us) x < 0 then -1 else lfind (pgs us) x + t) ∧ wr = w) (fun _ n _ => c - (intOf n).toNat)
  case atStart => exact ⟨0, ns, p, rfl, rfl, HP, by rw [HL.out, Nat.zero_add], Lib.hid (by
    rw [HR.out]
    by_cases h : lfind (pgs ns) x < 0
    · rw [if_pos h]
      have := lfind_neg.1 h
      unfold lfind
      rw [if_neg this]
    · rw [if_neg h]; simp), rfl⟩
  case round =>
    obtain ⟨t, us, q, rfl, rfl, HC, ht, HRR, rfl⟩ := hrel
    cases us with
    | nil =>
      obtain rfl : q = none := HC.out
      have HF : Hid (r = -1) := Lib.hid (by rw [HRR.out]; rfl)
      go_wp2_with fail
      go_ret
      exact ⟨by rw [HF.out]; rfl, rfl⟩
    | cons m us =>
      obtain ⟨b, y⟩ := m
      rw [List.length_cons] at ht
      obtain ⟨rfl, hx0, hxf, q2, hx1, hx2⟩ := HC.out
      have HX := Lib.hid hx2
      have HT := Lib.hid ht
      clear HC hx2 hxf
      have htc : (t : Int) < 100 := by omega
      clear ht
      by_cases hy : y = x
      · have e1 : (y == x) = true := by simpa using hy
        have HF : Hid (r = t) := Lib.hid (by
          rw [HRR.out]
          show (if lfind (y :: pgs us) x < 0 then (-1 : Int) else lfind (y :: pgs us) x + t) = t
          rw [hy, lfind_cons_same, if_neg (by omega)]; omega)
        clear hy
        go_wp2_with fail
        go_ret
        exact ⟨by rw [HF.out]; rfl, rfl⟩
      · have e1 : (y == x) = false := by simpa using hy
        have HF : Hid (r = if lfind (pgs us) x < 0 then -1 else lfind (pgs us) x + ((t + 1 : Nat) : Int)) := Lib.hid (by
          rw [HRR.out]
          show (if lfind (y :: pgs us) x < 0 then (-1 : Int) else lfind (y :: pgs us) x + t) = _
          rw [lfind_cons_other hy]
          by_cases h : lfind (pgs us) x < 0
          · rw [if_pos h, if_pos h, if_pos (by omega)]
          · rw [if_neg h, if_neg h, if_neg (by omega)]; omega)
        clear hy
        go_wp2_with fail
        go_roundw
        case rel => exact ⟨t + 1, us, q2, by go_num, rfl, HX, by have := HT.out; omega, HF, trivial⟩
        case measure => have := HT.out; simp [intOf]; omega
def WoR (ns : List (Nat × Int)) (x : Int) (w : World) (e : Ending) (w' : World) : Prop :=
  ∃ q ns', e = .returned (.pointer q) ∧ pgs ns' = (pgs ns).erase x ∧ (blk ns').Sublist (blk ns) ∧ Pg w' ns' q ∧ ChgL (blk ns) w w' ∧ w'.heap.size = w.heap.size
set_option maxRecDepth 100000 in
set_option maxHeartbeats 1000000 in
theorem iwithout_any (x : Int) (ns : List (Nat × Int)) : ∀ (w : World) (p : Option Addr), Pg w ns p → (blk ns).Nodup →
    Calls Try.prog 56 #[.pointer p, .int .i64 x] w (WoR ns x w) := by
  induction ns with
  | nil =>
    intro w p h hn
    obtain rfl : p = none := h
    go_enter Try.func56, Try.ntmps56
    go_wp2_with fail
    go_ret
    exact ⟨none, [], rfl, rfl, List.Sublist.refl _, rfl, ChgL.refl _ _, rfl⟩
  | cons m ns ih =>
    intro w p h hn
    obtain ⟨b, y⟩ := m
    obtain ⟨rfl, hx0, hxf, q, hx1, hx2⟩ := h
    have HN := Lib.hid (List.nodup_cons.1 hn)
    have HP := Lib.hid hx2
    have HBL := Lib.hid (block_lt_of_cell hx0)
    have HI := Lib.hid (ih w q hx2 (List.nodup_cons.1 hn).2)
    clear hn hx2 ih
    by_cases hy : y = x
    · have e1 : (y == x) = true := by simpa using hy
      have HY := Lib.hid hy
      clear hy
      go_enter Try.func56, Try.ntmps56
      go_wp2_with fail
      go_ret
      exact ⟨q, ns, rfl, by show pgs ns = (y :: pgs ns).erase x; rw [HY.out, List.erase_cons_head], List.sublist_cons_self _ _, HP.out, ChgL.refl _ _, rfl⟩
    · have e1 : (y == x) = false := by simpa using hy
      have HY := Lib.hid hy
      clear hy
      go_enter Try.func56, Try.ntmps56
      go_wp2_with fail
      refine HI.out.mono ?_
      rintro e w1 ⟨q1, ns1, rfl, hp1, hs1, hg1, hc1, hz1⟩
      have hbl := hc1.block b HBL.out HN.out.1
      have c0 : w1.cell? ⟨b, 0, none⟩ = _ := (World.cell?_of_block hbl).trans hx0
      have c1 : w1.cell? ⟨b, 1, none⟩ = _ := (World.cell?_of_block hbl).trans hx1
      have cf : w1.frozen? ⟨b, 1, none⟩ = _ := (World.frozen?_of_block hbl).trans hxf
      have HS := Lib.hid hs1
      have HP1 := Lib.hid hp1
      have HG := Lib.hid hg1
      have HC := Lib.hid hc1
      have HZ := Lib.hid hz1
      have HNB : Hid (b ∉ blk ns1) := Lib.hid (fun hh => HN.out.1 (hs1.subset hh))
      have HF : Hid (Pg (w1.setCell ⟨b, 1, none⟩ (.pointer q1)) ((b, y) :: ns1) (some ⟨b, 0, none⟩)) := Lib.hid
        ⟨rfl, (cell_set_other (.inr (by omega))).trans c0, (frozen_set _).trans cf, q1, cell_set_same c1, HG.out.set HNB.out⟩
      have HE : Hid (ChgL (blk ((b, y) :: ns)) w (w1.setCell ⟨b, 1, none⟩ (.pointer q1))) := Lib.hid ((HC.out.mono (fun z hz => List.mem_cons_of_mem _ hz)).set (.inl (List.mem_cons_self ..)) _)
      clear hbl hp1 hs1 hg1 hc1 hz1 hx0 hx1 hxf
      go_wp2_with fail
      go_ret
      exact ⟨some ⟨b, 0, none⟩, (b, y) :: ns1, rfl, by
        show y :: pgs ns1 = (y :: pgs ns).erase x
        rw [List.erase_cons_tail (by simpa using HY.out), HP1.out], List.Sublist.cons_cons _ HS.out, HF.out, HE.out, by rw [World.size_setCell, HZ.out]⟩
def UsR (ns : List (Nat × Int)) (x : Int) (w : World) (e : Ending) (w' : World) : Prop :=
  ∃ q ns', e = .returned (.pointer q) ∧ pgs ns' = x :: (pgs ns).erase x ∧ (∀ b ∈ blk ns', b ∈ blk ns ∨ w.heap.size ≤ b) ∧ (blk ns').Nodup ∧ Pg w' ns' q ∧ ChgL (blk ns) w w'
set_option maxRecDepth 100000 in
set_option maxHeartbeats 1000000 in
theorem iused_any (w : World) (ns : List (Nat × Int)) (p : Option Addr) (x : Int) (h : Pg w ns p) (hn : (blk ns).Nodup) :
    Calls Try.prog 42 #[.pointer p, .int .i64 x] w (UsR ns x w) := by
  have HI := Lib.hid (iwithout_any x ns w p h hn)
  have HN := Lib.hid hn
  have HLT := Lib.hid h.lt
  clear h hn
  go_enter Try.func42, Try.ntmps42
  go_wp2_with fail
  refine HI.out.mono ?_
  rintro e w1 ⟨q1, ns1, rfl, hp1, hs1, hg1, hc1, hz1⟩
  have HS := Lib.hid hs1
  have HP1 := Lib.hid hp1
  have HG := Lib.hid hg1
  have HC := Lib.hid hc1
  have HZ := Lib.hid hz1
  have e := fun j => cell_of_row (w1.alloc (.cells #[.int .i64 x, .pointer q1] 52)) w1.heap.size j _ _ (0, 0) (heap_alloc_new w1 _)
  have ef := fun j => frozen_of_row (w1.alloc (.cells #[.int .i64 x, .pointer q1] 52)) w1.heap.size j _ _ (heap_alloc_new w1 _)
  have HF : Hid (Pg (w1.alloc (.cells #[.int .i64 x, .pointer q1] 52)) ((w1.heap.size, x) :: ns1) (some ⟨w1.heap.size, 0, none⟩)) := Lib.hid
    ⟨rfl, (e 0).trans rfl, ef 1, q1, (e 1).trans rfl, HG.out.keep (fun b hb => heap_alloc_old _ _ (HG.out.lt b hb))⟩
  have HE : Hid (ChgL (blk ns) w (w1.alloc (.cells #[.int .i64 x, .pointer q1] 52))) := Lib.hid (HC.out.alloc _)
  clear hp1 hs1 hg1 hc1 hz1 e ef
  go_wp2_with fail
  go_ret
  refine ⟨some ⟨w1.heap.size, 0, none⟩, (w1.heap.size, x) :: ns1, rfl, ?_, fun b hb => ?_, List.nodup_cons.2 ⟨fun hh => ?_, HS.out.nodup HN.out⟩, HF.out, HE.out⟩
  · show x :: pgs ns1 = _
    rw [HP1.out]
  · rcases List.mem_cons.1 hb with e | e
    · rw [e]; exact .inr HC.out.size
    · exact .inl (HS.out.subset e)
  · have := HG.out.lt _ hh
    omega
end Go.Proofs.Ytfnmnegddhggaaa
namespace Go.Proofs.Ytfnmnegddhggaaa
open Go.ChangeShapes Go.WideShapes Go.ChangeAt Go.RowKit
set_option linter.unusedVariables false
set_option linter.unusedSimpArgs false
theorem Pg.drew {w : World} : ∀ {ns : List (Nat × Int)} {p : Option Addr}, Pg w ns p → Pg w.drew ns p
  | [], _, h => h
  | m :: ns, p, ⟨e, h0, hf, q, h1, h2⟩ => ⟨e, h0, hf, q, h1, Pg.drew h2⟩
end Go.Proofs.Ytfnmnegddhggaaa
