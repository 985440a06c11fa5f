/- What the proofs stand on, part 13. -/
import Derived.Test.YtachiggolgdocaaRows
import Derived.Test.YtachiggolgdocaaM1
import Derived.Test.YtachiggolgdocaaM2
import Derived.Test.YtachiggolgdocaaM3
import Derived.Test.YtachiggolgdocaaM4
import Derived.Test.YtachiggolgdocaaM5
import Derived.Test.YtachiggolgdocaaM6
import Derived.Test.YtachiggolgdocaaM8
import Derived.Test.YtachiggolgdocaaM9
set_option linter.unusedSimpArgs false
set_option linter.unusedVariables false
namespace Go.Proofs.Ytachiggolgdocaa
open Go.ChangeShapes Go.WideShapes Go.ChangeAt Go.RowKit
set_option linter.unusedVariables false
theorem IsW.wide {B0 B1 C0 C1 : Nat} {w : World} {v : Value} {xs : List IV} (h : IsW w B0 B1 v xs) (h0 : C0 ≤ B0) (h1 : B1 ≤ C1) : IsW w C0 C1 v xs := by
  obtain ⟨a, cap, e, h2, h3, h4⟩ := h
  refine ⟨a, cap, e, h2, h3, fun i hi => ?_⟩
  obtain ⟨g, p, e, hg0, hg1, r⟩ := h4 i hi
  exact ⟨g, p, e, by omega, by omega, r⟩
end Go.Proofs.Ytachiggolgdocaa
namespace Go.Proofs.Ytachiggolgdocaa
open Go.ChangeShapes Go.WideShapes Go.ChangeAt Go.RowKit
set_option linter.unusedVariables false
theorem isW_none {w : World} {B0 B1 : Nat} : IsW w B0 B1 (.slice none 0 0) [] := ⟨none, 0, rfl, Nat.le_refl _, Nat.zero_le _, fun i hi => by simp at hi⟩
end Go.Proofs.Ytachiggolgdocaa
namespace Go.Proofs.Ytachiggolgdocaa
open Go.ChangeShapes Go.WideShapes Go.ChangeAt Go.RowKit
set_option linter.unusedVariables false
theorem QR.isW {B : Nat} {w : World} {v : Value} {xs : List IV} (h : QR B w v xs) : IsW w B w.heap.size v xs := by
  obtain ⟨a, cap, e, h1, h2, h3⟩ := h
  refine ⟨a, cap, e, h1, h2, fun i hi => ?_⟩
  obtain ⟨g, p, e, hg, hth, ht⟩ := h3 i (by omega)
  exact ⟨g, p, e, hg, (ht hi).lt, ht hi, fun j hj => (hth j hj).2⟩
end Go.Proofs.Ytachiggolgdocaa
namespace Go.Proofs.Ytachiggolgdocaa
open Go.ChangeShapes Go.WideShapes Go.ChangeAt Go.RowKit
set_option linter.unusedVariables false
structure Keep (E : Nat → Prop) (w w' : World) : Prop where
  os : w'.os = w.os
  tape : w'.tape = w.tape
  output : w'.output = w.output
  size : w.heap.size ≤ w'.heap.size
  block : ∀ b, E b → w'.heap[b]? = w.heap[b]?
theorem Keep.refl (E : Nat → Prop) (w : World) : Keep E w w := ⟨rfl, rfl, rfl, Nat.le_refl _, fun _ _ => rfl⟩
theorem Keep.trans {E : Nat → Prop} {a b c : World} (h : Keep E a b) (k : Keep E b c) : Keep E a c :=
  ⟨k.os.trans h.os, k.tape.trans h.tape, k.output.trans h.output, Nat.le_trans h.size k.size, fun i hi => (k.block i hi).trans (h.block i hi)⟩
theorem Keep.mono {E F : Nat → Prop} {a b : World} (h : Keep E a b) (hF : ∀ i, F i → E i) : Keep F a b := ⟨h.os, h.tape, h.output, h.size, fun i hi => h.block i (hF i hi)⟩
theorem Keep.of_below {E : Nat → Prop} {a b : World} (h : Below a.heap.size a b) (hE : ∀ i, E i → i < a.heap.size) : Keep E a b := ⟨h.os, h.tape, h.output, h.size, fun i hi => h.block i (hE i hi)⟩
theorem Keep.alloc {E : Nat → Prop} {a b : World} (h : Keep E a b) (hE : ∀ i, E i → i < a.heap.size) (o : Obj) : Keep E a (b.alloc o) :=
  ⟨h.os, h.tape, h.output, by have := h.size; simp; omega, fun i hi => (Below.heap_alloc _ _ _ (Nat.lt_of_lt_of_le (hE i hi) h.size)).trans (h.block i hi)⟩
theorem Keep.setCell {E : Nat → Prop} {a b : World} (h : Keep E a b) {X o : Nat} (hX : ¬ E X) (v : Value) : Keep E a (b.setCell ⟨X, o, none⟩ v) :=
  ⟨h.os, h.tape, h.output, by have := h.size; simpa using this, fun i hi => (Below.heap_setCell _ _ _ _ (fun e => hX (by have e2 : i = X := e; rw [← e2]; exact hi))).trans (h.block i hi)⟩
def QS (E : Nat → Prop) (Q : Nat) (w : World) (v : Value) (xs : List IV) : Prop :=
  ∃ (a : Option Addr) (cap : Nat), v = .slice a xs.length cap ∧ xs.length ≤ cap ∧ cap ≤ maxLen ∧
    ∀ i, i < cap → ∃ g p, a = some ⟨g, p, none⟩ ∧ (¬ E g ∧ g ≠ Q) ∧ w.there g (p + i * 3) 3 ∧ (i < xs.length → Tri w g (p + i * 3) (xs.getD i iz))
theorem QS.of_blocks {E : Nat → Prop} {Q : Nat} {w w' : World} {v : Value} {xs : List IV} (h : QS E Q w v xs) (hb : ∀ g, ¬ E g → g ≠ Q → g < w.heap.size → w'.heap[g]? = w.heap[g]?) : QS E Q w' v xs := by
  obtain ⟨a, cap, e, h1, h2, h3⟩ := h
  refine ⟨a, cap, e, h1, h2, fun i hi => ?_⟩
  obtain ⟨g, p, e, hg, hth, ht⟩ := h3 i hi
  have hbl := hb g hg.1 hg.2 (there_lt hth (by omega))
  exact ⟨g, p, e, hg, there_blocks hth hbl, fun hi2 => (ht hi2).block hbl⟩
theorem QS.below {E : Nat → Prop} {Q : Nat} {w w' : World} {v : Value} {xs : List IV} (h : QS E Q w v xs) (hb : Below w.heap.size w w') : QS E Q w' v xs := h.of_blocks (fun g _ _ hg => hb.block g hg)
theorem QS.of_qr {E : Nat → Prop} {B Q : Nat} {w : World} {v : Value} {xs : List IV} (h : QR B w v xs) (hE : ∀ g, B ≤ g → g < w.heap.size → ¬ E g) (hQ : w.heap.size ≤ Q) : QS E Q w v xs := by
  obtain ⟨a, cap, e, h1, h2, h3⟩ := h
  refine ⟨a, cap, e, h1, h2, fun i hi => ?_⟩
  obtain ⟨g, p, e, hg, hth, ht⟩ := h3 i hi
  have hl := there_lt hth (by omega)
  exact ⟨g, p, e, ⟨hE g hg hl, by omega⟩, hth, ht⟩
theorem QS.isW {E : Nat → Prop} {B Q : Nat} {w : World} {v : Value} {xs : List IV} (h : QS E Q w v xs) (hE : ∀ g, g < B → E g) : IsW w B w.heap.size v xs := by
  obtain ⟨a, cap, e, h1, h2, h3⟩ := h
  refine ⟨a, cap, e, h1, h2, fun i hi => ?_⟩
  obtain ⟨g, p, e, hg, hth, ht⟩ := h3 i (by omega)
  exact ⟨g, p, e, Nat.le_of_not_lt (fun hh => hg.1 (hE g hh)), (ht hi).lt, ht hi, fun j hj => (hth j hj).2⟩
def QV (E : Nat → Prop) (Q : Nat) (w : World) (xs : List IV) : Prop := ∃ v, w.cell? ⟨Q, 0, none⟩ = some v ∧ w.frozen? ⟨Q, 0, none⟩ = false ∧ QS E Q w v xs
theorem QV.of_blocks {E : Nat → Prop} {Q : Nat} {w w' : World} {xs : List IV} (h : QV E Q w xs) (hb : ∀ g, ¬ E g → g < w.heap.size → w'.heap[g]? = w.heap[g]?) (hQ : ¬ E Q) : QV E Q w' xs := by
  obtain ⟨v, hc, hf, hs⟩ := h
  have hq := hb Q hQ (block_lt_of_cell hc)
  exact ⟨v, (World.cell?_of_block hq).trans hc, (World.frozen?_of_block hq).trans hf, hs.of_blocks (fun g hg _ hl => hb g hg hl)⟩
theorem QV.lt {E : Nat → Prop} {Q : Nat} {w : World} {xs : List IV} (h : QV E Q w xs) : Q < w.heap.size := by
  obtain ⟨v, hc, _⟩ := h
  exact block_lt_of_cell hc
end Go.Proofs.Ytachiggolgdocaa
namespace Go.Proofs.Ytachiggolgdocaa
open Go.ChangeShapes Go.WideShapes Go.ChangeAt Go.RowKit
set_option linter.unusedVariables false
theorem wp_append_q {a : Act} {w : World} {K : Act → World → Prop} {R : Exit → Act → World → Prop} {dst : Option Nat} {tt : TypeId} {pos : String} {after : Array Edge} {gd : Option (Nat × Bool)} (s x : Operand)
    (E : Nat → Prop) (Q : Nat) (v : Value) (ys : List IV) (z : IV) (b : Nat) (hs : a.eval s = v) (h : QS E Q w v ys) (hx : a.eval x = .slice (some ⟨b, 0, none⟩) 1 1) (hz : Tri w b 0 z) (hl : ys.length ≤ 100) (hE : ∀ i, E i → i < w.heap.size) (hQ : Q < w.heap.size)
    (hk : ∀ v' w', QS E Q w' v' (ys ++ [z]) → Keep (fun i => E i ∨ i = Q) w w' → K (a.put dst v') w') :
    Oper.wp Try.prog { dst := dst, op := .call { callee := .builtin .append, args := #[s, x], argTypes := #[60, 60] }, type := tt, pos := pos, after := after, guard := gd } a w K R := by
  obtain ⟨i0, hi, hz0, hz1, hz2⟩ := info_parts ivInfo
  have hnews : ∀ j u, (ivC z)[j]? = some u → w.cell? ((⟨b, 0, none⟩ : Addr).add j) = some u := fun j u hj => by
    have hj3 : j < 3 := (List.getElem?_eq_some_iff.1 hj).1
    rw [Addr.add_lit]
    obtain rfl | rfl | rfl : j = 0 ∨ j = 1 ∨ j = 2 := by omega
    · cases hj; exact hz.c0
    · cases hj; exact hz.c1
    · cases hj; exact hz.c2
  have hone : ∀ u ∈ ivC z, u.oneCell' = true := by
    intro u hu
    simp only [ivC, List.mem_cons, List.not_mem_nil, or_false] at hu
    rcases hu with rfl | rfl | rfl <;> rfl
  have hgrow : ∀ v' w', w'.ownsRow w.heap.size 25 3 v' (ys.length + 1) (isC ys ++ ivC z) → w.grownBy w' none → QS E Q w' v' (ys ++ [z]) ∧ Keep (fun i => E i ∨ i = Q) w w' := fun v' w' ho hg => by
    have ho' : w'.ownsRow w.heap.size 25 3 v' (ys ++ [z]).length (isC (ys ++ [z])) := by
      rw [List.length_append, List.length_singleton, isC_app, show isC [z] = ivC z by simp [isC]]
      exact ho
    obtain ⟨a', cap, e, h1, h2, h3⟩ := QR.of_ownsRow ho'
    refine ⟨⟨a', cap, e, h1, h2, fun i hi => ?_⟩, ⟨hg.os, hg.tape, hg.output, hg.size, fun i hi => hg.block i (by rcases hi with hi | hi; exact hE i hi; omega) (by simp)⟩⟩
    obtain ⟨g, p, e, hgb, r⟩ := h3 i hi
    exact ⟨g, p, e, ⟨fun hh => by have := hE g hh; omega, by omega⟩, r⟩
  obtain ⟨ad, cap, e, h1, h2, h3⟩ := h
  have h63 : ys.length + 1 ≤ maxLen := by unfold maxLen; omega
  have hby : (ys.length + 1) * 24 ≤ 140737488355328 := by omega
  have fin : ∀ v' w', (Builtin.append_ #[60, 60] tt #[v, .slice (some ⟨b, 0, none⟩) 1 1]).run Try.prog w = .ok v' w' → QS E Q w' v' (ys ++ [z]) ∧ Keep (fun i => E i ∨ i = Q) w w' →
      Oper.wp Try.prog { dst := dst, op := .call { callee := .builtin .append, args := #[s, x], argTypes := #[60, 60] }, type := tt, pos := pos, after := after, guard := gd } a w K R := fun v' w' hr hq => by
    have hk' := hk v' w' hq.1 hq.2
    unfold Oper.wp execOp
    simp only [resolve, invoke, builtin, Sem.run_bind, Sem.run_pure, Result.andThen_ok, List.map_toArray, List.map_cons, List.map_nil, hs, hx, hr]
    exact hk'
  cases ad with
  | none =>
    have hc0 : cap = 0 := by
      rcases Nat.eq_zero_or_pos cap with h | h
      · exact h
      · obtain ⟨g, p, e, _⟩ := h3 0 h; cases e
    subst hc0
    have hy : ys = [] := List.eq_nil_of_length_eq_zero (by omega)
    subst hy
    obtain ⟨v', w', hr, ho, hg, _⟩ := run_append_own (P := Try.prog) w w.heap.size 60 tt 25 i0 _ 3 24 Try.underlying60 hi hz0 hz1 hz2 rfl (by decide) (.slice none 0 0) 0 [] (World.ownsRow_nil w _ _ 3) ⟨b, 0, none⟩ 1 1 (ivC z) rfl hnews hone (by unfold maxLen; omega) (by omega) (Nat.le_refl _)
    subst e
    exact fin v' w' hr (hgrow v' w' ho hg)
  | some ad =>
    by_cases hroom : ys.length + 1 ≤ cap
    · obtain ⟨g, p, e2, hg, hth, ht⟩ := h3 0 (by omega)
      injection e2 with e2
      subst e2
      have hall : ∀ i, i < cap → (¬ E g ∧ g ≠ Q) ∧ w.there g (p + i * 3) 3 ∧ (i < ys.length → Tri w g (p + i * 3) (ys.getD i iz)) := fun i hi => by
        obtain ⟨g', p', e2, r⟩ := h3 i hi
        cases e2
        exact r
      have hlast := hall ys.length (by omega)
      have hr := run_append_room_cells (P := Try.prog) w 60 tt 25 i0 Try.underlying60 hi g p ys.length cap ⟨b, 0, none⟩ 1 1 (ivC z) (by rw [hz1]; rfl) hnews hone hroom
        (fun j hj => by rw [hz1]; exact (hlast.2.1 j hj).1) (fun j hj => by rw [hz1]; exact (hlast.2.1 j hj).2)
      rw [hz1] at hr
      rw [← e] at hr
      refine fin _ _ hr ⟨⟨_, cap, by rw [List.length_append]; rfl, by rw [List.length_append]; exact hroom, h2, fun i hi => ⟨g, p, rfl, hg, World.there_setCells (hall i hi).2.1 _ _ _, fun hi2 => ?_⟩⟩, ?_⟩
      · rw [List.length_append, List.length_singleton] at hi2
        by_cases hil : i = ys.length
        · subst hil
          rw [show (ys ++ [z]).getD ys.length iz = z by simp [List.getD_eq_getElem?_getD]]
          exact (TriW.stored hlast.2.1).at3
        · have hi3 : i < ys.length := by omega
          rw [show (ys ++ [z]).getD i iz = ys.getD i iz by rw [List.getD_eq_getElem?_getD, List.getD_eq_getElem?_getD, List.getElem?_append_left hi3]]
          have hw : TriW w g (p + i * 3) (ys.getD i iz) := ⟨(hall i hi).2.2 hi3, fun j hj => ((hall i hi).2.1 j hj).2⟩
          exact (hw.apart (.inr (.inl (by omega)))).at3
      · exact ⟨os_setCells _ _ _ _, tape_setCells _ _ _ _, output_setCells _ _ _ _, by rw [size_setCells]; exact Nat.le_refl _, fun i hi => heap_setCells_other w _ _ _ _ _ (by
          rcases hi with hi | hi
          · exact fun e3 => hg.1 (e3 ▸ hi)
          · exact fun e3 => hg.2 (e3 ▸ hi))⟩
    · have hcap : cap = ys.length := by omega
      obtain ⟨v', w', hr, ho, hg⟩ := run_append_arg_grows (P := Try.prog) w 60 tt 25 i0 _ 3 24 Try.underlying60 hi hz0 hz1 hz2 rfl (by decide) ad ys.length cap (isC ys) (isC_len ys) (fun j u hj => by
        have hjl : j < ys.length * 3 := by
          have := (List.getElem?_eq_some_iff.1 hj).1
          rwa [isC_len] at this
        obtain ⟨g, p, e2, _⟩ := h3 0 (by omega)
        injection e2 with e2
        subst e2
        rw [Addr.add_lit]
        refine is_cells (fun i hi => ?_) j u hj
        obtain ⟨g', p', e2, _, _, ht⟩ := h3 i (by omega)
        cases e2
        exact ht hi) ⟨b, 0, none⟩ 1 1 (ivC z) rfl hnews (by omega) h63 hby
      rw [← e] at hr
      exact fin v' w' hr (hgrow v' w' ho hg)
theorem put_post {E : Nat → Prop} {w W : World} {Q : Nat} {v u : Value} {xs : List IV} (h : QS E Q W v xs) (hc : W.cell? ⟨Q, 0, none⟩ = some u) (hf : W.frozen? ⟨Q, 0, none⟩ = false) (hQ : ¬ E Q) (hk : Keep E w W) :
    QV E Q (W.setCell ⟨Q, 0, none⟩ v) xs ∧ Keep E w (W.setCell ⟨Q, 0, none⟩ v) :=
  ⟨⟨v, cell_set_same hc, (frozen_set _).trans hf, h.of_blocks (fun g _ hg _ => Below.heap_setCell _ _ _ _ hg)⟩, hk.setCell hQ v⟩
set_option maxRecDepth 100000 in
set_option maxHeartbeats 1000000 in
theorem iput_any (E : Nat → Prop) (w : World) (Q : Nat) (x : IV) (xs : List IV) (h : QV E Q w xs) (hE : ∀ b, E b → b < w.heap.size) (hQ : ¬ E Q) (hl : xs.length ≤ 8) :
    Calls Try.prog 45 #[.pointer (some ⟨Q, 0, none⟩), ivV x] w fun e w' => e = .returned (.tuple #[]) ∧ QV E Q w' (xs ++ [x]) ∧ Keep E w w' := by
  have HE := Lib.hid hE
  have HQ := Lib.hid hQ
  have HL := Lib.hid hl
  obtain ⟨w0, hw0⟩ : ∃ w0, w0 = w.alloc (.cells #[.int .i64 x.k, .int .i64 x.g, .int .i64 x.r] 25) := ⟨_, rfl⟩
  have T0 : Hid (Tri w0 w.heap.size 0 x) := Lib.hid (by rw [hw0]; exact tri_new w x _)
  have B0 : Hid (Below w.heap.size w w0) := Lib.hid (by rw [hw0]; exact (Below.refl _ _).alloc (Nat.le_refl _) _)
  have L0 : Hid (w.heap.size < w0.heap.size) := Lib.hid (by rw [hw0]; simp)
  have HQL := Lib.hid h.lt
  obtain ⟨v, hc, hf, hs⟩ := h
  have HC : Hid (w0.cell? ⟨Q, 0, none⟩ = some v) := Lib.hid ((World.cell?_of_block (B0.out.block Q HQL.out)).trans hc)
  have HF : Hid (w0.frozen? ⟨Q, 0, none⟩ = false) := Lib.hid ((World.frozen?_of_block (B0.out.block Q HQL.out)).trans hf)
  have HS := Lib.hid (hs.below B0.out)
  have HW0 := Lib.hid hw0
  clear hc hf hs hE hQ hl hw0
  go_enter Try.func45, Try.ntmps45
  go_wp2_with fail
  rw [← HW0.out]
  have HQ0 : Hid (Q < w0.heap.size) := Lib.hid (Nat.lt_trans HQL.out L0.out)
  have HW0L := L0
  refine wp_region_held_drew (S := fun _ => True) (by kernel_rfl) trivial (fun hHeld => ?_)
  refine anyH_gen _ (fun AZ hgen => ?_)
  have HBZ := Lib.hid (by rw [hgen]; exact (Below.refl _ _).drew : Below w0.heap.size w0 AZ)
  clear hgen
  refine wpAnyH_take (i := 0) (oi := { dst := some 4, op := .move (.tmp 0), type := _, pos := _, after := _, guard := none }) (v := .pointer (some ⟨Q, 0, none⟩)) rfl (by kernel_rfl) (by kernel_rfl) (by kernel_rfl) (fun _ _ _ h => h) (Or.inl ⟨by rfl, fun wh hSw => ?_⟩) hHeld ?_
  · go_simp
  try simp only [Act.put, List.setIfInBounds_toArray, List.set_cons_zero, List.set_cons_succ]
  refine wpAnyH_take (i := 1) (oi := { dst := some 5, op := .move (.tmp 0), type := _, pos := _, after := _, guard := none }) (v := .pointer (some ⟨Q, 0, none⟩)) rfl (by kernel_rfl) (by kernel_rfl) (by kernel_rfl) (fun _ _ _ h => h) (Or.inl ⟨by rfl, fun wh hSw => ?_⟩) hHeld ?_
  · go_simp
  try simp only [Act.put, List.setIfInBounds_toArray, List.set_cons_zero, List.set_cons_succ]
  refine wpAnyH_take (i := 2) (oi := { dst := some 6, op := .nilCheck (.tmp 5), type := _, pos := _, after := _, guard := none }) (v := .pointer (some ⟨Q, 0, none⟩)) rfl (by kernel_rfl) (by kernel_rfl) (by kernel_rfl) (fun _ _ _ h => h) (Or.inl ⟨by rfl, fun wh hSw => ?_⟩) hHeld ?_
  · go_simp
  try simp only [Act.put, List.setIfInBounds_toArray, List.set_cons_zero, List.set_cons_succ]
  refine wpAnyH_ready (rs := [3, 4]) (by kernel_rfl) (by simp) ?_
  refine AllReadyH.cons (o := { dst := some 7, op := .load 60 (.tmp 6), type := _, pos := _, after := _, guard := none }) rfl (fun K hK => ?_) (AllReadyH.cons (o := { dst := some 8, op := .load 25 (.tmp 3), type := _, pos := _, after := _, guard := none }) rfl (fun K hK => ?_) AllReadyH.nil)
  · have hc1 : AZ.cell? ⟨Q, 0, none⟩ = some v := (World.cell?_of_block (HBZ.out.block Q HQ0.out)).trans HC.out
    go_simp
    refine hK.out _ _ ?_ (fun hHeld => ?_)
    · exact trivial
    clear hK K
    try simp only [Act.put, List.setIfInBounds_toArray, List.set_cons_zero, List.set_cons_succ]
    clear hc1
    refine wpAnyH_ready (rs := [4]) (by kernel_rfl) (by simp) ?_
    refine AllReadyH.cons (o := { dst := some 8, op := .load 25 (.tmp 3), type := _, pos := _, after := _, guard := none }) rfl (fun K hK => ?_) AllReadyH.nil
    obtain ⟨c0, c1, c2⟩ := T0.out.below HBZ.out L0.out
    simp only [Nat.zero_add] at c0 c1 c2
    go_simp
    refine hK.out _ _ ?_ (fun hHeld => ?_)
    · exact trivial
    clear hK K
    try simp only [Act.put, List.setIfInBounds_toArray, List.set_cons_zero, List.set_cons_succ]
    clear c0 c1 c2
    refine wpAnyH_ready (rs := [5]) (by kernel_rfl) (by simp) ?_
    refine AllReadyH.cons (o := { dst := some 9, op := .buildSlice 60 1 #[(0, .tmp 8)], type := _, pos := _, after := _, guard := none }) rfl (fun K hK => ?_) AllReadyH.nil
    go_simp
    refine hK.out _ _ ?_ (fun hHeld => ?_)
    · exact trivial
    clear hK K
    try simp only [Act.put, List.setIfInBounds_toArray, List.set_cons_zero, List.set_cons_succ]
    refine anyH_gen _ (fun A2 hgen => ?_)
    have HB3 : Hid (Below w0.heap.size w0 A2) := Lib.hid (by rw [hgen]; exact HBZ.out.alloc HBZ.out.size _)
    have HT4 : Hid (Tri A2 AZ.heap.size 0 x) := Lib.hid (by rw [hgen]; exact tri_new AZ x _)
    clear hgen
    refine wpAnyH_ready (rs := [6]) (by kernel_rfl) (by simp) ?_
    refine AllReadyH.cons (o := { dst := some 10, op := .call { callee := .builtin .append, args := #[.tmp 7, .tmp 9], argTypes := #[60, 60] }, type := _, pos := _, after := _, guard := none }) rfl (fun K hK => ?_) AllReadyH.nil
    rw [if_pos (by rfl)]
    refine wp_append_q (.tmp 7) (.tmp 9) E Q v xs x AZ.heap.size rfl (HS.out.below HB3.out) rfl HT4.out (by have := HL.out; omega) (fun i hi => Nat.lt_of_lt_of_le (HE.out i hi) (Nat.le_trans (Nat.le_of_lt HW0L.out) HB3.out.size)) (Nat.lt_of_lt_of_le HQ0.out HB3.out.size) ?_
    intro v6 A5 hq hkp
    obtain ⟨a8, n8, c8, rfl⟩ : ∃ a n c, v6 = .slice a n c := by obtain ⟨a, c, e, _⟩ := hq; exact ⟨a, _, c, e⟩
    have HQ7 := Lib.hid hq
    have HK8 : Hid (Keep (fun i => E i ∨ i = Q) w0 A5) := Lib.hid ((Keep.of_below HB3.out (fun i hi => (by rcases hi with hi | hi; exact Nat.lt_trans (HE.out i hi) HW0L.out; rw [hi]; exact HQ0.out))).trans hkp)
    have hc2 : A5.cell? ⟨Q, 0, none⟩ = some v := (World.cell?_of_block (HK8.out.block Q (.inr rfl))).trans HC.out
    have hf2 : A5.frozen? ⟨Q, 0, none⟩ = false := (World.frozen?_of_block (HK8.out.block Q (.inr rfl))).trans HF.out
    clear hq hkp
    refine hK.out _ _ ?_ (fun hHeld => ?_)
    · exact trivial
    clear hK K
    try simp only [Act.put, List.setIfInBounds_toArray, List.set_cons_zero, List.set_cons_succ]
    refine wpAnyH_take (i := 7) (oi := { dst := some 11, op := .nilCheck (.tmp 4), type := _, pos := _, after := _, guard := none }) (v := .pointer (some ⟨Q, 0, none⟩)) rfl (by kernel_rfl) (by kernel_rfl) (by kernel_rfl) (fun _ _ _ h => h) (Or.inl ⟨by rfl, fun wh hSw => ?_⟩) hHeld ?_
    · go_simp
    try simp only [Act.put, List.setIfInBounds_toArray, List.set_cons_zero, List.set_cons_succ]
    refine wpAnyH_ready (rs := [8]) (by kernel_rfl) (by simp) ?_
    refine AllReadyH.cons (o := { dst := none, op := .store 60 (.tmp 11) (.tmp 10), type := _, pos := _, after := _, guard := none }) rfl (fun K hK => ?_) AllReadyH.nil
    go_simp
    refine hK.out _ _ ?_ (fun hHeld => ?_)
    · exact trivial
    clear hK K
    try simp only [Act.put, List.setIfInBounds_toArray, List.set_cons_zero, List.set_cons_succ]
    refine wpAnyH_done (by kernel_rfl) ?_ _
    refine bodyPost_end (results_none rfl _ _ _) rfl ?_
    exact ⟨rfl, put_post HQ7.out hc2 hf2 HQ.out ((Keep.of_below B0.out HE.out).trans (HK8.out.mono (fun i hi => .inl hi)))⟩
  · obtain ⟨c0, c1, c2⟩ := T0.out.below HBZ.out L0.out
    simp only [Nat.zero_add] at c0 c1 c2
    go_simp
    refine hK.out _ _ ?_ (fun hHeld => ?_)
    · exact trivial
    clear hK K
    try simp only [Act.put, List.setIfInBounds_toArray, List.set_cons_zero, List.set_cons_succ]
    clear c0 c1 c2
    refine wpAnyH_ready (rs := [3, 5]) (by kernel_rfl) (by simp) ?_
    refine AllReadyH.cons (o := { dst := some 7, op := .load 60 (.tmp 6), type := _, pos := _, after := _, guard := none }) rfl (fun K hK => ?_) (AllReadyH.cons (o := { dst := some 9, op := .buildSlice 60 1 #[(0, .tmp 8)], type := _, pos := _, after := _, guard := none }) rfl (fun K hK => ?_) AllReadyH.nil)
    · have hc9 : AZ.cell? ⟨Q, 0, none⟩ = some v := (World.cell?_of_block (HBZ.out.block Q HQ0.out)).trans HC.out
      go_simp
      refine hK.out _ _ ?_ (fun hHeld => ?_)
      · exact trivial
      clear hK K
      try simp only [Act.put, List.setIfInBounds_toArray, List.set_cons_zero, List.set_cons_succ]
      clear hc9
      refine wpAnyH_ready (rs := [5]) (by kernel_rfl) (by simp) ?_
      refine AllReadyH.cons (o := { dst := some 9, op := .buildSlice 60 1 #[(0, .tmp 8)], type := _, pos := _, after := _, guard := none }) rfl (fun K hK => ?_) AllReadyH.nil
      go_simp
      refine hK.out _ _ ?_ (fun hHeld => ?_)
      · exact trivial
      clear hK K
      try simp only [Act.put, List.setIfInBounds_toArray, List.set_cons_zero, List.set_cons_succ]
      refine anyH_gen _ (fun A10 hgen => ?_)
      have HB11 : Hid (Below w0.heap.size w0 A10) := Lib.hid (by rw [hgen]; exact HBZ.out.alloc HBZ.out.size _)
      have HT12 : Hid (Tri A10 AZ.heap.size 0 x) := Lib.hid (by rw [hgen]; exact tri_new AZ x _)
      clear hgen
      refine wpAnyH_ready (rs := [6]) (by kernel_rfl) (by simp) ?_
      refine AllReadyH.cons (o := { dst := some 10, op := .call { callee := .builtin .append, args := #[.tmp 7, .tmp 9], argTypes := #[60, 60] }, type := _, pos := _, after := _, guard := none }) rfl (fun K hK => ?_) AllReadyH.nil
      rw [if_pos (by rfl)]
      refine wp_append_q (.tmp 7) (.tmp 9) E Q v xs x AZ.heap.size rfl (HS.out.below HB11.out) rfl HT12.out (by have := HL.out; omega) (fun i hi => Nat.lt_of_lt_of_le (HE.out i hi) (Nat.le_trans (Nat.le_of_lt HW0L.out) HB11.out.size)) (Nat.lt_of_lt_of_le HQ0.out HB11.out.size) ?_
      intro v14 A13 hq hkp
      obtain ⟨a8, n8, c8, rfl⟩ : ∃ a n c, v14 = .slice a n c := by obtain ⟨a, c, e, _⟩ := hq; exact ⟨a, _, c, e⟩
      have HQ15 := Lib.hid hq
      have HK16 : Hid (Keep (fun i => E i ∨ i = Q) w0 A13) := Lib.hid ((Keep.of_below HB11.out (fun i hi => (by rcases hi with hi | hi; exact Nat.lt_trans (HE.out i hi) HW0L.out; rw [hi]; exact HQ0.out))).trans hkp)
      have hc2 : A13.cell? ⟨Q, 0, none⟩ = some v := (World.cell?_of_block (HK16.out.block Q (.inr rfl))).trans HC.out
      have hf2 : A13.frozen? ⟨Q, 0, none⟩ = false := (World.frozen?_of_block (HK16.out.block Q (.inr rfl))).trans HF.out
      clear hq hkp
      refine hK.out _ _ ?_ (fun hHeld => ?_)
      · exact trivial
      clear hK K
      try simp only [Act.put, List.setIfInBounds_toArray, List.set_cons_zero, List.set_cons_succ]
      refine wpAnyH_take (i := 7) (oi := { dst := some 11, op := .nilCheck (.tmp 4), type := _, pos := _, after := _, guard := none }) (v := .pointer (some ⟨Q, 0, none⟩)) rfl (by kernel_rfl) (by kernel_rfl) (by kernel_rfl) (fun _ _ _ h => h) (Or.inl ⟨by rfl, fun wh hSw => ?_⟩) hHeld ?_
      · go_simp
      try simp only [Act.put, List.setIfInBounds_toArray, List.set_cons_zero, List.set_cons_succ]
      refine wpAnyH_ready (rs := [8]) (by kernel_rfl) (by simp) ?_
      refine AllReadyH.cons (o := { dst := none, op := .store 60 (.tmp 11) (.tmp 10), type := _, pos := _, after := _, guard := none }) rfl (fun K hK => ?_) AllReadyH.nil
      go_simp
      refine hK.out _ _ ?_ (fun hHeld => ?_)
      · exact trivial
      clear hK K
      try simp only [Act.put, List.setIfInBounds_toArray, List.set_cons_zero, List.set_cons_succ]
      refine wpAnyH_done (by kernel_rfl) ?_ _
      refine bodyPost_end (results_none rfl _ _ _) rfl ?_
      exact ⟨rfl, put_post HQ15.out hc2 hf2 HQ.out ((Keep.of_below B0.out HE.out).trans (HK16.out.mono (fun i hi => .inl hi)))⟩
    · go_simp
      refine hK.out _ _ ?_ (fun hHeld => ?_)
      · exact trivial
      clear hK K
      try simp only [Act.put, List.setIfInBounds_toArray, List.set_cons_zero, List.set_cons_succ]
      refine anyH_gen _ (fun A17 hgen => ?_)
      have HB18 : Hid (Below w0.heap.size w0 A17) := Lib.hid (by rw [hgen]; exact HBZ.out.alloc HBZ.out.size _)
      have HT19 : Hid (Tri A17 AZ.heap.size 0 x) := Lib.hid (by rw [hgen]; exact tri_new AZ x _)
      clear hgen
      refine wpAnyH_ready (rs := [3]) (by kernel_rfl) (by simp) ?_
      refine AllReadyH.cons (o := { dst := some 7, op := .load 60 (.tmp 6), type := _, pos := _, after := _, guard := none }) rfl (fun K hK => ?_) AllReadyH.nil
      have hc20 : A17.cell? ⟨Q, 0, none⟩ = some v := (World.cell?_of_block (HB18.out.block Q HQ0.out)).trans HC.out
      go_simp
      refine hK.out _ _ ?_ (fun hHeld => ?_)
      · exact trivial
      clear hK K
      try simp only [Act.put, List.setIfInBounds_toArray, List.set_cons_zero, List.set_cons_succ]
      clear hc20
      refine wpAnyH_ready (rs := [6]) (by kernel_rfl) (by simp) ?_
      refine AllReadyH.cons (o := { dst := some 10, op := .call { callee := .builtin .append, args := #[.tmp 7, .tmp 9], argTypes := #[60, 60] }, type := _, pos := _, after := _, guard := none }) rfl (fun K hK => ?_) AllReadyH.nil
      rw [if_pos (by rfl)]
      refine wp_append_q (.tmp 7) (.tmp 9) E Q v xs x AZ.heap.size rfl (HS.out.below HB18.out) rfl HT19.out (by have := HL.out; omega) (fun i hi => Nat.lt_of_lt_of_le (HE.out i hi) (Nat.le_trans (Nat.le_of_lt HW0L.out) HB18.out.size)) (Nat.lt_of_lt_of_le HQ0.out HB18.out.size) ?_
      intro v22 A21 hq hkp
      obtain ⟨a8, n8, c8, rfl⟩ : ∃ a n c, v22 = .slice a n c := by obtain ⟨a, c, e, _⟩ := hq; exact ⟨a, _, c, e⟩
      have HQ23 := Lib.hid hq
      have HK24 : Hid (Keep (fun i => E i ∨ i = Q) w0 A21) := Lib.hid ((Keep.of_below HB18.out (fun i hi => (by rcases hi with hi | hi; exact Nat.lt_trans (HE.out i hi) HW0L.out; rw [hi]; exact HQ0.out))).trans hkp)
      have hc2 : A21.cell? ⟨Q, 0, none⟩ = some v := (World.cell?_of_block (HK24.out.block Q (.inr rfl))).trans HC.out
      have hf2 : A21.frozen? ⟨Q, 0, none⟩ = false := (World.frozen?_of_block (HK24.out.block Q (.inr rfl))).trans HF.out
      clear hq hkp
      refine hK.out _ _ ?_ (fun hHeld => ?_)
      · exact trivial
      clear hK K
      try simp only [Act.put, List.setIfInBounds_toArray, List.set_cons_zero, List.set_cons_succ]
      refine wpAnyH_take (i := 7) (oi := { dst := some 11, op := .nilCheck (.tmp 4), type := _, pos := _, after := _, guard := none }) (v := .pointer (some ⟨Q, 0, none⟩)) rfl (by kernel_rfl) (by kernel_rfl) (by kernel_rfl) (fun _ _ _ h => h) (Or.inl ⟨by rfl, fun wh hSw => ?_⟩) hHeld ?_
      · go_simp
      try simp only [Act.put, List.setIfInBounds_toArray, List.set_cons_zero, List.set_cons_succ]
      refine wpAnyH_ready (rs := [8]) (by kernel_rfl) (by simp) ?_
      refine AllReadyH.cons (o := { dst := none, op := .store 60 (.tmp 11) (.tmp 10), type := _, pos := _, after := _, guard := none }) rfl (fun K hK => ?_) AllReadyH.nil
      go_simp
      refine hK.out _ _ ?_ (fun hHeld => ?_)
      · exact trivial
      clear hK K
      try simp only [Act.put, List.setIfInBounds_toArray, List.set_cons_zero, List.set_cons_succ]
      refine wpAnyH_done (by kernel_rfl) ?_ _
      refine bodyPost_end (results_none rfl _ _ _) rfl ?_
      exact ⟨rfl, put_post HQ23.out hc2 hf2 HQ.out ((Keep.of_below B0.out HE.out).trans (HK24.out.mono (fun i hi => .inl hi)))⟩
end Go.Proofs.Ytachiggolgdocaa
namespace Go.Proofs.Ytachiggolgdocaa
open Go.ChangeShapes Go.WideShapes Go.ChangeAt Go.RowKit
set_option linter.unusedVariables false
theorem qv_new {w w1 : World} {v : Value} {xs : List IV} (h : QR w.heap.size w1 v xs) (hb : Below w.heap.size w w1) (t : TypeId) : QV (fun b => b < w.heap.size) w1.heap.size (w1.alloc (.cells #[v] t)) xs :=
  ⟨v, new_cell rfl, frozen_of_row _ _ _ _ _ (heap_alloc_new w1 _), (QS.of_qr (E := fun b => b < w.heap.size) (Q := w1.heap.size) h (fun g h1 _ h2 => by omega) (Nat.le_refl _)).below ((Below.refl _ _).alloc (Nat.le_refl _) _)⟩
theorem QV.mono {E F : Nat → Prop} {Q : Nat} {w : World} {xs : List IV} (h : QV E Q w xs) (hF : ∀ b, F b → E b ∨ w.heap.size ≤ b) : QV F Q w xs := by
  obtain ⟨v, q1, q2, a, cap, q3, q4, q5, q6⟩ := h
  exact ⟨v, q1, q2, a, cap, q3, q4, q5, fun i hi => by
    obtain ⟨g, p, e, r1, r2, r3⟩ := q6 i hi
    have hl := there_lt r2 (by omega)
    exact ⟨g, p, e, ⟨fun hh => by rcases hF g hh with h | h; exact r1.1 h; omega, r1.2⟩, r2, r3⟩⟩
theorem Keep.below {B : Nat} {a b : World} (h : Keep (fun i => i < B) a b) : Below B a b := ⟨h.os, h.tape, h.output, h.size, fun i hi => h.block i hi⟩
end Go.Proofs.Ytachiggolgdocaa
