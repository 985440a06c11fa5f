/- What the proofs stand on, part 3. -/
import Derived.Test.YtaalnjinocicgaaRows
import Derived.Test.YtaalnjinocicgaaW1
set_option linter.unusedSimpArgs false
set_option linter.unusedVariables false
namespace Go.Proofs.Ytaalnjinocicgaa
open Go.ChangeShapes Go.WideShapes Go.ChangeAt Go.RowKit
set_option linter.unusedVariables false
structure Marked (a : Option Addr) (n : Nat) (k : Int) (w w' : World) : Prop where
  os : w'.os = w.os
  tape : w'.tape = w.tape
  output : w'.output = w.output
  size : w'.heap.size = w.heap.size
  block : ∀ b, (∀ p, n = 0 ∨ a ≠ some ⟨b, p, none⟩) → w'.heap[b]? = w.heap[b]?
  frozen : ∀ b, w'.frozen? b = w.frozen? b
  inside : ∀ g p, a = some ⟨g, p, none⟩ → ∀ i, i < n → w'.cell? ⟨g, p + i, none⟩ = some (.int .i64 (k + i))
  outside : ∀ g p, a = some ⟨g, p, none⟩ → ∀ o, (o < p ∨ p + n ≤ o) → w'.cell? ⟨g, o, none⟩ = w.cell? ⟨g, o, none⟩
theorem Marked.zero (a : Option Addr) (k : Int) (w : World) : Marked a 0 k w w := ⟨rfl, rfl, rfl, rfl, fun _ _ => rfl, fun _ => rfl, fun _ _ _ i hi => by omega, fun _ _ _ _ _ => rfl⟩
theorem Marked.step {g p n : Nat} {k : Int} {w w' : World} (h : Marked (some ⟨g, p, none⟩) n k w w') {u : Value} (hc : w.cell? ⟨g, p + n, none⟩ = some u) :
    Marked (some ⟨g, p, none⟩) (n + 1) k w (w'.setCell ⟨g, p + n, none⟩ (.int .i64 (k + n))) := by
  refine ⟨h.os, h.tape, h.output, by simpa [World.setCell] using h.size, fun b hb => ?_, fun b => (frozen_set b).trans (h.frozen b), fun g' p' e i hi => ?_, fun g' p' e o ho => ?_⟩
  · have : b ≠ g := fun e => by
      rcases hb p with h' | h'
      · omega
      · exact h' (by rw [e])
    exact (Below.heap_setCell w' ⟨g, p + n, none⟩ _ b this).trans (h.block b (fun q => (hb q).elim (fun h' => by omega) .inr))
  · cases e
    by_cases hin : i = n
    · subst hin
      exact cell_set_same ((h.outside g p rfl (p + i) (.inr (Nat.le_refl _))).trans hc)
    · exact (cell_set_other (.inr (by omega))).trans (h.inside g p rfl i (by omega))
  · cases e
    exact (cell_set_other (.inr (by omega))).trans (h.outside g p rfl o (by omega))
structure Kept (B0 B1 : Nat) (w w' : World) : Prop where
  os : w'.os = w.os
  tape : w'.tape = w.tape
  output : w'.output = w.output
  size : w'.heap.size = w.heap.size
  block : ∀ b, (b < B0 ∨ B1 ≤ b) → w'.heap[b]? = w.heap[b]?
theorem Kept.refl (B0 B1 : Nat) (w : World) : Kept B0 B1 w w := ⟨rfl, rfl, rfl, rfl, fun _ _ => rfl⟩
theorem Kept.trans {B0 B1 : Nat} {a b c : World} (h : Kept B0 B1 a b) (k : Kept B0 B1 b c) : Kept B0 B1 a c :=
  ⟨k.os.trans h.os, k.tape.trans h.tape, k.output.trans h.output, k.size.trans h.size, fun i hi => (k.block i hi).trans (h.block i hi)⟩
theorem Kept.below {B0 B1 B : Nat} {a b w : World} (h : Kept B0 B1 a b) (hb : Below B w a) (hB : B ≤ B0) : Below B w b :=
  ⟨h.os.trans hb.os, h.tape.trans hb.tape, h.output.trans hb.output, by rw [h.size]; exact hb.size, fun k hk => (h.block k (.inl (by omega))).trans (hb.block k hk)⟩
def off (L : Nat → Nat) : Nat → Nat
  | 0 => 0
  | j + 1 => off L j + L j
theorem MatAt.kept {w w' : World} {B0 B1 : Nat} {a : Option Addr} {n : Nat} {A : Nat → Option Addr} {L C : Nat → Nat} {X : Nat → Nat → Int} {k : Int} {m : Nat} (hm : m < n)
    (h : MatAt w B0 B1 a n A L C X) (hk : Marked (A m) (L m) k w w') : Kept B0 B1 w w' :=
  ⟨hk.os, hk.tape, hk.output, hk.size, fun b hb => hk.block b fun p => by
    by_cases hL : 0 < L m
    · obtain ⟨g, p', e, h1, h2, _⟩ := h.row m hm 0 hL
      refine .inr (fun e' => ?_)
      rw [e] at e'; cases e'
      omega
    · exact .inl (by omega)⟩
end Go.Proofs.Ytaalnjinocicgaa
namespace Go.Proofs.Ytaalnjinocicgaa
open Go.ChangeShapes Go.WideShapes Go.ChangeAt Go.RowKit
set_option linter.unusedVariables false
theorem ints_one (xs : List Int) : ∀ u ∈ xs.map (Value.int .i64), u.oneCell' = true := fun u hu => by
  obtain ⟨x, _, rfl⟩ := List.mem_map.1 hu
  rfl
theorem run_append_zero {w : World} {P : Program} (t ty e : TypeId) (i : TypeInfo) (ht : P.underlying t = some (.slice e)) (hi : P.info? e = some i) (g n cap : Nat) (hn : n ≤ cap) (ao : Option Addr) (c : Nat) :
    (Builtin.append_ #[t, t] ty #[.slice (some ⟨g, 0, none⟩) n cap, .slice ao 0 c]).run P w = .ok (.slice (some ⟨g, 0, none⟩) n cap) w := by
  cases ao <;> simp [Builtin.append_, run_underlying ht, sizeOf, typeInfo, hi, Builtin.lenOf, Builtin.firstCells, hn, storeCells, loadCells, loadCellsFrom]
theorem wp_append_zero {a : Act} {w : World} {K : Act → World → Prop} {Q : Exit → Act → World → Prop} {dst : Option Nat} {tt : TypeId} {pos : String} {after : Array Edge} {gd : Option (Nat × Bool)} (s x : Operand) (t : TypeId) {e : TypeId} (i : TypeInfo) (ht : Try.prog.underlying t = some (.slice e)) (hi : Try.prog.info? e = some i)
    (g n cap : Nat) (hs : a.eval s = .slice (some ⟨g, 0, none⟩) n cap) (ao : Option Addr) (c : Nat) (hx : a.eval x = .slice ao 0 c) (hn : n ≤ cap := by omega) (h : K (a.put dst (.slice (some ⟨g, 0, none⟩) n cap)) w) :
    Oper.wp Try.prog { dst := dst, op := .call { callee := .builtin .append, args := #[s, x], argTypes := #[t, t] }, type := tt, pos := pos, after := after, guard := gd } a w K Q := by
  have hr := run_append_zero (P := Try.prog) (w := w) t tt e i ht hi g n cap hn ao c
  unfold Oper.wp execOp
  simp only [resolve, invoke, builtin, Sem.run_bind, Sem.run_pure, Result.andThen_ok, List.map_toArray, List.map_cons, List.map_nil, hs, hx, hr]
  exact h
end Go.Proofs.Ytaalnjinocicgaa
namespace Go.Proofs.Ytaalnjinocicgaa
open Go.ChangeShapes Go.WideShapes Go.ChangeAt Go.RowKit
set_option linter.unusedVariables false
theorem getD_set {α : Type} (l : List α) (i j : Nat) (x d : α) : (l.set i x).getD j d = if i = j ∧ j < l.length then x else l.getD j d := by
  simp only [List.getD, List.getElem?_set]
  by_cases h : i = j
  · subst h
    by_cases h2 : i < l.length
    · simp [h2]
    · simp [h2]
  · simp [h]
end Go.Proofs.Ytaalnjinocicgaa
namespace Go.Proofs.Ytaalnjinocicgaa
open Go.ChangeShapes Go.WideShapes Go.ChangeAt Go.RowKit
set_option linter.unusedVariables false
section
variable {P : Program}
theorem wpList_box_arr {ops : Array Oper} {rest : List Oper} {op : Oper} {a : Act} {w : World} {Q : Exit → Act → World → Prop} (hgd : op.guard = none) (t : TypeId) (x : Operand) (ho : op.op = .box t x)
    (z : Array Value) (hx : a.eval x = .agg z)
    (h : wpList P ops Q rest (a.put op.dst (.pointer (some ⟨w.heap.size, 0, none⟩))) (w.alloc (.cells z t))) : wpList P ops Q (op :: rest) a w :=
  wpList_plain hgd fun _ hK => by
    unfold Oper.wp execOp
    simp only [ho, hx]
    exact hK _ _ h
theorem box_arr {ops : Array Oper} {rest : List Oper} {a : Act} {w : World} {Q : Exit → Act → World → Prop} {dst : Option Nat} {tt : TypeId} {pos : String} {after : Array Edge} (t : TypeId) (x : Operand)
    (z : Array Value) (hx : a.eval x = .agg z)
    (h : wpList P ops Q rest (a.put dst (.pointer (some ⟨w.heap.size, 0, none⟩))) (w.alloc (.cells z t))) : wpList P ops Q ({ dst := dst, op := .box t x, type := tt, pos := pos, after := after, guard := none } :: rest) a w :=
  wpList_box_arr rfl t x rfl z hx h
end
theorem box_is {P : Program} {ops : Array Oper} {rest : List Oper} {a : Act} {w : World} {Q : Exit → Act → World → Prop} {dst : Option Nat} {tt : TypeId} {pos : String} {after : Array Edge} (ty : TypeId) (x : Operand) (h : wpList P ops Q ({ dst := dst, op := .box ty x, type := tt, pos := pos, after := after, guard := none } :: rest) a w) : wpList P ops Q ({ dst := dst, op := .box ty x, type := tt, pos := pos, after := after, guard := none } :: rest) a w := h
end Go.Proofs.Ytaalnjinocicgaa
namespace Go.Proofs.Ytaalnjinocicgaa
set_option linter.unusedVariables false
set_option linter.unusedSimpArgs false
theorem row_len4 {xs : List Int} (h : rowOk xs = true) : xs.length ≤ 4 := by
  unfold rowOk at h
  rw [Bool.or_eq_true, decide_eq_true_eq] at h
  rcases h with rfl | h
  · simp
  · rw [words_len h]; exact Nat.le_refl _
theorem row_some {xs : List Int} (h : rowOk xs = true) (hp : 0 < xs.length) : wordsOk xs = true := by
  unfold rowOk at h
  rw [Bool.or_eq_true, decide_eq_true_eq] at h
  rcases h with rfl | h
  · simp at hp
  · exact h
end Go.Proofs.Ytaalnjinocicgaa
namespace Go.Proofs.Ytaalnjinocicgaa
open Go.ChangeShapes Go.WideShapes Go.ChangeAt Go.RowKit
set_option linter.unusedVariables false
structure OwnI (w : World) (v : Value) (ys : List Int) (w' : World) : Prop where
  own : w'.ownsRow w.heap.size 3 1 v ys.length (ys.map (.int .i64))
  bel : Below w.heap.size w w'
  nn : v ≠ .slice none 0 0
theorem own_lower {w : World} {B B' : Nat} {e : TypeId} {v : Value} {n : Nat} {x : List Value} (h : w.ownsRow B e 1 v n x) (hB : B' ≤ B) : w.ownsRow B' e 1 v n x := by
  refine ⟨h.1, ?_⟩
  rcases h.2 with hn | ⟨g, cap, cur, e, hb, rest⟩
  · exact .inl hn
  · exact .inr ⟨g, cap, cur, e, by omega, rest⟩
theorem OwnI.from {w w1 w2 : World} {v : Value} {ys : List Int} (h : OwnI w1 v ys w2) (hb : Below w.heap.size w w1) : OwnI w v ys w2 :=
  ⟨own_lower h.own hb.size, hb.trans (h.bel.mono hb.size), h.nn⟩
theorem OwnI.start (w : World) : OwnI w (.slice (some ⟨w.heap.size, 0, none⟩) 0 0) [] (w.alloc (.cells #[] 3)) :=
  ⟨World.ownsRow_made w #[] 0 (Nat.le_refl _) (Nat.zero_le _) rfl, (Below.refl _ _).alloc (Nat.le_refl _) _, fun h => by cases h⟩
end Go.Proofs.Ytaalnjinocicgaa
namespace Go.Proofs.Ytaalnjinocicgaa
open Go.ChangeShapes Go.WideShapes Go.ChangeAt Go.RowKit
set_option linter.unusedVariables false
def IntsW (w : World) (B0 B1 : Nat) (v : Value) (xs : List Int) : Prop :=
  ∃ (a : Option Addr) (cap : Nat), v = .slice a xs.length cap ∧ xs.length ≤ cap ∧ cap ≤ maxLen ∧
    ∀ i, i < xs.length → ∃ g p, a = some ⟨g, p, none⟩ ∧ B0 ≤ g ∧ g < B1 ∧ w.cell? ⟨g, p + i, none⟩ = some (.int .i64 (xs.getD i 0)) ∧ w.frozen? ⟨g, p + i, none⟩ = false
theorem IntsW.chg {lo hi B0 B1 : Nat} {w w' : World} {v : Value} {xs : List Int} (h : IntsW w B0 B1 v xs) (c : Chg lo hi w w') (hB : B1 ≤ w.heap.size) (hh : B1 ≤ lo ∨ hi ≤ B0) : IntsW w' B0 B1 v xs := by
  obtain ⟨a, cap, rfl, h1, h2, h3⟩ := h
  refine ⟨a, cap, rfl, h1, h2, fun i hi => ?_⟩
  obtain ⟨g, p, e, hg0, hg1, hc, hf⟩ := h3 i hi
  have hb := c.block g (by omega) (by omega)
  exact ⟨g, p, e, hg0, hg1, (World.cell?_of_block hb).trans hc, (World.frozen?_of_block hb).trans hf⟩
theorem IntsW.of_own {w w' : World} {v : Value} {ys : List Int} (h : OwnI w v ys w') : IntsW w' w.heap.size w'.heap.size v ys := by
  rcases h.own.2 with ⟨e, _⟩ | ⟨g, cap, cur, rfl, hb, hbl, hnc, hcm, hcs, htk⟩
  · exact absurd e h.nn
  · refine ⟨some ⟨g, 0, none⟩, cap, rfl, hnc, hcm, fun i hi => ⟨g, 0, rfl, hb, (Array.getElem?_eq_some_iff.1 hbl).1, ?_, ?_⟩⟩
    · have := h.own.cells (g := g) rfl i (.int .i64 (ys.getD i 0)) (by rw [getD_lt hi]; simp)
      rw [add0] at this
      rw [Nat.zero_add]; exact this
    · simp [World.frozen?, hbl]
end Go.Proofs.Ytaalnjinocicgaa
namespace Go.Proofs.Ytaalnjinocicgaa
open Go.ChangeShapes Go.WideShapes Go.ChangeAt Go.RowKit
set_option linter.unusedVariables false
set_option linter.unusedSimpArgs false
theorem OwnI.grow0 {w w1 w2 : World} {v v2 : Value} {ys zs : List Int} {n : Nat} (h : OwnI w v ys w1) (hn : n = ys.length + zs.length) (h2 : w2.ownsRow w.heap.size 3 1 v2 n (ys.map (.int .i64) ++ zs.map (.int .i64))) (hg : w1.grownBy w2 v.ownBlock) (hnn : v2 = .slice none 0 0 → v = .slice none 0 0) :
    OwnI w v2 (ys ++ zs) w2 := by
  subst hn
  exact ⟨by rw [List.length_append, List.map_append]; exact h2, h.bel.grown hg h.bel.size (fun b hb => (h.own.lt b hb).1), fun e => h.nn (hnn e)⟩
theorem wp_append_ints {a : Act} {w : World} {K : Act → World → Prop} {Q : Exit → Act → World → Prop} {dst : Option Nat} {tt : TypeId} {pos : String} {after : Array Edge} {gd : Option (Nat × Bool)} (s x : Operand)
    (W0 : World) (v : Value) (ys : List Int) (hs : a.eval s = v) (hown : OwnI W0 v ys w) (xv : Value) (zs : List Int) (hx : a.eval x = xv) (hz : Ints w xv zs) (hl : ys.length + zs.length ≤ 1000000)
    (h : ∀ v' w', OwnI W0 v' (ys ++ zs) w' → w.grownBy w' v.ownBlock → K (a.put dst v') w') :
    Oper.wp Try.prog { dst := dst, op := .call { callee := .builtin .append, args := #[s, x], argTypes := #[24, 24] }, type := tt, pos := pos, after := after, guard := gd } a w K Q := by
  obtain ⟨i0, hi, hz0, hz1, hz2⟩ := info_parts intInfo
  obtain ⟨ad, cap, rfl, h1, h2, h3⟩ := hz
  by_cases hp : 0 < zs.length
  · obtain ⟨rb, ro, rfl, _⟩ := h3 0 hp
    have hnews : ∀ j y, (zs.map (Value.int .i64))[j]? = some y → w.cell? ((⟨rb, ro, none⟩ : Addr).add j) = some y := fun j y hy => by
      have hj : j < zs.length := by
        rcases Nat.lt_or_ge j zs.length with h' | h'
        · exact h'
        · simp [List.getElem?_eq_none h'] at hy
      obtain ⟨b', o', e', hcell⟩ := h3 j hj
      cases e'
      rw [Addr.add_lit, hcell]
      simpa [List.getElem?_map, getD_lt hj, hj] using hy
    obtain ⟨v', w', hr, g2, g3, g4⟩ := run_append_own (P := Try.prog) w W0.heap.size 24 tt 3 i0 (.int .i64 0) 1 8 Try.underlying24 hi hz0 hz1 hz2 rfl (by decide) v ys.length _ hown.own ⟨rb, ro, none⟩ zs.length cap (zs.map (.int .i64)) (by simp) hnews (ints_one zs) (by unfold maxLen; omega) (by omega) hown.bel.size
    have hk := h v' w' (hown.grow0 rfl g2 g3 (fun e => (g4.1 e).1)) g3
    unfold Oper.wp execOp
    simp only [resolve, invoke, builtin, Sem.run_bind, Sem.run_pure, Result.andThen_ok, List.map_toArray, List.map_cons, List.map_nil, hs, hx, hr]
    exact hk
  · have e0 : zs = [] := List.eq_nil_of_length_eq_zero (by omega)
    subst e0
    obtain ⟨g, c, e, hnc⟩ : ∃ g c, v = .slice (some ⟨g, 0, none⟩) ys.length c ∧ ys.length ≤ c := by
      rcases hown.own.2 with ⟨e, _⟩ | ⟨g, cap, cur, rfl, _, _, hnc, _⟩
      · exact absurd e hown.nn
      · exact ⟨g, cap, rfl, hnc⟩
    subst e
    refine wp_append_zero s x 24 i0 Try.underlying24 hi g ys.length c hs ad cap hx hnc ?_
    exact h _ _ (by rw [List.append_nil]; exact hown) ⟨rfl, rfl, rfl, Nat.le_refl _, fun _ _ _ => rfl⟩
theorem wpList_append_ints {ops : Array Oper} {rest : List Oper} {a : Act} {w : World} {Q : Exit → Act → World → Prop} {dst : Option Nat} {tt : TypeId} {pos : String} {after : Array Edge} (s x : Operand)
    (W0 : World) (v : Value) (ys : List Int) (hs : a.eval s = v) (hown : OwnI W0 v ys w) (xv : Value) (zs : List Int) (hx : a.eval x = xv) (hz : Ints w xv zs) (hl : ys.length + zs.length ≤ 1000000)
    (h : ∀ v' w', OwnI W0 v' (ys ++ zs) w' → w.grownBy w' v.ownBlock → wpList Try.prog ops Q rest (a.put dst v') w') :
    wpList Try.prog ops Q ({ dst := dst, op := .call { callee := .builtin .append, args := #[s, x], argTypes := #[24, 24] }, type := tt, pos := pos, after := after, guard := none } :: rest) a w :=
  wpList_plain rfl fun K hK => wp_append_ints s x W0 v ys hs hown xv zs hx hz hl (fun v' w' h1 h2 => hK _ _ (h v' w' h1 h2))
end Go.Proofs.Ytaalnjinocicgaa
namespace Go.Proofs.Ytaalnjinocicgaa
open Go.ChangeShapes Go.WideShapes Go.ChangeAt Go.RowKit
set_option linter.unusedVariables false
set_option linter.unusedSimpArgs false
def Sw (C : Nat → Value) (xss : Rs) : Prop := ∀ i, i < 16 → PlaceC C i (xss.getD i [])
theorem Sw.set {C : Nat → Value} {xss : Rs} (h : Sw C xss) (hl : xss.length = 16) {k : Nat} (hk : k < 16) {ws : List Int} (hw : ws.length = 4) : Sw (putC C (k * 5) (rowL ws)) (xss.set k ws) := fun i hi => by
  rw [getD_set]
  by_cases hik : i = k
  · subst hik
    rw [if_pos ⟨rfl, by omega⟩]
    exact PlaceC.words C i hw
  · rw [if_neg (by omega)]
    exact (h i hi).put (rowL_len hw) hik
theorem Sw.low {C C' : Nat → Value} {xss : Rs} (h : Sw C xss) (e : ∀ j, j < 80 → C' j = C j) : Sw C' xss := fun i hi => (h i hi).congr (fun j hj => e _ (by omega))
theorem SwSt.sw {xss : Rs} {c : Nat} {C : Nat → Value} (h : SwSt xss 16 c C) : Sw C xss := h.done
end Go.Proofs.Ytaalnjinocicgaa
namespace Go.Proofs.Ytaalnjinocicgaa
open Go.ChangeShapes Go.WideShapes Go.ChangeAt Go.RowKit
set_option linter.unusedVariables false
set_option linter.unusedSimpArgs false
theorem clone_at {w : World} {b o : Nat} {xs : List Int} (hl : xs.length = 4) (h : Ints w (.slice (some ⟨b, o, none⟩) 4 4) xs) :
    Calls Try.prog 46 #[.slice (some ⟨b, o, none⟩) 4 4] w fun e w1 => ∃ v1, e = .returned v1 ∧ OwnI w v1 xs w1 := by
  have HSO := Lib.hid (OwnI.start w)
  have H2 := Lib.hid (Ints.below (B := 0) h HSO.out.bel)
  have HL := Lib.hid hl
  have HE : ∀ W : World, (binOp .eql 24 (.slice (some ⟨b, o, none⟩) 4 4) (.slice none 0 0)).run Try.prog W = .ok (.bool false) W := fun _ => by kernel_rfl
  clear h hl
  go_enter Try.func46, Try.ntmps46
  go_wp2_with (at_builtin; refine wpList_append_ints (.tmp 5) (.tmp 6) w _ [] rfl HSO.out _ xs rfl H2.out (by simp only [List.length_nil]; have := HL.out; omega) ?_; intro v2 w2 hown2 hgrow2)
  rw [List.nil_append] at hown2
  have HO := Lib.hid hown2
  clear hown2 hgrow2
  go_wp2
  go_ret
  exact ⟨_, rfl, HO.out⟩
end Go.Proofs.Ytaalnjinocicgaa
