/- What the proofs stand on, part 3. -/
import Derived.Test.YthfdkenidfnmgaaRows
import Derived.Test.YthfdkenidfnmgaaX2
set_option linter.unusedSimpArgs false
set_option linter.unusedVariables false
namespace Go.Proofs.Ythfdkenidfnmgaa
open Go.ChangeShapes Go.WideShapes Go.ChangeAt Go.RowKit
set_option linter.unusedVariables false
set_option linter.unusedSimpArgs false
set_option maxRecDepth 100000
theorem make_infos (w : World) : ∃ w', (Instr.makeSlice 25 (.int .i64 12) (.int .i64 12)).run Try.prog w = .ok (.slice (some ⟨w.heap.size, 0, none⟩) 12 12) w' ∧
    IsW w' w.heap.size (w.heap.size + 1) (.slice (some ⟨w.heap.size, 0, none⟩) 12 12) (List.replicate 12 iz) ∧ w.heap.size < w'.heap.size ∧ Below w.heap.size w w' := by
  obtain ⟨i0, hi, hz0, hz1, hz2⟩ := info_parts ivInfo
  obtain ⟨w', hr, ho, hg⟩ := run_make_full (P := Try.prog) (w := w) w.heap.size 25 57 i0 (.agg #[.int .i64 0, .string ⟨#[]⟩, .int .i64 0]) 3 Try.underlying25 hi hz0 hz1 .i64 .i64 12 (by rw [hz2]; omega) (by unfold maxLen; omega) (Nat.le_refl _)
  have hc : (madeCells (Value.agg #[.int .i64 0, .string ⟨#[]⟩, .int .i64 0]).cells (12 * 3)).toList = isC (List.replicate 12 iz) := by kernel_rfl
  rw [hc] at ho
  have hw := IsW.of_ownsRow (ys := List.replicate 12 iz) ho
  have hlt := (ho.lt w.heap.size rfl).2
  refine ⟨w', hr, ?_, hlt, (Below.refl _ _).grown hg (Nat.le_refl _) (fun k e => by cases e)⟩
  obtain ⟨a, cap, ea, h1, h2, h3⟩ := hw
  injection ea with ea1 ea2 ea3
  subst ea1
  refine ⟨_, 12, rfl, Nat.le_refl _, by unfold maxLen; omega, fun i hi => ?_⟩
  obtain ⟨g, p, e, _, _, ht⟩ := h3 i hi
  injection e with e
  injection e with e1 e2
  subst e1 e2
  exact ⟨_, _, rfl, Nat.le_refl _, Nat.lt_succ_self _, ht⟩
structure NK (w0 W : World) (m : Option (Value × Nat × Nat)) (i e p : Option Nat) : Prop where
  bel : Below w0.heap.size w0 W
  fm : ∀ u B0 B1, m = some (u, B0, B1) → MatW W B0 B1 u zeros ∧ B1 ≤ W.heap.size ∧ w0.heap.size ≤ B0 ∧ ∀ b, p = some b → b < B0 ∨ B1 ≤ b
  fi : ∀ b, i = some b → IsW W b (b + 1) (.slice (some ⟨b, 0, none⟩) 12 12) (List.replicate 12 iz) ∧ b < W.heap.size ∧ w0.heap.size ≤ b ∧ p ≠ some b
  fe : ∀ b, e = some b → W.heap[b]? = some (.cells #[] 42 (0, 0)) ∧ w0.heap.size ≤ b ∧ p ≠ some b ∧ (∀ u B0 B1, m = some (u, B0, B1) → b < B0 ∨ B1 ≤ b) ∧ i ≠ some b
  fp : ∀ b, p = some b → KB4 W b sl0 sl0 sl0 sl0 ∧ W.there b 0 4 ∧ w0.heap.size ≤ b
theorem NK.start {w0 W : World} (h : Below w0.heap.size w0 W) : NK w0 W none none none none :=
  ⟨h, fun _ _ _ e => (by cases e), fun _ e => (by cases e), fun _ e => (by cases e), fun _ e => (by cases e)⟩
theorem lt_of_get {w : World} {b : Nat} {o : Obj} (h : w.heap[b]? = some o) : b < w.heap.size := (Array.getElem?_eq_some_iff.1 h).1
theorem NK.go {w0 W W' : World} {m : Option (Value × Nat × Nat)} {i e p : Option Nat} (h : NK w0 W m i e p) (hb : Below W.heap.size W W') : NK w0 W' m i e p :=
  ⟨h.bel.trans (hb.mono h.bel.size), fun u B0 B1 em => ⟨(h.fm u B0 B1 em).1.of_blocks (fun b _ hb1 => hb.block b (Nat.lt_of_lt_of_le hb1 (h.fm u B0 B1 em).2.1)), Nat.le_trans (h.fm u B0 B1 em).2.1 hb.size, (h.fm u B0 B1 em).2.2⟩,
    fun b ei => ⟨(h.fi b ei).1.below hb (h.fi b ei).2.1, Nat.lt_of_lt_of_le (h.fi b ei).2.1 hb.size, (h.fi b ei).2.2⟩,
    fun b ee => ⟨(hb.block b (lt_of_get (h.fe b ee).1)).trans (h.fe b ee).1, (h.fe b ee).2⟩,
    fun b ep => ⟨(h.fp b ep).1.go hb, there_blocks (h.fp b ep).2.1 (hb.block b (h.fp b ep).1.lt), (h.fp b ep).2.2⟩⟩
theorem NK.drew {w0 W : World} {m : Option (Value × Nat × Nat)} {i e p : Option Nat} (h : NK w0 W m i e p) : NK w0 W.drew m i e p := h.go (Below.refl _ _).drew
theorem NK.putM {w0 W W' : World} {i e p : Option Nat} {u : Value} (h : NK w0 W none i e p) (hb : Below W.heap.size W W') (hm : MatW W' W.heap.size W'.heap.size u zeros) : NK w0 W' (some (u, W.heap.size, W'.heap.size)) i e p :=
  have k := h.go hb
  ⟨k.bel, fun u' B0 B1 em => by
    injection em with em
    injection em with e1 e2
    injection e2 with e2 e3
    subst e1 e2 e3
    exact ⟨hm, Nat.le_refl _, h.bel.size, fun b ep => .inl (h.fp b ep).1.lt⟩, k.fi, fun b ee => ⟨(k.fe b ee).1, (k.fe b ee).2.1, (k.fe b ee).2.2.1, fun u' B0 B1 em => by
    injection em with em
    injection em with e1 e2
    injection e2 with e2 e3
    subst e1 e2 e3
    exact .inl (lt_of_get (h.fe b ee).1), (k.fe b ee).2.2.2.2⟩, k.fp⟩
theorem NK.putI {w0 W W' : World} {m : Option (Value × Nat × Nat)} {e p : Option Nat} (h : NK w0 W m none e p) (hb : Below W.heap.size W W') (hi : IsW W' W.heap.size (W.heap.size + 1) (.slice (some ⟨W.heap.size, 0, none⟩) 12 12) (List.replicate 12 iz)) (hl : W.heap.size < W'.heap.size) : NK w0 W' m (some W.heap.size) e p :=
  have k := h.go hb
  ⟨k.bel, k.fm, fun b ei => by
    injection ei with ei
    subst ei
    exact ⟨hi, hl, h.bel.size, fun ep => Nat.lt_irrefl _ (h.fp _ ep).1.lt⟩, fun b ee => ⟨(k.fe b ee).1, (k.fe b ee).2.1, (k.fe b ee).2.2.1, (k.fe b ee).2.2.2.1, fun ei => by injection ei with ei; have := lt_of_get (h.fe b ee).1; omega⟩, k.fp⟩
theorem NK.putE {w0 W : World} {m : Option (Value × Nat × Nat)} {i p : Option Nat} (h : NK w0 W m i none p) : NK w0 (W.alloc (.cells #[] 42)) m i (some W.heap.size) p :=
  have k := h.go ((Below.refl _ _).alloc (Nat.le_refl _) (.cells #[] 42))
  ⟨k.bel, k.fm, k.fi, fun b ee => by
    injection ee with ee
    subst ee
    exact ⟨heap_alloc_new W _, h.bel.size, fun ep => Nat.lt_irrefl _ (h.fp _ ep).1.lt, fun u B0 B1 em => .inr (h.fm u B0 B1 em).2.1, fun ei => Nat.lt_irrefl _ (h.fi _ ei).2.1⟩, k.fp⟩
theorem NK.putP {w0 W : World} {m : Option (Value × Nat × Nat)} {i e : Option Nat} (h : NK w0 W m i e none) : NK w0 (W.alloc (.cells #[sl0, sl0, sl0, sl0] 29)) m i e (some W.heap.size) :=
  have k := h.go ((Below.refl _ _).alloc (Nat.le_refl _) (.cells #[sl0, sl0, sl0, sl0] 29))
  ⟨k.bel, fun u B0 B1 em => ⟨(k.fm u B0 B1 em).1, (k.fm u B0 B1 em).2.1, (k.fm u B0 B1 em).2.2.1, fun b ep => by
      injection ep with ep
      subst ep
      exact .inr (h.fm u B0 B1 em).2.1⟩,
    fun b ei => ⟨(k.fi b ei).1, (k.fi b ei).2.1, (k.fi b ei).2.2.1, fun ep => by injection ep with ep; have := (h.fi b ei).2.1; omega⟩,
    fun b ee => ⟨(k.fe b ee).1, (k.fe b ee).2.1, fun ep => by injection ep with ep; have := lt_of_get (h.fe b ee).1; omega, (k.fe b ee).2.2.2⟩,
    fun b ep => by
      injection ep with ep
      subst ep
      exact ⟨KB4.new W _ _ _ _ _, there_row (heap_alloc_new W _) (Nat.le_refl _), h.bel.size⟩⟩
structure NKS (w0 W : World) (u : Value) (B0 B1 b1 b2 bp : Nat) (v2 : Value) : Prop where
  bel : Below w0.heap.size w0 W
  m : MatW W B0 B1 u zeros
  i : IsW W b1 (b1 + 1) (.slice (some ⟨b1, 0, none⟩) 12 12) (List.replicate 12 iz)
  e : W.heap[b2]? = some (.cells #[] 42 (0, 0))
  p : KB4 W bp u (.slice (some ⟨b1, 0, none⟩) 12 12) (.slice (some ⟨b2, 0, none⟩) 0 0) v2
  lm : B1 ≤ W.heap.size ∧ w0.heap.size ≤ B0
  li : b1 < W.heap.size ∧ w0.heap.size ≤ b1
  le : w0.heap.size ≤ b2 ∧ b2 ≠ bp ∧ (b2 < B0 ∨ B1 ≤ b2) ∧ b2 ≠ b1
  lp : w0.heap.size ≤ bp ∧ (bp < B0 ∨ B1 ≤ bp) ∧ bp ≠ b1
  fz : W.there bp 0 4
theorem NK.stored {w0 W : World} {u v2 : Value} {B0 B1 b1 b2 bp : Nat} (h : NK w0 W (some (u, B0, B1)) (some b1) (some b2) (some bp)) :
    NKS w0 (W.setCells bp 0 [u, .slice (some ⟨b1, 0, none⟩) 12 12, .slice (some ⟨b2, 0, none⟩) 0 0, v2]) u B0 B1 b1 b2 bp v2 := by
  obtain ⟨m1, m2, m3, m4⟩ := h.fm u B0 B1 rfl
  obtain ⟨i1, i2, i3, i4⟩ := h.fi b1 rfl
  obtain ⟨e1, e2, e3, e4, e5⟩ := h.fe b2 rfl
  obtain ⟨p1, p2, p3⟩ := h.fp bp rfl
  have hoth : ∀ b, b ≠ bp → (W.setCells bp 0 [u, .slice (some ⟨b1, 0, none⟩) 12 12, .slice (some ⟨b2, 0, none⟩) 0 0, v2]).heap[b]? = W.heap[b]? := fun b hb => heap_setCells_other W bp _ 0 W b hb
  have hr := World.rangeAt_setCells_same W bp 0 [u, .slice (some ⟨b1, 0, none⟩) 12 12, .slice (some ⟨b2, 0, none⟩) 0 0, v2] p2
  have hsz : (W.setCells bp 0 [u, .slice (some ⟨b1, 0, none⟩) 12 12, .slice (some ⟨b2, 0, none⟩) 0 0, v2]).heap.size = W.heap.size := size_setCells _ _ _ _
  refine ⟨Below.setCells (Below.refl _ _) _ p3 _ _ _ h.bel, m1.of_blocks (fun b h0 h1 => hoth b (by have := m4 bp rfl; omega)), i1.of_blocks (fun b h0 h1 => hoth b (fun e => i4 (by rw [← e]; congr 1; omega))), (hoth b2 (fun e => e3 (by rw [e]))).trans e1,
    ⟨by rw [hsz]; exact p1.lt, ?_, ?_, ?_, ?_⟩, ⟨by rw [hsz]; exact m2, m3⟩, ⟨by rw [hsz]; exact i2, i3⟩, ⟨e2, fun e => e3 (by rw [e]), e4 _ _ _ rfl, fun e => e5 (by rw [e])⟩, ⟨p3, m4 bp rfl, fun e => i4 (by rw [e])⟩, World.there_setCells p2 bp 0 _⟩
  · exact hr 0 _ rfl
  · exact hr 1 _ rfl
  · exact hr 2 _ rfl
  · exact hr 3 _ rfl
end Go.Proofs.Ythfdkenidfnmgaa
namespace Go.Proofs.Ythfdkenidfnmgaa
open Go.ChangeShapes Go.WideShapes Go.ChangeAt Go.RowKit Go.Maps Go.Shelf
set_option linter.unusedVariables false
set_option linter.unusedSimpArgs false
set_option maxRecDepth 100000
theorem below_drewN (B : Nat) (w : World) (d : Nat) : Below B w (w.drewN d) := ⟨rfl, rfl, rfl, Nat.le_refl _, fun _ _ => rfl⟩
def newE (rs : List (List Bs)) : List EV := rs.map (fun r => ⟨r, -1⟩)
theorem newE_snoc {rs : List (List Bs)} {k : Nat} (hk : k < rs.length) : newE (rs.take (k + 1)) = newE (rs.take k) ++ [⟨rs.getD k [], -1⟩] := by
  unfold newE
  rw [take_snoc_getD rs k [] hk, List.map_append]
  rfl
theorem newE_len {rs : List (List Bs)} {k : Nat} (hk : k ≤ rs.length) : (newE (rs.take k)).length = k := by
  unfold newE
  rw [List.length_map, List.length_take]
  omega
structure KLoop (w W : World) (u : Value) (B0 B1 b1 bp : Nat) (v2 v3 : Value) (E : List EV) (ps : List (Value × Int)) : Prop where
  bel : Below w.heap.size w W
  c : KB4 W bp u (.slice (some ⟨b1, 0, none⟩) 12 12) v2 v3
  fz : W.there bp 0 4
  x : KB4 W w.heap.size sl0 sl0 sl0 sl0
  xt : W.there w.heap.size 0 4
  m : MatW W B0 B1 u zeros
  i : IsW W b1 (b1 + 1) (.slice (some ⟨b1, 0, none⟩) 12 12) (List.replicate 12 iz)
  e : OwnE (w.heap.size + 1) W v2 E ps
  lm : B1 ≤ W.heap.size ∧ w.heap.size < B0
  li : b1 < W.heap.size ∧ w.heap.size < b1
  lp : w.heap.size < bp ∧ (bp < B0 ∨ B1 ≤ bp) ∧ bp ≠ b1
  ae : ∀ g, v2.ownBlock = some g → g ≠ bp ∧ (g < B0 ∨ B1 ≤ g) ∧ g ≠ b1
  ar : ∀ i, i < E.length → ∀ g, (ps.getD i pz).1.ownBlock = some g → (E.getD i ez).r.length ≠ 0 → g ≠ bp ∧ w.heap.size < g
theorem KLoop.start {w w0 W : World} {u v2 : Value} {B0 B1 b1 b2 bp : Nat} (h : NKS w0 W u B0 B1 b1 b2 bp v2) (hb : Below w.heap.size w w0) (hs : w0.heap.size = w.heap.size + 1) (hx : KB4 w0 w.heap.size sl0 sl0 sl0 sl0) (ht : w0.there w.heap.size 0 4) :
    KLoop w W u B0 B1 b1 bp (.slice (some ⟨b2, 0, none⟩) 0 0) v2 [] [] := by
  have e := h.bel.block w.heap.size (by omega)
  have h1 := h.lm
  have h2 := h.li
  have h3 := h.le
  have h4 := h.lp
  refine ⟨hb.trans (h.bel.mono (by omega)), h.p, h.fz, hx.go h.bel, there_blocks ht e, h.m, h.i, OwnE.made h.e (by omega), ⟨h1.1, by omega⟩, ⟨h2.1, by omega⟩, ⟨by omega, h4.2⟩, fun g hg => ?_, fun i hi => absurd hi (Nat.not_lt_zero _)⟩
  injection hg with hg
  subst hg
  exact h3.2
theorem KLoop.go {w W W' : World} {u : Value} {B0 B1 b1 bp : Nat} {v2 v3 : Value} {E : List EV} {ps : List (Value × Int)} (h : KLoop w W u B0 B1 b1 bp v2 v3 E ps) (hb : Below W.heap.size W W') : KLoop w W' u B0 B1 b1 bp v2 v3 E ps :=
  ⟨h.bel.trans (hb.mono h.bel.size), h.c.go hb, there_blocks h.fz (hb.block bp h.c.lt), h.x.go hb, there_blocks h.xt (hb.block _ h.x.lt), h.m.of_blocks (fun b _ h1 => hb.block b (Nat.lt_of_lt_of_le h1 h.lm.1)), h.i.below hb h.li.1, h.e.go hb,
    ⟨Nat.le_trans h.lm.1 hb.size, h.lm.2⟩, ⟨Nat.lt_of_lt_of_le h.li.1 hb.size, h.li.2⟩, h.lp, h.ae, h.ar⟩
theorem KLoop.put {w W W' : World} {u : Value} {B0 B1 b1 bp : Nat} {v2 v3 v' vs : Value} {E : List EV} {ps : List (Value × Int)} {y : EV} (h : KLoop w W u B0 B1 b1 bp v2 v3 E ps) (hg : W.grownBy W' v2.ownBlock)
    (he : OwnE (w.heap.size + 1) W' v' (E ++ [y]) (ps ++ [(vs, y.t)])) (g5 : v'.ownBlock = v2.ownBlock ∨ v'.ownBlock = some W.heap.size) (hv : ∀ g, vs.ownBlock = some g → y.r.length ≠ 0 → g ≠ bp ∧ w.heap.size < g) :
    KLoop w (W'.setCell ⟨bp, 2, none⟩ v') u B0 B1 b1 bp v' v3 (E ++ [y]) (ps ++ [(vs, y.t)]) := by
  have hown : ∀ k, v2.ownBlock = some k → w.heap.size + 1 ≤ k := fun k hk => (h.e.own.lt k hk).1
  have hblk : ∀ b, b < W.heap.size → v2.ownBlock ≠ some b → W'.heap[b]? = W.heap[b]? := fun b hb hn => hg.block b hb (fun e => hn e.symm)
  have hset : ∀ b, b ≠ bp → (W'.setCell ⟨bp, 2, none⟩ v').heap[b]? = W'.heap[b]? := fun b hb => Below.heap_setCell _ _ _ b (by show b ≠ bp; exact hb)
  have hbp : W'.heap[bp]? = W.heap[bp]? := hblk bp h.c.lt (fun e => (h.ae bp e).1 rfl)
  have hx : W'.heap[w.heap.size]? = W.heap[w.heap.size]? := hblk _ h.x.lt (fun e => by have := hown _ e; omega)
  have hxs := hset w.heap.size (by have := h.lp.1; omega)
  have hsz : (W'.setCell ⟨bp, 2, none⟩ v').heap.size = W'.heap.size := by simp [World.setCell]
  have hgs := hg.size
  have hae : ∀ g, v'.ownBlock = some g → g ≠ bp ∧ (g < B0 ∨ B1 ≤ g) ∧ g ≠ b1 := fun g e => by
    rcases g5 with g5 | g5
    · exact h.ae g (g5 ▸ e)
    · rw [g5] at e
      injection e with e
      have h1 := h.c.lt
      have h2 := h.lm.1
      have h3 := h.li.1
      exact ⟨by omega, .inr (by omega), by omega⟩
  have har : ∀ i, i < (E ++ [y]).length → ∀ g, ((ps ++ [(vs, y.t)]).getD i pz).1.ownBlock = some g → ((E ++ [y]).getD i ez).r.length ≠ 0 → g ≠ bp ∧ w.heap.size < g := fun i hi g e hz => by
    rw [List.length_append, List.length_singleton] at hi
    have hl := h.e.len
    by_cases hlt : i < E.length
    · rw [getD_snoc_lt (by omega)] at e
      rw [getD_snoc_lt hlt] at hz
      exact h.ar i hlt g e hz
    · rw [getD_snoc_at (by omega)] at e
      rw [getD_snoc_at (by omega)] at hz
      exact hv g e hz
  have hc2 : W'.cell? ⟨bp, 2, none⟩ = some v2 := (World.cell?_of_block hbp).trans h.c.c2
  have hb1 := (Below.refl bp W').setCell (p := ⟨bp, 2, none⟩) (Nat.le_refl _) v'
  refine ⟨(h.bel.grown hg h.bel.size (fun k e => by have := hown k e; omega)).setCell (p := ⟨bp, 2, none⟩) (by show w.heap.size ≤ bp; have := h.lp.1; omega) v', ⟨by rw [hsz]; exact Nat.lt_of_lt_of_le h.c.lt hgs, ?_, ?_, cell_set_same hc2, ?_⟩, there_setCell (there_blocks h.fz hbp) _ _ _, ?_, there_blocks h.xt (hxs.trans hx),
    h.m.of_blocks (fun b h0 h1 => (hset b (by have := h.lp.2.1; omega)).trans (hblk b (Nat.lt_of_lt_of_le h1 h.lm.1) (fun e => by have := (h.ae b e).2.1; omega))),
    h.i.of_blocks (fun b h0 h1 => (hset b (by have := h.lp.2.2; omega)).trans (hblk b (by have := h.li.1; omega) (fun e => by have := (h.ae b e).2.2; omega))),
    he.keptG (row := some bp) ⟨hb1.os, hb1.tape, hb1.output, hb1.size, fun i hi hn => hset i (fun e => hn (by rw [e]))⟩ (.inr (fun e => (hae bp e).1 rfl)) (fun i hi g e hz e2 => by injection e2 with e2; exact (har i hi g e hz).1 e2.symm),
    ⟨by rw [hsz]; exact Nat.le_trans h.lm.1 hgs, h.lm.2⟩, ⟨by rw [hsz]; exact Nat.lt_of_lt_of_le h.li.1 hgs, h.li.2⟩, h.lp, hae, har⟩
  · exact (cell_set_other (.inr (by omega))).trans ((World.cell?_of_block hbp).trans h.c.c0)
  · exact (cell_set_other (.inr (by omega))).trans ((World.cell?_of_block hbp).trans h.c.c1)
  · exact (cell_set_other (.inr (by omega))).trans ((World.cell?_of_block hbp).trans h.c.c3)
  · have e := hxs.trans hx
    exact ⟨by rw [hsz]; exact Nat.lt_of_lt_of_le h.x.lt hgs, (World.cell?_of_block e).trans h.x.c0, (World.cell?_of_block e).trans h.x.c1, (World.cell?_of_block e).trans h.x.c2, (World.cell?_of_block e).trans h.x.c3⟩
theorem KLoop.ks {w W : World} {u : Value} {B0 B1 b1 bp b3 : Nat} {v2 v3 : Value} {E : List EV} {ps : List (Value × Int)} (h : KLoop w W u B0 B1 b1 bp v2 v3 E ps) : Ks W u (.slice (some ⟨b1, 0, none⟩) 12 12) v2 (.slice (some ⟨b3, 0, none⟩) 0 0) ⟨mem0, List.replicate 12 iz, E, []⟩ :=
  ⟨h.m.rows, h.i.is, h.e.es, ⟨some ⟨b3, 0, none⟩, 0, rfl, Nat.le_refl _, Nat.zero_le _, fun i hi => absurd hi (Nat.not_lt_zero _)⟩⟩
theorem KLoop.place {w W W' : World} {u : Value} {B0 B1 b1 bp : Nat} {v2 v3 : Value} {E : List EV} {ps : List (Value × Int)} (h : KLoop w W u B0 B1 b1 bp v2 v3 E ps) (hg : W.grownBy W' v2.ownBlock) :
    W'.cell? ⟨bp, 2, none⟩ = some v2 ∧ W'.frozen? ⟨bp, 2, none⟩ = false ∧ Below w.heap.size w W' := by
  have hbp : W'.heap[bp]? = W.heap[bp]? := hg.block bp h.c.lt (fun e => (h.ae bp e.symm).1 rfl)
  refine ⟨(World.cell?_of_block hbp).trans h.c.c2, ?_, h.bel.grown hg h.bel.size (fun k e => by have := (h.e.own.lt k e).1; omega)⟩
  have := ((there_blocks h.fz hbp) 2 (by omega)).2
  rwa [Nat.zero_add] at this
theorem KLoop.form {w W : World} {u : Value} {B0 B1 b1 bp : Nat} {v2 v3 : Value} {E : List EV} {ps : List (Value × Int)} (h : KLoop w W u B0 B1 b1 bp v2 v3 E ps) : ∃ a n c, v2 = .slice a n c := by
  obtain ⟨a, c, e, _⟩ := h.e.es
  exact ⟨_, _, _, e⟩
theorem grown_set4 (W : World) (X : Nat) (a b c d : Value) : W.grownBy ((((W.setCell ⟨X, 0, none⟩ a).setCell ⟨X, 1, none⟩ b).setCell ⟨X, 2, none⟩ c).setCell ⟨X, 3, none⟩ d) (some X) := by
  have hb := ((((Below.refl X W).setCell (p := ⟨X, 0, none⟩) (Nat.le_refl _) a).setCell (p := ⟨X, 1, none⟩) (Nat.le_refl _) b).setCell (p := ⟨X, 2, none⟩) (Nat.le_refl _) c).setCell (p := ⟨X, 3, none⟩) (Nat.le_refl _) d
  refine ⟨hb.os, hb.tape, hb.output, hb.size, fun i hi hn => ?_⟩
  have hne : i ≠ X := fun e => hn (by rw [e])
  exact (Below.heap_setCell _ _ _ i (by show i ≠ X; exact hne)).trans ((Below.heap_setCell _ _ _ i (by show i ≠ X; exact hne)).trans ((Below.heap_setCell _ _ _ i (by show i ≠ X; exact hne)).trans (Below.heap_setCell _ _ _ i (by show i ≠ X; exact hne))))
theorem KLoop.res {w W W' : World} {u : Value} {B0 B1 b1 bp b3 : Nat} {v2 v3 : Value} {E : List EV} {ps : List (Value × Int)} (h : KLoop w W u B0 B1 b1 bp v2 v3 E ps) (hg : W.grownBy W' (some w.heap.size)) :
    Ks W' u (.slice (some ⟨b1, 0, none⟩) 12 12) v2 (.slice (some ⟨b3, 0, none⟩) 0 0) ⟨mem0, List.replicate 12 iz, E, []⟩ ∧ Below w.heap.size w W' := by
  have hblk : ∀ b, b < W.heap.size → w.heap.size < b → W'.heap[b]? = W.heap[b]? := fun b hb hn => hg.block b hb (fun e => by injection e with e; omega)
  have h1 := h.lm
  have h2 := h.li
  refine ⟨⟨(h.m.of_blocks (fun b h0 h3 => hblk b (by omega) (by omega))).rows, (h.i.of_blocks (fun b h0 h3 => hblk b (by omega) (by omega))).is,
    (h.e.keptG hg (.inr (fun e => by have := (h.e.own.lt _ e).1; omega)) (fun i hi g e hz e2 => by injection e2 with e2; have := (h.ar i hi g e hz).2; omega)).es, ⟨some ⟨b3, 0, none⟩, 0, rfl, Nat.le_refl _, Nat.zero_le _, fun i hi => absurd hi (Nat.not_lt_zero _)⟩⟩,
    h.bel.grown hg h.bel.size (fun k e => by injection e with e; omega)⟩
end Go.Proofs.Ythfdkenidfnmgaa
namespace Go.Proofs.Ythfdkenidfnmgaa
open Go.ChangeShapes Go.WideShapes Go.ChangeAt Go.RowKit Go.Maps Go.Shelf
set_option linter.unusedVariables false
set_option linter.unusedSimpArgs false
set_option maxRecDepth 100000
def NewK (K : KV) (w : World) (e : Ending) (w' : World) : Prop :=
  ∃ (vm vi ve vc : Value) (B0 B1 B2 B3 B4 : Nat), e = .returned (kV vm vi ve vc) ∧ w.heap.size ≤ B0 ∧ B0 ≤ B1 ∧ B1 ≤ B2 ∧ B2 ≤ B3 ∧ B3 ≤ B4 ∧ B4 ≤ w'.heap.size ∧ KsW w' B0 B1 B2 B3 B4 vm vi ve vc K ∧ Below w.heap.size w w'
set_option maxHeartbeats 4000000 in
theorem state_any (w : World) (M : List (List Int)) (I : List IV) (E : List EV) (bs : Nat → Nat) (A : Nat → CV) (f c : Nat) (L : List Value) (h : KL w M I E bs (ringC A f c) L) (hv : ∀ j, j < 3 → rvs (E.getD j ez).r = true) (hf : f < 4) (hc : c ≤ 4) :
    Calls Try.prog 18 #[.agg L.toArray] w (NewK ⟨M, I, E, rlist A f c⟩ w) := by
  obtain ⟨R, HR0⟩ : ∃ R : Ending → World → Prop, Hid (R = NewK ⟨M, I, E, rlist A f c⟩ w) := ⟨_, Lib.hid rfl⟩
  rw [← HR0.out]
  obtain ⟨X, hX⟩ : ∃ X, X = w.heap.size := ⟨_, rfl⟩
  obtain ⟨W0, hW0⟩ : ∃ W0, W0 = (w.alloc (.cells L.toArray 66)).alloc (.cells #[sl0, sl0, sl0, sl0] 29) := ⟨_, rfl⟩
  have HB0 : Hid (Below w.heap.size w W0 ∧ X + 1 < W0.heap.size ∧ w.heap.size ≤ X) := Lib.hid (by rw [hW0, hX]; exact ⟨((Below.refl _ _).alloc (Nat.le_refl _) _).alloc (by simp) _, by simp, Nat.le_refl _⟩)
  have HK : Hid (KC W0 X M I E bs (ringC A f c) L) := Lib.hid ⟨h.below HB0.out.1, by
    rw [hW0, hX]
    have h1 := range_row (heap_alloc_new w (.cells L.toArray 66))
    exact range_blocks (by simpa using h1) (Below.heap_alloc _ _ _ (by simp))⟩
  have HKB : Hid (KB4 W0 (X + 1) sl0 sl0 sl0 sl0 ∧ W0.there (X + 1) 0 4) := Lib.hid (by
    have e : X + 1 = (w.alloc (.cells L.toArray 66)).heap.size := by rw [hX]; simp
    rw [hW0, e]
    exact ⟨KB4.new _ _ _ _ _ _, there_row (heap_alloc_new _ _) (Nat.le_refl _)⟩)
  have HC1 : Hid (∀ Q, Calls Try.prog 35 #[.agg (flatL M).toArray] Q (ToMat M Q)) := Lib.hid (fun Q => lists_any (mem_len h.m) (fun i hi => mem_row h.m hi))
  have HC2 : Hid (∀ Q, Calls Try.prog 36 #[.agg (isC I).toArray] Q (NewV I Q)) := Lib.hid (fun Q => ilist_any Q I (isok_len h.i))
  have HC3 : Hid (∀ Q, Below W0.heap.size W0 Q → Calls Try.prog 37 #[.agg (mapC (fun j => some (bs j)) (fun j => (E.getD j ez).t)).toArray] Q (NewE E Q)) := Lib.hid (fun Q hQ => envList_any isl_any Q E bs h.n (fun j hj => ⟨hv j hj, ((h.set j hj).below HB0.out.1).below hQ⟩))
  have HC4 : Hid (∀ Q, Calls Try.prog 38 #[ringV A f c] Q (NewC (rlist A f c) Q)) := Lib.hid (fun Q => ringList_any Q A f c hf hc)
  unfold ToMat at HC1
  unfold NewV at HC2
  unfold NewE at HC3
  unfold NewC at HC4
  obtain ⟨LM, hLM⟩ : ∃ LM, LM = flatL M := ⟨_, rfl⟩
  obtain ⟨LI, hLI⟩ : ∃ LI, LI = isC I := ⟨_, rfl⟩
  obtain ⟨LE, hLE⟩ : ∃ LE, LE = mapC (fun j => some (bs j)) (fun j => (E.getD j ez).t) := ⟨_, rfl⟩
  obtain ⟨LR, hLR⟩ : ∃ LR, LR = ringC A f c := ⟨_, rfl⟩
  have HLEN : Hid (LM.length = 48 ∧ LI.length = 36 ∧ LE.length = 6 ∧ LR.length = 18) := Lib.hid (by rw [hLM, hLI, hLE, hLR]; exact ⟨flat_len h.m, isC_36 (isok_len h.i), rfl, rfl⟩)
  have HRG : Hid (∀ Q, Below W0.heap.size W0 Q → Q.rangeAt X 0 LM ∧ Q.rangeAt X 48 LI ∧ Q.rangeAt X 84 LE ∧ Q.rangeAt X 90 LR) := Lib.hid (fun Q hQ => by
    have hk := HK.out.below hQ
    rw [hLM, hLI, hLE, hLR]
    exact ⟨hk.mem, hk.inf, hk.env, hk.ring⟩)
  have e4 : ringV A f c = .agg LR.toArray := by subst hLR; rfl
  rw [e4] at HC4
  rw [← hLM] at HC1
  rw [← hLI] at HC2
  rw [← hLE] at HC3
  have HW0 := Lib.hid hW0
  have HX := Lib.hid hX
  clear e4 hLM hLI hLE hLR h hv hf hc hW0 hX
  go_enter Try.func18, Try.ntmps18
  go_wp2_with (first
    | ((with_reducible refine box_is 66 (.tmp 0) ?_); refine box_arr 66 (.tmp 0) L.toArray rfl ?_))
  rw [← HX.out, ← HW0.out]
  refine wp_region_held_drew (S := fun w' => w'.rangeAt X 0 LM ∧ w'.rangeAt X 48 LI ∧ w'.rangeAt X 84 LE ∧ w'.rangeAt X 90 LR) (by kernel_rfl) (HRG.out _ (Below.refl _ _).drew) (fun hHeld => ?_)
  refine anyH_gen _ (fun wz hgen => ?_)
  have HBz : Hid (Below W0.heap.size W0 wz) := Lib.hid (by rw [hgen]; exact (Below.refl _ _).drew)
  rw [← hgen] at hHeld
  clear hgen
  have HAA : Hid (∀ Q, Below W0.heap.size W0 Q → Q.rangeAt X 0 LM ∧ Q.rangeAt X 48 LI ∧ Q.rangeAt X 84 LE ∧ Q.rangeAt X 90 LR) := HRG
  refine wpAnyH_take (i := 0) (oi := { dst := some 3, op := .fieldAddr 66 (.tmp 1) 0, type := _, pos := _, after := _, guard := none }) (v := .pointer (some ⟨X, 0, none⟩)) rfl (by kernel_rfl) (by kernel_rfl) (by kernel_rfl) (fun _ _ _ h => h) (Or.inl ⟨by rfl, fun wh hSw => ?_⟩) hHeld ?_
  · (dsimp only at hSw; go_simp)
  try simp only [Act.put, List.setIfInBounds_toArray, List.set_cons_zero, List.set_cons_succ]
  refine wpAnyH_take (i := 1) (oi := { dst := some 4, op := .load 55 (.tmp 3), type := _, pos := _, after := _, guard := none }) (v := .agg LM.toArray) rfl (by kernel_rfl) (by kernel_rfl) (by kernel_rfl) (fun _ _ _ h => h) (Or.inl ⟨by rfl, fun wh hSw => ?_⟩) hHeld ?_
  · (exact load_run 55 X 0 LM _ hSw.1 Try.underlying55 rfl (info_mem HLEN.out.1))
  try simp only [Act.put, List.setIfInBounds_toArray, List.set_cons_zero, List.set_cons_succ]
  refine wpAnyH_take (i := 3) (oi := { dst := some 6, op := .fieldAddr 66 (.tmp 1) 1, type := _, pos := _, after := _, guard := none }) (v := .pointer (some ⟨X, 48, none⟩)) rfl (by kernel_rfl) (by kernel_rfl) (by kernel_rfl) (fun _ _ _ h => h) (Or.inl ⟨by rfl, fun wh hSw => ?_⟩) hHeld ?_
  · (dsimp only at hSw; go_simp)
  try simp only [Act.put, List.setIfInBounds_toArray, List.set_cons_zero, List.set_cons_succ]
  refine wpAnyH_take (i := 4) (oi := { dst := some 7, op := .load 59 (.tmp 6), type := _, pos := _, after := _, guard := none }) (v := .agg LI.toArray) rfl (by kernel_rfl) (by kernel_rfl) (by kernel_rfl) (fun _ _ _ h => h) (Or.inl ⟨by rfl, fun wh hSw => ?_⟩) hHeld ?_
  · (exact load_run 59 X 48 LI _ hSw.2.1 Try.underlying59 rfl (info_infos HLEN.out.2.1))
  try simp only [Act.put, List.setIfInBounds_toArray, List.set_cons_zero, List.set_cons_succ]
  refine wpAnyH_take (i := 6) (oi := { dst := some 9, op := .fieldAddr 66 (.tmp 1) 2, type := _, pos := _, after := _, guard := none }) (v := .pointer (some ⟨X, 84, none⟩)) rfl (by kernel_rfl) (by kernel_rfl) (by kernel_rfl) (fun _ _ _ h => h) (Or.inl ⟨by rfl, fun wh hSw => ?_⟩) hHeld ?_
  · (dsimp only at hSw; go_simp)
  try simp only [Act.put, List.setIfInBounds_toArray, List.set_cons_zero, List.set_cons_succ]
  refine wpAnyH_take (i := 7) (oi := { dst := some 10, op := .load 49 (.tmp 9), type := _, pos := _, after := _, guard := none }) (v := .agg LE.toArray) rfl (by kernel_rfl) (by kernel_rfl) (by kernel_rfl) (fun _ _ _ h => h) (Or.inl ⟨by rfl, fun wh hSw => ?_⟩) hHeld ?_
  · (exact load_run 49 X 84 LE _ hSw.2.2.1 Try.underlying49 rfl (info_envs HLEN.out.2.2.1))
  try simp only [Act.put, List.setIfInBounds_toArray, List.set_cons_zero, List.set_cons_succ]
  refine wpAnyH_take (i := 9) (oi := { dst := some 12, op := .fieldAddr 66 (.tmp 1) 3, type := _, pos := _, after := _, guard := none }) (v := .pointer (some ⟨X, 90, none⟩)) rfl (by kernel_rfl) (by kernel_rfl) (by kernel_rfl) (fun _ _ _ h => h) (Or.inl ⟨by rfl, fun wh hSw => ?_⟩) hHeld ?_
  · (dsimp only at hSw; go_simp)
  try simp only [Act.put, List.setIfInBounds_toArray, List.set_cons_zero, List.set_cons_succ]
  refine wpAnyH_take (i := 10) (oi := { dst := some 13, op := .load 64 (.tmp 12), type := _, pos := _, after := _, guard := none }) (v := .agg LR.toArray) rfl (by kernel_rfl) (by kernel_rfl) (by kernel_rfl) (fun _ _ _ h => h) (Or.inl ⟨by rfl, fun wh hSw => ?_⟩) hHeld ?_
  · (exact load_run 64 X 90 LR _ hSw.2.2.2 Try.underlying64 rfl (ring_info HLEN.out.2.2.2))
  try simp only [Act.put, List.setIfInBounds_toArray, List.set_cons_zero, List.set_cons_succ]
  refine wpAnyH_ready (rs := [2]) (by kernel_rfl) (by simp) ?_
  refine AllReadyH.cons (o := { dst := some 5, op := .call { callee := .value (.func 35), args := #[.tmp 4], argTypes := #[55] }, type := _, pos := _, after := _, guard := none }) rfl (fun K hK => ?_) AllReadyH.nil
  go_simp
  refine (HC1.out wz).mono ?_
  rintro _ W1 ⟨vm, rfl, hs, hb⟩
  obtain ⟨ma, mn, mc, rfl⟩ : ∃ a n c, vm = .slice a n c := by
    obtain ⟨a, cap, A, C, e, _⟩ := hs
    exact ⟨_, _, _, e⟩
  have HSm := Lib.hid hs
  have HBm : Hid (Below wz.heap.size wz W1) := Lib.hid hb
  have HAm : Hid (Below W0.heap.size W0 W1) := Lib.hid (HBz.out.trans (HBm.out.mono HBz.out.size))
  clear hs hb
  try go_simp
  refine hK.out _ _ ?_ (fun hHeld => ?_)
  · exact HAA.out _ HAm.out
  clear hK K
  try simp only [Act.put, List.setIfInBounds_toArray, List.set_cons_zero, List.set_cons_succ]
  refine wpAnyH_ready (rs := [5]) (by kernel_rfl) (by simp) ?_
  refine AllReadyH.cons (o := { dst := some 8, op := .call { callee := .value (.func 36), args := #[.tmp 7], argTypes := #[59] }, type := _, pos := _, after := _, guard := none }) rfl (fun K hK => ?_) AllReadyH.nil
  go_simp
  refine (HC2.out W1).mono ?_
  rintro _ W2 ⟨vi, rfl, hs, hb⟩
  obtain ⟨ia, in_, ic, rfl⟩ : ∃ a n c, vi = .slice a n c := by
    obtain ⟨a, cap, e, _⟩ := hs
    exact ⟨_, _, _, e⟩
  have HSi := Lib.hid hs
  have HBi : Hid (Below W1.heap.size W1 W2) := Lib.hid hb
  have HAi : Hid (Below W0.heap.size W0 W2) := Lib.hid (HAm.out.trans (HBi.out.mono HAm.out.size))
  clear hs hb
  try go_simp
  refine hK.out _ _ ?_ (fun hHeld => ?_)
  · exact HAA.out _ HAi.out
  clear hK K
  try simp only [Act.put, List.setIfInBounds_toArray, List.set_cons_zero, List.set_cons_succ]
  refine wpAnyH_ready (rs := [8]) (by kernel_rfl) (by simp) ?_
  refine AllReadyH.cons (o := { dst := some 11, op := .call { callee := .value (.func 37), args := #[.tmp 10], argTypes := #[49] }, type := _, pos := _, after := _, guard := none }) rfl (fun K hK => ?_) AllReadyH.nil
  go_simp
  refine (HC3.out W2 HAi.out).mono ?_
  rintro _ W3 ⟨ve, rfl, hs, hb⟩
  obtain ⟨ea, en, ec, rfl⟩ : ∃ a n c, ve = .slice a n c := by
    obtain ⟨a, cap, A, C, e, _⟩ := hs
    exact ⟨_, _, _, e⟩
  have HSe := Lib.hid hs
  have HBe : Hid (Below W2.heap.size W2 W3) := Lib.hid hb
  have HAe : Hid (Below W0.heap.size W0 W3) := Lib.hid (HAi.out.trans (HBe.out.mono HAi.out.size))
  clear hs hb
  try go_simp
  refine hK.out _ _ ?_ (fun hHeld => ?_)
  · exact HAA.out _ HAe.out
  clear hK K
  try simp only [Act.put, List.setIfInBounds_toArray, List.set_cons_zero, List.set_cons_succ]
  refine wpAnyH_ready (rs := [11]) (by kernel_rfl) (by simp) ?_
  refine AllReadyH.cons (o := { dst := some 14, op := .call { callee := .value (.func 38), args := #[.tmp 13], argTypes := #[64] }, type := _, pos := _, after := _, guard := none }) rfl (fun K hK => ?_) AllReadyH.nil
  go_simp
  refine (HC4.out W3).mono ?_
  rintro _ W4 ⟨vc, rfl, hown⟩
  obtain ⟨ca, cn, cc, rfl⟩ : ∃ a n c, vc = .slice a n c := by
    obtain ⟨a, cap, e, _⟩ := CsW.of_own hown
    exact ⟨_, _, _, e⟩
  have HSc := Lib.hid (CsW.of_own hown)
  have HBc : Hid (Below W3.heap.size W3 W4) := Lib.hid hown.bel
  have HAc : Hid (Below W0.heap.size W0 W4) := Lib.hid (HAe.out.trans (HBc.out.mono HAe.out.size))
  clear hown
  try go_simp
  refine hK.out _ _ ?_ (fun hHeld => ?_)
  · exact HAA.out _ HAc.out
  clear hK K
  try simp only [Act.put, List.setIfInBounds_toArray, List.set_cons_zero, List.set_cons_succ]
  refine wpAnyH_take (i := 12) (oi := { dst := some 15, op := .build 29 #[(0, .tmp 5), (1, .tmp 8), (2, .tmp 11), (3, .tmp 14)], type := _, pos := _, after := _, guard := none }) (v := .agg #[.slice ma mn mc, .slice ia in_ ic, .slice ea en ec, .slice ca cn cc]) rfl (by kernel_rfl) (by kernel_rfl) (by kernel_rfl) (fun _ _ _ h => h) (Or.inl ⟨by rfl, fun wh hSw => ?_⟩) hHeld ?_
  · (dsimp only at hSw; go_simp)
  try simp only [Act.put, List.setIfInBounds_toArray, List.set_cons_zero, List.set_cons_succ]
  refine wpAnyH_ready (rs := [13]) (by kernel_rfl) (by simp) ?_
  refine AllReadyH.cons (o := { dst := none, op := .store 29 (.tmp 2) (.tmp 15), type := _, pos := _, after := _, guard := none }) rfl (fun K hK => ?_) AllReadyH.nil
  go_simp
  have HXN : Hid (∀ a b c d, ((((W4.setCell ⟨X + 1, 0, none⟩ a).setCell ⟨X + 1, 1, none⟩ b).setCell ⟨X + 1, 2, none⟩ c).setCell ⟨X + 1, 3, none⟩ d).heap[X]? = W4.heap[X]?) := Lib.hid (fun a b c d => (grown_set4 W4 (X + 1) a b c d).block X (by have h1 := HAc.out.size; have h2 := HB0.out.2.1; omega) (fun e => by injection e with e; omega))
  obtain ⟨_, c0, c1, c2, c3⟩ := HKB.out.1.go HAc.out
  have htt := there_blocks HKB.out.2 (HAc.out.block (X + 1) HB0.out.2.1)
  have f0 := (htt 0 (by omega)).2
  have f1 := (htt 1 (by omega)).2
  have f2 := (htt 2 (by omega)).2
  have f3 := (htt 3 (by omega)).2
  simp only [Nat.zero_add] at f0 f1 f2 f3
  have HRA : Hid (World.rangeAt ((((W4.setCell ⟨X + 1, 0, none⟩ (.slice ma mn mc)).setCell ⟨X + 1, 1, none⟩ (.slice ia in_ ic)).setCell ⟨X + 1, 2, none⟩ (.slice ea en ec)).setCell ⟨X + 1, 3, none⟩ (.slice ca cn cc)) (X + 1) 0 [.slice ma mn mc, .slice ia in_ ic, .slice ea en ec, .slice ca cn cc]) := Lib.hid (World.rangeAt_setCells_same W4 (X + 1) 0 [.slice ma mn mc, .slice ia in_ ic, .slice ea en ec, .slice ca cn cc] htt)
  clear htt
  go_simp
  refine hK.out _ _ ?_ (fun hHeld => ?_)
  · exact ((HRG.out _ HAc.out).imp (fun h => range_blocks h (HXN.out _ _ _ _)) (fun h => ⟨range_blocks h.1 (HXN.out _ _ _ _), range_blocks h.2.1 (HXN.out _ _ _ _), range_blocks h.2.2 (HXN.out _ _ _ _)⟩))
  clear hK K
  try simp only [Act.put, List.setIfInBounds_toArray, List.set_cons_zero, List.set_cons_succ]
  refine wpAnyH_done (by kernel_rfl) ?_ _
  have HFIN : Hid (wz.heap.size ≤ W1.heap.size ∧ W1.heap.size ≤ W2.heap.size ∧ W2.heap.size ≤ W3.heap.size ∧ W3.heap.size ≤ W4.heap.size ∧ W4.heap.size ≤ ((((W4.setCell ⟨X + 1, 0, none⟩ (.slice ma mn mc)).setCell ⟨X + 1, 1, none⟩ (.slice ia in_ ic)).setCell ⟨X + 1, 2, none⟩ (.slice ea en ec)).setCell ⟨X + 1, 3, none⟩ (.slice ca cn cc)).heap.size ∧ KsW ((((W4.setCell ⟨X + 1, 0, none⟩ (.slice ma mn mc)).setCell ⟨X + 1, 1, none⟩ (.slice ia in_ ic)).setCell ⟨X + 1, 2, none⟩ (.slice ea en ec)).setCell ⟨X + 1, 3, none⟩ (.slice ca cn cc)) wz.heap.size W1.heap.size W2.heap.size W3.heap.size W4.heap.size (.slice ma mn mc) (.slice ia in_ ic) (.slice ea en ec) (.slice ca cn cc) ⟨M, I, E, rlist A f c⟩ ∧ Below w.heap.size w ((((W4.setCell ⟨X + 1, 0, none⟩ (.slice ma mn mc)).setCell ⟨X + 1, 1, none⟩ (.slice ia in_ ic)).setCell ⟨X + 1, 2, none⟩ (.slice ea en ec)).setCell ⟨X + 1, 3, none⟩ (.slice ca cn cc))) := Lib.hid (by
    have hg := grown_set4 W4 (X + 1) (.slice ma mn mc) (.slice ia in_ ic) (.slice ea en ec) (.slice ca cn cc)
    have z0 := HB0.out.2.1
    have z1 := HBz.out.size
    have z2 := HBm.out.size
    have z3 := HBi.out.size
    have z4 := HBe.out.size
    have z5 := HBc.out.size
    have hbl : ∀ b, wz.heap.size ≤ b → b < W4.heap.size → ((((W4.setCell ⟨X + 1, 0, none⟩ (.slice ma mn mc)).setCell ⟨X + 1, 1, none⟩ (.slice ia in_ ic)).setCell ⟨X + 1, 2, none⟩ (.slice ea en ec)).setCell ⟨X + 1, 3, none⟩ (.slice ca cn cc)).heap[b]? = W4.heap[b]? := fun b h0 h1 => hg.block b h1 (fun e => by injection e with e; omega)
    refine ⟨z2, z3, z4, z5, hg.size, ⟨?_, ?_, ?_, ?_⟩, ((HB0.out.1.trans (HAc.out.mono HB0.out.1.size))).grown hg (by have := HB0.out.1.size; omega) (fun k e => by injection e with e; have := HB0.out.2.2; omega)⟩
    · exact (((HSm.out.of_blocks (fun b _ h1 => HBi.out.block b (by omega))).of_blocks (fun b _ h1 => HBe.out.block b (by omega))).of_blocks (fun b _ h1 => HBc.out.block b (by omega))).of_blocks (fun b h0 h1 => hbl b (by omega) (by omega))
    · exact ((HSi.out.of_blocks (fun b _ h1 => HBe.out.block b (by omega))).of_blocks (fun b _ h1 => HBc.out.block b (by omega))).of_blocks (fun b h0 h1 => hbl b (by omega) (by omega))
    · exact (HSe.out.of_blocks (fun b _ h1 => HBc.out.block b (by omega))).of_blocks (fun b h0 h1 => hbl b (by omega) (by omega))
    · exact HSc.out.of_blocks (fun b h0 h1 => hbl b (by omega) (by omega)))
  go_wp2_with fail
  refine bodyPost_ret (results_one_mid rfl _ _ (X + 1) 0 [.slice ma mn mc, .slice ia in_ ic, .slice ea en ec, .slice ca cn cc] _ rfl HRA.out Try.underlying29 rfl (by kernel_rfl)) rfl ?_
  rw [HR0.out]
  exact ⟨(.slice ma mn mc), (.slice ia in_ ic), (.slice ea en ec), (.slice ca cn cc), wz.heap.size, _, _, _, _, rfl, by have h1 := HB0.out.1.size; have h2 := HBz.out.size; omega, HFIN.out.1, HFIN.out.2.1, HFIN.out.2.2.1, HFIN.out.2.2.2.1, HFIN.out.2.2.2.2.1, HFIN.out.2.2.2.2.2.1, HFIN.out.2.2.2.2.2.2⟩
end Go.Proofs.Ythfdkenidfnmgaa
namespace Go.Proofs.Ythfdkenidfnmgaa
open Go.ChangeShapes Go.WideShapes Go.ChangeAt Go.RowKit
set_option linter.unusedVariables false
set_option linter.unusedSimpArgs false
set_option maxRecDepth 100000
def SssN (w : World) (v : Value) (xss : List (List Bs)) : Prop :=
  ∃ (a : Option Addr) (cap : Nat), v = .slice a xss.length cap ∧ xss.length ≤ cap ∧ cap ≤ maxLen ∧
    ∀ i, i < xss.length → ∃ b o u, a = some ⟨b, o, none⟩ ∧ w.cell? ⟨b, o + i, none⟩ = some u ∧ Strs w u (xss.getD i []) ∧ NilOk u
theorem SssN.below {w w' : World} {v : Value} {xss : List (List Bs)} (h : SssN w v xss) (hb : Below w.heap.size w w') : SssN w' v xss := by
  obtain ⟨a, cap, rfl, h1, h2, h3⟩ := h
  refine ⟨a, cap, rfl, h1, h2, fun i hi => ?_⟩
  obtain ⟨b, o, u, rfl, hc, hu, hn⟩ := h3 i hi
  exact ⟨b, o, u, rfl, (hb.cell (p := ⟨b, o + i, none⟩) (cell_lt hc)).trans hc, hu.below hb, hn⟩
def NewKB (K : KV) (b : Bool) (w : World) (e : Ending) (w' : World) : Prop :=
  ∃ v0 v1 v2 v3, e = .returned (.tuple #[kV v0 v1 v2 v3, .bool b]) ∧ Ks w' v0 v1 v2 v3 K ∧ Below w.heap.size w w'
theorem ks_none (w : World) : Ks w sl0 sl0 sl0 sl0 kz :=
  ⟨⟨none, 0, rfl, Nat.le_refl _, Nat.zero_le _, fun i hi => absurd hi (Nat.not_lt_zero _)⟩, ⟨none, 0, rfl, Nat.le_refl _, Nat.zero_le _, fun i hi => absurd hi (Nat.not_lt_zero _)⟩, ⟨none, 0, rfl, Nat.le_refl _, Nat.zero_le _, fun i hi => absurd hi (Nat.not_lt_zero _)⟩, ⟨none, 0, rfl, Nat.le_refl _, Nat.zero_le _, fun i hi => absurd hi (Nat.not_lt_zero _)⟩⟩
set_option maxHeartbeats 4000000 in
theorem sKernelNew_any (w : World) (v : Value) (rs : List (List Bs)) (h : SssN w v rs) (hs : ∀ x ∈ rs, Short x) (hn : rs.length ≤ 1100000) (hl : ∀ x ∈ rs, x.length ≤ 1100000) :
    Calls Try.prog 5 #[v] w (NewKB (knew rs) (knewOk rs) w) := by
  obtain ⟨a, ca, rfl, hla, hma, hxa⟩ := h
  unfold maxLen at hma
  obtain ⟨n, hN⟩ : ∃ n, n = rs.length := ⟨_, rfl⟩
  rw [← hN] at hla hxa hn ⊢
  have HNN := Lib.hid hN
  have HXX := Lib.hid hxa
  have HSH := Lib.hid hs
  have HLL := Lib.hid hl
  obtain ⟨R, HRR⟩ : ∃ R : Ending → World → Prop, Hid (R = NewKB (knew rs) (knewOk rs) w) := ⟨_, Lib.hid rfl⟩
  rw [← HRR.out]
  obtain ⟨X, hX⟩ : ∃ X, X = w.heap.size := ⟨_, rfl⟩
  obtain ⟨w0, hw0⟩ : ∃ w0, w0 = w.alloc (.cells #[sl0, sl0, sl0, sl0] 29) := ⟨_, rfl⟩
  have HB0 : Hid (Below w.heap.size w w0 ∧ X < w0.heap.size ∧ w0.there X 0 4 ∧ w.heap.size ≤ X) := Lib.hid (by rw [hw0, hX]; exact ⟨(Below.refl _ _).alloc (Nat.le_refl _) _, by simp, there_row (heap_alloc_new w _) (Nat.le_refl _), Nat.le_refl _⟩)
  have HB1 : Hid (Below w.heap.size w w0 ∧ w0.heap.size = w.heap.size + 1 ∧ KB4 w0 w.heap.size sl0 sl0 sl0 sl0 ∧ w0.there w.heap.size 0 4) := Lib.hid (by rw [hw0]; exact ⟨(Below.refl _ _).alloc (Nat.le_refl _) _, by simp, KB4.new w _ _ _ _ _, there_row (heap_alloc_new w _) (Nat.le_refl _)⟩)
  have HXE := Lib.hid hX
  have HW0 := Lib.hid hw0
  clear hN hxa hs hl hX hw0
  go_enter Try.func5, Try.ntmps5
  go_wp2_with fail
  rw [← HXE.out, ← HW0.out]
  refine wp_region_held_drew (S := fun _ => True) (by kernel_rfl) trivial (fun hHeld => ?_)
  refine any_gen (fun G HG => ?_)
  have sF : Hid (∀ (l : Array Bool) (W : World) (u : Value) (B0 B1 : Nat) (b1 : Nat) (b2 : Nat) (b3 : Nat) (bp : Nat), l = #[true, true, true, true, true, true, false] → Hid (NK w0 W (some (u, B0, B1)) (some b1) (some b2) (some bp)) → G 1 l { tmps := #[.slice a n ca, undef, .pointer (some ⟨X, 0, none⟩), .bool false, .pointer (some ⟨bp, 0, none⟩), undef, u, .slice (some ⟨b1, 0, none⟩) 12 12, .slice (some ⟨b2, 0, none⟩) 0 0, .slice (some ⟨b3, 0, none⟩) 0 0, .agg #[u, .slice (some ⟨b1, 0, none⟩) 12 12, .slice (some ⟨b2, 0, none⟩) 0 0, .slice (some ⟨b3, 0, none⟩) 0 0], undef, undef, undef, undef, undef, undef, undef, undef, undef, undef, undef, undef, undef, undef, undef, undef, undef, undef, undef, undef, undef, undef, undef, undef, undef, undef, undef, undef, undef, undef], defers := [] } W) := Lib.hid (by
    intro l W u B0 B1 b1 b2 b3 bp hl HN
    subst hl
    rw [HG.out]
    have hHeld : True := trivial
    obtain ⟨ua, un, uc, rfl⟩ : ∃ a n c, u = .slice a n c := by
      obtain ⟨a, cap, A, C, e, _⟩ := (HN.out.fm u B0 B1 rfl).1
      exact ⟨_, _, _, e⟩
    obtain ⟨p1, p2, p3⟩ := HN.out.fp bp rfl
    obtain ⟨_, c0, c1, c2, c3⟩ := p1
    have f0 := (p2 0 (by omega)).2
    have f1 := (p2 1 (by omega)).2
    have f2 := (p2 2 (by omega)).2
    have f3 := (p2 3 (by omega)).2
    simp only [Nat.zero_add] at f0 f1 f2 f3
    have HS : Hid (NKS w0 ((((W.setCell ⟨bp, 0, none⟩ (.slice ua un uc)).setCell ⟨bp, 1, none⟩ (.slice (some ⟨b1, 0, none⟩) 12 12)).setCell ⟨bp, 2, none⟩ (.slice (some ⟨b2, 0, none⟩) 0 0)).setCell ⟨bp, 3, none⟩ (.slice (some ⟨b3, 0, none⟩) 0 0)) (.slice ua un uc) B0 B1 b1 b2 bp (.slice (some ⟨b3, 0, none⟩) 0 0)) := Lib.hid (NK.stored HN.out)
    clear p2 p3
    refine wpAnyH_ready (rs := [6]) (by kernel_rfl) (by simp) ?_
    refine AllReadyH.cons (o := { dst := none, op := .store 29 (.tmp 4) (.tmp 10), type := _, pos := _, after := _, guard := none }) rfl (fun K hK => ?_) AllReadyH.nil
    go_simp
    refine hK.out _ _ ?_ (fun hHeld => ?_)
    · trivial
    clear hK K c0 c1 c2 c3 f0 f1 f2 f3
    try simp only [Act.put, List.setIfInBounds_toArray, List.set_cons_zero, List.set_cons_succ]
    refine wpAnyH_done (by kernel_rfl) ?_ _
    have HK0 : Hid (KLoop w ((((W.setCell ⟨bp, 0, none⟩ (.slice ua un uc)).setCell ⟨bp, 1, none⟩ (.slice (some ⟨b1, 0, none⟩) 12 12)).setCell ⟨bp, 2, none⟩ (.slice (some ⟨b2, 0, none⟩) 0 0)).setCell ⟨bp, 3, none⟩ (.slice (some ⟨b3, 0, none⟩) 0 0)) (.slice ua un uc) B0 B1 b1 bp (.slice (some ⟨b2, 0, none⟩) 0 0) (.slice (some ⟨b3, 0, none⟩) 0 0) (newE (rs.take 0)) []) := Lib.hid (by
      rw [show newE (rs.take 0) = [] from by simp [newE]]
      exact KLoop.start HS.out HB1.out.1 HB1.out.2.1 HB1.out.2.2.1 HB1.out.2.2.2)
    clear HS HN
    generalize ((((W.setCell ⟨bp, 0, none⟩ (.slice ua un uc)).setCell ⟨bp, 1, none⟩ (.slice (some ⟨b1, 0, none⟩) 12 12)).setCell ⟨bp, 2, none⟩ (.slice (some ⟨b2, 0, none⟩) 0 0)).setCell ⟨bp, 3, none⟩ (.slice (some ⟨b3, 0, none⟩) 0 0)) = W9 at HK0 ⊢
    clear HG G
    go_wp2_with fail
    go_loopw [5] (fun i wr => ∃ (k : Nat) (v2 : Value) (ps : List (Value × Int)), k ≤ n ∧ i = .int .i64 k ∧ Hid (KLoop w wr (.slice ua un uc) B0 B1 b1 bp v2 (.slice (some ⟨b3, 0, none⟩) 0 0) (newE (rs.take k)) ps) ∧ Hid (∀ j, j < k → rvs (rs.getD j []) = true)) (fun i _ => n - (intOf i).toNat)
    case atStart => exact ⟨0, _, [], Nat.zero_le _, rfl, HK0, Lib.hid (fun j hj => absurd hj (Nat.not_lt_zero _))⟩
    case round =>
      obtain ⟨k, v2, ps, hk, rfl, HK, HOK⟩ := hrel
      obtain ⟨va, vn, vc, rfl⟩ := HK.out.form
      by_cases hlt : k < n
      · have hlt' : (k : Int) < n := by omega
        have hk0 : (0 : Int) ≤ (k : Int) := by omega
        obtain ⟨b, o, ru, rfl, hcr0, hu, hnil⟩ := HXX.out k hlt
        have HRC : Hid (∀ Q, Below w.heap.size w Q → Q.cell? ⟨b, o + k, none⟩ = some ru ∧ Strs Q ru (rs.getD k [])) := Lib.hid (fun Q hQ => ⟨(hQ.cell (p := ⟨b, o + k, none⟩) (cell_lt hcr0)).trans hcr0, hu.below hQ⟩)
        have hcr := (HRC.out wr HK.out.bel).1
        have HNIL := Lib.hid hnil
        obtain ⟨r, hr⟩ : ∃ r, r = rs.getD k [] := ⟨_, rfl⟩
        rw [← hr] at HRC
        have HR := Lib.hid hr
        have HSR : Hid (Short r) := Lib.hid (by rw [hr]; exact HSH.out _ (by rw [getD_lt (by have := HNN.out; omega)]; exact List.getElem_mem _))
        obtain ⟨q, hq⟩ : ∃ q, q = rvs r := ⟨_, rfl⟩
        have HQ := Lib.hid hq
        have HRV : Hid (Calls Try.prog 15 #[ru] wr (Reads (.bool q) wr)) := Lib.hid (by rw [hq]; exact sRightsValid_any wr ru r (HRC.out wr HK.out.bel).2 HSR.out)
        clear hcr0 hu hnil hr hq
        go_wp2_with fail
        refine HRV.out.mono ?_
        rintro _ w1 ⟨rfl, d, hd⟩
        have HK1 := Lib.hid (HK.out.go (W' := w1) (by rw [hd]; exact below_drewN _ _ _))
        clear hd hcr
        cases q with
        | false =>
          obtain ⟨_, x0, x1, x2, x3⟩ := HK1.out.x
          have g0 := (HK1.out.xt 0 (by omega)).2
          have g1 := (HK1.out.xt 1 (by omega)).2
          have g2 := (HK1.out.xt 2 (by omega)).2
          have g3 := (HK1.out.xt 3 (by omega)).2
          simp only [Nat.zero_add] at g0 g1 g2 g3
          rw [← HXE.out] at x0 x1 x2 x3 g0 g1 g2 g3
          go_wp2_with fail
          have HRA : Hid (World.rangeAt ((((w1.setCell ⟨X, 0, none⟩ (sl0)).setCell ⟨X, 1, none⟩ (sl0)).setCell ⟨X, 2, none⟩ (sl0)).setCell ⟨X, 3, none⟩ (sl0)) X 0 [sl0, sl0, sl0, sl0]) := Lib.hid (World.rangeAt_setCells_same w1 X 0 [sl0, sl0, sl0, sl0] (by rw [HXE.out]; exact HK1.out.xt))
          refine bodyPost_ret (results_cell_mid rfl _ _ X 0 [sl0, sl0, sl0, sl0] _ rfl HRA.out Try.underlying29 rfl (by kernel_rfl)) rfl ?_
          rw [HRR.out]
          have hko : knewOk rs = false := by
            unfold knewOk
            rw [Bool.and_eq_false_iff]
            left
            rw [Bool.eq_false_iff]
            intro hh
            have := List.all_eq_true.1 hh r (by rw [HR.out, getD_lt (by have := HNN.out; omega)]; exact List.getElem_mem _)
            rw [← HQ.out] at this
            cases this
          have hkn : knew rs = kz := by unfold knew; rw [hko]; simp
          rw [hko, hkn]
          exact ⟨_, _, _, _, rfl, ks_none _, (HK1.out.res (b3 := b3) (by rw [← HXE.out]; exact grown_set4 _ X _ _ _ _)).2⟩
        | true =>
          go_wp2_with fail
          have HRCW : Hid (∀ Q, Below w1.heap.size w1 Q → Q.cell? ⟨b, o + k, none⟩ = some ru ∧ Strs Q ru r) := Lib.hid (fun Q hQ => HRC.out Q (HK1.out.bel.trans (hQ.mono HK1.out.bel.size)))
          have HLR : Hid (r.length ≤ 1100000) := Lib.hid (by rw [HR.out]; exact HLL.out _ (by rw [getD_lt (by have := HNN.out; omega)]; exact List.getElem_mem _))
          have HLE : Hid ((newE (rs.take k)).length = k) := Lib.hid (newE_len (by have := HNN.out; omega))
          have HOK2 : Hid (∀ j, j < k + 1 → rvs (rs.getD j []) = true) := Lib.hid (fun j hj => by
            by_cases e : j = k
            · subst e; rw [← HR.out, ← HQ.out]
            · exact HOK.out j (by omega))
          have HFR : Hid (∀ (wz W W' : World) (sv : Value) (hz : w1.heap.size ≤ wz.heap.size), OwnS wz sv r W → Below W.heap.size W W' → Strs W' sv r ∧ ∀ g, sv.ownBlock = some g → g < W'.heap.size ∧ (Value.slice va vn vc).ownBlock ≠ some g ∧ g ≠ bp ∧ w.heap.size < g) := Lib.hid (fun wz W W' sv hz ho hb => ⟨ho.strs.below hb, fun g hg => by
            have h1 := ho.own.lt g hg
            have h2 := hb.size
            have h3 := HK1.out.c.lt
            have h4 := HK1.out.x.lt
            exact ⟨by omega, fun e => by have := (HK1.out.e.own.lt g e).2; omega, by omega, by omega⟩⟩)
          refine wp_region_held_drew (S := fun w' => w'.cell? ⟨b, o + k, none⟩ = some ru) (by kernel_rfl) (HRCW.out _ (Below.refl _ _).drew).1 (fun hHeld => ?_)
          refine anyH_gen _ (fun wz hgen => ?_)
          have HBz := Lib.hid (by rw [hgen]; exact (Below.refl _ _).drew : Hid (Below w1.heap.size w1 wz))
          rw [← hgen] at hHeld
          clear hgen
          refine wpAnyH_take (i := 0) (oi := { dst := some 24, op := .fieldAddr 29 (.tmp 4) 2, type := _, pos := _, after := _, guard := none }) (v := .pointer (some ⟨bp, 0 + 2, none⟩)) rfl (by kernel_rfl) (by kernel_rfl) (by kernel_rfl) (fun _ _ _ h => h) (Or.inl ⟨by rfl, fun wh hSw => ?_⟩) hHeld ?_
          · (first | exact congrArg _ hSw | (dsimp only at hSw; go_simp))
          try simp only [Act.put, List.setIfInBounds_toArray, List.set_cons_zero, List.set_cons_succ]
          refine wpAnyH_take (i := 3) (oi := { dst := some 27, op := .move (.tmp 0), type := _, pos := _, after := _, guard := none }) (v := .slice (some ⟨b, o, none⟩) n ca) rfl (by kernel_rfl) (by kernel_rfl) (by kernel_rfl) (fun _ _ _ h => h) (Or.inl ⟨by rfl, fun wh hSw => ?_⟩) hHeld ?_
          · (first | exact congrArg _ hSw | (dsimp only at hSw; go_simp))
          try simp only [Act.put, List.setIfInBounds_toArray, List.set_cons_zero, List.set_cons_succ]
          refine wpAnyH_take (i := 4) (oi := { dst := some 28, op := .move (.tmp 5), type := _, pos := _, after := _, guard := none }) (v := .int .i64 (k : Int)) rfl (by kernel_rfl) (by kernel_rfl) (by kernel_rfl) (fun _ _ _ h => h) (Or.inl ⟨by rfl, fun wh hSw => ?_⟩) hHeld ?_
          · (first | exact congrArg _ hSw | (dsimp only at hSw; go_simp))
          try simp only [Act.put, List.setIfInBounds_toArray, List.set_cons_zero, List.set_cons_succ]
          refine wpAnyH_take (i := 5) (oi := { dst := some 29, op := .indexAddr 22 (.tmp 27) (.tmp 28), type := _, pos := _, after := _, guard := none }) (v := .pointer (some ⟨b, o + k, none⟩)) rfl (by kernel_rfl) (by kernel_rfl) (by kernel_rfl) (fun _ _ _ h => h) (Or.inl ⟨by rfl, fun wh hSw => ?_⟩) hHeld ?_
          · (first | exact congrArg _ hSw | (dsimp only at hSw; go_simp))
          try simp only [Act.put, List.setIfInBounds_toArray, List.set_cons_zero, List.set_cons_succ]
          refine wpAnyH_take (i := 6) (oi := { dst := some 30, op := .load 38 (.tmp 29), type := _, pos := _, after := _, guard := none }) (v := ru) rfl (by kernel_rfl) (by kernel_rfl) (by kernel_rfl) (fun _ _ _ h => h) (Or.inl ⟨by rfl, fun wh hSw => ?_⟩) hHeld ?_
          · (first | exact congrArg _ hSw | (dsimp only at hSw; go_simp))
          try simp only [Act.put, List.setIfInBounds_toArray, List.set_cons_zero, List.set_cons_succ]
          refine wpAnyH_ready (rs := [1, 2]) (by kernel_rfl) (by simp) ?_
          refine AllReadyH.cons (o := { dst := some 25, op := .load 26 (.tmp 24), type := _, pos := _, after := _, guard := none }) rfl (fun K hK => ?_) (AllReadyH.cons (o := { dst := some 26, op := .buildSlice 38 0 #[], type := _, pos := _, after := _, guard := none }) rfl (fun K hK => ?_) AllReadyH.nil)
          · obtain ⟨_, _, _, c2, _⟩ := (HK1.out.go HBz.out).c
            go_simp
            refine hK.out _ _ ?_ (fun hHeld => ?_)
            · exact (HRCW.out _ HBz.out).1
            clear hK K
            try simp only [Act.put, List.setIfInBounds_toArray, List.set_cons_zero, List.set_cons_succ]
            clear c2
            refine wpAnyH_ready (rs := [2]) (by kernel_rfl) (by simp) ?_
            refine AllReadyH.cons (o := { dst := some 26, op := .buildSlice 38 0 #[], type := _, pos := _, after := _, guard := none }) rfl (fun K hK => ?_) AllReadyH.nil
            obtain ⟨W2, hW⟩ : ∃ W2, W2 = wz.alloc (.cells #[] 9) := ⟨_, rfl⟩
            have HO2 : Hid (OwnS wz (.slice (some ⟨wz.heap.size, 0, none⟩) 0 0) [] W2) := Lib.hid (by rw [hW]; exact OwnS.start wz)
            have HB2 := Lib.hid (HBz.out.trans (HO2.out.bel.mono HBz.out.size))
            have HW := Lib.hid hW
            clear hW
            go_simp
            rw [← HW.out]
            clear HW
            refine hK.out _ _ ?_ (fun hHeld => ?_)
            · exact (HRCW.out _ HB2.out).1
            clear hK K
            try simp only [Act.put, List.setIfInBounds_toArray, List.set_cons_zero, List.set_cons_succ]
            refine wpAnyH_ready (rs := [7]) (by kernel_rfl) (by simp) ?_
            refine AllReadyH.cons (o := { dst := some 31, op := .call { callee := .builtin .append, args := #[.tmp 26, .tmp 30], argTypes := #[38, 38] }, type := _, pos := _, after := _, guard := none }) rfl (fun K hK => ?_) AllReadyH.nil
            refine wp_append_strs (.tmp 26) (.tmp 30) wz _ [] rfl HO2.out ru r rfl (HRCW.out _ HB2.out).2 HNIL.out (by have := HLR.out; simpa using this) ?_
            intro v' W3 ho _ _
            rw [List.nil_append] at ho
            obtain ⟨sa, sn, sc, rfl⟩ : ∃ a n c, v' = .slice a n c := by
              obtain ⟨a, c, e, _⟩ := ho.strs
              exact ⟨_, _, _, e⟩
            have HO3 := Lib.hid ho
            have HB3 := Lib.hid (HBz.out.trans (ho.bel.mono HBz.out.size))
            clear ho
            refine hK.out _ _ ?_ (fun hHeld => ?_)
            · exact (HRCW.out _ HB3.out).1
            clear hK K
            try simp only [Act.put, List.setIfInBounds_toArray, List.set_cons_zero, List.set_cons_succ]
            refine wpAnyH_take (i := 8) (oi := { dst := some 32, op := .build 42 #[(0, .tmp 31), (1, .const (.int .i64 (-1)))], type := _, pos := _, after := _, guard := none }) (v := .agg #[.slice sa sn sc, .int .i64 (-1)]) rfl (by kernel_rfl) (by kernel_rfl) (by kernel_rfl) (fun _ _ _ h => h) (Or.inl ⟨by rfl, fun wh hSw => ?_⟩) hHeld ?_
            · (first | exact congrArg _ hSw | (dsimp only at hSw; go_simp))
            try simp only [Act.put, List.setIfInBounds_toArray, List.set_cons_zero, List.set_cons_succ]
            refine wpAnyH_ready (rs := [9]) (by kernel_rfl) (by simp) ?_
            refine AllReadyH.cons (o := { dst := some 33, op := .buildSlice 26 1 #[(0, .tmp 32)], type := _, pos := _, after := _, guard := none }) rfl (fun K hK => ?_) AllReadyH.nil
            obtain ⟨W4, hW⟩ : ∃ W4, W4 = W3.alloc (.cells #[.slice sa sn sc, .int .i64 (-1)] 42) := ⟨_, rfl⟩
            have HC4 : Hid (W4.cell? ⟨W3.heap.size, 0, none⟩ = some (.slice sa sn sc) ∧ W4.cell? ⟨W3.heap.size, 1, none⟩ = some (.int .i64 (-1)) ∧ Below W3.heap.size W3 W4) := Lib.hid (by rw [hW]; exact ⟨new_cell rfl, new_cell rfl, (Below.refl _ _).alloc (Nat.le_refl _) _⟩)
            have HB4 := Lib.hid (HB3.out.trans (HC4.out.2.2.mono HB3.out.size))
            have HE4 : Hid (Strs W4 (.slice sa sn sc) r ∧ ∀ g, (Value.slice sa sn sc).ownBlock = some g → g < W4.heap.size ∧ (Value.slice va vn vc).ownBlock ≠ some g ∧ g ≠ bp ∧ w.heap.size < g) := Lib.hid (HFR.out wz _ _ _ HBz.out.size HO3.out HC4.out.2.2)
            have HW := Lib.hid hW
            clear hW
            go_simp
            rw [← HW.out]
            clear HW
            refine hK.out _ _ ?_ (fun hHeld => ?_)
            · exact (HRCW.out _ HB4.out).1
            clear hK K
            try simp only [Act.put, List.setIfInBounds_toArray, List.set_cons_zero, List.set_cons_succ]
            refine wpAnyH_ready (rs := [10]) (by kernel_rfl) (by simp) ?_
            refine AllReadyH.cons (o := { dst := some 34, op := .call { callee := .builtin .append, args := #[.tmp 25, .tmp 33], argTypes := #[26, 26] }, type := _, pos := _, after := _, guard := none }) rfl (fun K hK => ?_) AllReadyH.nil
            refine wp_append_es1 (.tmp 25) (.tmp 33) (w.heap.size + 1) _ _ ps rfl (HK1.out.go HB4.out).e (by have := HK1.out.x.lt; have := HB4.out.size; omega) _ (.slice sa sn sc) ⟨r, -1⟩ rfl HC4.out.1 HC4.out.2.1 HE4.out.1 (fun g hg _ => ⟨(HE4.out.2 g hg).1, (HE4.out.2 g hg).2.1⟩) (by rw [HLE.out]; omega) ?_
            intro v' W5 he hg g5
            obtain ⟨ta, tn, tc, rfl⟩ : ∃ a n c, v' = .slice a n c := by
              obtain ⟨a, c, e, _⟩ := he.es
              exact ⟨_, _, _, e⟩
            have HP := Lib.hid ((HK1.out.go HB4.out).put hg he g5 (fun g hg _ => (HE4.out.2 g hg).2.2))
            have HQ2 := Lib.hid ((HK1.out.go HB4.out).place hg)
            clear he hg g5
            refine hK.out _ _ ?_ (fun hHeld => ?_)
            · exact (HRC.out _ HQ2.out.2.2).1
            clear hK K
            try simp only [Act.put, List.setIfInBounds_toArray, List.set_cons_zero, List.set_cons_succ]
            refine wpAnyH_take (i := 11) (oi := { dst := some 35, op := .fieldAddr 29 (.tmp 4) 2, type := _, pos := _, after := _, guard := none }) (v := .pointer (some ⟨bp, 0 + 2, none⟩)) rfl (by kernel_rfl) (by kernel_rfl) (by kernel_rfl) (fun _ _ _ h => h) (Or.inl ⟨by rfl, fun wh hSw => ?_⟩) hHeld ?_
            · (first | exact congrArg _ hSw | (dsimp only at hSw; go_simp))
            try simp only [Act.put, List.setIfInBounds_toArray, List.set_cons_zero, List.set_cons_succ]
            refine wpAnyH_ready (rs := [12]) (by kernel_rfl) (by simp) ?_
            refine AllReadyH.cons (o := { dst := none, op := .store 26 (.tmp 35) (.tmp 34), type := _, pos := _, after := _, guard := none }) rfl (fun K hK => ?_) AllReadyH.nil
            obtain ⟨z0, z1, _⟩ := HQ2.out
            go_simp
            refine hK.out _ _ ?_ (fun hHeld => ?_)
            · exact (HRC.out _ HP.out.bel).1
            clear hK K
            try simp only [Act.put, List.setIfInBounds_toArray, List.set_cons_zero, List.set_cons_succ]
            clear z0 z1
            refine wpAnyH_done (by kernel_rfl) ?_ _
            have HKF : Hid (KLoop w (W5.setCell ⟨bp, 2, none⟩ (.slice ta tn tc)) (.slice ua un uc) B0 B1 b1 bp (.slice ta tn tc) (.slice (some ⟨b3, 0, none⟩) 0 0) (newE (rs.take (k + 1))) (ps ++ [(.slice sa sn sc, -1)])) := Lib.hid (by rw [newE_snoc (by have := HNN.out; omega), ← HR.out]; exact HP.out)
            go_wp2_with fail
            go_roundw
            case rel => exact ⟨k + 1, _, _, by omega, by go_num, HKF, HOK2⟩
            case measure => simp [intOf]; omega
          · obtain ⟨W7, hW⟩ : ∃ W7, W7 = wz.alloc (.cells #[] 9) := ⟨_, rfl⟩
            have HO7 : Hid (OwnS wz (.slice (some ⟨wz.heap.size, 0, none⟩) 0 0) [] W7) := Lib.hid (by rw [hW]; exact OwnS.start wz)
            have HB7 := Lib.hid (HBz.out.trans (HO7.out.bel.mono HBz.out.size))
            have HW := Lib.hid hW
            clear hW
            go_simp
            rw [← HW.out]
            clear HW
            refine hK.out _ _ ?_ (fun hHeld => ?_)
            · exact (HRCW.out _ HB7.out).1
            clear hK K
            try simp only [Act.put, List.setIfInBounds_toArray, List.set_cons_zero, List.set_cons_succ]
            refine wpAnyH_ready (rs := [1, 7]) (by kernel_rfl) (by simp) ?_
            refine AllReadyH.cons (o := { dst := some 25, op := .load 26 (.tmp 24), type := _, pos := _, after := _, guard := none }) rfl (fun K hK => ?_) (AllReadyH.cons (o := { dst := some 31, op := .call { callee := .builtin .append, args := #[.tmp 26, .tmp 30], argTypes := #[38, 38] }, type := _, pos := _, after := _, guard := none }) rfl (fun K hK => ?_) AllReadyH.nil)
            · obtain ⟨_, _, _, c2, _⟩ := (HK1.out.go HB7.out).c
              go_simp
              refine hK.out _ _ ?_ (fun hHeld => ?_)
              · exact (HRCW.out _ HB7.out).1
              clear hK K
              try simp only [Act.put, List.setIfInBounds_toArray, List.set_cons_zero, List.set_cons_succ]
              clear c2
              refine wpAnyH_ready (rs := [7]) (by kernel_rfl) (by simp) ?_
              refine AllReadyH.cons (o := { dst := some 31, op := .call { callee := .builtin .append, args := #[.tmp 26, .tmp 30], argTypes := #[38, 38] }, type := _, pos := _, after := _, guard := none }) rfl (fun K hK => ?_) AllReadyH.nil
              refine wp_append_strs (.tmp 26) (.tmp 30) wz _ [] rfl HO7.out ru r rfl (HRCW.out _ HB7.out).2 HNIL.out (by have := HLR.out; simpa using this) ?_
              intro v' W9 ho _ _
              rw [List.nil_append] at ho
              obtain ⟨sa, sn, sc, rfl⟩ : ∃ a n c, v' = .slice a n c := by
                obtain ⟨a, c, e, _⟩ := ho.strs
                exact ⟨_, _, _, e⟩
              have HO9 := Lib.hid ho
              have HB9 := Lib.hid (HBz.out.trans (ho.bel.mono HBz.out.size))
              clear ho
              refine hK.out _ _ ?_ (fun hHeld => ?_)
              · exact (HRCW.out _ HB9.out).1
              clear hK K
              try simp only [Act.put, List.setIfInBounds_toArray, List.set_cons_zero, List.set_cons_succ]
              refine wpAnyH_take (i := 8) (oi := { dst := some 32, op := .build 42 #[(0, .tmp 31), (1, .const (.int .i64 (-1)))], type := _, pos := _, after := _, guard := none }) (v := .agg #[.slice sa sn sc, .int .i64 (-1)]) rfl (by kernel_rfl) (by kernel_rfl) (by kernel_rfl) (fun _ _ _ h => h) (Or.inl ⟨by rfl, fun wh hSw => ?_⟩) hHeld ?_
              · (first | exact congrArg _ hSw | (dsimp only at hSw; go_simp))
              try simp only [Act.put, List.setIfInBounds_toArray, List.set_cons_zero, List.set_cons_succ]
              refine wpAnyH_ready (rs := [9]) (by kernel_rfl) (by simp) ?_
              refine AllReadyH.cons (o := { dst := some 33, op := .buildSlice 26 1 #[(0, .tmp 32)], type := _, pos := _, after := _, guard := none }) rfl (fun K hK => ?_) AllReadyH.nil
              obtain ⟨W10, hW⟩ : ∃ W10, W10 = W9.alloc (.cells #[.slice sa sn sc, .int .i64 (-1)] 42) := ⟨_, rfl⟩
              have HC10 : Hid (W10.cell? ⟨W9.heap.size, 0, none⟩ = some (.slice sa sn sc) ∧ W10.cell? ⟨W9.heap.size, 1, none⟩ = some (.int .i64 (-1)) ∧ Below W9.heap.size W9 W10) := Lib.hid (by rw [hW]; exact ⟨new_cell rfl, new_cell rfl, (Below.refl _ _).alloc (Nat.le_refl _) _⟩)
              have HB10 := Lib.hid (HB9.out.trans (HC10.out.2.2.mono HB9.out.size))
              have HE10 : Hid (Strs W10 (.slice sa sn sc) r ∧ ∀ g, (Value.slice sa sn sc).ownBlock = some g → g < W10.heap.size ∧ (Value.slice va vn vc).ownBlock ≠ some g ∧ g ≠ bp ∧ w.heap.size < g) := Lib.hid (HFR.out wz _ _ _ HBz.out.size HO9.out HC10.out.2.2)
              have HW := Lib.hid hW
              clear hW
              go_simp
              rw [← HW.out]
              clear HW
              refine hK.out _ _ ?_ (fun hHeld => ?_)
              · exact (HRCW.out _ HB10.out).1
              clear hK K
              try simp only [Act.put, List.setIfInBounds_toArray, List.set_cons_zero, List.set_cons_succ]
              refine wpAnyH_ready (rs := [10]) (by kernel_rfl) (by simp) ?_
              refine AllReadyH.cons (o := { dst := some 34, op := .call { callee := .builtin .append, args := #[.tmp 25, .tmp 33], argTypes := #[26, 26] }, type := _, pos := _, after := _, guard := none }) rfl (fun K hK => ?_) AllReadyH.nil
              refine wp_append_es1 (.tmp 25) (.tmp 33) (w.heap.size + 1) _ _ ps rfl (HK1.out.go HB10.out).e (by have := HK1.out.x.lt; have := HB10.out.size; omega) _ (.slice sa sn sc) ⟨r, -1⟩ rfl HC10.out.1 HC10.out.2.1 HE10.out.1 (fun g hg _ => ⟨(HE10.out.2 g hg).1, (HE10.out.2 g hg).2.1⟩) (by rw [HLE.out]; omega) ?_
              intro v' W11 he hg g5
              obtain ⟨ta, tn, tc, rfl⟩ : ∃ a n c, v' = .slice a n c := by
                obtain ⟨a, c, e, _⟩ := he.es
                exact ⟨_, _, _, e⟩
              have HP := Lib.hid ((HK1.out.go HB10.out).put hg he g5 (fun g hg _ => (HE10.out.2 g hg).2.2))
              have HQ2 := Lib.hid ((HK1.out.go HB10.out).place hg)
              clear he hg g5
              refine hK.out _ _ ?_ (fun hHeld => ?_)
              · exact (HRC.out _ HQ2.out.2.2).1
              clear hK K
              try simp only [Act.put, List.setIfInBounds_toArray, List.set_cons_zero, List.set_cons_succ]
              refine wpAnyH_take (i := 11) (oi := { dst := some 35, op := .fieldAddr 29 (.tmp 4) 2, type := _, pos := _, after := _, guard := none }) (v := .pointer (some ⟨bp, 0 + 2, none⟩)) rfl (by kernel_rfl) (by kernel_rfl) (by kernel_rfl) (fun _ _ _ h => h) (Or.inl ⟨by rfl, fun wh hSw => ?_⟩) hHeld ?_
              · (first | exact congrArg _ hSw | (dsimp only at hSw; go_simp))
              try simp only [Act.put, List.setIfInBounds_toArray, List.set_cons_zero, List.set_cons_succ]
              refine wpAnyH_ready (rs := [12]) (by kernel_rfl) (by simp) ?_
              refine AllReadyH.cons (o := { dst := none, op := .store 26 (.tmp 35) (.tmp 34), type := _, pos := _, after := _, guard := none }) rfl (fun K hK => ?_) AllReadyH.nil
              obtain ⟨z0, z1, _⟩ := HQ2.out
              go_simp
              refine hK.out _ _ ?_ (fun hHeld => ?_)
              · exact (HRC.out _ HP.out.bel).1
              clear hK K
              try simp only [Act.put, List.setIfInBounds_toArray, List.set_cons_zero, List.set_cons_succ]
              clear z0 z1
              refine wpAnyH_done (by kernel_rfl) ?_ _
              have HKF : Hid (KLoop w (W11.setCell ⟨bp, 2, none⟩ (.slice ta tn tc)) (.slice ua un uc) B0 B1 b1 bp (.slice ta tn tc) (.slice (some ⟨b3, 0, none⟩) 0 0) (newE (rs.take (k + 1))) (ps ++ [(.slice sa sn sc, -1)])) := Lib.hid (by rw [newE_snoc (by have := HNN.out; omega), ← HR.out]; exact HP.out)
              go_wp2_with fail
              go_roundw
              case rel => exact ⟨k + 1, _, _, by omega, by go_num, HKF, HOK2⟩
              case measure => simp [intOf]; omega
            · refine wp_append_strs (.tmp 26) (.tmp 30) wz _ [] rfl HO7.out ru r rfl (HRCW.out _ HB7.out).2 HNIL.out (by have := HLR.out; simpa using this) ?_
              intro v' W13 ho _ _
              rw [List.nil_append] at ho
              obtain ⟨sa, sn, sc, rfl⟩ : ∃ a n c, v' = .slice a n c := by
                obtain ⟨a, c, e, _⟩ := ho.strs
                exact ⟨_, _, _, e⟩
              have HO13 := Lib.hid ho
              have HB13 := Lib.hid (HBz.out.trans (ho.bel.mono HBz.out.size))
              clear ho
              refine hK.out _ _ ?_ (fun hHeld => ?_)
              · exact (HRCW.out _ HB13.out).1
              clear hK K
              try simp only [Act.put, List.setIfInBounds_toArray, List.set_cons_zero, List.set_cons_succ]
              refine wpAnyH_take (i := 8) (oi := { dst := some 32, op := .build 42 #[(0, .tmp 31), (1, .const (.int .i64 (-1)))], type := _, pos := _, after := _, guard := none }) (v := .agg #[.slice sa sn sc, .int .i64 (-1)]) rfl (by kernel_rfl) (by kernel_rfl) (by kernel_rfl) (fun _ _ _ h => h) (Or.inl ⟨by rfl, fun wh hSw => ?_⟩) hHeld ?_
              · (first | exact congrArg _ hSw | (dsimp only at hSw; go_simp))
              try simp only [Act.put, List.setIfInBounds_toArray, List.set_cons_zero, List.set_cons_succ]
              refine wpAnyH_ready (rs := [1, 9]) (by kernel_rfl) (by simp) ?_
              refine AllReadyH.cons (o := { dst := some 25, op := .load 26 (.tmp 24), type := _, pos := _, after := _, guard := none }) rfl (fun K hK => ?_) (AllReadyH.cons (o := { dst := some 33, op := .buildSlice 26 1 #[(0, .tmp 32)], type := _, pos := _, after := _, guard := none }) rfl (fun K hK => ?_) AllReadyH.nil)
              · obtain ⟨_, _, _, c2, _⟩ := (HK1.out.go HB13.out).c
                go_simp
                refine hK.out _ _ ?_ (fun hHeld => ?_)
                · exact (HRCW.out _ HB13.out).1
                clear hK K
                try simp only [Act.put, List.setIfInBounds_toArray, List.set_cons_zero, List.set_cons_succ]
                clear c2
                refine wpAnyH_ready (rs := [9]) (by kernel_rfl) (by simp) ?_
                refine AllReadyH.cons (o := { dst := some 33, op := .buildSlice 26 1 #[(0, .tmp 32)], type := _, pos := _, after := _, guard := none }) rfl (fun K hK => ?_) AllReadyH.nil
                obtain ⟨W15, hW⟩ : ∃ W15, W15 = W13.alloc (.cells #[.slice sa sn sc, .int .i64 (-1)] 42) := ⟨_, rfl⟩
                have HC15 : Hid (W15.cell? ⟨W13.heap.size, 0, none⟩ = some (.slice sa sn sc) ∧ W15.cell? ⟨W13.heap.size, 1, none⟩ = some (.int .i64 (-1)) ∧ Below W13.heap.size W13 W15) := Lib.hid (by rw [hW]; exact ⟨new_cell rfl, new_cell rfl, (Below.refl _ _).alloc (Nat.le_refl _) _⟩)
                have HB15 := Lib.hid (HB13.out.trans (HC15.out.2.2.mono HB13.out.size))
                have HE15 : Hid (Strs W15 (.slice sa sn sc) r ∧ ∀ g, (Value.slice sa sn sc).ownBlock = some g → g < W15.heap.size ∧ (Value.slice va vn vc).ownBlock ≠ some g ∧ g ≠ bp ∧ w.heap.size < g) := Lib.hid (HFR.out wz _ _ _ HBz.out.size HO13.out HC15.out.2.2)
                have HW := Lib.hid hW
                clear hW
                go_simp
                rw [← HW.out]
                clear HW
                refine hK.out _ _ ?_ (fun hHeld => ?_)
                · exact (HRCW.out _ HB15.out).1
                clear hK K
                try simp only [Act.put, List.setIfInBounds_toArray, List.set_cons_zero, List.set_cons_succ]
                refine wpAnyH_ready (rs := [10]) (by kernel_rfl) (by simp) ?_
                refine AllReadyH.cons (o := { dst := some 34, op := .call { callee := .builtin .append, args := #[.tmp 25, .tmp 33], argTypes := #[26, 26] }, type := _, pos := _, after := _, guard := none }) rfl (fun K hK => ?_) AllReadyH.nil
                refine wp_append_es1 (.tmp 25) (.tmp 33) (w.heap.size + 1) _ _ ps rfl (HK1.out.go HB15.out).e (by have := HK1.out.x.lt; have := HB15.out.size; omega) _ (.slice sa sn sc) ⟨r, -1⟩ rfl HC15.out.1 HC15.out.2.1 HE15.out.1 (fun g hg _ => ⟨(HE15.out.2 g hg).1, (HE15.out.2 g hg).2.1⟩) (by rw [HLE.out]; omega) ?_
                intro v' W16 he hg g5
                obtain ⟨ta, tn, tc, rfl⟩ : ∃ a n c, v' = .slice a n c := by
                  obtain ⟨a, c, e, _⟩ := he.es
                  exact ⟨_, _, _, e⟩
                have HP := Lib.hid ((HK1.out.go HB15.out).put hg he g5 (fun g hg _ => (HE15.out.2 g hg).2.2))
                have HQ2 := Lib.hid ((HK1.out.go HB15.out).place hg)
                clear he hg g5
                refine hK.out _ _ ?_ (fun hHeld => ?_)
                · exact (HRC.out _ HQ2.out.2.2).1
                clear hK K
                try simp only [Act.put, List.setIfInBounds_toArray, List.set_cons_zero, List.set_cons_succ]
                refine wpAnyH_take (i := 11) (oi := { dst := some 35, op := .fieldAddr 29 (.tmp 4) 2, type := _, pos := _, after := _, guard := none }) (v := .pointer (some ⟨bp, 0 + 2, none⟩)) rfl (by kernel_rfl) (by kernel_rfl) (by kernel_rfl) (fun _ _ _ h => h) (Or.inl ⟨by rfl, fun wh hSw => ?_⟩) hHeld ?_
                · (first | exact congrArg _ hSw | (dsimp only at hSw; go_simp))
                try simp only [Act.put, List.setIfInBounds_toArray, List.set_cons_zero, List.set_cons_succ]
                refine wpAnyH_ready (rs := [12]) (by kernel_rfl) (by simp) ?_
                refine AllReadyH.cons (o := { dst := none, op := .store 26 (.tmp 35) (.tmp 34), type := _, pos := _, after := _, guard := none }) rfl (fun K hK => ?_) AllReadyH.nil
                obtain ⟨z0, z1, _⟩ := HQ2.out
                go_simp
                refine hK.out _ _ ?_ (fun hHeld => ?_)
                · exact (HRC.out _ HP.out.bel).1
                clear hK K
                try simp only [Act.put, List.setIfInBounds_toArray, List.set_cons_zero, List.set_cons_succ]
                clear z0 z1
                refine wpAnyH_done (by kernel_rfl) ?_ _
                have HKF : Hid (KLoop w (W16.setCell ⟨bp, 2, none⟩ (.slice ta tn tc)) (.slice ua un uc) B0 B1 b1 bp (.slice ta tn tc) (.slice (some ⟨b3, 0, none⟩) 0 0) (newE (rs.take (k + 1))) (ps ++ [(.slice sa sn sc, -1)])) := Lib.hid (by rw [newE_snoc (by have := HNN.out; omega), ← HR.out]; exact HP.out)
                go_wp2_with fail
                go_roundw
                case rel => exact ⟨k + 1, _, _, by omega, by go_num, HKF, HOK2⟩
                case measure => simp [intOf]; omega
              · obtain ⟨W18, hW⟩ : ∃ W18, W18 = W13.alloc (.cells #[.slice sa sn sc, .int .i64 (-1)] 42) := ⟨_, rfl⟩
                have HC18 : Hid (W18.cell? ⟨W13.heap.size, 0, none⟩ = some (.slice sa sn sc) ∧ W18.cell? ⟨W13.heap.size, 1, none⟩ = some (.int .i64 (-1)) ∧ Below W13.heap.size W13 W18) := Lib.hid (by rw [hW]; exact ⟨new_cell rfl, new_cell rfl, (Below.refl _ _).alloc (Nat.le_refl _) _⟩)
                have HB18 := Lib.hid (HB13.out.trans (HC18.out.2.2.mono HB13.out.size))
                have HE18 : Hid (Strs W18 (.slice sa sn sc) r ∧ ∀ g, (Value.slice sa sn sc).ownBlock = some g → g < W18.heap.size ∧ (Value.slice va vn vc).ownBlock ≠ some g ∧ g ≠ bp ∧ w.heap.size < g) := Lib.hid (HFR.out wz _ _ _ HBz.out.size HO13.out HC18.out.2.2)
                have HW := Lib.hid hW
                clear hW
                go_simp
                rw [← HW.out]
                clear HW
                refine hK.out _ _ ?_ (fun hHeld => ?_)
                · exact (HRCW.out _ HB18.out).1
                clear hK K
                try simp only [Act.put, List.setIfInBounds_toArray, List.set_cons_zero, List.set_cons_succ]
                refine wpAnyH_ready (rs := [1]) (by kernel_rfl) (by simp) ?_
                refine AllReadyH.cons (o := { dst := some 25, op := .load 26 (.tmp 24), type := _, pos := _, after := _, guard := none }) rfl (fun K hK => ?_) AllReadyH.nil
                obtain ⟨_, _, _, c2, _⟩ := (HK1.out.go HB18.out).c
                go_simp
                refine hK.out _ _ ?_ (fun hHeld => ?_)
                · exact (HRCW.out _ HB18.out).1
                clear hK K
                try simp only [Act.put, List.setIfInBounds_toArray, List.set_cons_zero, List.set_cons_succ]
                clear c2
                refine wpAnyH_ready (rs := [10]) (by kernel_rfl) (by simp) ?_
                refine AllReadyH.cons (o := { dst := some 34, op := .call { callee := .builtin .append, args := #[.tmp 25, .tmp 33], argTypes := #[26, 26] }, type := _, pos := _, after := _, guard := none }) rfl (fun K hK => ?_) AllReadyH.nil
                refine wp_append_es1 (.tmp 25) (.tmp 33) (w.heap.size + 1) _ _ ps rfl (HK1.out.go HB18.out).e (by have := HK1.out.x.lt; have := HB18.out.size; omega) _ (.slice sa sn sc) ⟨r, -1⟩ rfl HC18.out.1 HC18.out.2.1 HE18.out.1 (fun g hg _ => ⟨(HE18.out.2 g hg).1, (HE18.out.2 g hg).2.1⟩) (by rw [HLE.out]; omega) ?_
                intro v' W20 he hg g5
                obtain ⟨ta, tn, tc, rfl⟩ : ∃ a n c, v' = .slice a n c := by
                  obtain ⟨a, c, e, _⟩ := he.es
                  exact ⟨_, _, _, e⟩
                have HP := Lib.hid ((HK1.out.go HB18.out).put hg he g5 (fun g hg _ => (HE18.out.2 g hg).2.2))
                have HQ2 := Lib.hid ((HK1.out.go HB18.out).place hg)
                clear he hg g5
                refine hK.out _ _ ?_ (fun hHeld => ?_)
                · exact (HRC.out _ HQ2.out.2.2).1
                clear hK K
                try simp only [Act.put, List.setIfInBounds_toArray, List.set_cons_zero, List.set_cons_succ]
                refine wpAnyH_take (i := 11) (oi := { dst := some 35, op := .fieldAddr 29 (.tmp 4) 2, type := _, pos := _, after := _, guard := none }) (v := .pointer (some ⟨bp, 0 + 2, none⟩)) rfl (by kernel_rfl) (by kernel_rfl) (by kernel_rfl) (fun _ _ _ h => h) (Or.inl ⟨by rfl, fun wh hSw => ?_⟩) hHeld ?_
                · (first | exact congrArg _ hSw | (dsimp only at hSw; go_simp))
                try simp only [Act.put, List.setIfInBounds_toArray, List.set_cons_zero, List.set_cons_succ]
                refine wpAnyH_ready (rs := [12]) (by kernel_rfl) (by simp) ?_
                refine AllReadyH.cons (o := { dst := none, op := .store 26 (.tmp 35) (.tmp 34), type := _, pos := _, after := _, guard := none }) rfl (fun K hK => ?_) AllReadyH.nil
                obtain ⟨z0, z1, _⟩ := HQ2.out
                go_simp
                refine hK.out _ _ ?_ (fun hHeld => ?_)
                · exact (HRC.out _ HP.out.bel).1
                clear hK K
                try simp only [Act.put, List.setIfInBounds_toArray, List.set_cons_zero, List.set_cons_succ]
                clear z0 z1
                refine wpAnyH_done (by kernel_rfl) ?_ _
                have HKF : Hid (KLoop w (W20.setCell ⟨bp, 2, none⟩ (.slice ta tn tc)) (.slice ua un uc) B0 B1 b1 bp (.slice ta tn tc) (.slice (some ⟨b3, 0, none⟩) 0 0) (newE (rs.take (k + 1))) (ps ++ [(.slice sa sn sc, -1)])) := Lib.hid (by rw [newE_snoc (by have := HNN.out; omega), ← HR.out]; exact HP.out)
                go_wp2_with fail
                go_roundw
                case rel => exact ⟨k + 1, _, _, by omega, by go_num, HKF, HOK2⟩
                case measure => simp [intOf]; omega
      · have e : k = n := by omega
        rw [e] at HK HOK
        have hge : ¬ (k : Int) < n := by omega
        obtain ⟨_, x0, x1, x2, x3⟩ := HK.out.x
        have g0 := (HK.out.xt 0 (by omega)).2
        have g1 := (HK.out.xt 1 (by omega)).2
        have g2 := (HK.out.xt 2 (by omega)).2
        have g3 := (HK.out.xt 3 (by omega)).2
        simp only [Nat.zero_add] at g0 g1 g2 g3
        rw [← HXE.out] at x0 x1 x2 x3 g0 g1 g2 g3
        obtain ⟨_, y0, y1, y2, y3⟩ := HK.out.c
        by_cases h3 : n = 3
        · have h3' : (n : Int) = 3 := by omega
          go_wp2_with fail
          have HRA : Hid (World.rangeAt ((((wr.setCell ⟨X, 0, none⟩ (.slice ua un uc)).setCell ⟨X, 1, none⟩ (.slice (some ⟨b1, 0, none⟩) 12 12)).setCell ⟨X, 2, none⟩ (.slice va vn vc)).setCell ⟨X, 3, none⟩ (.slice (some ⟨b3, 0, none⟩) 0 0)) X 0 [.slice ua un uc, .slice (some ⟨b1, 0, none⟩) 12 12, .slice va vn vc, .slice (some ⟨b3, 0, none⟩) 0 0]) := Lib.hid (World.rangeAt_setCells_same wr X 0 [.slice ua un uc, .slice (some ⟨b1, 0, none⟩) 12 12, .slice va vn vc, .slice (some ⟨b3, 0, none⟩) 0 0] (by rw [HXE.out]; exact HK.out.xt))
          refine bodyPost_ret (results_cell_mid rfl _ _ X 0 [.slice ua un uc, .slice (some ⟨b1, 0, none⟩) 12 12, .slice va vn vc, .slice (some ⟨b3, 0, none⟩) 0 0] _ rfl HRA.out Try.underlying29 rfl (by kernel_rfl)) rfl ?_
          rw [HRR.out]
          have hko : knewOk rs = true := by
            unfold knewOk
            rw [Bool.and_eq_true, decide_eq_true_eq, List.all_eq_true]
            refine ⟨fun x hx => ?_, by have := HNN.out; omega⟩
            obtain ⟨i, hi, rfl⟩ := List.getElem_of_mem hx
            have := HOK.out i (by have := HNN.out; omega)
            rwa [getD_lt hi] at this
          have hkn : knew rs = ⟨mem0, List.replicate 12 iz, newE (rs.take n), []⟩ := by unfold knew newE; rw [if_pos hko, HNN.out, List.take_length]
          rw [hko, hkn]
          have hres := HK.out.res (b3 := b3) (by rw [← HXE.out]; exact grown_set4 wr X (.slice ua un uc) (.slice (some ⟨b1, 0, none⟩) 12 12) (.slice va vn vc) (.slice (some ⟨b3, 0, none⟩) 0 0))
          exact ⟨_, _, _, _, rfl, hres.1, hres.2⟩
        · have h3' : ¬ (n : Int) = 3 := by omega
          go_wp2_with fail
          have HRA : Hid (World.rangeAt ((((wr.setCell ⟨X, 0, none⟩ (sl0)).setCell ⟨X, 1, none⟩ (sl0)).setCell ⟨X, 2, none⟩ (sl0)).setCell ⟨X, 3, none⟩ (sl0)) X 0 [sl0, sl0, sl0, sl0]) := Lib.hid (World.rangeAt_setCells_same wr X 0 [sl0, sl0, sl0, sl0] (by rw [HXE.out]; exact HK.out.xt))
          refine bodyPost_ret (results_cell_mid rfl _ _ X 0 [sl0, sl0, sl0, sl0] _ rfl HRA.out Try.underlying29 rfl (by kernel_rfl)) rfl ?_
          rw [HRR.out]
          have hko : knewOk rs = false := by
            unfold knewOk
            rw [Bool.and_eq_false_iff]
            right
            rw [decide_eq_false_iff_not]
            have := HNN.out
            omega
          have hkn : knew rs = kz := by unfold knew; rw [hko]; simp
          rw [hko, hkn]
          exact ⟨_, _, _, _, rfl, ks_none _, (HK.out.res (b3 := b3) (by rw [← HXE.out]; exact grown_set4 _ X _ _ _ _)).2⟩)
  have s01235 : Hid (∀ (l : Array Bool) (W : World) (u : Value) (B0 B1 : Nat) (b1 : Nat) (b2 : Nat) (b3 : Nat) (bp : Nat), l = #[true, true, true, true, false, true, false] → Hid (NK w0 W (some (u, B0, B1)) (some b1) (some b2) (some bp)) → G 2 l { tmps := #[.slice a n ca, undef, .pointer (some ⟨X, 0, none⟩), .bool false, .pointer (some ⟨bp, 0, none⟩), undef, u, .slice (some ⟨b1, 0, none⟩) 12 12, .slice (some ⟨b2, 0, none⟩) 0 0, .slice (some ⟨b3, 0, none⟩) 0 0, undef, undef, undef, undef, undef, undef, undef, undef, undef, undef, undef, undef, undef, undef, undef, undef, undef, undef, undef, undef, undef, undef, undef, undef, undef, undef, undef, undef, undef, undef, undef], defers := [] } W) := Lib.hid (by
    intro l W u B0 B1 b1 b2 b3 bp hl HN
    subst hl
    rw [HG.out]
    have hHeld : True := trivial
    obtain ⟨ua, un, uc, rfl⟩ : ∃ a n c, u = .slice a n c := by
      obtain ⟨a, cap, A, C, e, _⟩ := (HN.out.fm u B0 B1 rfl).1
      exact ⟨_, _, _, e⟩
    refine wpAnyH_take (i := 4) (oi := { dst := some 10, op := .build 29 #[(0, .tmp 6), (1, .tmp 7), (2, .tmp 8), (3, .tmp 9)], type := _, pos := _, after := _, guard := none }) (v := .agg #[.slice ua un uc, .slice (some ⟨b1, 0, none⟩) 12 12, .slice (some ⟨b2, 0, none⟩) 0 0, .slice (some ⟨b3, 0, none⟩) 0 0]) rfl (by kernel_rfl) (by kernel_rfl) (by kernel_rfl) (fun _ _ _ h => h) (Or.inl ⟨by rfl, fun wh hSw => ?_⟩) hHeld ?_
    · go_simp
    try simp only [Act.put, List.setIfInBounds_toArray, List.set_cons_zero, List.set_cons_succ]
    refine (HG.out _ _ _ _).mp ?_
    exact sF.out _ _ (.slice ua un uc) B0 B1 b1 b2 b3 bp (by kernel_rfl) HN)
  have s0123 : Hid (∀ (l : Array Bool) (W : World) (u : Value) (B0 B1 : Nat) (b1 : Nat) (b2 : Nat) (b3 : Nat), l = #[true, true, true, true, false, false, false] → Hid (NK w0 W (some (u, B0, B1)) (some b1) (some b2) (none)) → G 3 l { tmps := #[.slice a n ca, undef, .pointer (some ⟨X, 0, none⟩), .bool false, undef, undef, u, .slice (some ⟨b1, 0, none⟩) 12 12, .slice (some ⟨b2, 0, none⟩) 0 0, .slice (some ⟨b3, 0, none⟩) 0 0, undef, undef, undef, undef, undef, undef, undef, undef, undef, undef, undef, undef, undef, undef, undef, undef, undef, undef, undef, undef, undef, undef, undef, undef, undef, undef, undef, undef, undef, undef, undef], defers := [] } W) := Lib.hid (by
    intro l W u B0 B1 b1 b2 b3 hl HN
    subst hl
    rw [HG.out]
    have hHeld : True := trivial
    obtain ⟨ua, un, uc, rfl⟩ : ∃ a n c, u = .slice a n c := by
      obtain ⟨a, cap, A, C, e, _⟩ := (HN.out.fm u B0 B1 rfl).1
      exact ⟨_, _, _, e⟩
    refine wpAnyH_take (i := 4) (oi := { dst := some 10, op := .build 29 #[(0, .tmp 6), (1, .tmp 7), (2, .tmp 8), (3, .tmp 9)], type := _, pos := _, after := _, guard := none }) (v := .agg #[.slice ua un uc, .slice (some ⟨b1, 0, none⟩) 12 12, .slice (some ⟨b2, 0, none⟩) 0 0, .slice (some ⟨b3, 0, none⟩) 0 0]) rfl (by kernel_rfl) (by kernel_rfl) (by kernel_rfl) (fun _ _ _ h => h) (Or.inl ⟨by rfl, fun wh hSw => ?_⟩) hHeld ?_
    · go_simp
    try simp only [Act.put, List.setIfInBounds_toArray, List.set_cons_zero, List.set_cons_succ]
    refine wpAnyH_ready (rs := [5]) (by kernel_rfl) (by simp) ?_
    refine AllReadyH.cons (o := { dst := some 4, op := .alloc 29, type := _, pos := _, after := _, guard := none }) rfl (fun K hK => ?_) AllReadyH.nil
    have HN2 := Lib.hid HN.out.putP
    go_simp
    refine hK.out _ _ ?_ (fun hHeld => ?_)
    · trivial
    clear hK K
    try simp only [Act.put, List.setIfInBounds_toArray, List.set_cons_zero, List.set_cons_succ]
    refine (HG.out _ _ _ _).mp ?_
    exact sF.out _ _ (.slice ua un uc) B0 B1 b1 b2 b3 W.heap.size (by kernel_rfl) HN2)
  have s0125 : Hid (∀ (l : Array Bool) (W : World) (u : Value) (B0 B1 : Nat) (b1 : Nat) (b2 : Nat) (bp : Nat), l = #[true, true, true, false, false, true, false] → Hid (NK w0 W (some (u, B0, B1)) (some b1) (some b2) (some bp)) → G 3 l { tmps := #[.slice a n ca, undef, .pointer (some ⟨X, 0, none⟩), .bool false, .pointer (some ⟨bp, 0, none⟩), undef, u, .slice (some ⟨b1, 0, none⟩) 12 12, .slice (some ⟨b2, 0, none⟩) 0 0, undef, undef, undef, undef, undef, undef, undef, undef, undef, undef, undef, undef, undef, undef, undef, undef, undef, undef, undef, undef, undef, undef, undef, undef, undef, undef, undef, undef, undef, undef, undef, undef], defers := [] } W) := Lib.hid (by
    intro l W u B0 B1 b1 b2 bp hl HN
    subst hl
    rw [HG.out]
    have hHeld : True := trivial
    obtain ⟨ua, un, uc, rfl⟩ : ∃ a n c, u = .slice a n c := by
      obtain ⟨a, cap, A, C, e, _⟩ := (HN.out.fm u B0 B1 rfl).1
      exact ⟨_, _, _, e⟩
    refine wpAnyH_ready (rs := [3]) (by kernel_rfl) (by simp) ?_
    refine AllReadyH.cons (o := { dst := some 9, op := .buildSlice 27 0 #[], type := _, pos := _, after := _, guard := none }) rfl (fun K hK => ?_) AllReadyH.nil
    have HN2 := Lib.hid (HN.out.go ((Below.refl _ _).alloc (Nat.le_refl _) (.cells #[] 61)))
    go_simp
    refine hK.out _ _ ?_ (fun hHeld => ?_)
    · trivial
    clear hK K
    try simp only [Act.put, List.setIfInBounds_toArray, List.set_cons_zero, List.set_cons_succ]
    refine (HG.out _ _ _ _).mp ?_
    exact s01235.out _ _ (.slice ua un uc) B0 B1 b1 b2 W.heap.size bp (by kernel_rfl) HN2)
  have s0135 : Hid (∀ (l : Array Bool) (W : World) (u : Value) (B0 B1 : Nat) (b1 : Nat) (b3 : Nat) (bp : Nat), l = #[true, true, false, true, false, true, false] → Hid (NK w0 W (some (u, B0, B1)) (some b1) (none) (some bp)) → G 3 l { tmps := #[.slice a n ca, undef, .pointer (some ⟨X, 0, none⟩), .bool false, .pointer (some ⟨bp, 0, none⟩), undef, u, .slice (some ⟨b1, 0, none⟩) 12 12, undef, .slice (some ⟨b3, 0, none⟩) 0 0, undef, undef, undef, undef, undef, undef, undef, undef, undef, undef, undef, undef, undef, undef, undef, undef, undef, undef, undef, undef, undef, undef, undef, undef, undef, undef, undef, undef, undef, undef, undef], defers := [] } W) := Lib.hid (by
    intro l W u B0 B1 b1 b3 bp hl HN
    subst hl
    rw [HG.out]
    have hHeld : True := trivial
    obtain ⟨ua, un, uc, rfl⟩ : ∃ a n c, u = .slice a n c := by
      obtain ⟨a, cap, A, C, e, _⟩ := (HN.out.fm u B0 B1 rfl).1
      exact ⟨_, _, _, e⟩
    refine wpAnyH_ready (rs := [2]) (by kernel_rfl) (by simp) ?_
    refine AllReadyH.cons (o := { dst := some 8, op := .buildSlice 26 0 #[], type := _, pos := _, after := _, guard := none }) rfl (fun K hK => ?_) AllReadyH.nil
    have HN2 := Lib.hid HN.out.putE
    go_simp
    refine hK.out _ _ ?_ (fun hHeld => ?_)
    · trivial
    clear hK K
    try simp only [Act.put, List.setIfInBounds_toArray, List.set_cons_zero, List.set_cons_succ]
    refine (HG.out _ _ _ _).mp ?_
    exact s01235.out _ _ (.slice ua un uc) B0 B1 b1 W.heap.size b3 bp (by kernel_rfl) HN2)
  have s0235 : Hid (∀ (l : Array Bool) (W : World) (u : Value) (B0 B1 : Nat) (b2 : Nat) (b3 : Nat) (bp : Nat), l = #[true, false, true, true, false, true, false] → Hid (NK w0 W (some (u, B0, B1)) (none) (some b2) (some bp)) → G 3 l { tmps := #[.slice a n ca, undef, .pointer (some ⟨X, 0, none⟩), .bool false, .pointer (some ⟨bp, 0, none⟩), undef, u, undef, .slice (some ⟨b2, 0, none⟩) 0 0, .slice (some ⟨b3, 0, none⟩) 0 0, undef, undef, undef, undef, undef, undef, undef, undef, undef, undef, undef, undef, undef, undef, undef, undef, undef, undef, undef, undef, undef, undef, undef, undef, undef, undef, undef, undef, undef, undef, undef], defers := [] } W) := Lib.hid (by
    intro l W u B0 B1 b2 b3 bp hl HN
    subst hl
    rw [HG.out]
    have hHeld : True := trivial
    obtain ⟨ua, un, uc, rfl⟩ : ∃ a n c, u = .slice a n c := by
      obtain ⟨a, cap, A, C, e, _⟩ := (HN.out.fm u B0 B1 rfl).1
      exact ⟨_, _, _, e⟩
    refine wpAnyH_ready (rs := [1]) (by kernel_rfl) (by simp) ?_
    refine AllReadyH.cons (o := { dst := some 7, op := .makeSlice 25 (.const (.int .i64 12)) (.const (.int .i64 12)), type := _, pos := _, after := _, guard := none }) rfl (fun K hK => ?_) AllReadyH.nil
    obtain ⟨w2, hr, hi, hl, hb⟩ := make_infos W
    have HN2 := Lib.hid (HN.out.putI hb hi hl)
    clear hi hl hb
    go_simp
    refine hK.out _ _ ?_ (fun hHeld => ?_)
    · trivial
    clear hr
    clear hK K
    try simp only [Act.put, List.setIfInBounds_toArray, List.set_cons_zero, List.set_cons_succ]
    refine (HG.out _ _ _ _).mp ?_
    exact s01235.out _ _ (.slice ua un uc) B0 B1 W.heap.size b2 b3 bp (by kernel_rfl) HN2)
  have s1235 : Hid (∀ (l : Array Bool) (W : World) (b1 : Nat) (b2 : Nat) (b3 : Nat) (bp : Nat), l = #[false, true, true, true, false, true, false] → Hid (NK w0 W (none) (some b1) (some b2) (some bp)) → G 3 l { tmps := #[.slice a n ca, undef, .pointer (some ⟨X, 0, none⟩), .bool false, .pointer (some ⟨bp, 0, none⟩), undef, undef, .slice (some ⟨b1, 0, none⟩) 12 12, .slice (some ⟨b2, 0, none⟩) 0 0, .slice (some ⟨b3, 0, none⟩) 0 0, undef, undef, undef, undef, undef, undef, undef, undef, undef, undef, undef, undef, undef, undef, undef, undef, undef, undef, undef, undef, undef, undef, undef, undef, undef, undef, undef, undef, undef, undef, undef], defers := [] } W) := Lib.hid (by
    intro l W b1 b2 b3 bp hl HN
    subst hl
    rw [HG.out]
    have hHeld : True := trivial
    refine wpAnyH_ready (rs := [0]) (by kernel_rfl) (by simp) ?_
    refine AllReadyH.cons (o := { dst := some 6, op := .call { callee := .value (.func 14), args := #[], argTypes := #[] }, type := _, pos := _, after := _, guard := none }) rfl (fun K hK => ?_) AllReadyH.nil
    go_simp
    refine (l2New_any W).mono ?_
    rintro _ w2 ⟨u, rfl, hm, hb⟩
    have HN2 := Lib.hid (HN.out.putM hb hm)
    clear hm hb
    try go_simp
    refine hK.out _ _ ?_ (fun hHeld => ?_)
    · trivial
    clear hK K
    try simp only [Act.put, List.setIfInBounds_toArray, List.set_cons_zero, List.set_cons_succ]
    refine (HG.out _ _ _ _).mp ?_
    exact s01235.out _ _ u W.heap.size w2.heap.size b1 b2 b3 bp (by kernel_rfl) HN2)
  have s012 : Hid (∀ (l : Array Bool) (W : World) (u : Value) (B0 B1 : Nat) (b1 : Nat) (b2 : Nat), l = #[true, true, true, false, false, false, false] → Hid (NK w0 W (some (u, B0, B1)) (some b1) (some b2) (none)) → G 4 l { tmps := #[.slice a n ca, undef, .pointer (some ⟨X, 0, none⟩), .bool false, undef, undef, u, .slice (some ⟨b1, 0, none⟩) 12 12, .slice (some ⟨b2, 0, none⟩) 0 0, undef, undef, undef, undef, undef, undef, undef, undef, undef, undef, undef, undef, undef, undef, undef, undef, undef, undef, undef, undef, undef, undef, undef, undef, undef, undef, undef, undef, undef, undef, undef, undef], defers := [] } W) := Lib.hid (by
    intro l W u B0 B1 b1 b2 hl HN
    subst hl
    rw [HG.out]
    have hHeld : True := trivial
    obtain ⟨ua, un, uc, rfl⟩ : ∃ a n c, u = .slice a n c := by
      obtain ⟨a, cap, A, C, e, _⟩ := (HN.out.fm u B0 B1 rfl).1
      exact ⟨_, _, _, e⟩
    refine wpAnyH_ready (rs := [3, 5]) (by kernel_rfl) (by simp) ?_
    refine AllReadyH.cons (o := { dst := some 9, op := .buildSlice 27 0 #[], type := _, pos := _, after := _, guard := none }) rfl (fun K hK => ?_) (AllReadyH.cons (o := { dst := some 4, op := .alloc 29, type := _, pos := _, after := _, guard := none }) rfl (fun K hK => ?_) AllReadyH.nil)
    · have HN2 := Lib.hid (HN.out.go ((Below.refl _ _).alloc (Nat.le_refl _) (.cells #[] 61)))
      go_simp
      refine hK.out _ _ ?_ (fun hHeld => ?_)
      · trivial
      clear hK K
      try simp only [Act.put, List.setIfInBounds_toArray, List.set_cons_zero, List.set_cons_succ]
      refine (HG.out _ _ _ _).mp ?_
      exact s0123.out _ _ (.slice ua un uc) B0 B1 b1 b2 W.heap.size (by kernel_rfl) HN2
    · have HN2 := Lib.hid HN.out.putP
      go_simp
      refine hK.out _ _ ?_ (fun hHeld => ?_)
      · trivial
      clear hK K
      try simp only [Act.put, List.setIfInBounds_toArray, List.set_cons_zero, List.set_cons_succ]
      refine (HG.out _ _ _ _).mp ?_
      exact s0125.out _ _ (.slice ua un uc) B0 B1 b1 b2 W.heap.size (by kernel_rfl) HN2)
  have s013 : Hid (∀ (l : Array Bool) (W : World) (u : Value) (B0 B1 : Nat) (b1 : Nat) (b3 : Nat), l = #[true, true, false, true, false, false, false] → Hid (NK w0 W (some (u, B0, B1)) (some b1) (none) (none)) → G 4 l { tmps := #[.slice a n ca, undef, .pointer (some ⟨X, 0, none⟩), .bool false, undef, undef, u, .slice (some ⟨b1, 0, none⟩) 12 12, undef, .slice (some ⟨b3, 0, none⟩) 0 0, undef, undef, undef, undef, undef, undef, undef, undef, undef, undef, undef, undef, undef, undef, undef, undef, undef, undef, undef, undef, undef, undef, undef, undef, undef, undef, undef, undef, undef, undef, undef], defers := [] } W) := Lib.hid (by
    intro l W u B0 B1 b1 b3 hl HN
    subst hl
    rw [HG.out]
    have hHeld : True := trivial
    obtain ⟨ua, un, uc, rfl⟩ : ∃ a n c, u = .slice a n c := by
      obtain ⟨a, cap, A, C, e, _⟩ := (HN.out.fm u B0 B1 rfl).1
      exact ⟨_, _, _, e⟩
    refine wpAnyH_ready (rs := [2, 5]) (by kernel_rfl) (by simp) ?_
    refine AllReadyH.cons (o := { dst := some 8, op := .buildSlice 26 0 #[], type := _, pos := _, after := _, guard := none }) rfl (fun K hK => ?_) (AllReadyH.cons (o := { dst := some 4, op := .alloc 29, type := _, pos := _, after := _, guard := none }) rfl (fun K hK => ?_) AllReadyH.nil)
    · have HN2 := Lib.hid HN.out.putE
      go_simp
      refine hK.out _ _ ?_ (fun hHeld => ?_)
      · trivial
      clear hK K
      try simp only [Act.put, List.setIfInBounds_toArray, List.set_cons_zero, List.set_cons_succ]
      refine (HG.out _ _ _ _).mp ?_
      exact s0123.out _ _ (.slice ua un uc) B0 B1 b1 W.heap.size b3 (by kernel_rfl) HN2
    · have HN2 := Lib.hid HN.out.putP
      go_simp
      refine hK.out _ _ ?_ (fun hHeld => ?_)
      · trivial
      clear hK K
      try simp only [Act.put, List.setIfInBounds_toArray, List.set_cons_zero, List.set_cons_succ]
      refine (HG.out _ _ _ _).mp ?_
      exact s0135.out _ _ (.slice ua un uc) B0 B1 b1 b3 W.heap.size (by kernel_rfl) HN2)
  have s015 : Hid (∀ (l : Array Bool) (W : World) (u : Value) (B0 B1 : Nat) (b1 : Nat) (bp : Nat), l = #[true, true, false, false, false, true, false] → Hid (NK w0 W (some (u, B0, B1)) (some b1) (none) (some bp)) → G 4 l { tmps := #[.slice a n ca, undef, .pointer (some ⟨X, 0, none⟩), .bool false, .pointer (some ⟨bp, 0, none⟩), undef, u, .slice (some ⟨b1, 0, none⟩) 12 12, undef, undef, undef, undef, undef, undef, undef, undef, undef, undef, undef, undef, undef, undef, undef, undef, undef, undef, undef, undef, undef, undef, undef, undef, undef, undef, undef, undef, undef, undef, undef, undef, undef], defers := [] } W) := Lib.hid (by
    intro l W u B0 B1 b1 bp hl HN
    subst hl
    rw [HG.out]
    have hHeld : True := trivial
    obtain ⟨ua, un, uc, rfl⟩ : ∃ a n c, u = .slice a n c := by
      obtain ⟨a, cap, A, C, e, _⟩ := (HN.out.fm u B0 B1 rfl).1
      exact ⟨_, _, _, e⟩
    refine wpAnyH_ready (rs := [2, 3]) (by kernel_rfl) (by simp) ?_
    refine AllReadyH.cons (o := { dst := some 8, op := .buildSlice 26 0 #[], type := _, pos := _, after := _, guard := none }) rfl (fun K hK => ?_) (AllReadyH.cons (o := { dst := some 9, op := .buildSlice 27 0 #[], type := _, pos := _, after := _, guard := none }) rfl (fun K hK => ?_) AllReadyH.nil)
    · have HN2 := Lib.hid HN.out.putE
      go_simp
      refine hK.out _ _ ?_ (fun hHeld => ?_)
      · trivial
      clear hK K
      try simp only [Act.put, List.setIfInBounds_toArray, List.set_cons_zero, List.set_cons_succ]
      refine (HG.out _ _ _ _).mp ?_
      exact s0125.out _ _ (.slice ua un uc) B0 B1 b1 W.heap.size bp (by kernel_rfl) HN2
    · have HN2 := Lib.hid (HN.out.go ((Below.refl _ _).alloc (Nat.le_refl _) (.cells #[] 61)))
      go_simp
      refine hK.out _ _ ?_ (fun hHeld => ?_)
      · trivial
      clear hK K
      try simp only [Act.put, List.setIfInBounds_toArray, List.set_cons_zero, List.set_cons_succ]
      refine (HG.out _ _ _ _).mp ?_
      exact s0135.out _ _ (.slice ua un uc) B0 B1 b1 W.heap.size bp (by kernel_rfl) HN2)
  have s023 : Hid (∀ (l : Array Bool) (W : World) (u : Value) (B0 B1 : Nat) (b2 : Nat) (b3 : Nat), l = #[true, false, true, true, false, false, false] → Hid (NK w0 W (some (u, B0, B1)) (none) (some b2) (none)) → G 4 l { tmps := #[.slice a n ca, undef, .pointer (some ⟨X, 0, none⟩), .bool false, undef, undef, u, undef, .slice (some ⟨b2, 0, none⟩) 0 0, .slice (some ⟨b3, 0, none⟩) 0 0, undef, undef, undef, undef, undef, undef, undef, undef, undef, undef, undef, undef, undef, undef, undef, undef, undef, undef, undef, undef, undef, undef, undef, undef, undef, undef, undef, undef, undef, undef, undef], defers := [] } W) := Lib.hid (by
    intro l W u B0 B1 b2 b3 hl HN
    subst hl
    rw [HG.out]
    have hHeld : True := trivial
    obtain ⟨ua, un, uc, rfl⟩ : ∃ a n c, u = .slice a n c := by
      obtain ⟨a, cap, A, C, e, _⟩ := (HN.out.fm u B0 B1 rfl).1
      exact ⟨_, _, _, e⟩
    refine wpAnyH_ready (rs := [1, 5]) (by kernel_rfl) (by simp) ?_
    refine AllReadyH.cons (o := { dst := some 7, op := .makeSlice 25 (.const (.int .i64 12)) (.const (.int .i64 12)), type := _, pos := _, after := _, guard := none }) rfl (fun K hK => ?_) (AllReadyH.cons (o := { dst := some 4, op := .alloc 29, type := _, pos := _, after := _, guard := none }) rfl (fun K hK => ?_) AllReadyH.nil)
    · obtain ⟨w2, hr, hi, hl, hb⟩ := make_infos W
      have HN2 := Lib.hid (HN.out.putI hb hi hl)
      clear hi hl hb
      go_simp
      refine hK.out _ _ ?_ (fun hHeld => ?_)
      · trivial
      clear hr
      clear hK K
      try simp only [Act.put, List.setIfInBounds_toArray, List.set_cons_zero, List.set_cons_succ]
      refine (HG.out _ _ _ _).mp ?_
      exact s0123.out _ _ (.slice ua un uc) B0 B1 W.heap.size b2 b3 (by kernel_rfl) HN2
    · have HN2 := Lib.hid HN.out.putP
      go_simp
      refine hK.out _ _ ?_ (fun hHeld => ?_)
      · trivial
      clear hK K
      try simp only [Act.put, List.setIfInBounds_toArray, List.set_cons_zero, List.set_cons_succ]
      refine (HG.out _ _ _ _).mp ?_
      exact s0235.out _ _ (.slice ua un uc) B0 B1 b2 b3 W.heap.size (by kernel_rfl) HN2)
  have s025 : Hid (∀ (l : Array Bool) (W : World) (u : Value) (B0 B1 : Nat) (b2 : Nat) (bp : Nat), l = #[true, false, true, false, false, true, false] → Hid (NK w0 W (some (u, B0, B1)) (none) (some b2) (some bp)) → G 4 l { tmps := #[.slice a n ca, undef, .pointer (some ⟨X, 0, none⟩), .bool false, .pointer (some ⟨bp, 0, none⟩), undef, u, undef, .slice (some ⟨b2, 0, none⟩) 0 0, undef, undef, undef, undef, undef, undef, undef, undef, undef, undef, undef, undef, undef, undef, undef, undef, undef, undef, undef, undef, undef, undef, undef, undef, undef, undef, undef, undef, undef, undef, undef, undef], defers := [] } W) := Lib.hid (by
    intro l W u B0 B1 b2 bp hl HN
    subst hl
    rw [HG.out]
    have hHeld : True := trivial
    obtain ⟨ua, un, uc, rfl⟩ : ∃ a n c, u = .slice a n c := by
      obtain ⟨a, cap, A, C, e, _⟩ := (HN.out.fm u B0 B1 rfl).1
      exact ⟨_, _, _, e⟩
    refine wpAnyH_ready (rs := [1, 3]) (by kernel_rfl) (by simp) ?_
    refine AllReadyH.cons (o := { dst := some 7, op := .makeSlice 25 (.const (.int .i64 12)) (.const (.int .i64 12)), type := _, pos := _, after := _, guard := none }) rfl (fun K hK => ?_) (AllReadyH.cons (o := { dst := some 9, op := .buildSlice 27 0 #[], type := _, pos := _, after := _, guard := none }) rfl (fun K hK => ?_) AllReadyH.nil)
    · obtain ⟨w2, hr, hi, hl, hb⟩ := make_infos W
      have HN2 := Lib.hid (HN.out.putI hb hi hl)
      clear hi hl hb
      go_simp
      refine hK.out _ _ ?_ (fun hHeld => ?_)
      · trivial
      clear hr
      clear hK K
      try simp only [Act.put, List.setIfInBounds_toArray, List.set_cons_zero, List.set_cons_succ]
      refine (HG.out _ _ _ _).mp ?_
      exact s0125.out _ _ (.slice ua un uc) B0 B1 W.heap.size b2 bp (by kernel_rfl) HN2
    · have HN2 := Lib.hid (HN.out.go ((Below.refl _ _).alloc (Nat.le_refl _) (.cells #[] 61)))
      go_simp
      refine hK.out _ _ ?_ (fun hHeld => ?_)
      · trivial
      clear hK K
      try simp only [Act.put, List.setIfInBounds_toArray, List.set_cons_zero, List.set_cons_succ]
      refine (HG.out _ _ _ _).mp ?_
      exact s0235.out _ _ (.slice ua un uc) B0 B1 b2 W.heap.size bp (by kernel_rfl) HN2)
  have s035 : Hid (∀ (l : Array Bool) (W : World) (u : Value) (B0 B1 : Nat) (b3 : Nat) (bp : Nat), l = #[true, false, false, true, false, true, false] → Hid (NK w0 W (some (u, B0, B1)) (none) (none) (some bp)) → G 4 l { tmps := #[.slice a n ca, undef, .pointer (some ⟨X, 0, none⟩), .bool false, .pointer (some ⟨bp, 0, none⟩), undef, u, undef, undef, .slice (some ⟨b3, 0, none⟩) 0 0, undef, undef, undef, undef, undef, undef, undef, undef, undef, undef, undef, undef, undef, undef, undef, undef, undef, undef, undef, undef, undef, undef, undef, undef, undef, undef, undef, undef, undef, undef, undef], defers := [] } W) := Lib.hid (by
    intro l W u B0 B1 b3 bp hl HN
    subst hl
    rw [HG.out]
    have hHeld : True := trivial
    obtain ⟨ua, un, uc, rfl⟩ : ∃ a n c, u = .slice a n c := by
      obtain ⟨a, cap, A, C, e, _⟩ := (HN.out.fm u B0 B1 rfl).1
      exact ⟨_, _, _, e⟩
    refine wpAnyH_ready (rs := [1, 2]) (by kernel_rfl) (by simp) ?_
    refine AllReadyH.cons (o := { dst := some 7, op := .makeSlice 25 (.const (.int .i64 12)) (.const (.int .i64 12)), type := _, pos := _, after := _, guard := none }) rfl (fun K hK => ?_) (AllReadyH.cons (o := { dst := some 8, op := .buildSlice 26 0 #[], type := _, pos := _, after := _, guard := none }) rfl (fun K hK => ?_) AllReadyH.nil)
    · obtain ⟨w2, hr, hi, hl, hb⟩ := make_infos W
      have HN2 := Lib.hid (HN.out.putI hb hi hl)
      clear hi hl hb
      go_simp
      refine hK.out _ _ ?_ (fun hHeld => ?_)
      · trivial
      clear hr
      clear hK K
      try simp only [Act.put, List.setIfInBounds_toArray, List.set_cons_zero, List.set_cons_succ]
      refine (HG.out _ _ _ _).mp ?_
      exact s0135.out _ _ (.slice ua un uc) B0 B1 W.heap.size b3 bp (by kernel_rfl) HN2
    · have HN2 := Lib.hid HN.out.putE
      go_simp
      refine hK.out _ _ ?_ (fun hHeld => ?_)
      · trivial
      clear hK K
      try simp only [Act.put, List.setIfInBounds_toArray, List.set_cons_zero, List.set_cons_succ]
      refine (HG.out _ _ _ _).mp ?_
      exact s0235.out _ _ (.slice ua un uc) B0 B1 W.heap.size b3 bp (by kernel_rfl) HN2)
  have s123 : Hid (∀ (l : Array Bool) (W : World) (b1 : Nat) (b2 : Nat) (b3 : Nat), l = #[false, true, true, true, false, false, false] → Hid (NK w0 W (none) (some b1) (some b2) (none)) → G 4 l { tmps := #[.slice a n ca, undef, .pointer (some ⟨X, 0, none⟩), .bool false, undef, undef, undef, .slice (some ⟨b1, 0, none⟩) 12 12, .slice (some ⟨b2, 0, none⟩) 0 0, .slice (some ⟨b3, 0, none⟩) 0 0, undef, undef, undef, undef, undef, undef, undef, undef, undef, undef, undef, undef, undef, undef, undef, undef, undef, undef, undef, undef, undef, undef, undef, undef, undef, undef, undef, undef, undef, undef, undef], defers := [] } W) := Lib.hid (by
    intro l W b1 b2 b3 hl HN
    subst hl
    rw [HG.out]
    have hHeld : True := trivial
    refine wpAnyH_ready (rs := [0, 5]) (by kernel_rfl) (by simp) ?_
    refine AllReadyH.cons (o := { dst := some 6, op := .call { callee := .value (.func 14), args := #[], argTypes := #[] }, type := _, pos := _, after := _, guard := none }) rfl (fun K hK => ?_) (AllReadyH.cons (o := { dst := some 4, op := .alloc 29, type := _, pos := _, after := _, guard := none }) rfl (fun K hK => ?_) AllReadyH.nil)
    · go_simp
      refine (l2New_any W).mono ?_
      rintro _ w2 ⟨u, rfl, hm, hb⟩
      have HN2 := Lib.hid (HN.out.putM hb hm)
      clear hm hb
      try go_simp
      refine hK.out _ _ ?_ (fun hHeld => ?_)
      · trivial
      clear hK K
      try simp only [Act.put, List.setIfInBounds_toArray, List.set_cons_zero, List.set_cons_succ]
      refine (HG.out _ _ _ _).mp ?_
      exact s0123.out _ _ u W.heap.size w2.heap.size b1 b2 b3 (by kernel_rfl) HN2
    · have HN2 := Lib.hid HN.out.putP
      go_simp
      refine hK.out _ _ ?_ (fun hHeld => ?_)
      · trivial
      clear hK K
      try simp only [Act.put, List.setIfInBounds_toArray, List.set_cons_zero, List.set_cons_succ]
      refine (HG.out _ _ _ _).mp ?_
      exact s1235.out _ _ b1 b2 b3 W.heap.size (by kernel_rfl) HN2)
  have s125 : Hid (∀ (l : Array Bool) (W : World) (b1 : Nat) (b2 : Nat) (bp : Nat), l = #[false, true, true, false, false, true, false] → Hid (NK w0 W (none) (some b1) (some b2) (some bp)) → G 4 l { tmps := #[.slice a n ca, undef, .pointer (some ⟨X, 0, none⟩), .bool false, .pointer (some ⟨bp, 0, none⟩), undef, undef, .slice (some ⟨b1, 0, none⟩) 12 12, .slice (some ⟨b2, 0, none⟩) 0 0, undef, undef, undef, undef, undef, undef, undef, undef, undef, undef, undef, undef, undef, undef, undef, undef, undef, undef, undef, undef, undef, undef, undef, undef, undef, undef, undef, undef, undef, undef, undef, undef], defers := [] } W) := Lib.hid (by
    intro l W b1 b2 bp hl HN
    subst hl
    rw [HG.out]
    have hHeld : True := trivial
    refine wpAnyH_ready (rs := [0, 3]) (by kernel_rfl) (by simp) ?_
    refine AllReadyH.cons (o := { dst := some 6, op := .call { callee := .value (.func 14), args := #[], argTypes := #[] }, type := _, pos := _, after := _, guard := none }) rfl (fun K hK => ?_) (AllReadyH.cons (o := { dst := some 9, op := .buildSlice 27 0 #[], type := _, pos := _, after := _, guard := none }) rfl (fun K hK => ?_) AllReadyH.nil)
    · go_simp
      refine (l2New_any W).mono ?_
      rintro _ w2 ⟨u, rfl, hm, hb⟩
      have HN2 := Lib.hid (HN.out.putM hb hm)
      clear hm hb
      try go_simp
      refine hK.out _ _ ?_ (fun hHeld => ?_)
      · trivial
      clear hK K
      try simp only [Act.put, List.setIfInBounds_toArray, List.set_cons_zero, List.set_cons_succ]
      refine (HG.out _ _ _ _).mp ?_
      exact s0125.out _ _ u W.heap.size w2.heap.size b1 b2 bp (by kernel_rfl) HN2
    · have HN2 := Lib.hid (HN.out.go ((Below.refl _ _).alloc (Nat.le_refl _) (.cells #[] 61)))
      go_simp
      refine hK.out _ _ ?_ (fun hHeld => ?_)
      · trivial
      clear hK K
      try simp only [Act.put, List.setIfInBounds_toArray, List.set_cons_zero, List.set_cons_succ]
      refine (HG.out _ _ _ _).mp ?_
      exact s1235.out _ _ b1 b2 W.heap.size bp (by kernel_rfl) HN2)
  have s135 : Hid (∀ (l : Array Bool) (W : World) (b1 : Nat) (b3 : Nat) (bp : Nat), l = #[false, true, false, true, false, true, false] → Hid (NK w0 W (none) (some b1) (none) (some bp)) → G 4 l { tmps := #[.slice a n ca, undef, .pointer (some ⟨X, 0, none⟩), .bool false, .pointer (some ⟨bp, 0, none⟩), undef, undef, .slice (some ⟨b1, 0, none⟩) 12 12, undef, .slice (some ⟨b3, 0, none⟩) 0 0, undef, undef, undef, undef, undef, undef, undef, undef, undef, undef, undef, undef, undef, undef, undef, undef, undef, undef, undef, undef, undef, undef, undef, undef, undef, undef, undef, undef, undef, undef, undef], defers := [] } W) := Lib.hid (by
    intro l W b1 b3 bp hl HN
    subst hl
    rw [HG.out]
    have hHeld : True := trivial
    refine wpAnyH_ready (rs := [0, 2]) (by kernel_rfl) (by simp) ?_
    refine AllReadyH.cons (o := { dst := some 6, op := .call { callee := .value (.func 14), args := #[], argTypes := #[] }, type := _, pos := _, after := _, guard := none }) rfl (fun K hK => ?_) (AllReadyH.cons (o := { dst := some 8, op := .buildSlice 26 0 #[], type := _, pos := _, after := _, guard := none }) rfl (fun K hK => ?_) AllReadyH.nil)
    · go_simp
      refine (l2New_any W).mono ?_
      rintro _ w2 ⟨u, rfl, hm, hb⟩
      have HN2 := Lib.hid (HN.out.putM hb hm)
      clear hm hb
      try go_simp
      refine hK.out _ _ ?_ (fun hHeld => ?_)
      · trivial
      clear hK K
      try simp only [Act.put, List.setIfInBounds_toArray, List.set_cons_zero, List.set_cons_succ]
      refine (HG.out _ _ _ _).mp ?_
      exact s0135.out _ _ u W.heap.size w2.heap.size b1 b3 bp (by kernel_rfl) HN2
    · have HN2 := Lib.hid HN.out.putE
      go_simp
      refine hK.out _ _ ?_ (fun hHeld => ?_)
      · trivial
      clear hK K
      try simp only [Act.put, List.setIfInBounds_toArray, List.set_cons_zero, List.set_cons_succ]
      refine (HG.out _ _ _ _).mp ?_
      exact s1235.out _ _ b1 W.heap.size b3 bp (by kernel_rfl) HN2)
  have s235 : Hid (∀ (l : Array Bool) (W : World) (b2 : Nat) (b3 : Nat) (bp : Nat), l = #[false, false, true, true, false, true, false] → Hid (NK w0 W (none) (none) (some b2) (some bp)) → G 4 l { tmps := #[.slice a n ca, undef, .pointer (some ⟨X, 0, none⟩), .bool false, .pointer (some ⟨bp, 0, none⟩), undef, undef, undef, .slice (some ⟨b2, 0, none⟩) 0 0, .slice (some ⟨b3, 0, none⟩) 0 0, undef, undef, undef, undef, undef, undef, undef, undef, undef, undef, undef, undef, undef, undef, undef, undef, undef, undef, undef, undef, undef, undef, undef, undef, undef, undef, undef, undef, undef, undef, undef], defers := [] } W) := Lib.hid (by
    intro l W b2 b3 bp hl HN
    subst hl
    rw [HG.out]
    have hHeld : True := trivial
    refine wpAnyH_ready (rs := [0, 1]) (by kernel_rfl) (by simp) ?_
    refine AllReadyH.cons (o := { dst := some 6, op := .call { callee := .value (.func 14), args := #[], argTypes := #[] }, type := _, pos := _, after := _, guard := none }) rfl (fun K hK => ?_) (AllReadyH.cons (o := { dst := some 7, op := .makeSlice 25 (.const (.int .i64 12)) (.const (.int .i64 12)), type := _, pos := _, after := _, guard := none }) rfl (fun K hK => ?_) AllReadyH.nil)
    · go_simp
      refine (l2New_any W).mono ?_
      rintro _ w2 ⟨u, rfl, hm, hb⟩
      have HN2 := Lib.hid (HN.out.putM hb hm)
      clear hm hb
      try go_simp
      refine hK.out _ _ ?_ (fun hHeld => ?_)
      · trivial
      clear hK K
      try simp only [Act.put, List.setIfInBounds_toArray, List.set_cons_zero, List.set_cons_succ]
      refine (HG.out _ _ _ _).mp ?_
      exact s0235.out _ _ u W.heap.size w2.heap.size b2 b3 bp (by kernel_rfl) HN2
    · obtain ⟨w2, hr, hi, hl, hb⟩ := make_infos W
      have HN2 := Lib.hid (HN.out.putI hb hi hl)
      clear hi hl hb
      go_simp
      refine hK.out _ _ ?_ (fun hHeld => ?_)
      · trivial
      clear hr
      clear hK K
      try simp only [Act.put, List.setIfInBounds_toArray, List.set_cons_zero, List.set_cons_succ]
      refine (HG.out _ _ _ _).mp ?_
      exact s1235.out _ _ W.heap.size b2 b3 bp (by kernel_rfl) HN2)
  have s01 : Hid (∀ (l : Array Bool) (W : World) (u : Value) (B0 B1 : Nat) (b1 : Nat), l = #[true, true, false, false, false, false, false] → Hid (NK w0 W (some (u, B0, B1)) (some b1) (none) (none)) → G 5 l { tmps := #[.slice a n ca, undef, .pointer (some ⟨X, 0, none⟩), .bool false, undef, undef, u, .slice (some ⟨b1, 0, none⟩) 12 12, undef, undef, undef, undef, undef, undef, undef, undef, undef, undef, undef, undef, undef, undef, undef, undef, undef, undef, undef, undef, undef, undef, undef, undef, undef, undef, undef, undef, undef, undef, undef, undef, undef], defers := [] } W) := Lib.hid (by
    intro l W u B0 B1 b1 hl HN
    subst hl
    rw [HG.out]
    have hHeld : True := trivial
    obtain ⟨ua, un, uc, rfl⟩ : ∃ a n c, u = .slice a n c := by
      obtain ⟨a, cap, A, C, e, _⟩ := (HN.out.fm u B0 B1 rfl).1
      exact ⟨_, _, _, e⟩
    refine wpAnyH_ready (rs := [2, 3, 5]) (by kernel_rfl) (by simp) ?_
    refine AllReadyH.cons (o := { dst := some 8, op := .buildSlice 26 0 #[], type := _, pos := _, after := _, guard := none }) rfl (fun K hK => ?_) (AllReadyH.cons (o := { dst := some 9, op := .buildSlice 27 0 #[], type := _, pos := _, after := _, guard := none }) rfl (fun K hK => ?_) (AllReadyH.cons (o := { dst := some 4, op := .alloc 29, type := _, pos := _, after := _, guard := none }) rfl (fun K hK => ?_) AllReadyH.nil))
    · have HN2 := Lib.hid HN.out.putE
      go_simp
      refine hK.out _ _ ?_ (fun hHeld => ?_)
      · trivial
      clear hK K
      try simp only [Act.put, List.setIfInBounds_toArray, List.set_cons_zero, List.set_cons_succ]
      refine (HG.out _ _ _ _).mp ?_
      exact s012.out _ _ (.slice ua un uc) B0 B1 b1 W.heap.size (by kernel_rfl) HN2
    · have HN2 := Lib.hid (HN.out.go ((Below.refl _ _).alloc (Nat.le_refl _) (.cells #[] 61)))
      go_simp
      refine hK.out _ _ ?_ (fun hHeld => ?_)
      · trivial
      clear hK K
      try simp only [Act.put, List.setIfInBounds_toArray, List.set_cons_zero, List.set_cons_succ]
      refine (HG.out _ _ _ _).mp ?_
      exact s013.out _ _ (.slice ua un uc) B0 B1 b1 W.heap.size (by kernel_rfl) HN2
    · have HN2 := Lib.hid HN.out.putP
      go_simp
      refine hK.out _ _ ?_ (fun hHeld => ?_)
      · trivial
      clear hK K
      try simp only [Act.put, List.setIfInBounds_toArray, List.set_cons_zero, List.set_cons_succ]
      refine (HG.out _ _ _ _).mp ?_
      exact s015.out _ _ (.slice ua un uc) B0 B1 b1 W.heap.size (by kernel_rfl) HN2)
  have s02 : Hid (∀ (l : Array Bool) (W : World) (u : Value) (B0 B1 : Nat) (b2 : Nat), l = #[true, false, true, false, false, false, false] → Hid (NK w0 W (some (u, B0, B1)) (none) (some b2) (none)) → G 5 l { tmps := #[.slice a n ca, undef, .pointer (some ⟨X, 0, none⟩), .bool false, undef, undef, u, undef, .slice (some ⟨b2, 0, none⟩) 0 0, undef, undef, undef, undef, undef, undef, undef, undef, undef, undef, undef, undef, undef, undef, undef, undef, undef, undef, undef, undef, undef, undef, undef, undef, undef, undef, undef, undef, undef, undef, undef, undef], defers := [] } W) := Lib.hid (by
    intro l W u B0 B1 b2 hl HN
    subst hl
    rw [HG.out]
    have hHeld : True := trivial
    obtain ⟨ua, un, uc, rfl⟩ : ∃ a n c, u = .slice a n c := by
      obtain ⟨a, cap, A, C, e, _⟩ := (HN.out.fm u B0 B1 rfl).1
      exact ⟨_, _, _, e⟩
    refine wpAnyH_ready (rs := [1, 3, 5]) (by kernel_rfl) (by simp) ?_
    refine AllReadyH.cons (o := { dst := some 7, op := .makeSlice 25 (.const (.int .i64 12)) (.const (.int .i64 12)), type := _, pos := _, after := _, guard := none }) rfl (fun K hK => ?_) (AllReadyH.cons (o := { dst := some 9, op := .buildSlice 27 0 #[], type := _, pos := _, after := _, guard := none }) rfl (fun K hK => ?_) (AllReadyH.cons (o := { dst := some 4, op := .alloc 29, type := _, pos := _, after := _, guard := none }) rfl (fun K hK => ?_) AllReadyH.nil))
    · obtain ⟨w2, hr, hi, hl, hb⟩ := make_infos W
      have HN2 := Lib.hid (HN.out.putI hb hi hl)
      clear hi hl hb
      go_simp
      refine hK.out _ _ ?_ (fun hHeld => ?_)
      · trivial
      clear hr
      clear hK K
      try simp only [Act.put, List.setIfInBounds_toArray, List.set_cons_zero, List.set_cons_succ]
      refine (HG.out _ _ _ _).mp ?_
      exact s012.out _ _ (.slice ua un uc) B0 B1 W.heap.size b2 (by kernel_rfl) HN2
    · have HN2 := Lib.hid (HN.out.go ((Below.refl _ _).alloc (Nat.le_refl _) (.cells #[] 61)))
      go_simp
      refine hK.out _ _ ?_ (fun hHeld => ?_)
      · trivial
      clear hK K
      try simp only [Act.put, List.setIfInBounds_toArray, List.set_cons_zero, List.set_cons_succ]
      refine (HG.out _ _ _ _).mp ?_
      exact s023.out _ _ (.slice ua un uc) B0 B1 b2 W.heap.size (by kernel_rfl) HN2
    · have HN2 := Lib.hid HN.out.putP
      go_simp
      refine hK.out _ _ ?_ (fun hHeld => ?_)
      · trivial
      clear hK K
      try simp only [Act.put, List.setIfInBounds_toArray, List.set_cons_zero, List.set_cons_succ]
      refine (HG.out _ _ _ _).mp ?_
      exact s025.out _ _ (.slice ua un uc) B0 B1 b2 W.heap.size (by kernel_rfl) HN2)
  have s03 : Hid (∀ (l : Array Bool) (W : World) (u : Value) (B0 B1 : Nat) (b3 : Nat), l = #[true, false, false, true, false, false, false] → Hid (NK w0 W (some (u, B0, B1)) (none) (none) (none)) → G 5 l { tmps := #[.slice a n ca, undef, .pointer (some ⟨X, 0, none⟩), .bool false, undef, undef, u, undef, undef, .slice (some ⟨b3, 0, none⟩) 0 0, undef, undef, undef, undef, undef, undef, undef, undef, undef, undef, undef, undef, undef, undef, undef, undef, undef, undef, undef, undef, undef, undef, undef, undef, undef, undef, undef, undef, undef, undef, undef], defers := [] } W) := Lib.hid (by
    intro l W u B0 B1 b3 hl HN
    subst hl
    rw [HG.out]
    have hHeld : True := trivial
    obtain ⟨ua, un, uc, rfl⟩ : ∃ a n c, u = .slice a n c := by
      obtain ⟨a, cap, A, C, e, _⟩ := (HN.out.fm u B0 B1 rfl).1
      exact ⟨_, _, _, e⟩
    refine wpAnyH_ready (rs := [1, 2, 5]) (by kernel_rfl) (by simp) ?_
    refine AllReadyH.cons (o := { dst := some 7, op := .makeSlice 25 (.const (.int .i64 12)) (.const (.int .i64 12)), type := _, pos := _, after := _, guard := none }) rfl (fun K hK => ?_) (AllReadyH.cons (o := { dst := some 8, op := .buildSlice 26 0 #[], type := _, pos := _, after := _, guard := none }) rfl (fun K hK => ?_) (AllReadyH.cons (o := { dst := some 4, op := .alloc 29, type := _, pos := _, after := _, guard := none }) rfl (fun K hK => ?_) AllReadyH.nil))
    · obtain ⟨w2, hr, hi, hl, hb⟩ := make_infos W
      have HN2 := Lib.hid (HN.out.putI hb hi hl)
      clear hi hl hb
      go_simp
      refine hK.out _ _ ?_ (fun hHeld => ?_)
      · trivial
      clear hr
      clear hK K
      try simp only [Act.put, List.setIfInBounds_toArray, List.set_cons_zero, List.set_cons_succ]
      refine (HG.out _ _ _ _).mp ?_
      exact s013.out _ _ (.slice ua un uc) B0 B1 W.heap.size b3 (by kernel_rfl) HN2
    · have HN2 := Lib.hid HN.out.putE
      go_simp
      refine hK.out _ _ ?_ (fun hHeld => ?_)
      · trivial
      clear hK K
      try simp only [Act.put, List.setIfInBounds_toArray, List.set_cons_zero, List.set_cons_succ]
      refine (HG.out _ _ _ _).mp ?_
      exact s023.out _ _ (.slice ua un uc) B0 B1 W.heap.size b3 (by kernel_rfl) HN2
    · have HN2 := Lib.hid HN.out.putP
      go_simp
      refine hK.out _ _ ?_ (fun hHeld => ?_)
      · trivial
      clear hK K
      try simp only [Act.put, List.setIfInBounds_toArray, List.set_cons_zero, List.set_cons_succ]
      refine (HG.out _ _ _ _).mp ?_
      exact s035.out _ _ (.slice ua un uc) B0 B1 b3 W.heap.size (by kernel_rfl) HN2)
  have s05 : Hid (∀ (l : Array Bool) (W : World) (u : Value) (B0 B1 : Nat) (bp : Nat), l = #[true, false, false, false, false, true, false] → Hid (NK w0 W (some (u, B0, B1)) (none) (none) (some bp)) → G 5 l { tmps := #[.slice a n ca, undef, .pointer (some ⟨X, 0, none⟩), .bool false, .pointer (some ⟨bp, 0, none⟩), undef, u, undef, undef, undef, undef, undef, undef, undef, undef, undef, undef, undef, undef, undef, undef, undef, undef, undef, undef, undef, undef, undef, undef, undef, undef, undef, undef, undef, undef, undef, undef, undef, undef, undef, undef], defers := [] } W) := Lib.hid (by
    intro l W u B0 B1 bp hl HN
    subst hl
    rw [HG.out]
    have hHeld : True := trivial
    obtain ⟨ua, un, uc, rfl⟩ : ∃ a n c, u = .slice a n c := by
      obtain ⟨a, cap, A, C, e, _⟩ := (HN.out.fm u B0 B1 rfl).1
      exact ⟨_, _, _, e⟩
    refine wpAnyH_ready (rs := [1, 2, 3]) (by kernel_rfl) (by simp) ?_
    refine AllReadyH.cons (o := { dst := some 7, op := .makeSlice 25 (.const (.int .i64 12)) (.const (.int .i64 12)), type := _, pos := _, after := _, guard := none }) rfl (fun K hK => ?_) (AllReadyH.cons (o := { dst := some 8, op := .buildSlice 26 0 #[], type := _, pos := _, after := _, guard := none }) rfl (fun K hK => ?_) (AllReadyH.cons (o := { dst := some 9, op := .buildSlice 27 0 #[], type := _, pos := _, after := _, guard := none }) rfl (fun K hK => ?_) AllReadyH.nil))
    · obtain ⟨w2, hr, hi, hl, hb⟩ := make_infos W
      have HN2 := Lib.hid (HN.out.putI hb hi hl)
      clear hi hl hb
      go_simp
      refine hK.out _ _ ?_ (fun hHeld => ?_)
      · trivial
      clear hr
      clear hK K
      try simp only [Act.put, List.setIfInBounds_toArray, List.set_cons_zero, List.set_cons_succ]
      refine (HG.out _ _ _ _).mp ?_
      exact s015.out _ _ (.slice ua un uc) B0 B1 W.heap.size bp (by kernel_rfl) HN2
    · have HN2 := Lib.hid HN.out.putE
      go_simp
      refine hK.out _ _ ?_ (fun hHeld => ?_)
      · trivial
      clear hK K
      try simp only [Act.put, List.setIfInBounds_toArray, List.set_cons_zero, List.set_cons_succ]
      refine (HG.out _ _ _ _).mp ?_
      exact s025.out _ _ (.slice ua un uc) B0 B1 W.heap.size bp (by kernel_rfl) HN2
    · have HN2 := Lib.hid (HN.out.go ((Below.refl _ _).alloc (Nat.le_refl _) (.cells #[] 61)))
      go_simp
      refine hK.out _ _ ?_ (fun hHeld => ?_)
      · trivial
      clear hK K
      try simp only [Act.put, List.setIfInBounds_toArray, List.set_cons_zero, List.set_cons_succ]
      refine (HG.out _ _ _ _).mp ?_
      exact s035.out _ _ (.slice ua un uc) B0 B1 W.heap.size bp (by kernel_rfl) HN2)
  have s12 : Hid (∀ (l : Array Bool) (W : World) (b1 : Nat) (b2 : Nat), l = #[false, true, true, false, false, false, false] → Hid (NK w0 W (none) (some b1) (some b2) (none)) → G 5 l { tmps := #[.slice a n ca, undef, .pointer (some ⟨X, 0, none⟩), .bool false, undef, undef, undef, .slice (some ⟨b1, 0, none⟩) 12 12, .slice (some ⟨b2, 0, none⟩) 0 0, undef, undef, undef, undef, undef, undef, undef, undef, undef, undef, undef, undef, undef, undef, undef, undef, undef, undef, undef, undef, undef, undef, undef, undef, undef, undef, undef, undef, undef, undef, undef, undef], defers := [] } W) := Lib.hid (by
    intro l W b1 b2 hl HN
    subst hl
    rw [HG.out]
    have hHeld : True := trivial
    refine wpAnyH_ready (rs := [0, 3, 5]) (by kernel_rfl) (by simp) ?_
    refine AllReadyH.cons (o := { dst := some 6, op := .call { callee := .value (.func 14), args := #[], argTypes := #[] }, type := _, pos := _, after := _, guard := none }) rfl (fun K hK => ?_) (AllReadyH.cons (o := { dst := some 9, op := .buildSlice 27 0 #[], type := _, pos := _, after := _, guard := none }) rfl (fun K hK => ?_) (AllReadyH.cons (o := { dst := some 4, op := .alloc 29, type := _, pos := _, after := _, guard := none }) rfl (fun K hK => ?_) AllReadyH.nil))
    · go_simp
      refine (l2New_any W).mono ?_
      rintro _ w2 ⟨u, rfl, hm, hb⟩
      have HN2 := Lib.hid (HN.out.putM hb hm)
      clear hm hb
      try go_simp
      refine hK.out _ _ ?_ (fun hHeld => ?_)
      · trivial
      clear hK K
      try simp only [Act.put, List.setIfInBounds_toArray, List.set_cons_zero, List.set_cons_succ]
      refine (HG.out _ _ _ _).mp ?_
      exact s012.out _ _ u W.heap.size w2.heap.size b1 b2 (by kernel_rfl) HN2
    · have HN2 := Lib.hid (HN.out.go ((Below.refl _ _).alloc (Nat.le_refl _) (.cells #[] 61)))
      go_simp
      refine hK.out _ _ ?_ (fun hHeld => ?_)
      · trivial
      clear hK K
      try simp only [Act.put, List.setIfInBounds_toArray, List.set_cons_zero, List.set_cons_succ]
      refine (HG.out _ _ _ _).mp ?_
      exact s123.out _ _ b1 b2 W.heap.size (by kernel_rfl) HN2
    · have HN2 := Lib.hid HN.out.putP
      go_simp
      refine hK.out _ _ ?_ (fun hHeld => ?_)
      · trivial
      clear hK K
      try simp only [Act.put, List.setIfInBounds_toArray, List.set_cons_zero, List.set_cons_succ]
      refine (HG.out _ _ _ _).mp ?_
      exact s125.out _ _ b1 b2 W.heap.size (by kernel_rfl) HN2)
  have s13 : Hid (∀ (l : Array Bool) (W : World) (b1 : Nat) (b3 : Nat), l = #[false, true, false, true, false, false, false] → Hid (NK w0 W (none) (some b1) (none) (none)) → G 5 l { tmps := #[.slice a n ca, undef, .pointer (some ⟨X, 0, none⟩), .bool false, undef, undef, undef, .slice (some ⟨b1, 0, none⟩) 12 12, undef, .slice (some ⟨b3, 0, none⟩) 0 0, undef, undef, undef, undef, undef, undef, undef, undef, undef, undef, undef, undef, undef, undef, undef, undef, undef, undef, undef, undef, undef, undef, undef, undef, undef, undef, undef, undef, undef, undef, undef], defers := [] } W) := Lib.hid (by
    intro l W b1 b3 hl HN
    subst hl
    rw [HG.out]
    have hHeld : True := trivial
    refine wpAnyH_ready (rs := [0, 2, 5]) (by kernel_rfl) (by simp) ?_
    refine AllReadyH.cons (o := { dst := some 6, op := .call { callee := .value (.func 14), args := #[], argTypes := #[] }, type := _, pos := _, after := _, guard := none }) rfl (fun K hK => ?_) (AllReadyH.cons (o := { dst := some 8, op := .buildSlice 26 0 #[], type := _, pos := _, after := _, guard := none }) rfl (fun K hK => ?_) (AllReadyH.cons (o := { dst := some 4, op := .alloc 29, type := _, pos := _, after := _, guard := none }) rfl (fun K hK => ?_) AllReadyH.nil))
    · go_simp
      refine (l2New_any W).mono ?_
      rintro _ w2 ⟨u, rfl, hm, hb⟩
      have HN2 := Lib.hid (HN.out.putM hb hm)
      clear hm hb
      try go_simp
      refine hK.out _ _ ?_ (fun hHeld => ?_)
      · trivial
      clear hK K
      try simp only [Act.put, List.setIfInBounds_toArray, List.set_cons_zero, List.set_cons_succ]
      refine (HG.out _ _ _ _).mp ?_
      exact s013.out _ _ u W.heap.size w2.heap.size b1 b3 (by kernel_rfl) HN2
    · have HN2 := Lib.hid HN.out.putE
      go_simp
      refine hK.out _ _ ?_ (fun hHeld => ?_)
      · trivial
      clear hK K
      try simp only [Act.put, List.setIfInBounds_toArray, List.set_cons_zero, List.set_cons_succ]
      refine (HG.out _ _ _ _).mp ?_
      exact s123.out _ _ b1 W.heap.size b3 (by kernel_rfl) HN2
    · have HN2 := Lib.hid HN.out.putP
      go_simp
      refine hK.out _ _ ?_ (fun hHeld => ?_)
      · trivial
      clear hK K
      try simp only [Act.put, List.setIfInBounds_toArray, List.set_cons_zero, List.set_cons_succ]
      refine (HG.out _ _ _ _).mp ?_
      exact s135.out _ _ b1 b3 W.heap.size (by kernel_rfl) HN2)
  have s15 : Hid (∀ (l : Array Bool) (W : World) (b1 : Nat) (bp : Nat), l = #[false, true, false, false, false, true, false] → Hid (NK w0 W (none) (some b1) (none) (some bp)) → G 5 l { tmps := #[.slice a n ca, undef, .pointer (some ⟨X, 0, none⟩), .bool false, .pointer (some ⟨bp, 0, none⟩), undef, undef, .slice (some ⟨b1, 0, none⟩) 12 12, undef, undef, undef, undef, undef, undef, undef, undef, undef, undef, undef, undef, undef, undef, undef, undef, undef, undef, undef, undef, undef, undef, undef, undef, undef, undef, undef, undef, undef, undef, undef, undef, undef], defers := [] } W) := Lib.hid (by
    intro l W b1 bp hl HN
    subst hl
    rw [HG.out]
    have hHeld : True := trivial
    refine wpAnyH_ready (rs := [0, 2, 3]) (by kernel_rfl) (by simp) ?_
    refine AllReadyH.cons (o := { dst := some 6, op := .call { callee := .value (.func 14), args := #[], argTypes := #[] }, type := _, pos := _, after := _, guard := none }) rfl (fun K hK => ?_) (AllReadyH.cons (o := { dst := some 8, op := .buildSlice 26 0 #[], type := _, pos := _, after := _, guard := none }) rfl (fun K hK => ?_) (AllReadyH.cons (o := { dst := some 9, op := .buildSlice 27 0 #[], type := _, pos := _, after := _, guard := none }) rfl (fun K hK => ?_) AllReadyH.nil))
    · go_simp
      refine (l2New_any W).mono ?_
      rintro _ w2 ⟨u, rfl, hm, hb⟩
      have HN2 := Lib.hid (HN.out.putM hb hm)
      clear hm hb
      try go_simp
      refine hK.out _ _ ?_ (fun hHeld => ?_)
      · trivial
      clear hK K
      try simp only [Act.put, List.setIfInBounds_toArray, List.set_cons_zero, List.set_cons_succ]
      refine (HG.out _ _ _ _).mp ?_
      exact s015.out _ _ u W.heap.size w2.heap.size b1 bp (by kernel_rfl) HN2
    · have HN2 := Lib.hid HN.out.putE
      go_simp
      refine hK.out _ _ ?_ (fun hHeld => ?_)
      · trivial
      clear hK K
      try simp only [Act.put, List.setIfInBounds_toArray, List.set_cons_zero, List.set_cons_succ]
      refine (HG.out _ _ _ _).mp ?_
      exact s125.out _ _ b1 W.heap.size bp (by kernel_rfl) HN2
    · have HN2 := Lib.hid (HN.out.go ((Below.refl _ _).alloc (Nat.le_refl _) (.cells #[] 61)))
      go_simp
      refine hK.out _ _ ?_ (fun hHeld => ?_)
      · trivial
      clear hK K
      try simp only [Act.put, List.setIfInBounds_toArray, List.set_cons_zero, List.set_cons_succ]
      refine (HG.out _ _ _ _).mp ?_
      exact s135.out _ _ b1 W.heap.size bp (by kernel_rfl) HN2)
  have s23 : Hid (∀ (l : Array Bool) (W : World) (b2 : Nat) (b3 : Nat), l = #[false, false, true, true, false, false, false] → Hid (NK w0 W (none) (none) (some b2) (none)) → G 5 l { tmps := #[.slice a n ca, undef, .pointer (some ⟨X, 0, none⟩), .bool false, undef, undef, undef, undef, .slice (some ⟨b2, 0, none⟩) 0 0, .slice (some ⟨b3, 0, none⟩) 0 0, undef, undef, undef, undef, undef, undef, undef, undef, undef, undef, undef, undef, undef, undef, undef, undef, undef, undef, undef, undef, undef, undef, undef, undef, undef, undef, undef, undef, undef, undef, undef], defers := [] } W) := Lib.hid (by
    intro l W b2 b3 hl HN
    subst hl
    rw [HG.out]
    have hHeld : True := trivial
    refine wpAnyH_ready (rs := [0, 1, 5]) (by kernel_rfl) (by simp) ?_
    refine AllReadyH.cons (o := { dst := some 6, op := .call { callee := .value (.func 14), args := #[], argTypes := #[] }, type := _, pos := _, after := _, guard := none }) rfl (fun K hK => ?_) (AllReadyH.cons (o := { dst := some 7, op := .makeSlice 25 (.const (.int .i64 12)) (.const (.int .i64 12)), type := _, pos := _, after := _, guard := none }) rfl (fun K hK => ?_) (AllReadyH.cons (o := { dst := some 4, op := .alloc 29, type := _, pos := _, after := _, guard := none }) rfl (fun K hK => ?_) AllReadyH.nil))
    · go_simp
      refine (l2New_any W).mono ?_
      rintro _ w2 ⟨u, rfl, hm, hb⟩
      have HN2 := Lib.hid (HN.out.putM hb hm)
      clear hm hb
      try go_simp
      refine hK.out _ _ ?_ (fun hHeld => ?_)
      · trivial
      clear hK K
      try simp only [Act.put, List.setIfInBounds_toArray, List.set_cons_zero, List.set_cons_succ]
      refine (HG.out _ _ _ _).mp ?_
      exact s023.out _ _ u W.heap.size w2.heap.size b2 b3 (by kernel_rfl) HN2
    · obtain ⟨w2, hr, hi, hl, hb⟩ := make_infos W
      have HN2 := Lib.hid (HN.out.putI hb hi hl)
      clear hi hl hb
      go_simp
      refine hK.out _ _ ?_ (fun hHeld => ?_)
      · trivial
      clear hr
      clear hK K
      try simp only [Act.put, List.setIfInBounds_toArray, List.set_cons_zero, List.set_cons_succ]
      refine (HG.out _ _ _ _).mp ?_
      exact s123.out _ _ W.heap.size b2 b3 (by kernel_rfl) HN2
    · have HN2 := Lib.hid HN.out.putP
      go_simp
      refine hK.out _ _ ?_ (fun hHeld => ?_)
      · trivial
      clear hK K
      try simp only [Act.put, List.setIfInBounds_toArray, List.set_cons_zero, List.set_cons_succ]
      refine (HG.out _ _ _ _).mp ?_
      exact s235.out _ _ b2 b3 W.heap.size (by kernel_rfl) HN2)
  have s25 : Hid (∀ (l : Array Bool) (W : World) (b2 : Nat) (bp : Nat), l = #[false, false, true, false, false, true, false] → Hid (NK w0 W (none) (none) (some b2) (some bp)) → G 5 l { tmps := #[.slice a n ca, undef, .pointer (some ⟨X, 0, none⟩), .bool false, .pointer (some ⟨bp, 0, none⟩), undef, undef, undef, .slice (some ⟨b2, 0, none⟩) 0 0, undef, undef, undef, undef, undef, undef, undef, undef, undef, undef, undef, undef, undef, undef, undef, undef, undef, undef, undef, undef, undef, undef, undef, undef, undef, undef, undef, undef, undef, undef, undef, undef], defers := [] } W) := Lib.hid (by
    intro l W b2 bp hl HN
    subst hl
    rw [HG.out]
    have hHeld : True := trivial
    refine wpAnyH_ready (rs := [0, 1, 3]) (by kernel_rfl) (by simp) ?_
    refine AllReadyH.cons (o := { dst := some 6, op := .call { callee := .value (.func 14), args := #[], argTypes := #[] }, type := _, pos := _, after := _, guard := none }) rfl (fun K hK => ?_) (AllReadyH.cons (o := { dst := some 7, op := .makeSlice 25 (.const (.int .i64 12)) (.const (.int .i64 12)), type := _, pos := _, after := _, guard := none }) rfl (fun K hK => ?_) (AllReadyH.cons (o := { dst := some 9, op := .buildSlice 27 0 #[], type := _, pos := _, after := _, guard := none }) rfl (fun K hK => ?_) AllReadyH.nil))
    · go_simp
      refine (l2New_any W).mono ?_
      rintro _ w2 ⟨u, rfl, hm, hb⟩
      have HN2 := Lib.hid (HN.out.putM hb hm)
      clear hm hb
      try go_simp
      refine hK.out _ _ ?_ (fun hHeld => ?_)
      · trivial
      clear hK K
      try simp only [Act.put, List.setIfInBounds_toArray, List.set_cons_zero, List.set_cons_succ]
      refine (HG.out _ _ _ _).mp ?_
      exact s025.out _ _ u W.heap.size w2.heap.size b2 bp (by kernel_rfl) HN2
    · obtain ⟨w2, hr, hi, hl, hb⟩ := make_infos W
      have HN2 := Lib.hid (HN.out.putI hb hi hl)
      clear hi hl hb
      go_simp
      refine hK.out _ _ ?_ (fun hHeld => ?_)
      · trivial
      clear hr
      clear hK K
      try simp only [Act.put, List.setIfInBounds_toArray, List.set_cons_zero, List.set_cons_succ]
      refine (HG.out _ _ _ _).mp ?_
      exact s125.out _ _ W.heap.size b2 bp (by kernel_rfl) HN2
    · have HN2 := Lib.hid (HN.out.go ((Below.refl _ _).alloc (Nat.le_refl _) (.cells #[] 61)))
      go_simp
      refine hK.out _ _ ?_ (fun hHeld => ?_)
      · trivial
      clear hK K
      try simp only [Act.put, List.setIfInBounds_toArray, List.set_cons_zero, List.set_cons_succ]
      refine (HG.out _ _ _ _).mp ?_
      exact s235.out _ _ b2 W.heap.size bp (by kernel_rfl) HN2)
  have s35 : Hid (∀ (l : Array Bool) (W : World) (b3 : Nat) (bp : Nat), l = #[false, false, false, true, false, true, false] → Hid (NK w0 W (none) (none) (none) (some bp)) → G 5 l { tmps := #[.slice a n ca, undef, .pointer (some ⟨X, 0, none⟩), .bool false, .pointer (some ⟨bp, 0, none⟩), undef, undef, undef, undef, .slice (some ⟨b3, 0, none⟩) 0 0, undef, undef, undef, undef, undef, undef, undef, undef, undef, undef, undef, undef, undef, undef, undef, undef, undef, undef, undef, undef, undef, undef, undef, undef, undef, undef, undef, undef, undef, undef, undef], defers := [] } W) := Lib.hid (by
    intro l W b3 bp hl HN
    subst hl
    rw [HG.out]
    have hHeld : True := trivial
    refine wpAnyH_ready (rs := [0, 1, 2]) (by kernel_rfl) (by simp) ?_
    refine AllReadyH.cons (o := { dst := some 6, op := .call { callee := .value (.func 14), args := #[], argTypes := #[] }, type := _, pos := _, after := _, guard := none }) rfl (fun K hK => ?_) (AllReadyH.cons (o := { dst := some 7, op := .makeSlice 25 (.const (.int .i64 12)) (.const (.int .i64 12)), type := _, pos := _, after := _, guard := none }) rfl (fun K hK => ?_) (AllReadyH.cons (o := { dst := some 8, op := .buildSlice 26 0 #[], type := _, pos := _, after := _, guard := none }) rfl (fun K hK => ?_) AllReadyH.nil))
    · go_simp
      refine (l2New_any W).mono ?_
      rintro _ w2 ⟨u, rfl, hm, hb⟩
      have HN2 := Lib.hid (HN.out.putM hb hm)
      clear hm hb
      try go_simp
      refine hK.out _ _ ?_ (fun hHeld => ?_)
      · trivial
      clear hK K
      try simp only [Act.put, List.setIfInBounds_toArray, List.set_cons_zero, List.set_cons_succ]
      refine (HG.out _ _ _ _).mp ?_
      exact s035.out _ _ u W.heap.size w2.heap.size b3 bp (by kernel_rfl) HN2
    · obtain ⟨w2, hr, hi, hl, hb⟩ := make_infos W
      have HN2 := Lib.hid (HN.out.putI hb hi hl)
      clear hi hl hb
      go_simp
      refine hK.out _ _ ?_ (fun hHeld => ?_)
      · trivial
      clear hr
      clear hK K
      try simp only [Act.put, List.setIfInBounds_toArray, List.set_cons_zero, List.set_cons_succ]
      refine (HG.out _ _ _ _).mp ?_
      exact s135.out _ _ W.heap.size b3 bp (by kernel_rfl) HN2
    · have HN2 := Lib.hid HN.out.putE
      go_simp
      refine hK.out _ _ ?_ (fun hHeld => ?_)
      · trivial
      clear hK K
      try simp only [Act.put, List.setIfInBounds_toArray, List.set_cons_zero, List.set_cons_succ]
      refine (HG.out _ _ _ _).mp ?_
      exact s235.out _ _ W.heap.size b3 bp (by kernel_rfl) HN2)
  have s0 : Hid (∀ (l : Array Bool) (W : World) (u : Value) (B0 B1 : Nat), l = #[true, false, false, false, false, false, false] → Hid (NK w0 W (some (u, B0, B1)) (none) (none) (none)) → G 6 l { tmps := #[.slice a n ca, undef, .pointer (some ⟨X, 0, none⟩), .bool false, undef, undef, u, undef, undef, undef, undef, undef, undef, undef, undef, undef, undef, undef, undef, undef, undef, undef, undef, undef, undef, undef, undef, undef, undef, undef, undef, undef, undef, undef, undef, undef, undef, undef, undef, undef, undef], defers := [] } W) := Lib.hid (by
    intro l W u B0 B1 hl HN
    subst hl
    rw [HG.out]
    have hHeld : True := trivial
    obtain ⟨ua, un, uc, rfl⟩ : ∃ a n c, u = .slice a n c := by
      obtain ⟨a, cap, A, C, e, _⟩ := (HN.out.fm u B0 B1 rfl).1
      exact ⟨_, _, _, e⟩
    refine wpAnyH_ready (rs := [1, 2, 3, 5]) (by kernel_rfl) (by simp) ?_
    refine AllReadyH.cons (o := { dst := some 7, op := .makeSlice 25 (.const (.int .i64 12)) (.const (.int .i64 12)), type := _, pos := _, after := _, guard := none }) rfl (fun K hK => ?_) (AllReadyH.cons (o := { dst := some 8, op := .buildSlice 26 0 #[], type := _, pos := _, after := _, guard := none }) rfl (fun K hK => ?_) (AllReadyH.cons (o := { dst := some 9, op := .buildSlice 27 0 #[], type := _, pos := _, after := _, guard := none }) rfl (fun K hK => ?_) (AllReadyH.cons (o := { dst := some 4, op := .alloc 29, type := _, pos := _, after := _, guard := none }) rfl (fun K hK => ?_) AllReadyH.nil)))
    · obtain ⟨w2, hr, hi, hl, hb⟩ := make_infos W
      have HN2 := Lib.hid (HN.out.putI hb hi hl)
      clear hi hl hb
      go_simp
      refine hK.out _ _ ?_ (fun hHeld => ?_)
      · trivial
      clear hr
      clear hK K
      try simp only [Act.put, List.setIfInBounds_toArray, List.set_cons_zero, List.set_cons_succ]
      refine (HG.out _ _ _ _).mp ?_
      exact s01.out _ _ (.slice ua un uc) B0 B1 W.heap.size (by kernel_rfl) HN2
    · have HN2 := Lib.hid HN.out.putE
      go_simp
      refine hK.out _ _ ?_ (fun hHeld => ?_)
      · trivial
      clear hK K
      try simp only [Act.put, List.setIfInBounds_toArray, List.set_cons_zero, List.set_cons_succ]
      refine (HG.out _ _ _ _).mp ?_
      exact s02.out _ _ (.slice ua un uc) B0 B1 W.heap.size (by kernel_rfl) HN2
    · have HN2 := Lib.hid (HN.out.go ((Below.refl _ _).alloc (Nat.le_refl _) (.cells #[] 61)))
      go_simp
      refine hK.out _ _ ?_ (fun hHeld => ?_)
      · trivial
      clear hK K
      try simp only [Act.put, List.setIfInBounds_toArray, List.set_cons_zero, List.set_cons_succ]
      refine (HG.out _ _ _ _).mp ?_
      exact s03.out _ _ (.slice ua un uc) B0 B1 W.heap.size (by kernel_rfl) HN2
    · have HN2 := Lib.hid HN.out.putP
      go_simp
      refine hK.out _ _ ?_ (fun hHeld => ?_)
      · trivial
      clear hK K
      try simp only [Act.put, List.setIfInBounds_toArray, List.set_cons_zero, List.set_cons_succ]
      refine (HG.out _ _ _ _).mp ?_
      exact s05.out _ _ (.slice ua un uc) B0 B1 W.heap.size (by kernel_rfl) HN2)
  have s1 : Hid (∀ (l : Array Bool) (W : World) (b1 : Nat), l = #[false, true, false, false, false, false, false] → Hid (NK w0 W (none) (some b1) (none) (none)) → G 6 l { tmps := #[.slice a n ca, undef, .pointer (some ⟨X, 0, none⟩), .bool false, undef, undef, undef, .slice (some ⟨b1, 0, none⟩) 12 12, undef, undef, undef, undef, undef, undef, undef, undef, undef, undef, undef, undef, undef, undef, undef, undef, undef, undef, undef, undef, undef, undef, undef, undef, undef, undef, undef, undef, undef, undef, undef, undef, undef], defers := [] } W) := Lib.hid (by
    intro l W b1 hl HN
    subst hl
    rw [HG.out]
    have hHeld : True := trivial
    refine wpAnyH_ready (rs := [0, 2, 3, 5]) (by kernel_rfl) (by simp) ?_
    refine AllReadyH.cons (o := { dst := some 6, op := .call { callee := .value (.func 14), args := #[], argTypes := #[] }, type := _, pos := _, after := _, guard := none }) rfl (fun K hK => ?_) (AllReadyH.cons (o := { dst := some 8, op := .buildSlice 26 0 #[], type := _, pos := _, after := _, guard := none }) rfl (fun K hK => ?_) (AllReadyH.cons (o := { dst := some 9, op := .buildSlice 27 0 #[], type := _, pos := _, after := _, guard := none }) rfl (fun K hK => ?_) (AllReadyH.cons (o := { dst := some 4, op := .alloc 29, type := _, pos := _, after := _, guard := none }) rfl (fun K hK => ?_) AllReadyH.nil)))
    · go_simp
      refine (l2New_any W).mono ?_
      rintro _ w2 ⟨u, rfl, hm, hb⟩
      have HN2 := Lib.hid (HN.out.putM hb hm)
      clear hm hb
      try go_simp
      refine hK.out _ _ ?_ (fun hHeld => ?_)
      · trivial
      clear hK K
      try simp only [Act.put, List.setIfInBounds_toArray, List.set_cons_zero, List.set_cons_succ]
      refine (HG.out _ _ _ _).mp ?_
      exact s01.out _ _ u W.heap.size w2.heap.size b1 (by kernel_rfl) HN2
    · have HN2 := Lib.hid HN.out.putE
      go_simp
      refine hK.out _ _ ?_ (fun hHeld => ?_)
      · trivial
      clear hK K
      try simp only [Act.put, List.setIfInBounds_toArray, List.set_cons_zero, List.set_cons_succ]
      refine (HG.out _ _ _ _).mp ?_
      exact s12.out _ _ b1 W.heap.size (by kernel_rfl) HN2
    · have HN2 := Lib.hid (HN.out.go ((Below.refl _ _).alloc (Nat.le_refl _) (.cells #[] 61)))
      go_simp
      refine hK.out _ _ ?_ (fun hHeld => ?_)
      · trivial
      clear hK K
      try simp only [Act.put, List.setIfInBounds_toArray, List.set_cons_zero, List.set_cons_succ]
      refine (HG.out _ _ _ _).mp ?_
      exact s13.out _ _ b1 W.heap.size (by kernel_rfl) HN2
    · have HN2 := Lib.hid HN.out.putP
      go_simp
      refine hK.out _ _ ?_ (fun hHeld => ?_)
      · trivial
      clear hK K
      try simp only [Act.put, List.setIfInBounds_toArray, List.set_cons_zero, List.set_cons_succ]
      refine (HG.out _ _ _ _).mp ?_
      exact s15.out _ _ b1 W.heap.size (by kernel_rfl) HN2)
  have s2 : Hid (∀ (l : Array Bool) (W : World) (b2 : Nat), l = #[false, false, true, false, false, false, false] → Hid (NK w0 W (none) (none) (some b2) (none)) → G 6 l { tmps := #[.slice a n ca, undef, .pointer (some ⟨X, 0, none⟩), .bool false, undef, undef, undef, undef, .slice (some ⟨b2, 0, none⟩) 0 0, undef, undef, undef, undef, undef, undef, undef, undef, undef, undef, undef, undef, undef, undef, undef, undef, undef, undef, undef, undef, undef, undef, undef, undef, undef, undef, undef, undef, undef, undef, undef, undef], defers := [] } W) := Lib.hid (by
    intro l W b2 hl HN
    subst hl
    rw [HG.out]
    have hHeld : True := trivial
    refine wpAnyH_ready (rs := [0, 1, 3, 5]) (by kernel_rfl) (by simp) ?_
    refine AllReadyH.cons (o := { dst := some 6, op := .call { callee := .value (.func 14), args := #[], argTypes := #[] }, type := _, pos := _, after := _, guard := none }) rfl (fun K hK => ?_) (AllReadyH.cons (o := { dst := some 7, op := .makeSlice 25 (.const (.int .i64 12)) (.const (.int .i64 12)), type := _, pos := _, after := _, guard := none }) rfl (fun K hK => ?_) (AllReadyH.cons (o := { dst := some 9, op := .buildSlice 27 0 #[], type := _, pos := _, after := _, guard := none }) rfl (fun K hK => ?_) (AllReadyH.cons (o := { dst := some 4, op := .alloc 29, type := _, pos := _, after := _, guard := none }) rfl (fun K hK => ?_) AllReadyH.nil)))
    · go_simp
      refine (l2New_any W).mono ?_
      rintro _ w2 ⟨u, rfl, hm, hb⟩
      have HN2 := Lib.hid (HN.out.putM hb hm)
      clear hm hb
      try go_simp
      refine hK.out _ _ ?_ (fun hHeld => ?_)
      · trivial
      clear hK K
      try simp only [Act.put, List.setIfInBounds_toArray, List.set_cons_zero, List.set_cons_succ]
      refine (HG.out _ _ _ _).mp ?_
      exact s02.out _ _ u W.heap.size w2.heap.size b2 (by kernel_rfl) HN2
    · obtain ⟨w2, hr, hi, hl, hb⟩ := make_infos W
      have HN2 := Lib.hid (HN.out.putI hb hi hl)
      clear hi hl hb
      go_simp
      refine hK.out _ _ ?_ (fun hHeld => ?_)
      · trivial
      clear hr
      clear hK K
      try simp only [Act.put, List.setIfInBounds_toArray, List.set_cons_zero, List.set_cons_succ]
      refine (HG.out _ _ _ _).mp ?_
      exact s12.out _ _ W.heap.size b2 (by kernel_rfl) HN2
    · have HN2 := Lib.hid (HN.out.go ((Below.refl _ _).alloc (Nat.le_refl _) (.cells #[] 61)))
      go_simp
      refine hK.out _ _ ?_ (fun hHeld => ?_)
      · trivial
      clear hK K
      try simp only [Act.put, List.setIfInBounds_toArray, List.set_cons_zero, List.set_cons_succ]
      refine (HG.out _ _ _ _).mp ?_
      exact s23.out _ _ b2 W.heap.size (by kernel_rfl) HN2
    · have HN2 := Lib.hid HN.out.putP
      go_simp
      refine hK.out _ _ ?_ (fun hHeld => ?_)
      · trivial
      clear hK K
      try simp only [Act.put, List.setIfInBounds_toArray, List.set_cons_zero, List.set_cons_succ]
      refine (HG.out _ _ _ _).mp ?_
      exact s25.out _ _ b2 W.heap.size (by kernel_rfl) HN2)
  have s3 : Hid (∀ (l : Array Bool) (W : World) (b3 : Nat), l = #[false, false, false, true, false, false, false] → Hid (NK w0 W (none) (none) (none) (none)) → G 6 l { tmps := #[.slice a n ca, undef, .pointer (some ⟨X, 0, none⟩), .bool false, undef, undef, undef, undef, undef, .slice (some ⟨b3, 0, none⟩) 0 0, undef, undef, undef, undef, undef, undef, undef, undef, undef, undef, undef, undef, undef, undef, undef, undef, undef, undef, undef, undef, undef, undef, undef, undef, undef, undef, undef, undef, undef, undef, undef], defers := [] } W) := Lib.hid (by
    intro l W b3 hl HN
    subst hl
    rw [HG.out]
    have hHeld : True := trivial
    refine wpAnyH_ready (rs := [0, 1, 2, 5]) (by kernel_rfl) (by simp) ?_
    refine AllReadyH.cons (o := { dst := some 6, op := .call { callee := .value (.func 14), args := #[], argTypes := #[] }, type := _, pos := _, after := _, guard := none }) rfl (fun K hK => ?_) (AllReadyH.cons (o := { dst := some 7, op := .makeSlice 25 (.const (.int .i64 12)) (.const (.int .i64 12)), type := _, pos := _, after := _, guard := none }) rfl (fun K hK => ?_) (AllReadyH.cons (o := { dst := some 8, op := .buildSlice 26 0 #[], type := _, pos := _, after := _, guard := none }) rfl (fun K hK => ?_) (AllReadyH.cons (o := { dst := some 4, op := .alloc 29, type := _, pos := _, after := _, guard := none }) rfl (fun K hK => ?_) AllReadyH.nil)))
    · go_simp
      refine (l2New_any W).mono ?_
      rintro _ w2 ⟨u, rfl, hm, hb⟩
      have HN2 := Lib.hid (HN.out.putM hb hm)
      clear hm hb
      try go_simp
      refine hK.out _ _ ?_ (fun hHeld => ?_)
      · trivial
      clear hK K
      try simp only [Act.put, List.setIfInBounds_toArray, List.set_cons_zero, List.set_cons_succ]
      refine (HG.out _ _ _ _).mp ?_
      exact s03.out _ _ u W.heap.size w2.heap.size b3 (by kernel_rfl) HN2
    · obtain ⟨w2, hr, hi, hl, hb⟩ := make_infos W
      have HN2 := Lib.hid (HN.out.putI hb hi hl)
      clear hi hl hb
      go_simp
      refine hK.out _ _ ?_ (fun hHeld => ?_)
      · trivial
      clear hr
      clear hK K
      try simp only [Act.put, List.setIfInBounds_toArray, List.set_cons_zero, List.set_cons_succ]
      refine (HG.out _ _ _ _).mp ?_
      exact s13.out _ _ W.heap.size b3 (by kernel_rfl) HN2
    · have HN2 := Lib.hid HN.out.putE
      go_simp
      refine hK.out _ _ ?_ (fun hHeld => ?_)
      · trivial
      clear hK K
      try simp only [Act.put, List.setIfInBounds_toArray, List.set_cons_zero, List.set_cons_succ]
      refine (HG.out _ _ _ _).mp ?_
      exact s23.out _ _ W.heap.size b3 (by kernel_rfl) HN2
    · have HN2 := Lib.hid HN.out.putP
      go_simp
      refine hK.out _ _ ?_ (fun hHeld => ?_)
      · trivial
      clear hK K
      try simp only [Act.put, List.setIfInBounds_toArray, List.set_cons_zero, List.set_cons_succ]
      refine (HG.out _ _ _ _).mp ?_
      exact s35.out _ _ b3 W.heap.size (by kernel_rfl) HN2)
  have s5 : Hid (∀ (l : Array Bool) (W : World) (bp : Nat), l = #[false, false, false, false, false, true, false] → Hid (NK w0 W (none) (none) (none) (some bp)) → G 6 l { tmps := #[.slice a n ca, undef, .pointer (some ⟨X, 0, none⟩), .bool false, .pointer (some ⟨bp, 0, none⟩), undef, undef, undef, undef, undef, undef, undef, undef, undef, undef, undef, undef, undef, undef, undef, undef, undef, undef, undef, undef, undef, undef, undef, undef, undef, undef, undef, undef, undef, undef, undef, undef, undef, undef, undef, undef], defers := [] } W) := Lib.hid (by
    intro l W bp hl HN
    subst hl
    rw [HG.out]
    have hHeld : True := trivial
    refine wpAnyH_ready (rs := [0, 1, 2, 3]) (by kernel_rfl) (by simp) ?_
    refine AllReadyH.cons (o := { dst := some 6, op := .call { callee := .value (.func 14), args := #[], argTypes := #[] }, type := _, pos := _, after := _, guard := none }) rfl (fun K hK => ?_) (AllReadyH.cons (o := { dst := some 7, op := .makeSlice 25 (.const (.int .i64 12)) (.const (.int .i64 12)), type := _, pos := _, after := _, guard := none }) rfl (fun K hK => ?_) (AllReadyH.cons (o := { dst := some 8, op := .buildSlice 26 0 #[], type := _, pos := _, after := _, guard := none }) rfl (fun K hK => ?_) (AllReadyH.cons (o := { dst := some 9, op := .buildSlice 27 0 #[], type := _, pos := _, after := _, guard := none }) rfl (fun K hK => ?_) AllReadyH.nil)))
    · go_simp
      refine (l2New_any W).mono ?_
      rintro _ w2 ⟨u, rfl, hm, hb⟩
      have HN2 := Lib.hid (HN.out.putM hb hm)
      clear hm hb
      try go_simp
      refine hK.out _ _ ?_ (fun hHeld => ?_)
      · trivial
      clear hK K
      try simp only [Act.put, List.setIfInBounds_toArray, List.set_cons_zero, List.set_cons_succ]
      refine (HG.out _ _ _ _).mp ?_
      exact s05.out _ _ u W.heap.size w2.heap.size bp (by kernel_rfl) HN2
    · obtain ⟨w2, hr, hi, hl, hb⟩ := make_infos W
      have HN2 := Lib.hid (HN.out.putI hb hi hl)
      clear hi hl hb
      go_simp
      refine hK.out _ _ ?_ (fun hHeld => ?_)
      · trivial
      clear hr
      clear hK K
      try simp only [Act.put, List.setIfInBounds_toArray, List.set_cons_zero, List.set_cons_succ]
      refine (HG.out _ _ _ _).mp ?_
      exact s15.out _ _ W.heap.size bp (by kernel_rfl) HN2
    · have HN2 := Lib.hid HN.out.putE
      go_simp
      refine hK.out _ _ ?_ (fun hHeld => ?_)
      · trivial
      clear hK K
      try simp only [Act.put, List.setIfInBounds_toArray, List.set_cons_zero, List.set_cons_succ]
      refine (HG.out _ _ _ _).mp ?_
      exact s25.out _ _ W.heap.size bp (by kernel_rfl) HN2
    · have HN2 := Lib.hid (HN.out.go ((Below.refl _ _).alloc (Nat.le_refl _) (.cells #[] 61)))
      go_simp
      refine hK.out _ _ ?_ (fun hHeld => ?_)
      · trivial
      clear hK K
      try simp only [Act.put, List.setIfInBounds_toArray, List.set_cons_zero, List.set_cons_succ]
      refine (HG.out _ _ _ _).mp ?_
      exact s35.out _ _ W.heap.size bp (by kernel_rfl) HN2)
  have sN : Hid (∀ (l : Array Bool) (W : World) , l = #[false, false, false, false, false, false, false] → Hid (NK w0 W (none) (none) (none) (none)) → G 7 l { tmps := #[.slice a n ca, undef, .pointer (some ⟨X, 0, none⟩), .bool false, undef, undef, undef, undef, undef, undef, undef, undef, undef, undef, undef, undef, undef, undef, undef, undef, undef, undef, undef, undef, undef, undef, undef, undef, undef, undef, undef, undef, undef, undef, undef, undef, undef, undef, undef, undef, undef], defers := [] } W) := Lib.hid (by
    intro l W  hl HN
    subst hl
    rw [HG.out]
    have hHeld : True := trivial
    refine wpAnyH_ready (rs := [0, 1, 2, 3, 5]) (by kernel_rfl) (by simp) ?_
    refine AllReadyH.cons (o := { dst := some 6, op := .call { callee := .value (.func 14), args := #[], argTypes := #[] }, type := _, pos := _, after := _, guard := none }) rfl (fun K hK => ?_) (AllReadyH.cons (o := { dst := some 7, op := .makeSlice 25 (.const (.int .i64 12)) (.const (.int .i64 12)), type := _, pos := _, after := _, guard := none }) rfl (fun K hK => ?_) (AllReadyH.cons (o := { dst := some 8, op := .buildSlice 26 0 #[], type := _, pos := _, after := _, guard := none }) rfl (fun K hK => ?_) (AllReadyH.cons (o := { dst := some 9, op := .buildSlice 27 0 #[], type := _, pos := _, after := _, guard := none }) rfl (fun K hK => ?_) (AllReadyH.cons (o := { dst := some 4, op := .alloc 29, type := _, pos := _, after := _, guard := none }) rfl (fun K hK => ?_) AllReadyH.nil))))
    · go_simp
      refine (l2New_any W).mono ?_
      rintro _ w2 ⟨u, rfl, hm, hb⟩
      have HN2 := Lib.hid (HN.out.putM hb hm)
      clear hm hb
      try go_simp
      refine hK.out _ _ ?_ (fun hHeld => ?_)
      · trivial
      clear hK K
      try simp only [Act.put, List.setIfInBounds_toArray, List.set_cons_zero, List.set_cons_succ]
      refine (HG.out _ _ _ _).mp ?_
      exact s0.out _ _ u W.heap.size w2.heap.size (by kernel_rfl) HN2
    · obtain ⟨w2, hr, hi, hl, hb⟩ := make_infos W
      have HN2 := Lib.hid (HN.out.putI hb hi hl)
      clear hi hl hb
      go_simp
      refine hK.out _ _ ?_ (fun hHeld => ?_)
      · trivial
      clear hr
      clear hK K
      try simp only [Act.put, List.setIfInBounds_toArray, List.set_cons_zero, List.set_cons_succ]
      refine (HG.out _ _ _ _).mp ?_
      exact s1.out _ _ W.heap.size (by kernel_rfl) HN2
    · have HN2 := Lib.hid HN.out.putE
      go_simp
      refine hK.out _ _ ?_ (fun hHeld => ?_)
      · trivial
      clear hK K
      try simp only [Act.put, List.setIfInBounds_toArray, List.set_cons_zero, List.set_cons_succ]
      refine (HG.out _ _ _ _).mp ?_
      exact s2.out _ _ W.heap.size (by kernel_rfl) HN2
    · have HN2 := Lib.hid (HN.out.go ((Below.refl _ _).alloc (Nat.le_refl _) (.cells #[] 61)))
      go_simp
      refine hK.out _ _ ?_ (fun hHeld => ?_)
      · trivial
      clear hK K
      try simp only [Act.put, List.setIfInBounds_toArray, List.set_cons_zero, List.set_cons_succ]
      refine (HG.out _ _ _ _).mp ?_
      exact s3.out _ _ W.heap.size (by kernel_rfl) HN2
    · have HN2 := Lib.hid HN.out.putP
      go_simp
      refine hK.out _ _ ?_ (fun hHeld => ?_)
      · trivial
      clear hK K
      try simp only [Act.put, List.setIfInBounds_toArray, List.set_cons_zero, List.set_cons_succ]
      refine (HG.out _ _ _ _).mp ?_
      exact s5.out _ _ W.heap.size (by kernel_rfl) HN2)
  exact sN.out _ _ (by kernel_rfl) (Lib.hid (NK.start (Below.refl _ _).drew))
end Go.Proofs.Ythfdkenidfnmgaa
namespace Go.Proofs.Ythfdkenidfnmgaa
open Go.ChangeShapes Go.WideShapes Go.ChangeAt Go.RowKit Go.Maps Go.Shelf
set_option linter.unusedVariables false
set_option linter.unusedSimpArgs false
set_option maxRecDepth 100000
theorem run_build_kernel_envs (C : List Value) (hC : C.length = 6) (w : World) : (Instr.build 66 #[(2, .agg C.toArray)]).run Try.prog w = .ok (.agg (Z84 ++ (C ++ ringC A0 0 0)).toArray) w := by
  have hb : ∀ Z : Value, Try.prog.built 66 [(2, Z)] = Instr.fill ((#[(0, 48), (48, 36), (84, 6), (90, 18)] : Array (Nat × Nat))[·]?) Z108.toArray [(2, Z)] := fun Z => by kernel_rfl
  refine run_build w _ _ _ ((hb _).trans ?_)
  rw [show Z108.toArray = (Z84 ++ (mapC (fun _ => none) (fun _ => 0) ++ ringC A0 0 0)).toArray from rfl, fill_step (p := Z84) (c := C) (s := 6) rfl rfl hC (by rw [hC, List.length_append]; show 6 ≤ 6 + 18; omega), hC]
  rw [Instr.fill, show (mapC (fun _ => none) (fun _ => 0) ++ ringC A0 0 0).drop 6 = ringC A0 0 0 from rfl, List.append_assoc]
theorem build_run1 {P : Program} {ops : Array Oper} {rest : List Oper} {a : Act} {w : World} {Q : Exit → Act → World → Prop} {dst : Option Nat} {tt : TypeId} {pos : String} {after : Array Edge} (t : TypeId) (i : Nat) (x : Operand) (vx : Value) (hx : a.eval x = vx)
    (z : Array Value) (hz : ∀ w, (Instr.build t #[(i, vx)]).run P w = .ok (.agg z) w)
    (h : wpList P ops Q rest (a.put dst (.agg z)) w) : wpList P ops Q ({ dst := dst, op := .build t #[(i, x)], type := tt, pos := pos, after := after, guard := none } :: rest) a w :=
  build_run t _ z (fun w => by
    have e : (#[(i, x)] : Array (Nat × Operand)).map (fun (i, x) => (i, a.eval x)) = #[(i, vx)] := by simp [hx]
    rw [e]; exact hz w) h
theorem Strs.own {w : World} {v : Value} {xs : List Bs} (h : Strs w v xs) : ∀ g, v.ownBlock = some g → xs.length ≠ 0 → g < w.heap.size := by
  obtain ⟨a, c, rfl, h1, h2, h3⟩ := h
  intro g hg hz
  obtain ⟨g', p, rfl, hc⟩ := h3 0 (by omega)
  injection hg with hg
  subst hg
  exact cell_lt hc
theorem envB_newE (rs : List (List Bs)) : envB (newE rs) = knewOk rs := by
  unfold envB newE knewOk
  rw [List.all_map, List.length_map]
  rfl
def NewKW (rs : List (List Bs)) (w : World) (e : Ending) (w' : World) : Prop :=
  ∃ v0 v1 v2 v3, e = .returned (.tuple #[kV v0 v1 v2 v3, .bool (knewOk rs)]) ∧ Ks w' v0 v1 v2 v3 (knew rs) ∧ Below w.heap.size w w' ∧
    (knewOk rs = false → v0 = sl0 ∧ v1 = sl0 ∧ v2 = sl0 ∧ v3 = sl0) ∧ (knewOk rs = true → ∃ B0 B1 B2 B3 B4, w.heap.size ≤ B0 ∧ B0 ≤ B1 ∧ B1 ≤ B2 ∧ B2 ≤ B3 ∧ B3 ≤ B4 ∧ B4 ≤ w'.heap.size ∧ KsW w' B0 B1 B2 B3 B4 v0 v1 v2 v3 (knew rs))
set_option maxHeartbeats 4000000 in
theorem iKernelNew_any (w : World) (v : Value) (rs : List (List Bs)) (h : Sss w v rs) (hs : ∀ x ∈ rs, Short x) (hn : rs.length ≤ 1100000) :
    Calls Try.prog 7 #[v] w (NewKW rs w) := by
  obtain ⟨a, ca, rfl, hla, hma, hxa⟩ := h
  unfold maxLen at hma
  obtain ⟨n, hN⟩ : ∃ n, n = rs.length := ⟨_, rfl⟩
  rw [← hN] at hla hxa hn ⊢
  have HNN := Lib.hid hN
  have HXX := Lib.hid hxa
  have HS3 : Hid (Short3 (newE rs)) := Lib.hid (fun x hx => by
    obtain ⟨r, hr, rfl⟩ := List.mem_map.1 hx
    exact hs r hr)
  obtain ⟨R, HR0⟩ : ∃ R : Ending → World → Prop, Hid (R = NewKW rs w) := ⟨_, Lib.hid rfl⟩
  rw [← HR0.out]
  obtain ⟨X, hX⟩ : ∃ X, X = w.heap.size := ⟨_, rfl⟩
  obtain ⟨w0, hw0⟩ : ∃ w0, w0 = w.alloc (.cells #[sl0, sl0, sl0, sl0] 29) := ⟨_, rfl⟩
  have HB1 : Hid (Below w.heap.size w w0 ∧ w0.heap.size = w.heap.size + 1 ∧ KB4 w0 X sl0 sl0 sl0 sl0 ∧ w0.there X 0 4) := Lib.hid (by rw [hw0, hX]; exact ⟨(Below.refl _ _).alloc (Nat.le_refl _) _, by simp, KB4.new w _ _ _ _ _, there_row (heap_alloc_new w _) (Nat.le_refl _)⟩)
  have HXE := Lib.hid hX
  have HW0 := Lib.hid hw0
  clear hN hxa hs hX hw0
  go_enter Try.func7, Try.ntmps7
  go_wp2_with fail
  rw [← HXE.out, ← HW0.out]
  go_loopw [4, 11] (fun u i wr => ∃ (k : Nat) (ps : List (Value × Int)), k ≤ n ∧ i = .int .i64 k ∧ Hid (OwnE (w.heap.size + 1) wr u (newE (rs.take k)) ps ∧ Below w0.heap.size w0 wr)) (fun _ i _ => n - (intOf i).toNat)
  case atStart => exact ⟨0, [], Nat.zero_le _, rfl, Lib.hid ⟨by rw [show newE (rs.take 0) = [] from by simp [newE]]; exact OwnE.nil _ _, Below.refl _ _⟩⟩
  case round =>
    obtain ⟨k, ps, hk, rfl, HO⟩ := hrel
    by_cases hlt : k < n
    · have hlt' : (k : Int) < n := by omega
      have hk0 : (0 : Int) ≤ (k : Int) := by omega
      obtain ⟨b, o, ru, rfl, hc0, hu⟩ := HXX.out k hlt
      have hbw : Below w.heap.size w wr := HB1.out.1.trans (HO.out.2.mono (by have := HB1.out.2.1; omega))
      have hcr := (hbw.cell (p := ⟨b, o + k, none⟩) (cell_lt hc0)).trans hc0
      obtain ⟨ra, rn, rc, rfl⟩ : ∃ a n c, ru = .slice a n c := by
        obtain ⟨a, c, e, _⟩ := hu
        exact ⟨_, _, _, e⟩
      have HO1 : Hid (OwnE (w.heap.size + 1) (wr.alloc (.cells #[.slice ra rn rc, .int .i64 (-1)] 42)) u4 (newE (rs.take k)) ps) := Lib.hid (HO.out.1.go ((Below.refl _ _).alloc (Nat.le_refl _) _))
      have HSZ : Hid (w.heap.size + 1 ≤ (wr.alloc (.cells #[.slice ra rn rc, .int .i64 (-1)] 42)).heap.size ∧ (newE (rs.take k)).length ≤ 1100000) := Lib.hid ⟨by have h1 := HO.out.2.size; have h2 := HB1.out.2.1; simp; omega, by rw [newE_len (by have := HNN.out; omega)]; omega⟩
      have HCC : Hid ((wr.alloc (.cells #[.slice ra rn rc, .int .i64 (-1)] 42)).cell? ⟨wr.heap.size, 0, none⟩ = some (.slice ra rn rc) ∧ (wr.alloc (.cells #[.slice ra rn rc, .int .i64 (-1)] 42)).cell? ⟨wr.heap.size, 1, none⟩ = some (.int .i64 (⟨rs.getD k [], -1⟩ : EV).t) ∧
          Strs (wr.alloc (.cells #[.slice ra rn rc, .int .i64 (-1)] 42)) (.slice ra rn rc) (⟨rs.getD k [], -1⟩ : EV).r) := Lib.hid ⟨new_cell rfl, new_cell rfl, (hu.below hbw).below ((Below.refl _ _).alloc (Nat.le_refl _) _)⟩
      have HAU : Hid (∀ g, (Value.slice ra rn rc).ownBlock = some g → (⟨rs.getD k [], -1⟩ : EV).r.length ≠ 0 → g < (wr.alloc (.cells #[.slice ra rn rc, .int .i64 (-1)] 42)).heap.size ∧ u4.ownBlock ≠ some g) := Lib.hid (fun g hg hz => by
        have h1 := hu.own g hg hz
        have h2 := hbw.size
        exact ⟨by simp; omega, fun e => by have := (HO.out.1.own.lt g e).1; omega⟩)
      clear hc0 hu hbw
      go_wp2_with (at_builtin; refine wpList_append_es1 (.tmp 15) (.tmp 18) (w.heap.size + 1) _ _ ps rfl HO1.out HSZ.out.1 wr.heap.size (.slice ra rn rc) ⟨rs.getD k [], -1⟩ rfl HCC.out.1 HCC.out.2.1 HCC.out.2.2 HAU.out HSZ.out.2 ?_; intro v' w2 he hg g5)
      have HE : Hid (OwnE (w.heap.size + 1) w2 v' (newE (rs.take (k + 1))) (ps ++ [(.slice ra rn rc, -1)]) ∧ Below w0.heap.size w0 w2) := Lib.hid ⟨by rw [newE_snoc (by have := HNN.out; omega)]; exact he,
        (HO.out.2.alloc HO.out.2.size _).grown hg (by have := HO.out.2.size; simp; omega) (fun g e => by have h1 := (HO.out.1.own.lt g e).1; have h2 := HB1.out.2.1; omega)⟩
      clear he hg g5 hcr
      go_wp2_with fail
      go_roundw
      case rel => exact ⟨k + 1, _, by omega, by go_num, HE⟩
      case measure => simp [intOf]; omega
    · have e : k = n := by omega
      rw [e] at HO
      have hge : ¬ (k : Int) < n := by omega
      have HO2 : Hid (Es wr u4 (newE rs)) := Lib.hid (by
        have := HO.out.1.es
        rwa [HNN.out, List.take_length] at this)
      obtain ⟨q, hq⟩ : ∃ q, q = envB (newE rs) := ⟨_, rfl⟩
      have HEV := Lib.hid (environmentsOf_any wr u4 (newE rs) HO2.out HS3.out)
      unfold EnvR at HEV
      rw [← hq] at HEV
      have HQ : Hid (q = knewOk rs) := Lib.hid (by rw [hq, envB_newE])
      clear hq
      go_wp2_with fail
      refine HEV.out.mono ?_
      rintro _ w2 ⟨Y, rfl, hYl, hYo, hb, hYs⟩
      obtain ⟨Y2, hY2⟩ : ∃ Y2, Y2 = w2.heap.size := ⟨_, rfl⟩
      obtain ⟨ze, hze⟩ : ∃ z, z = mapC (fun _ => none) (fun _ => 0) := ⟨_, rfl⟩
      have ZE : Hid (∀ w, (zeroValue 49).run Try.prog w = .ok (.agg ze.toArray) w) := Lib.hid (fun w => by rw [hze]; exact Try.zeroValue49 w)
      have HZL : Hid (ze.length = 6) := Lib.hid (by rw [hze]; rfl)
      obtain ⟨W3, hW3⟩ : ∃ W3, W3 = (w2.alloc (.cells ze.toArray 49)).setCells Y2 0 Y := ⟨_, rfl⟩
      have HTH : Hid ((w2.alloc (.cells ze.toArray 49)).there Y2 0 Y.toArray.size) := Lib.hid (by rw [hY2]; exact there_row (heap_alloc_new w2 _) (by simp only [List.size_toArray]; have := HZL.out; omega))
      have HYL := Lib.hid hYl
      have HYO := Lib.hid hYo
      have HYS : Hid (Y.toArray.size = 6) := Lib.hid (by simpa using hYl)
      have HRY : Hid (W3.rangeAt Y2 0 Y) := Lib.hid (by rw [hW3]; exact World.rangeAt_setCells_same _ _ _ _ (by simpa using HTH.out))
      have HB2 : Hid (Below wr.heap.size wr W3) := Lib.hid (by
        rw [hW3]
        exact Below.setCells (Below.refl _ _) _ (by rw [hY2]; exact hb.size) _ _ _ (hb.alloc hb.size _))
      have HB3 : Hid (Below w0.heap.size w0 W3) := Lib.hid (HO.out.2.trans (HB2.out.mono HO.out.2.size))
      have HYB : Hid (q = true → ∃ bs : Nat → Nat, Y = mapC (fun j => some (bs j)) (fun j => ((newE rs).getD j ez).t) ∧ ∀ j, j < 3 → SetAt W3 (bs j) ((newE rs).getD j ez).r) := Lib.hid (fun hh => by
        obtain ⟨bs, e1, e2⟩ := hYs hh
        refine ⟨bs, e1, fun j hj => ?_⟩
        rw [hW3]
        exact (e2 j hj).below (Below.setCells (Below.refl _ _) _ (by rw [hY2]; exact Nat.le_refl _) _ _ _ ((Below.refl _ _).alloc (Nat.le_refl _) _)))
      have HY2 := Lib.hid hY2
      have HW3 := Lib.hid hW3
      clear hYl hYo hb hYs hY2 hze hW3
      obtain ⟨_, x0, x1, x2, x3⟩ := HB1.out.2.2.1.go HB3.out
      have htt := there_blocks HB1.out.2.2.2 (HB3.out.block X HB1.out.2.2.1.lt)
      have g0 := (htt 0 (by omega)).2
      have g1 := (htt 1 (by omega)).2
      have g2 := (htt 2 (by omega)).2
      have g3 := (htt 3 (by omega)).2
      have HTT := Lib.hid htt
      simp only [Nat.zero_add] at g0 g1 g2 g3
      clear htt
      cases q with
      | false =>
        go_wp2_with (first | ((with_reducible refine alloc_is 49 ?_); refine alloc_arr 49 ze.toArray ZE.out ?_; rw [← HY2.out]) | ((with_reducible refine store_is 49 (.tmp 7) (.tmp 24) ?_); refine store_arr 49 (.tmp 7) (.tmp 24) Y2 0 Y.toArray rfl rfl HTH.out (info_envs HYS.out) HYO.out ?_; rw [show Y.toArray.toList = Y from rfl, ← HW3.out]) | fail)
        have HRA : Hid (World.rangeAt ((((W3.setCell ⟨X, 0, none⟩ sl0).setCell ⟨X, 1, none⟩ sl0).setCell ⟨X, 2, none⟩ sl0).setCell ⟨X, 3, none⟩ sl0) X 0 [sl0, sl0, sl0, sl0]) := Lib.hid (World.rangeAt_setCells_same W3 X 0 [sl0, sl0, sl0, sl0] HTT.out)
        refine bodyPost_ret (results_cell_mid rfl _ _ X 0 [sl0, sl0, sl0, sl0] _ rfl HRA.out Try.underlying29 rfl (by kernel_rfl)) rfl ?_
        rw [HR0.out]
        have hko := HQ.out.symm
        have hkn : knew rs = kz := by unfold knew; rw [hko]; simp
        unfold NewKW
        rw [hko, hkn]
        exact ⟨_, _, _, _, rfl, ks_none _, (HB1.out.1.trans (HB3.out.mono HB1.out.1.size)).grown (grown_set4 W3 X _ _ _ _) (by have h1 := HB1.out.1.size; have h2 := HB3.out.size; omega) (fun g e => by injection e with e; have := HXE.out; omega), fun _ => ⟨rfl, rfl, rfl, rfl⟩, fun e => by cases e⟩
      | true =>
        obtain ⟨bs, hY, hset⟩ := HYB.out rfl
        have hko : knewOk rs = true := HQ.out.symm
        have hev : envB (newE rs) = true := by rw [envB_newE, hko]
        have hlen : (newE rs).length = 3 := by
          unfold envB at hev
          rw [Bool.and_eq_true, decide_eq_true_eq] at hev
          exact hev.2
        have hrv : ∀ j, j < 3 → rvs ((newE rs).getD j ez).r = true := fun j hj => by
          unfold envB at hev
          rw [Bool.and_eq_true] at hev
          exact List.all_eq_true.1 hev.1 _ (by rw [getD_lt (by omega)]; exact List.getElem_mem _)
        have hkn : knew rs = ⟨mem0, List.replicate 12 iz, newE rs, []⟩ := by unfold knew newE; rw [if_pos hko]
        have HST := Lib.hid (state_any W3 mem0 (List.replicate 12 iz) (newE rs) bs A0 0 0 (Z84 ++ (Y ++ ringC A0 0 0)) ⟨mem0_ok, z12_ok, hlen, by rw [hY]; unfold kC Z84; rw [List.append_assoc]; rfl, rfl, ringC_one _ _ _, hset⟩ hrv (by omega) (by omega))
        unfold NewK at HST
        rw [show rlist A0 0 0 = [] from rfl, ← hkn] at HST
        have HKO := Lib.hid hko
        obtain ⟨LB, hLB⟩ : ∃ L, L = Z84 ++ (Y ++ ringC A0 0 0) := ⟨_, rfl⟩
        have HBK : Hid (∀ w, (Instr.build 66 #[(2, .agg Y.toArray)]).run Try.prog w = .ok (.agg LB.toArray) w) := Lib.hid (by rw [hLB]; exact run_build_kernel_envs Y HYL.out)
        rw [← hLB] at HST
        clear hY hset hko hev hlen hrv hkn hLB
        go_wp2_with (first | ((with_reducible refine alloc_is 49 ?_); refine alloc_arr 49 ze.toArray ZE.out ?_; rw [← HY2.out]) | ((with_reducible refine store_is 49 (.tmp 7) (.tmp 24) ?_); refine store_arr 49 (.tmp 7) (.tmp 24) Y2 0 Y.toArray rfl rfl HTH.out (info_envs HYS.out) HYO.out ?_; rw [show Y.toArray.toList = Y from rfl, ← HW3.out]) | ((with_reducible refine load_is 49 (.tmp 7) ?_); refine load_arr 49 (.tmp 7) Y2 0 Y _ rfl HRY.out Try.underlying49 rfl (info_envs HYL.out) ?_) | (refine build_run1 66 2 (.tmp 29) (.agg Y.toArray) rfl LB.toArray HBK.out ?_) | fail)
        refine HST.out.mono ?_
        rintro _ w4 ⟨vm, vi, ve, vc, B0, B1, B2, B3, B4, rfl, h0, h1, h2, h3, h4, h5, hk, hb⟩
        obtain ⟨ma, mn, mc, rfl⟩ : ∃ a n c, vm = .slice a n c := by
          obtain ⟨a, cap, A, C, e, _⟩ := hk.m
          exact ⟨_, _, _, e⟩
        obtain ⟨ia, ni, ic, rfl⟩ : ∃ a n c, vi = .slice a n c := by
          obtain ⟨a, cap, e, _⟩ := hk.i
          exact ⟨_, _, _, e⟩
        obtain ⟨ea, en, ec, rfl⟩ : ∃ a n c, ve = .slice a n c := by
          obtain ⟨a, cap, A, C, e, _⟩ := hk.e
          exact ⟨_, _, _, e⟩
        obtain ⟨ca, cn, cc, rfl⟩ : ∃ a n c, vc = .slice a n c := by
          obtain ⟨a, cap, e, _⟩ := hk.c
          exact ⟨_, _, _, e⟩
        have HK4 := Lib.hid hk
        have HB4 := Lib.hid (HB3.out.trans (hb.mono HB3.out.size))
        have HLS := Lib.hid (And.intro h0 (And.intro h1 (And.intro h2 (And.intro h3 (And.intro h4 h5)))))
        have HBS := Lib.hid hb
        clear hk hb h0 h1 h2 h3 h4 h5 x0 x1 x2 x3 g0 g1 g2 g3
        obtain ⟨_, x0, x1, x2, x3⟩ := HB1.out.2.2.1.go HB4.out
        have htt := there_blocks HB1.out.2.2.2 (HB4.out.block X HB1.out.2.2.1.lt)
        have g0 := (htt 0 (by omega)).2
        have g1 := (htt 1 (by omega)).2
        have g2 := (htt 2 (by omega)).2
        have g3 := (htt 3 (by omega)).2
        have HT4 := Lib.hid htt
        simp only [Nat.zero_add] at g0 g1 g2 g3
        clear htt
        go_wp2_with fail
        have HRA : Hid (World.rangeAt ((((w4.setCell ⟨X, 0, none⟩ (.slice ma mn mc)).setCell ⟨X, 1, none⟩ (.slice ia ni ic)).setCell ⟨X, 2, none⟩ (.slice ea en ec)).setCell ⟨X, 3, none⟩ (.slice ca cn cc)) X 0 [.slice ma mn mc, .slice ia ni ic, .slice ea en ec, .slice ca cn cc]) := Lib.hid (World.rangeAt_setCells_same w4 X 0 [.slice ma mn mc, .slice ia ni ic, .slice ea en ec, .slice ca cn cc] HT4.out)
        refine bodyPost_ret (results_cell_mid rfl _ _ X 0 [.slice ma mn mc, .slice ia ni ic, .slice ea en ec, .slice ca cn cc] _ rfl HRA.out Try.underlying29 rfl (by kernel_rfl)) rfl ?_
        rw [HR0.out]
        unfold NewKW
        rw [HKO.out]
        have hg := grown_set4 w4 X (.slice ma mn mc) (.slice ia ni ic) (.slice ea en ec) (.slice ca cn cc)
        obtain ⟨h0, h1, h2, h3, h4, h5⟩ := HLS.out
        have z0 := HB1.out.2.1
        have z1 := HXE.out
        have z2 := HB3.out.size
        have hbl : ∀ b, B0 ≤ b → b < w4.heap.size → ((((w4.setCell ⟨X, 0, none⟩ (.slice ma mn mc)).setCell ⟨X, 1, none⟩ (.slice ia ni ic)).setCell ⟨X, 2, none⟩ (.slice ea en ec)).setCell ⟨X, 3, none⟩ (.slice ca cn cc)).heap[b]? = w4.heap[b]? := fun b k0 k1 => hg.block b k1 (fun e => by injection e with e; omega)
        have hks : KsW ((((w4.setCell ⟨X, 0, none⟩ (.slice ma mn mc)).setCell ⟨X, 1, none⟩ (.slice ia ni ic)).setCell ⟨X, 2, none⟩ (.slice ea en ec)).setCell ⟨X, 3, none⟩ (.slice ca cn cc)) B0 B1 B2 B3 B4 (.slice ma mn mc) (.slice ia ni ic) (.slice ea en ec) (.slice ca cn cc) (knew rs) :=
          ⟨HK4.out.m.of_blocks (fun b k0 k1 => hbl b (by omega) (by omega)), HK4.out.i.of_blocks (fun b k0 k1 => hbl b (by omega) (by omega)), HK4.out.e.of_blocks (fun b k0 k1 => hbl b (by omega) (by omega)), HK4.out.c.of_blocks (fun b k0 k1 => hbl b (by omega) (by omega))⟩
        have hgs := hg.size
        exact ⟨_, _, _, _, rfl, hks.ks, (HB1.out.1.trans (HB4.out.mono HB1.out.1.size)).grown hg (by have h7 := HB4.out.size; omega) (fun g e => by injection e with e; omega), fun e => (by cases e), fun _ => ⟨B0, B1, B2, B3, B4, by omega, h1, h2, h3, h4, by omega, hks⟩⟩
end Go.Proofs.Ythfdkenidfnmgaa
namespace Go.Proofs.Ythfdkenidfnmgaa
open Go.ChangeShapes Go.WideShapes Go.ChangeAt Go.RowKit
set_option linter.unusedVariables false
set_option linter.unusedSimpArgs false
set_option maxRecDepth 100000
def mkIG (k0 i : Nat) : IV := ⟨((k0 + 3 * i : Nat) : Int), mtext (k0 + 1 + 3 * i), ((k0 + 2 + 3 * i : Nat) : Int)⟩
def mkIsG (k0 n : Nat) : List IV := (List.range n).map (mkIG k0)
theorem mkIsG_len {k0 : Nat} (n : Nat) : (mkIsG k0 n).length = n := by simp [mkIsG]
theorem mkIsG_get {k0 n i : Nat} (h : i < n) : (mkIsG k0 n).getD i iz = mkIG k0 i := by
  rw [getD_lt (by rw [mkIsG_len]; exact h)]
  simp [mkIsG]
def mkSG (k0 n : Nat) : List Bs := (List.range n).map (fun i => mtext (k0 + i))
theorem mkSG_len {k0 : Nat} (n : Nat) : (mkSG k0 n).length = n := by simp [mkSG]
theorem mkSG_get {k0 n i : Nat} (h : i < n) : (mkSG k0 n).getD i [] = mtext (k0 + i) := by
  rw [getD_lt (by rw [mkSG_len]; exact h)]
  simp [mkSG]
def mkEG (k0 i : Nat) : CV := ⟨(k0 : Int) + 4 * (i : Int), (k0 : Int) + 1 + 4 * (i : Int), (k0 : Int) + 2 + 4 * (i : Int), decide (((k0 : Int) + 3 + 4 * (i : Int)) % 3 = 0)⟩
def mkCG (k0 n : Nat) : List CV := (List.range n).map (mkEG k0)
theorem mkCG_len {k0 : Nat} (n : Nat) : (mkCG k0 n).length = n := by simp [mkCG]
theorem mkCG_get {k0 n i : Nat} (h : i < n) : (mkCG k0 n).getD i c0 = mkEG k0 i := by
  rw [getD_lt (by rw [mkCG_len]; exact h)]
  simp [mkCG]
set_option maxHeartbeats 1000000 in
theorem markInfoG_any (k0 : Nat) (hk0 : 1 ≤ k0) (w : World) (B0 B1 : Nat) (a : Option Addr) (n cap : Nat) (xs : List IV) (h : IsW w B0 B1 (.slice a n cap) xs) (hB : B1 ≤ w.heap.size) (hN : n = xs.length) (hn : k0 + 3 * n ≤ 3200000) :
    Calls Try.prog 26 #[.slice a n cap, .int .i64 k0] w fun e w' => e = .returned (.int .i64 ((k0 + 3 * n : Nat) : Int)) ∧ IsW w' B0 B1 (.slice a n cap) (mkIsG k0 n) ∧ Chg B0 B1 w w' := by
  have H := Lib.hid h
  have HN := Lib.hid hN
  have HB := Lib.hid hB
  clear h hN hB
  go_enter Try.func26, Try.ntmps26
  go_wp2
  go_loopw [1, 5] (fun l i wr => ∃ (j : Nat) (ys : List IV), j ≤ n ∧ i = .int .i64 j ∧ l = .int .i64 ((k0 + 3 * j : Nat) : Int) ∧ Hid (ys.length = n) ∧ Hid (∀ q, q < j → ys.getD q iz = mkIG k0 q) ∧ Hid (IsW wr B0 B1 (.slice a n cap) ys) ∧ Hid (Chg B0 B1 w wr)) (fun _ i _ => n - (intOf i).toNat)
  case atStart => exact ⟨0, xs, Nat.zero_le _, rfl, rfl, Lib.hid HN.out.symm, Lib.hid (fun q hq => by omega), H, Lib.hid ⟨rfl, rfl, rfl, Nat.le_refl _, fun _ _ _ => rfl⟩⟩
  case round =>
    obtain ⟨j, ys, hj, rfl, rfl, HL, HY, HS, HC⟩ := hrel
    by_cases hlt : j < n
    · have hlt' : (j : Int) < (n : Int) := by omega
      obtain ⟨a', cap', e, q1, q2, q3⟩ := HS.out
      injection e with e1 e2 e3
      subst e1
      obtain ⟨g, p, rfl, hg0, hg1, ht⟩ := q3 j (by omega)
      clear q1 q2 q3 e2 e3
      generalize ys.getD j iz = x at ht
      have HT := Lib.hid ht
      have HG := Lib.hid (And.intro hg0 hg1)
      have hc0 := ht.at3.c0
      have hf0 := ht.fr 0 (by omega)
      rw [Nat.add_zero] at hf0
      clear hg0 hg1 ht
      go_wp2_with fail
      have z1 : ((k0 : Int) + 3 * (j : Int) + 1) = ((k0 + 1 + 3 * j : Nat) : Int) := by omega
      obtain ⟨wa, hwa⟩ : ∃ wa, wa = wr.setCell ⟨g, p + j * 3, none⟩ (.int .i64 ((k0 : Int) + 3 * (j : Int))) := ⟨_, rfl⟩
      have TA : Hid (TriW wa g (p + j * 3) ⟨(k0 : Int) + 3 * (j : Int), x.g, x.r⟩) := Lib.hid (by rw [hwa]; exact HT.out.set0 _)
      have SA : Hid (IsW wa B0 B1 (.slice (some ⟨g, p, none⟩) n cap) (ys.set j ⟨(k0 : Int) + 3 * (j : Int), x.g, x.r⟩)) := Lib.hid (HS.out.upd rfl hlt TA.out (fun i y hi hy => by rw [hwa]; exact hy.off (by omega) _))
      have CA : Hid (Chg B0 B1 w wa) := Lib.hid (by rw [hwa]; exact chg_set HC.out HG.out.1 HG.out.2)
      rw [z1, ← hwa]
      clear hwa
      refine (markText_any wa (k0 + 1 + 3 * j) (by omega) (by omega)).mono ?_
      rintro e wb ⟨rfl, hbb⟩
      have TB := Lib.hid (TA.out.block (hbb.block g TA.out.at3.lt))
      have SB := Lib.hid (SA.out.below hbb (Nat.le_trans HB.out CA.out.size))
      have CB := Lib.hid (chg_below CA.out hbb)
      have hc1 := TB.out.at3.c1
      have hf1 := TB.out.fr 1 (by omega)
      have hc2 := TB.out.at3.c2
      have hf2 := TB.out.fr 2 (by omega)
      clear hbb TA SA CA
      go_wp2_with fail
      have z2 : ((k0 : Int) + 1 + 3 * (j : Int) + 1) = ((k0 + 2 + 3 * j : Nat) : Int) := by omega
      obtain ⟨wc, hwc⟩ : ∃ wc, wc = wb.setCell ⟨g, p + j * 3 + 1, none⟩ (.string ⟨(mtext (k0 + 1 + 3 * j)).toArray⟩) := ⟨_, rfl⟩
      have TC : Hid (TriW wc g (p + j * 3) ⟨(k0 : Int) + 3 * (j : Int), mtext (k0 + 1 + 3 * j), x.r⟩) := Lib.hid (by rw [hwc]; exact TB.out.set1 _)
      have SC : Hid (IsW wc B0 B1 (.slice (some ⟨g, p, none⟩) n cap) ((ys.set j ⟨(k0 : Int) + 3 * (j : Int), x.g, x.r⟩).set j ⟨(k0 : Int) + 3 * (j : Int), mtext (k0 + 1 + 3 * j), x.r⟩)) := Lib.hid (SB.out.upd rfl hlt TC.out (fun i y hi hy => by rw [hwc]; exact hy.off (by omega) _))
      have CC : Hid (Chg B0 B1 w wc) := Lib.hid (by rw [hwc]; exact chg_set CB.out HG.out.1 HG.out.2)
      rw [← hwc]
      clear hwc
      have TD := Lib.hid (TC.out.set2 ((k0 : Int) + 1 + 3 * (j : Int) + 1))
      have SD := Lib.hid (SC.out.upd rfl hlt TD.out (fun i y hi hy => hy.off (by omega) _))
      have CD := Lib.hid (chg_set (v := .int .i64 ((k0 : Int) + 1 + 3 * (j : Int) + 1)) CC.out HG.out.1 HG.out.2 (p := p + j * 3 + 2))
      have e1 : (⟨(k0 : Int) + 3 * (j : Int), mtext (k0 + 1 + 3 * j), (k0 : Int) + 1 + 3 * (j : Int) + 1⟩ : IV) = mkIG k0 j := by unfold mkIG; congr 1 <;> omega
      dsimp only at SD
      rw [List.set_set, List.set_set, e1] at SD
      refine ⟨⟨j + 1, ys.set j (mkIG k0 j), by omega, by go_num, by congr 1; omega, Lib.hid (by rw [List.length_set]; exact HL.out), Lib.hid (fun q hq => ?_), SD, CD⟩, by simp [intOf]; omega⟩
      rw [set_getD_iv (by rw [HL.out]; exact hlt)]
      by_cases hqj : q = j
      · rw [if_pos hqj, hqj]
      · rw [if_neg hqj]; exact HY.out q (by omega)
    · go_wp2
      go_ret
      have e : j = n := by omega
      subst e
      have hys : ys = mkIsG k0 j := iv_list_ext (by rw [mkIsG_len, HL.out]) (fun i hi => by rw [HL.out] at hi; rw [HY.out i hi, mkIsG_get hi])
      rw [← hys]
      exact ⟨rfl, HS.out, HC.out⟩
set_option maxHeartbeats 1000000 in
theorem heldInfoG_any (k0 : Nat) (hk0 : 1 ≤ k0) (w : World) (a : Option Addr) (n cap : Nat) (h : Is w (.slice a n cap) (mkIsG k0 n)) (hn : k0 + 3 * n ≤ 3200000) :
    Calls Try.prog 30 #[.slice a n cap, .int .i64 k0] w fun e w' => e = .returned (.int .i64 ((k0 + 3 * n : Nat) : Int)) ∧ Below w.heap.size w w' := by
  have H := Lib.hid h
  clear h
  go_enter Try.func30, Try.ntmps30
  go_wp2
  go_loopw [1, 5] (fun l i wr => ∃ (j : Nat), j ≤ n ∧ i = .int .i64 j ∧ l = .int .i64 ((k0 + 3 * j : Nat) : Int) ∧ Hid (Below w.heap.size w wr)) (fun _ i _ => n - (intOf i).toNat)
  case atStart => exact ⟨0, Nat.zero_le _, rfl, rfl, Lib.hid (Below.refl _ _)⟩
  case round =>
    obtain ⟨j, hj, rfl, rfl, HB⟩ := hrel
    by_cases hlt : j < n
    · have hlt' : (j : Int) < (n : Int) := by omega
      have hcell : ∃ g p, a = some ⟨g, p, none⟩ ∧ Tri wr g (p + j * 3) (mkIG k0 j) := by
        obtain ⟨a', cap', e, q1, q2, q3⟩ := H.out.below HB.out
        injection e with e1 e2 e3
        subst e1
        obtain ⟨g', p', e, h1⟩ := q3 j (by rw [mkIsG_len]; exact hlt)
        rw [mkIsG_get hlt] at h1
        exact ⟨_, _, e, h1⟩
      obtain ⟨g, p, rfl, hc⟩ := hcell
      have HT := Lib.hid hc
      have HMK := Lib.hid (fun w => markText_any w (k0 + 1 + 3 * j) (by omega) (by omega))
      obtain ⟨h0, h1, h2⟩ := hc
      simp only [mkIG] at h0 h1 h2
      have HC := Lib.hid (show wr.cell? ⟨g, p + j * 3 + 1, none⟩ = some (.string ⟨(mtext (k0 + 1 + 3 * j)).toArray⟩) from h1)
      obtain ⟨M, hM⟩ : ∃ M, M = mtext (k0 + 1 + 3 * j) := ⟨_, rfl⟩
      rw [← hM] at HMK h1 HC
      clear hM
      have HCL := Lib.hid (cell_lt h1)
      clear h1 h2
      go_wp2_with fail
      have z1 : ((k0 : Int) + 3 * (j : Int) + 1) = ((k0 + 1 + 3 * j : Nat) : Int) := by omega
      rw [z1]
      refine wp_region_held_drew (S := fun w' => w'.cell? ⟨g, p + j * 3 + 1, none⟩ = some (.string ⟨M.toArray⟩)) (by kernel_rfl) HC.out (fun hHeld => ?_)
      refine wpAnyH_take (i := 0) (oi := { dst := some 21, op := .move (.tmp 0), type := _, pos := _, after := _, guard := none }) (v := .slice (some ⟨g, p, none⟩) n cap) rfl (by kernel_rfl) (by kernel_rfl) (by kernel_rfl) (fun _ _ _ h => h) (Or.inl ⟨by rfl, fun wh hSw => ?_⟩) hHeld ?_
      · (dsimp only at hSw; go_simp)
      try simp only [Act.put, List.setIfInBounds_toArray, List.set_cons_zero, List.set_cons_succ]
      refine wpAnyH_take (i := 1) (oi := { dst := some 22, op := .move (.tmp 5), type := _, pos := _, after := _, guard := none }) (v := .int .i64 (j : Int)) rfl (by kernel_rfl) (by kernel_rfl) (by kernel_rfl) (fun _ _ _ h => h) (Or.inl ⟨by rfl, fun wh hSw => ?_⟩) hHeld ?_
      · (dsimp only at hSw; go_simp)
      try simp only [Act.put, List.setIfInBounds_toArray, List.set_cons_zero, List.set_cons_succ]
      refine wpAnyH_take (i := 2) (oi := { dst := some 23, op := .indexAddr 25 (.tmp 21) (.tmp 22), type := _, pos := _, after := _, guard := none }) (v := .pointer (some ⟨g, p + j * 3, none⟩)) rfl (by kernel_rfl) (by kernel_rfl) (by kernel_rfl) (fun _ _ _ h => h) (Or.inl ⟨by rfl, fun wh hSw => ?_⟩) hHeld ?_
      · (dsimp only at hSw; go_simp)
      try simp only [Act.put, List.setIfInBounds_toArray, List.set_cons_zero, List.set_cons_succ]
      refine wpAnyH_take (i := 3) (oi := { dst := some 24, op := .fieldAddr 57 (.tmp 23) 1, type := _, pos := _, after := _, guard := none }) (v := .pointer (some ⟨g, p + j * 3 + 1, none⟩)) rfl (by kernel_rfl) (by kernel_rfl) (by kernel_rfl) (fun _ _ _ h => h) (Or.inl ⟨by rfl, fun wh hSw => ?_⟩) hHeld ?_
      · (dsimp only at hSw; go_simp)
      try simp only [Act.put, List.setIfInBounds_toArray, List.set_cons_zero, List.set_cons_succ]
      refine wpAnyH_take (i := 4) (oi := { dst := some 25, op := .load 9 (.tmp 24), type := _, pos := _, after := _, guard := none }) (v := .string ⟨M.toArray⟩) rfl (by kernel_rfl) (by kernel_rfl) (by kernel_rfl) (fun _ _ _ h => h) (Or.inl ⟨by rfl, fun wh hSw => ?_⟩) hHeld ?_
      · (dsimp only at hSw; go_simp)
      try simp only [Act.put, List.setIfInBounds_toArray, List.set_cons_zero, List.set_cons_succ]
      refine wpAnyH_take (i := 5) (oi := { dst := some 26, op := .move (.tmp 1), type := _, pos := _, after := _, guard := none }) (v := .int .i64 ((k0 + 1 + 3 * j : Nat) : Int)) rfl (by kernel_rfl) (by kernel_rfl) (by kernel_rfl) (fun _ _ _ h => h) (Or.inl ⟨by rfl, fun wh hSw => ?_⟩) hHeld ?_
      · (dsimp only at hSw; go_simp)
      try simp only [Act.put, List.setIfInBounds_toArray, List.set_cons_zero, List.set_cons_succ]
      refine wpAnyH_ready (rs := [6]) (by kernel_rfl) (by simp) ?_
      refine AllReadyH.cons (o := { dst := some 27, op := .call { callee := .value (.func 43), args := #[.tmp 26], argTypes := #[3] }, type := _, pos := _, after := _, guard := none }) rfl (fun K hK => ?_) AllReadyH.nil
      go_simp
      refine (HMK.out _).mono ?_
      rintro e w1 ⟨rfl, hb1⟩
      replace hb1 : Below wr.heap.size wr w1 := ⟨hb1.os, hb1.tape, hb1.output, hb1.size, hb1.block⟩
      have HBW := Lib.hid hb1
      have HB1 := Lib.hid (HB.out.trans (hb1.mono HB.out.size))
      refine hK.out _ _ ?_ (fun hHeld => ?_)
      · exact (hb1.cell (p := ⟨g, p + j * 3 + 1, none⟩) HCL.out).trans HC.out
      clear hK K
      try simp only [Act.put, List.setIfInBounds_toArray, List.set_cons_zero, List.set_cons_succ]
      refine wpAnyH_take (i := 7) (oi := { dst := some 28, op := .binOp .neq 9 (.tmp 25) (.tmp 27) 9, type := _, pos := _, after := _, guard := none }) (v := .bool false) rfl (by kernel_rfl) (by kernel_rfl) (by kernel_rfl) (fun _ _ _ h => h) (Or.inl ⟨by rfl, fun wh hSw => ?_⟩) hHeld ?_
      · (dsimp only at hSw; go_simp)
      try simp only [Act.put, List.setIfInBounds_toArray, List.set_cons_zero, List.set_cons_succ]
      refine wpAnyH_done (by kernel_rfl) ?_ _
      clear hb1
      obtain ⟨k0, k1, k2⟩ := HT.out.below (w' := w1) (B := wr.heap.size) HBW.out HT.out.lt
      simp only [mkIG] at k0 k1 k2
      clear k0 k1
      go_wp2
      go_roundw
      case rel => exact ⟨j + 1, by omega, by go_num, by congr 1; omega, HB1⟩
      case measure => simp [intOf]; omega
    · go_wp2
      go_ret
      have e : j = n := by omega
      subst e
      exact ⟨rfl, HB.out⟩
theorem markStringG_any (k0 : Nat) (hk0 : 1 ≤ k0) (w : World) (B0 B1 : Nat) (a : Option Addr) (n cap : Nat) (xs : List Bs) (h : StrsW w B0 B1 (.slice a n cap) xs) (hB : B1 ≤ w.heap.size) (hN : n = xs.length) (hn : k0 + n ≤ 3200000) :
    Calls Try.prog 24 #[.slice a n cap, .int .i64 k0] w fun e w' => e = .returned (.int .i64 ((k0 + n : Nat) : Int)) ∧ StrsW w' B0 B1 (.slice a n cap) (mkSG k0 n) ∧ Chg B0 B1 w w' := by
  have H := Lib.hid h
  have HN := Lib.hid hN
  have HB := Lib.hid hB
  clear h hN hB
  go_enter Try.func24, Try.ntmps24
  go_wp2
  go_loopw [1, 5] (fun l i wr => ∃ (j : Nat) (ys : List Bs), j ≤ n ∧ i = .int .i64 j ∧ l = .int .i64 ((k0 + j : Nat) : Int) ∧ Hid (ys.length = n) ∧ Hid (∀ q, q < j → ys.getD q [] = mtext (k0 + q)) ∧ Hid (StrsW wr B0 B1 (.slice a n cap) ys) ∧ Hid (Chg B0 B1 w wr)) (fun _ i _ => n - (intOf i).toNat)
  case atStart => exact ⟨0, xs, Nat.zero_le _, rfl, rfl, Lib.hid HN.out.symm, Lib.hid (fun q hq => by omega), H, Lib.hid ⟨rfl, rfl, rfl, Nat.le_refl _, fun _ _ _ => rfl⟩⟩
  case round =>
    obtain ⟨j, ys, hj, rfl, rfl, HL, HY, HS, HC⟩ := hrel
    by_cases hlt : j < n
    · have hlt' : (j : Int) < (n : Int) := by omega
      have hs0 := HS.out
      obtain ⟨a', cap', e, q1, q2, q3⟩ := hs0
      injection e with e1 e2 e3
      subst e1
      obtain ⟨g, p, rfl, hg0, hg1, -, -⟩ := q3 j (by omega)
      clear q1 q2 q3 e2 e3
      have HG := Lib.hid (And.intro hg0 hg1)
      clear hg0 hg1
      go_wp2_with fail
      refine (markText_any wr (k0 + j) (by omega) (by omega)).mono ?_
      rintro e w1 ⟨rfl, hb1⟩
      have HS1 := Lib.hid (HS.out.below hb1 (Nat.le_trans HB.out HC.out.size))
      have HC1 := Lib.hid (chg_below HC.out hb1)
      clear hb1
      have hcell : ∃ u, w1.cell? ⟨g, p + j, none⟩ = some u ∧ w1.frozen? ⟨g, p + j, none⟩ = false := by
        obtain ⟨a', cap', e, q1, q2, q3⟩ := HS1.out
        injection e with e1 e2 e3
        subst e1
        obtain ⟨g', p', e, _, _, h1, h2⟩ := q3 j (by omega)
        cases e
        exact ⟨_, h1, h2⟩
      obtain ⟨u, hc, hf⟩ := hcell
      go_wp2
      go_roundw
      case rel =>
        refine ⟨j + 1, ys.set j (mtext (k0 + j)), by omega, by go_num, by go_num, Lib.hid (by rw [List.length_set]; exact HL.out), Lib.hid (fun q hq => ?_), Lib.hid (HS1.out.put rfl hlt _), Lib.hid (chg_set HC1.out HG.out.1 HG.out.2)⟩
        rw [set_getD (by rw [HL.out]; exact hlt)]
        by_cases hqj : q = j
        · rw [if_pos hqj, hqj]
        · rw [if_neg hqj]; exact HY.out q (by omega)
      case measure => simp [intOf]; omega
    · go_wp2
      go_ret
      have e : j = n := by omega
      subst e
      have hys : ys = mkSG k0 j := list_ext_getD (by rw [mkSG_len, HL.out]) (fun i hi => by rw [HL.out] at hi; rw [HY.out i hi, mkSG_get hi])
      rw [← hys]
      exact ⟨rfl, HS.out, HC.out⟩
theorem heldStringG_any (k0 : Nat) (hk0 : 1 ≤ k0) (w : World) (a : Option Addr) (n cap : Nat) (h : Strs w (.slice a n cap) (mkSG k0 n)) (hn : k0 + n ≤ 3200000) :
    Calls Try.prog 46 #[.slice a n cap, .int .i64 k0] w fun e w' => e = .returned (.int .i64 ((k0 + n : Nat) : Int)) ∧ Below w.heap.size w w' := by
  have H := Lib.hid h
  clear h
  go_enter Try.func46, Try.ntmps46
  go_wp2
  go_loopw [1, 5] (fun l i wr => ∃ (j : Nat), j ≤ n ∧ i = .int .i64 j ∧ l = .int .i64 ((k0 + j : Nat) : Int) ∧ Hid (Below w.heap.size w wr)) (fun _ i _ => n - (intOf i).toNat)
  case atStart => exact ⟨0, Nat.zero_le _, rfl, rfl, Lib.hid (Below.refl _ _)⟩
  case round =>
    obtain ⟨j, hj, rfl, rfl, HB⟩ := hrel
    by_cases hlt : j < n
    · have hlt' : (j : Int) < (n : Int) := by omega
      have hcell : ∃ g p, a = some ⟨g, p, none⟩ ∧ wr.cell? ⟨g, p + j, none⟩ = some (.string ⟨(mtext (k0 + j)).toArray⟩) := by
        obtain ⟨a', cap', e, q1, q2, q3⟩ := H.out.below HB.out
        injection e with e1 e2 e3
        subst e1
        obtain ⟨g', p', e, h1⟩ := q3 j (by rw [mkSG_len]; exact hlt)
        rw [mkSG_get hlt] at h1
        exact ⟨_, _, e, h1⟩
      obtain ⟨g, p, rfl, hc⟩ := hcell
      have HMK := Lib.hid (fun w => markText_any w (k0 + j) (by omega) (by omega))
      obtain ⟨M, hM⟩ : ∃ M, M = mtext (k0 + j) := ⟨_, rfl⟩
      rw [← hM] at HMK hc
      clear hM
      have HCL := Lib.hid (cell_lt hc)
      have HC := Lib.hid hc
      clear hc
      go_wp2_with fail
      refine wp_region_held_drew (S := fun w' => w'.cell? ⟨g, p + j, none⟩ = some (.string ⟨M.toArray⟩)) (by kernel_rfl) HC.out (fun hHeld => ?_)
      refine wpAnyH_take (i := 0) (oi := { dst := some 12, op := .move (.tmp 0), type := _, pos := _, after := _, guard := none }) (v := .slice (some ⟨g, p, none⟩) n cap) rfl (by kernel_rfl) (by kernel_rfl) (by kernel_rfl) (fun _ _ _ h => h) (Or.inl ⟨by rfl, fun wh hSw => ?_⟩) hHeld ?_
      · (dsimp only at hSw; go_simp)
      try simp only [Act.put, List.setIfInBounds_toArray, List.set_cons_zero, List.set_cons_succ]
      refine wpAnyH_take (i := 1) (oi := { dst := some 13, op := .move (.tmp 5), type := _, pos := _, after := _, guard := none }) (v := .int .i64 (j : Int)) rfl (by kernel_rfl) (by kernel_rfl) (by kernel_rfl) (fun _ _ _ h => h) (Or.inl ⟨by rfl, fun wh hSw => ?_⟩) hHeld ?_
      · (dsimp only at hSw; go_simp)
      try simp only [Act.put, List.setIfInBounds_toArray, List.set_cons_zero, List.set_cons_succ]
      refine wpAnyH_take (i := 2) (oi := { dst := some 14, op := .indexAddr 38 (.tmp 12) (.tmp 13), type := _, pos := _, after := _, guard := none }) (v := .pointer (some ⟨g, p + j, none⟩)) rfl (by kernel_rfl) (by kernel_rfl) (by kernel_rfl) (fun _ _ _ h => h) (Or.inl ⟨by rfl, fun wh hSw => ?_⟩) hHeld ?_
      · (dsimp only at hSw; go_simp)
      try simp only [Act.put, List.setIfInBounds_toArray, List.set_cons_zero, List.set_cons_succ]
      refine wpAnyH_take (i := 3) (oi := { dst := some 15, op := .load 9 (.tmp 14), type := _, pos := _, after := _, guard := none }) (v := .string ⟨M.toArray⟩) rfl (by kernel_rfl) (by kernel_rfl) (by kernel_rfl) (fun _ _ _ h => h) (Or.inl ⟨by rfl, fun wh hSw => ?_⟩) hHeld ?_
      · (dsimp only at hSw; go_simp)
      try simp only [Act.put, List.setIfInBounds_toArray, List.set_cons_zero, List.set_cons_succ]
      refine wpAnyH_take (i := 4) (oi := { dst := some 16, op := .move (.tmp 1), type := _, pos := _, after := _, guard := none }) (v := .int .i64 ((k0 + j : Nat) : Int)) rfl (by kernel_rfl) (by kernel_rfl) (by kernel_rfl) (fun _ _ _ h => h) (Or.inl ⟨by rfl, fun wh hSw => ?_⟩) hHeld ?_
      · (dsimp only at hSw; go_simp)
      try simp only [Act.put, List.setIfInBounds_toArray, List.set_cons_zero, List.set_cons_succ]
      refine wpAnyH_ready (rs := [5]) (by kernel_rfl) (by simp) ?_
      refine AllReadyH.cons (o := { dst := some 17, op := .call { callee := .value (.func 43), args := #[.tmp 16], argTypes := #[3] }, type := _, pos := _, after := _, guard := none }) rfl (fun K hK => ?_) AllReadyH.nil
      go_simp
      refine (HMK.out _).mono ?_
      rintro e w1 ⟨rfl, hb1⟩
      replace hb1 : Below wr.heap.size wr w1 := ⟨hb1.os, hb1.tape, hb1.output, hb1.size, hb1.block⟩
      have HB1 := Lib.hid (HB.out.trans (hb1.mono HB.out.size))
      refine hK.out _ _ ?_ (fun hHeld => ?_)
      · exact (hb1.cell (p := ⟨g, p + j, none⟩) HCL.out).trans HC.out
      clear hK K
      try simp only [Act.put, List.setIfInBounds_toArray, List.set_cons_zero, List.set_cons_succ]
      refine wpAnyH_take (i := 6) (oi := { dst := some 18, op := .binOp .neq 9 (.tmp 15) (.tmp 17) 9, type := _, pos := _, after := _, guard := none }) (v := .bool false) rfl (by kernel_rfl) (by kernel_rfl) (by kernel_rfl) (fun _ _ _ h => h) (Or.inl ⟨by rfl, fun wh hSw => ?_⟩) hHeld ?_
      · (dsimp only at hSw; go_simp)
      try simp only [Act.put, List.setIfInBounds_toArray, List.set_cons_zero, List.set_cons_succ]
      refine wpAnyH_done (by kernel_rfl) ?_ _
      clear hb1
      go_wp2
      go_roundw
      case rel => exact ⟨j + 1, by omega, by go_num, by go_num, HB1⟩
      case measure => simp [intOf]; omega
    · go_wp2
      go_ret
      have e : j = n := by omega
      subst e
      exact ⟨rfl, HB.out⟩
set_option maxRecDepth 100000 in
set_option maxHeartbeats 1000000 in
theorem heldCachedG_any (k0 : Nat) (hk0 : k0 ≤ 3200000) (w : World) (v : Value) (n : Nat) (h : Cs w v (mkCG k0 n)) (hn : n ≤ 1048580) :
    Calls Try.prog 32 #[v, .int .i64 k0] w fun e w' => e = .returned (.int .i64 ((k0 : Int) + 4 * (n : Int))) ∧ w = w' := by
  obtain ⟨a, ca, rfl, hla, hma, hxa⟩ := h
  unfold maxLen at hma
  rw [mkCG_len] at hla hxa ⊢
  have HXA := Lib.hid hxa
  clear hxa
  go_enter Try.func32, Try.ntmps32
  go_wp2
  go_loopw [1, 5] (fun q i wr => ∃ k : Nat, k ≤ n ∧ i = .int .i64 k ∧ q = .int .i64 ((k0 : Int) + 4 * (k : Int)) ∧ wr = w) (fun _ i _ => n - (intOf i).toNat)
  case atStart => exact ⟨0, Nat.zero_le _, rfl, rfl, rfl⟩
  case round =>
    obtain ⟨k, hk, rfl, rfl, rfl⟩ := hrel
    by_cases hlt : k < n
    · obtain ⟨g, p, rfl, hf⟩ := HXA.out k hlt
      rw [mkCG_get hlt] at hf
      obtain ⟨g0, g1, g2, g3⟩ := hf
      have hlt' : (k : Int) < (n : Int) := by omega
      have z1 : ((k0 : Int) + 4 * (k : Int) + 1) = (k0 : Int) + 1 + 4 * (k : Int) := by omega
      have z2 : ((k0 : Int) + 1 + 4 * (k : Int) + 1) = (k0 : Int) + 2 + 4 * (k : Int) := by omega
      have z3 : ((k0 : Int) + 2 + 4 * (k : Int) + 1) = (k0 : Int) + 3 + 4 * (k : Int) := by omega
      simp only [mkEG] at g0 g1 g2 g3
      have z4 : (!decide (((k0 : Int) + 3 + 4 * (k : Int)) % 3 = 0) == (((k0 : Int) + 3 + 4 * (k : Int)) % 3 == 0)) = false := by
        have e : (((k0 : Int) + 3 + 4 * (k : Int)) % 3 == 0) = decide (((k0 : Int) + 3 + 4 * (k : Int)) % 3 = 0) := rfl
        rw [e]; simp
      go_wp2_with fail
      exact ⟨⟨k + 1, by omega, by go_num, by congr 1; omega, trivial⟩, by simp [intOf]; omega⟩
    · have ek : k = n := by omega
      subst ek
      go_wp2
      go_ret
      exact ⟨rfl, rfl⟩
def mixEG (k0 : Nat) (xs : List CV) (k i : Nat) : CV := if i < k then mkEG k0 i else xs.getD i c0
end Go.Proofs.Ythfdkenidfnmgaa
