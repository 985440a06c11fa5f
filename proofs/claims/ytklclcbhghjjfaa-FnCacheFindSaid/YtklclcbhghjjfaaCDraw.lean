/- What the draws of translations give, whatever the code; nothing that was there before the call changes. -/
import Derived.Test.YtklclcbhghjjfaaDraws
import Derived.Test.YtklclcbhghjjfaaCTo
import Derived.Test.YtklclcbhghjjfaaCTop
import Derived.Test.YtklclcbhghjjfaaCMark
namespace Go.Proofs.Ytklclcbhghjjfaa
open Go.ChangeShapes Go.WideShapes Go.ChangeAt Go.RowKit
set_option linter.unusedVariables false

theorem rdr_block {w0 w w' : World} {B k : Nat} (h : Rdr w0 w B k) (hg : w.grownBy w' none) : Rdr w0 w' B k := by
  have hlt := rdr_lt h
  obtain ⟨a, len, cap, zs, p, hr, hp, hh, hb, hB⟩ := h
  exact ⟨a, len, cap, zs, p, hr, hp, (hg.block B hlt (by simp)).trans hh, hb.grown hg hb.size (fun _ e => by cases e), hB⟩
theorem rdr_other {w0 w : World} {B k X o : Nat} {v : Value} (h : Rdr w0 w B k) (hX : X ≠ B) (hX0 : w0.heap.size ≤ X) : Rdr w0 (w.setCell ⟨X, o, none⟩ v) B k := by
  obtain ⟨a, len, cap, zs, p, hr, hp, hh, hb, hB⟩ := h
  exact ⟨a, len, cap, zs, p, hr, hp, (Below.heap_setCell _ _ _ B (fun e => hX e.symm)).trans hh, hb.setCell hX0 _, hB⟩
theorem grown_set {w w' : World} {B X o : Nat} {v : Value} (h : w.grownBy w' (some B)) (hX : w.heap.size ≤ X) : w.grownBy (w'.setCell ⟨X, o, none⟩ v) (some B) :=
  ⟨h.os, h.tape, h.output, by have := h.size; simpa using this, fun i hi hne => (Below.heap_setCell _ _ _ i (by simp; omega)).trans (h.block i hi hne)⟩
theorem cell_set_same {w : World} {b o : Nat} {v u : Value} (h : w.cell? ⟨b, o, none⟩ = some u) : (w.setCell ⟨b, o, none⟩ v).cell? ⟨b, o, none⟩ = some v := World.cell?_setCell_same _ _ _ h
theorem cell_set_other {w : World} {b o b' o' : Nat} {v : Value} (h : b' ≠ b ∨ o' ≠ o) : (w.setCell ⟨b, o, none⟩ v).cell? ⟨b', o', none⟩ = w.cell? ⟨b', o', none⟩ := World.cell?_setCell_other _ _ _ _ (fun e => by injection e with e1 e2; rcases h with h | h <;> omega)
theorem frozen_set {w : World} {b o : Nat} {v : Value} {a : Addr} : (w.setCell ⟨b, o, none⟩ v).frozen? a = w.frozen? a := World.frozen?_setCell _ _ _ _
/-- a translation in block X that is being made; the result's place is block R -/
structure CSt (w0 : World) (B k : Nat) (w : World) (X : Nat) (x : CV) (w' : World) : Prop where
  rdr : Rdr w0 w' B k
  grow : w.grownBy w' (some B)
  x4 : FourW w' X 0 x
  res : w'.there w.heap.size 0 4
  X0 : w.heap.size < X
  X1 : X < w'.heap.size
  B0 : B < w.heap.size
  W0 : w0.heap.size ≤ w.heap.size
theorem CSt.picked {w0 w w1 w2 : World} {B k k' X : Nat} {x : CV} (h : CSt w0 B k w X x w1) (hR : Rdr w0 w2 B k') (hO : Only B w1 w2) : CSt w0 B k' w X x w2 :=
  ⟨hR, gtrans h.grow hO.grown, h.x4.block (hO.2.2.2.2 X (by have := h.X0; have := h.B0; omega)), there_blocks h.res (hO.2.2.2.2 _ (by have := h.B0; omega)), h.X0, by rw [hO.2.2.2.1]; exact h.X1, h.B0, h.W0⟩
theorem CSt.drewn {w0 w w1 w2 : World} {B k k' X : Nat} {x : CV} (h : CSt w0 B k w X x w1) (hR : Rdr w0 w2 B k') (hg : w1.grownBy w2 (some B)) : CSt w0 B k' w X x w2 :=
  ⟨hR, gtrans h.grow hg, h.x4.block (hg.block X h.X1 (by simp; have := h.X0; have := h.B0; omega)), there_blocks h.res (hg.block _ (by have := h.X1; have := h.X0; omega) (by simp; have := h.B0; omega)), h.X0, Nat.lt_of_lt_of_le h.X1 hg.size, h.B0, h.W0⟩
theorem four_set {w : World} {X : Nat} {x y : CV} {i : Nat} {v : Value} (h : FourW w X 0 x) (hi : i < 4) (hv : (cvC y)[i]? = some v) (hy : ∀ j, j ≠ i → (cvC y)[j]? = (cvC x)[j]?) : FourW (w.setCell ⟨X, i, none⟩ v) X 0 y := by
  have hr : w.rangeAt X 0 (cvC x) := fun j u hu => by
    have hj : j < 4 := (List.getElem?_eq_some_iff.1 hu).1
    obtain rfl | rfl | rfl | rfl : j = 0 ∨ j = 1 ∨ j = 2 ∨ j = 3 := by omega
    · cases hu; exact h.at4.c0
    · cases hu; exact h.at4.c1
    · cases hu; exact h.at4.c2
    · cases hu; exact h.at4.c3
  have hn : (w.setCell ⟨X, i, none⟩ v).rangeAt X 0 (cvC y) := fun j u hu => by
    have hj : j < 4 := (List.getElem?_eq_some_iff.1 hu).1
    rw [Nat.zero_add]
    by_cases e : j = i
    · subst e
      rw [hv] at hu
      injection hu with hu
      subst hu
      obtain ⟨u0, hu0⟩ : ∃ u0, (cvC x)[j]? = some u0 := ⟨_, List.getElem?_eq_getElem (by show j < 4; omega)⟩
      have := hr j u0 hu0
      rw [Nat.zero_add] at this
      exact cell_set_same this
    · rw [cell_set_other (.inr (by omega))]
      have := hr j u (by rw [← hy j e]; exact hu)
      rwa [Nat.zero_add] at this
  exact ⟨⟨hn 0 _ rfl, hn 1 _ rfl, hn 2 _ rfl, hn 3 _ rfl⟩, fun j hj => by rw [frozen_set]; exact h.fr j hj⟩
theorem CSt.set {w0 w w1 : World} {B k X : Nat} {x y : CV} {i : Nat} {v : Value} (h : CSt w0 B k w X x w1) (hi : i < 4) (hv : (cvC y)[i]? = some v) (hy : ∀ j, j ≠ i → (cvC y)[j]? = (cvC x)[j]?) : CSt w0 B k w X y (w1.setCell ⟨X, i, none⟩ v) :=
  ⟨rdr_other h.rdr (by have := h.X0; have := h.B0; omega) (by have := h.X0; have := h.W0; omega), grown_set h.grow (by have := h.X0; omega), four_set h.x4 hi hv hy,
    there_blocks h.res (Below.heap_setCell _ _ _ _ (by simp; have := h.X0; omega)), h.X0, by have := h.X1; simpa using this, h.B0, h.W0⟩
theorem CSt.start {w0 w w3 : World} {B k : Nat} {x : CV} {t : TypeId} (hR : Rdr w0 w3 B k) (hB : B < w.heap.size) (hW : w0.heap.size ≤ w.heap.size) (hg : w.grownBy w3 (some B)) (hr : w3.there w.heap.size 0 4) (hs : w.heap.size < w3.heap.size) :
    CSt w0 B k w w3.heap.size x (w3.alloc (.cells #[.int .i64 x.e, .int .i64 x.p, .int .i64 x.f, .bool x.b] t)) :=
  ⟨rdr_alloc hR _, gtrans hg (galloc _ _ _), ⟨⟨new_cell rfl, new_cell rfl, new_cell rfl, new_cell rfl⟩, fun j hj => frozen_of_row _ _ _ _ _ (heap_alloc_new w3 _)⟩,
    there_blocks hr (Below.heap_alloc _ _ _ hs), hs, by simp, hB, hW⟩

theorem CSt.final {w0 w w1 : World} {B k X : Nat} {x : CV} (h : CSt w0 B k w X x w1) (vs : List Value) : Rdr w0 (w1.setCells w.heap.size 0 vs) B k ∧ w.grownBy (w1.setCells w.heap.size 0 vs) (some B) := by
  have hB0 := h.B0
  have hW0 := h.W0
  refine ⟨?_, (os_setCells _ _ _ _).trans h.grow.os, (tape_setCells _ _ _ _).trans h.grow.tape, (output_setCells _ _ _ _).trans h.grow.output, by rw [size_setCells]; exact h.grow.size, fun i hi hne => (heap_setCells_other w1 _ _ _ _ _ (by omega)).trans (h.grow.block i hi hne)⟩
  obtain ⟨a, len, cap, zs, p, hr, hp, hh, hb, hB⟩ := h.rdr
  exact ⟨a, len, cap, zs, p, hr, hp, (heap_setCells_other w1 _ _ _ _ _ (by omega)).trans hh, Below.setCells (Below.refl _ _) _ hW0 _ _ _ hb, hB⟩
theorem cvBits (x : CV) : ((#[.int .i64 x.e, .int .i64 x.p, .int .i64 x.f, .bool x.b] : Array Value)).all (·.oneCell') = true := by simp [Value.oneCell']
theorem info_cv : (Try.prog.info? 25).map (·.size) = some 4 := by kernel_rfl
theorem results_one_mid {P : Program} {fn : Func} {p : Tmp} {ty : TypeId} (h : fn.results = #[.cell p ty]) (tmps : Array Value) (w : World) (b o : Nat) (cs : List Value) (d : TypeDesc)
    (hp : tmps.getD p undef = .pointer (some ⟨b, o, none⟩)) (hc : w.rangeAt b o cs) (hu : P.underlying ty = some d) (hd : d.isRow = true) (hi : (P.info? ty).map (·.size) = some cs.length) :
    (results fn tmps).run P w = .ok (.agg cs.toArray) w := by
  have hp' : tmps[p]?.getD undef = .pointer (some ⟨b, o, none⟩) := by simpa using hp
  simp [results, h, hp', asAddr, run_loadVar_mid w b o ty cs d hc hu hd hi]
/-- a translation has been drawn -/
def cvP (x : CV) : Prop := (-1 ≤ x.e ∧ x.e ≤ 3) ∧ (-1 ≤ x.p ∧ x.p ≤ 16) ∧ -1 ≤ x.f ∧ x.f ≤ 100
def DrewCV (w0 : World) (B k : Nat) (w : World) (e : Ending) (w' : World) : Prop := ∃ x : CV, cvP x ∧ e = .returned (cvV x) ∧ Rdr w0 w' B k ∧ w.grownBy w' (some B)
set_option maxRecDepth 100000 in
set_option maxHeartbeats 4000000 in
theorem cached_any (w0 w : World) (B k : Nat) (hR : Rdr w0 w B k) (hk : k ≤ 800000) :
    Calls Try.prog 36 #[.pointer (some ⟨B, 0, none⟩)] w (DrewCV w0 B (k + 7) w) := by
  have hlt := rdr_lt hR
  have hw0 := (rdr_below hR).size
  go_enter Try.func36, Try.ntmps36
  go_wp2_with fail
  refine (pick_any w0 _ B k _ (rdr_alloc hR _) (by omega) (by omega)).mono ?_
  rintro e w1 ⟨m1, h10, h11, rfl, hR1, hO1⟩
  go_wp2_with fail
  refine (pick_any w0 _ B _ _ hR1 (by omega) (by omega)).mono ?_
  rintro e w2 ⟨m2, h20, h21, rfl, hR2, hO2⟩
  go_wp2_with fail
  refine (pick_any w0 _ B _ _ hR2 (by omega) (by omega)).mono ?_
  rintro e w3 ⟨m3, h30, h31, rfl, hR3, hO3⟩
  have hs3 : w3.heap.size = w.heap.size + 1 := by rw [hO3.2.2.2.1, hO2.2.2.2.1, hO1.2.2.2.1]; simp
  have hg3 : w.grownBy w3 (some B) := gtrans (galloc w _ _) (gtrans hO1.grown (gtrans hO2.grown hO3.grown))
  have hr3 : w3.there w.heap.size 0 4 := by
    refine there_blocks (there_blocks (there_blocks (there_row (heap_alloc_new w _) (by simp)) (hO1.2.2.2.2 _ (by omega))) (hO2.2.2.2.2 _ (by omega))) (hO3.2.2.2.2 _ (by omega))
  have HS := Lib.hid (CSt.start (x := ⟨m1, m2, m3, false⟩) (t := 25) hR3 hlt hw0 hg3 hr3 (by omega))
  clear hR hR1 hO1 hR2 hO2 hR3 hO3 hg3 hr3 hs3
  go_wp2_with fail
  obtain ⟨X, hX⟩ : ∃ X, w3.heap.size = X := ⟨_, rfl⟩
  obtain ⟨wA, hA⟩ : ∃ wA, w3.alloc (.cells #[.int .i64 m1, .int .i64 m2, .int .i64 m3, .bool false] 25) = wA := ⟨_, rfl⟩
  simp only [hA, hX] at HS ⊢
  clear hA hX
  refine (pick_any w0 _ B _ _ HS.out.rdr (by omega) (by omega)).mono ?_
  rintro e w4 ⟨m4, h40, h41, rfl, hR4, hO4⟩
  have hS4 := HS.out.picked hR4 hO4
  obtain ⟨b, hb⟩ : ∃ b, b = (m4 == 0) := ⟨_, rfl⟩
  have HS5 := Lib.hid (hS4.set (y := ⟨m1, m2, m3, b⟩) (i := 3) (v := .bool b) (by omega) rfl (fun j hj => by
    obtain rfl | rfl | rfl | h4 : j = 0 ∨ j = 1 ∨ j = 2 ∨ 4 ≤ j := by omega
    · rfl
    · rfl
    · rfl
    · rw [List.getElem?_eq_none (by exact h4), List.getElem?_eq_none (by exact h4)]))
  have hc3 := hS4.x4.at4.c3
  have hf3 := hS4.x4.fr 3 (by omega)
  rw [Nat.zero_add] at hc3 hf3
  clear hS4 hR4 hO4 HS
  go_wp2_with fail
  rw [← hb]
  refine (pick_any w0 _ B _ _ HS5.out.rdr (by omega) (by omega)).mono ?_
  rintro e w5 ⟨m5, h50, h51, rfl, hR5, hO5⟩
  have HS6 := Lib.hid (HS5.out.picked hR5 hO5)
  clear hR5 hO5 HS5 hc3 hf3 hb
  by_cases hm0 : m5 = 0
  · subst hm0
    go_wp2_with fail
    refine (pick_any w0 _ B _ _ (rdr_alloc HS6.out.rdr _) (by omega) (by omega)).mono ?_
    rintro e w6 ⟨m6, h60, h61, rfl, hR6, hO6⟩
    have HS7 := Lib.hid (HS6.out.drewn hR6 (gtrans (galloc _ _ _) hO6.grown))
    have hBX := HS6.out.B0
    have hsz := Nat.le_of_lt (Nat.lt_trans HS6.out.X0 HS6.out.X1)
    have hc : ∀ o, w6.cell? ⟨w5.heap.size, o, none⟩ = (w5.alloc (.cells #[.int .i64 (-1), .int .i64 3] 3)).cell? ⟨w5.heap.size, o, none⟩ := fun o => hO6.cell (by omega)
    obtain ⟨y0, y1, y2, y3⟩ := HS7.out.x4.at4
    have yf := HS7.out.x4.fr 0 (by omega)
    simp only [Nat.zero_add] at y0 y1 y2 y3 yf
    have hmm : m6 = 0 ∨ m6 = 1 := by omega
    clear hR6 hO6 HS6
    rcases hmm with rfl | rfl
    · have hc0 : w6.cell? ⟨w5.heap.size, 0, none⟩ = some (.int .i64 (-1)) := (hc 0).trans (new_cell rfl)
      have HS8 := Lib.hid (HS7.out.set (y := ⟨(-1), m2, m3, b⟩) (i := 0) (v := .int .i64 (-1)) (by omega) rfl (fun j hj => by
        obtain rfl | rfl | rfl | rfl | h4 : j = 0 ∨ j = 1 ∨ j = 2 ∨ j = 3 ∨ 4 ≤ j := by omega
        all_goals first | rfl | (exact absurd rfl hj) | (rw [List.getElem?_eq_none (by exact h4), List.getElem?_eq_none (by exact h4)])))
      clear hc HS7
      go_wp2_with ((with_reducible refine store_is 25 (.tmp 2) (.tmp 38) ?_); refine store_arr 25 (.tmp 2) (.tmp 38) w.heap.size 0 #[.int .i64 (-1), .int .i64 m2, .int .i64 m3, .bool b] rfl rfl HS8.out.res info_cv (cvBits ⟨(-1), m2, m3, b⟩) ?_)
      try simp only [Act.put]
      refine bodyPost_ret (results_one_mid rfl _ _ w.heap.size 0 [.int .i64 (-1), .int .i64 m2, .int .i64 m3, .bool b] _ rfl (World.rangeAt_setCells_same _ _ _ _ HS8.out.res) Try.underlying25 rfl (by kernel_rfl)) rfl ?_
      exact ⟨⟨(-1), m2, m3, b⟩, ⟨⟨by show -1 ≤ (-1); omega, by show (-1) ≤ 3; omega⟩, ⟨by show -1 ≤ m2; omega, by show m2 ≤ 16; omega⟩, by show -1 ≤ m3; omega, by show m3 ≤ 100; omega⟩, rfl, rdr_mono (HS8.out.final _).1 (by omega), (HS8.out.final _).2⟩
    · have hc0 : w6.cell? ⟨w5.heap.size, 1, none⟩ = some (.int .i64 (3)) := (hc 1).trans (new_cell rfl)
      have HS8 := Lib.hid (HS7.out.set (y := ⟨(3), m2, m3, b⟩) (i := 0) (v := .int .i64 (3)) (by omega) rfl (fun j hj => by
        obtain rfl | rfl | rfl | rfl | h4 : j = 0 ∨ j = 1 ∨ j = 2 ∨ j = 3 ∨ 4 ≤ j := by omega
        all_goals first | rfl | (exact absurd rfl hj) | (rw [List.getElem?_eq_none (by exact h4), List.getElem?_eq_none (by exact h4)])))
      clear hc HS7
      go_wp2_with ((with_reducible refine store_is 25 (.tmp 2) (.tmp 38) ?_); refine store_arr 25 (.tmp 2) (.tmp 38) w.heap.size 0 #[.int .i64 (3), .int .i64 m2, .int .i64 m3, .bool b] rfl rfl HS8.out.res info_cv (cvBits ⟨(3), m2, m3, b⟩) ?_)
      try simp only [Act.put]
      refine bodyPost_ret (results_one_mid rfl _ _ w.heap.size 0 [.int .i64 (3), .int .i64 m2, .int .i64 m3, .bool b] _ rfl (World.rangeAt_setCells_same _ _ _ _ HS8.out.res) Try.underlying25 rfl (by kernel_rfl)) rfl ?_
      exact ⟨⟨(3), m2, m3, b⟩, ⟨⟨by show -1 ≤ (3); omega, by show (3) ≤ 3; omega⟩, ⟨by show -1 ≤ m2; omega, by show m2 ≤ 16; omega⟩, by show -1 ≤ m3; omega, by show m3 ≤ 100; omega⟩, rfl, rdr_mono (HS8.out.final _).1 (by omega), (HS8.out.final _).2⟩
  have hn0 : (m5 == 0) = false := by simpa using hm0
  by_cases hm1 : m5 = 1
  · clear hn0 hm0
    subst hm1
    go_wp2_with fail
    refine (pick_any w0 _ B _ _ (rdr_alloc HS6.out.rdr _) (by omega) (by omega)).mono ?_
    rintro e w6 ⟨m6, h60, h61, rfl, hR6, hO6⟩
    have HS7 := Lib.hid (HS6.out.drewn hR6 (gtrans (galloc _ _ _) hO6.grown))
    have hBX := HS6.out.B0
    have hsz := Nat.le_of_lt (Nat.lt_trans HS6.out.X0 HS6.out.X1)
    have hc : ∀ o, w6.cell? ⟨w5.heap.size, o, none⟩ = (w5.alloc (.cells #[.int .i64 (-1), .int .i64 15, .int .i64 16] 3)).cell? ⟨w5.heap.size, o, none⟩ := fun o => hO6.cell (by omega)
    obtain ⟨y0, y1, y2, y3⟩ := HS7.out.x4.at4
    have yf := HS7.out.x4.fr 1 (by omega)
    simp only [Nat.zero_add] at y0 y1 y2 y3 yf
    have hmm : m6 = 0 ∨ m6 = 1 ∨ m6 = 2 := by omega
    clear hR6 hO6 HS6
    rcases hmm with rfl | rfl | rfl
    · have hc0 : w6.cell? ⟨w5.heap.size, 0, none⟩ = some (.int .i64 (-1)) := (hc 0).trans (new_cell rfl)
      have HS8 := Lib.hid (HS7.out.set (y := ⟨m1, (-1), m3, b⟩) (i := 1) (v := .int .i64 (-1)) (by omega) rfl (fun j hj => by
        obtain rfl | rfl | rfl | rfl | h4 : j = 0 ∨ j = 1 ∨ j = 2 ∨ j = 3 ∨ 4 ≤ j := by omega
        all_goals first | rfl | (exact absurd rfl hj) | (rw [List.getElem?_eq_none (by exact h4), List.getElem?_eq_none (by exact h4)])))
      clear hc HS7
      go_wp2_with ((with_reducible refine store_is 25 (.tmp 2) (.tmp 38) ?_); refine store_arr 25 (.tmp 2) (.tmp 38) w.heap.size 0 #[.int .i64 m1, .int .i64 (-1), .int .i64 m3, .bool b] rfl rfl HS8.out.res info_cv (cvBits ⟨m1, (-1), m3, b⟩) ?_)
      try simp only [Act.put]
      refine bodyPost_ret (results_one_mid rfl _ _ w.heap.size 0 [.int .i64 m1, .int .i64 (-1), .int .i64 m3, .bool b] _ rfl (World.rangeAt_setCells_same _ _ _ _ HS8.out.res) Try.underlying25 rfl (by kernel_rfl)) rfl ?_
      exact ⟨⟨m1, (-1), m3, b⟩, ⟨⟨by show -1 ≤ m1; omega, by show m1 ≤ 3; omega⟩, ⟨by show -1 ≤ (-1); omega, by show (-1) ≤ 16; omega⟩, by show -1 ≤ m3; omega, by show m3 ≤ 100; omega⟩, rfl, rdr_mono (HS8.out.final _).1 (by omega), (HS8.out.final _).2⟩
    · have hc0 : w6.cell? ⟨w5.heap.size, 1, none⟩ = some (.int .i64 (15)) := (hc 1).trans (new_cell rfl)
      have HS8 := Lib.hid (HS7.out.set (y := ⟨m1, (15), m3, b⟩) (i := 1) (v := .int .i64 (15)) (by omega) rfl (fun j hj => by
        obtain rfl | rfl | rfl | rfl | h4 : j = 0 ∨ j = 1 ∨ j = 2 ∨ j = 3 ∨ 4 ≤ j := by omega
        all_goals first | rfl | (exact absurd rfl hj) | (rw [List.getElem?_eq_none (by exact h4), List.getElem?_eq_none (by exact h4)])))
      clear hc HS7
      go_wp2_with ((with_reducible refine store_is 25 (.tmp 2) (.tmp 38) ?_); refine store_arr 25 (.tmp 2) (.tmp 38) w.heap.size 0 #[.int .i64 m1, .int .i64 (15), .int .i64 m3, .bool b] rfl rfl HS8.out.res info_cv (cvBits ⟨m1, (15), m3, b⟩) ?_)
      try simp only [Act.put]
      refine bodyPost_ret (results_one_mid rfl _ _ w.heap.size 0 [.int .i64 m1, .int .i64 (15), .int .i64 m3, .bool b] _ rfl (World.rangeAt_setCells_same _ _ _ _ HS8.out.res) Try.underlying25 rfl (by kernel_rfl)) rfl ?_
      exact ⟨⟨m1, (15), m3, b⟩, ⟨⟨by show -1 ≤ m1; omega, by show m1 ≤ 3; omega⟩, ⟨by show -1 ≤ (15); omega, by show (15) ≤ 16; omega⟩, by show -1 ≤ m3; omega, by show m3 ≤ 100; omega⟩, rfl, rdr_mono (HS8.out.final _).1 (by omega), (HS8.out.final _).2⟩
    · have hc0 : w6.cell? ⟨w5.heap.size, 2, none⟩ = some (.int .i64 (16)) := (hc 2).trans (new_cell rfl)
      have HS8 := Lib.hid (HS7.out.set (y := ⟨m1, (16), m3, b⟩) (i := 1) (v := .int .i64 (16)) (by omega) rfl (fun j hj => by
        obtain rfl | rfl | rfl | rfl | h4 : j = 0 ∨ j = 1 ∨ j = 2 ∨ j = 3 ∨ 4 ≤ j := by omega
        all_goals first | rfl | (exact absurd rfl hj) | (rw [List.getElem?_eq_none (by exact h4), List.getElem?_eq_none (by exact h4)])))
      clear hc HS7
      go_wp2_with ((with_reducible refine store_is 25 (.tmp 2) (.tmp 38) ?_); refine store_arr 25 (.tmp 2) (.tmp 38) w.heap.size 0 #[.int .i64 m1, .int .i64 (16), .int .i64 m3, .bool b] rfl rfl HS8.out.res info_cv (cvBits ⟨m1, (16), m3, b⟩) ?_)
      try simp only [Act.put]
      refine bodyPost_ret (results_one_mid rfl _ _ w.heap.size 0 [.int .i64 m1, .int .i64 (16), .int .i64 m3, .bool b] _ rfl (World.rangeAt_setCells_same _ _ _ _ HS8.out.res) Try.underlying25 rfl (by kernel_rfl)) rfl ?_
      exact ⟨⟨m1, (16), m3, b⟩, ⟨⟨by show -1 ≤ m1; omega, by show m1 ≤ 3; omega⟩, ⟨by show -1 ≤ (16); omega, by show (16) ≤ 16; omega⟩, by show -1 ≤ m3; omega, by show m3 ≤ 100; omega⟩, rfl, rdr_mono (HS8.out.final _).1 (by omega), (HS8.out.final _).2⟩
  have hn1 : (m5 == 1) = false := by simpa using hm1
  by_cases hm2 : m5 = 2
  · clear hn0 hm0 hn1 hm1
    subst hm2
    go_wp2_with fail
    refine (frame_any w0 _ B _ HS6.out.rdr (by omega)).mono ?_
    rintro e w6 ⟨f, hf, rfl, hR6, hg6⟩
    have HS7 := Lib.hid (HS6.out.drewn hR6 hg6)
    obtain ⟨y0, y1, y2, y3⟩ := HS7.out.x4.at4
    have yf := HS7.out.x4.fr 2 (by omega)
    simp only [Nat.zero_add] at y0 y1 y2 y3 yf
    have HS8 := Lib.hid (HS7.out.set (y := ⟨m1, m2, f, b⟩) (i := 2) (v := .int .i64 f) (by omega) rfl (fun j hj => by
      obtain rfl | rfl | rfl | rfl | h4 : j = 0 ∨ j = 1 ∨ j = 2 ∨ j = 3 ∨ 4 ≤ j := by omega
      all_goals first | rfl | (exact absurd rfl hj) | (rw [List.getElem?_eq_none (by exact h4), List.getElem?_eq_none (by exact h4)])))
    unfold frameP at hf
    clear hR6 hg6 HS6 HS7
    go_wp2_with ((with_reducible refine store_is 25 (.tmp 2) (.tmp 38) ?_); refine store_arr 25 (.tmp 2) (.tmp 38) w.heap.size 0 #[.int .i64 m1, .int .i64 m2, .int .i64 f, .bool b] rfl rfl HS8.out.res info_cv (cvBits ⟨m1, m2, f, b⟩) ?_)
    try simp only [Act.put]
    refine bodyPost_ret (results_one_mid rfl _ _ w.heap.size 0 [.int .i64 m1, .int .i64 m2, .int .i64 f, .bool b] _ rfl (World.rangeAt_setCells_same _ _ _ _ HS8.out.res) Try.underlying25 rfl (by kernel_rfl)) rfl ?_
    exact ⟨⟨m1, m2, f, b⟩, ⟨⟨by show -1 ≤ m1; omega, by show m1 ≤ 3; omega⟩, ⟨by show -1 ≤ m2; omega, by show m2 ≤ 16; omega⟩, by show -1 ≤ f; omega, by show f ≤ 100; omega⟩, rfl, rdr_mono (HS8.out.final _).1 (by omega), (HS8.out.final _).2⟩
  have hn2 : (m5 == 2) = false := by simpa using hm2
  obtain ⟨y0, y1, y2, y3⟩ := HS6.out.x4.at4
  simp only [Nat.zero_add] at y0 y1 y2 y3
  go_wp2_with ((with_reducible refine store_is 25 (.tmp 2) (.tmp 38) ?_); refine store_arr 25 (.tmp 2) (.tmp 38) w.heap.size 0 #[.int .i64 m1, .int .i64 m2, .int .i64 m3, .bool b] rfl rfl HS6.out.res info_cv (cvBits ⟨m1, m2, m3, b⟩) ?_)
  try simp only [Act.put]
  refine bodyPost_ret (results_one_mid rfl _ _ w.heap.size 0 [.int .i64 m1, .int .i64 m2, .int .i64 m3, .bool b] _ rfl (World.rangeAt_setCells_same _ _ _ _ HS6.out.res) Try.underlying25 rfl (by kernel_rfl)) rfl ?_
  exact ⟨⟨m1, m2, m3, b⟩, ⟨⟨by show -1 ≤ m1; omega, by show m1 ≤ 3; omega⟩, ⟨by show -1 ≤ m2; omega, by show m2 ≤ 16; omega⟩, by show -1 ≤ m3; omega, by show m3 ≤ 100; omega⟩, rfl, rdr_mono (HS6.out.final _).1 (by omega), (HS6.out.final _).2⟩
end Go.Proofs.Ytklclcbhghjjfaa
