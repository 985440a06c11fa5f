/- What the draws of what is known of frames give; nothing that was there before the call changes. -/
import Derived.Test.YtopnomklfkkjfaaRDraw
import Derived.Test.YtopnomklfkkjfaaISpec2
namespace Go.Proofs.Ytopnomklfkkjfaa
open Go.ChangeShapes Go.WideShapes Go.ChangeAt Go.RowKit
set_option linter.unusedVariables false

theorem os_setCells (b : Nat) : ∀ (vs : List Value) (o : Nat) (w : World), (w.setCells b o vs).os = w.os
  | [], _, _ => rfl
  | v :: r, o, w => by rw [World.setCells, os_setCells b r (o + 1)]; rfl
theorem tape_setCells (b : Nat) : ∀ (vs : List Value) (o : Nat) (w : World), (w.setCells b o vs).tape = w.tape
  | [], _, _ => rfl
  | v :: r, o, w => by rw [World.setCells, tape_setCells b r (o + 1)]; rfl
theorem output_setCells (b : Nat) : ∀ (vs : List Value) (o : Nat) (w : World), (w.setCells b o vs).output = w.output
  | [], _, _ => rfl
  | v :: r, o, w => by rw [World.setCells, output_setCells b r (o + 1)]; rfl
theorem rdr_block {w0 w w' : World} {B k : Nat} (h : Rdr w0 w B k) (hg : w.grownBy w' none) : Rdr w0 w' B k := by
  have hlt := rdr_lt h
  obtain ⟨a, len, cap, zs, p, hr, hp, hh, hb, hB⟩ := h
  exact ⟨a, len, cap, zs, p, hr, hp, (hg.block B hlt (by simp)).trans hh, hb.grown hg hb.size (fun _ e => by cases e), hB⟩
theorem rdr_other {w0 w : World} {B k X o : Nat} {v : Value} (h : Rdr w0 w B k) (hX : X ≠ B) (hX0 : w0.heap.size ≤ X) : Rdr w0 (w.setCell ⟨X, o, none⟩ v) B k := by
  obtain ⟨a, len, cap, zs, p, hr, hp, hh, hb, hB⟩ := h
  exact ⟨a, len, cap, zs, p, hr, hp, (Below.heap_setCell _ _ _ B (fun e => hX e.symm)).trans hh, hb.setCell hX0 _, hB⟩
theorem grown_set {w w' : World} {B X o : Nat} {v : Value} (h : w.grownBy w' (some B)) (hX : w.heap.size ≤ X) : w.grownBy (w'.setCell ⟨X, o, none⟩ v) (some B) :=
  ⟨h.os, h.tape, h.output, by have := h.size; simpa using this, fun i hi hne => (Below.heap_setCell _ _ _ i (by simp; omega)).trans (h.block i hi hne)⟩
/-- what is known of a frame, in block X, that is being made; the result's place is block R -/
structure ISt (w0 : World) (B k : Nat) (w : World) (X : Nat) (x : IV) (w' : World) : Prop where
  rdr : Rdr w0 w' B k
  grow : w.grownBy w' (some B)
  x3 : TriW w' X 0 x
  res : w'.there w.heap.size 0 3
  X0 : w.heap.size < X
  X1 : X < w'.heap.size
  B0 : B < w.heap.size
  W0 : w0.heap.size ≤ w.heap.size
theorem ISt.picked {w0 w w1 w2 : World} {B k k' X : Nat} {x : IV} (h : ISt w0 B k w X x w1) (hR : Rdr w0 w2 B k') (hO : Only B w1 w2) : ISt w0 B k' w X x w2 :=
  ⟨hR, gtrans h.grow hO.grown, h.x3.block (hO.2.2.2.2 X (by have := h.X0; have := h.B0; omega)), there_blocks h.res (hO.2.2.2.2 _ (by have := h.B0; omega)), h.X0, by rw [hO.2.2.2.1]; exact h.X1, h.B0, h.W0⟩
theorem ISt.drewn {w0 w w1 w2 : World} {B k k' X : Nat} {x : IV} (h : ISt w0 B k w X x w1) (hR : Rdr w0 w2 B k') (hg : w1.grownBy w2 (some B)) : ISt w0 B k' w X x w2 :=
  ⟨hR, gtrans h.grow hg, h.x3.block (hg.block X h.X1 (by simp; have := h.X0; have := h.B0; omega)), there_blocks h.res (hg.block _ (by have := h.X1; have := h.X0; omega) (by simp; have := h.B0; omega)), h.X0, Nat.lt_of_lt_of_le h.X1 hg.size, h.B0, h.W0⟩
theorem tri_set {w : World} {X : Nat} {x y : IV} {i : Nat} {v : Value} (h : TriW w X 0 x) (hi : i < 3) (hv : (ivC y)[i]? = some v) (hy : ∀ j, j ≠ i → (ivC y)[j]? = (ivC x)[j]?) : TriW (w.setCell ⟨X, i, none⟩ v) X 0 y := by
  have hr : w.rangeAt X 0 (ivC x) := fun j u hu => by
    have hj : j < 3 := (List.getElem?_eq_some_iff.1 hu).1
    obtain rfl | rfl | rfl : j = 0 ∨ j = 1 ∨ j = 2 := by omega
    · cases hu; exact h.at3.c0
    · cases hu; exact h.at3.c1
    · cases hu; exact h.at3.c2
  have hn : (w.setCell ⟨X, i, none⟩ v).rangeAt X 0 (ivC y) := fun j u hu => by
    have hj : j < 3 := (List.getElem?_eq_some_iff.1 hu).1
    rw [Nat.zero_add]
    by_cases e : j = i
    · subst e
      rw [hv] at hu
      injection hu with hu
      subst hu
      obtain ⟨u0, hu0⟩ : ∃ u0, (ivC x)[j]? = some u0 := ⟨_, List.getElem?_eq_getElem (by show j < 3; omega)⟩
      have := hr j u0 hu0
      rw [Nat.zero_add] at this
      exact cell_set_same this
    · rw [cell_set_other (.inr (by omega))]
      have := hr j u (by rw [← hy j e]; exact hu)
      rwa [Nat.zero_add] at this
  exact ⟨⟨hn 0 _ rfl, hn 1 _ rfl, hn 2 _ rfl⟩, fun j hj => by rw [frozen_set]; exact h.fr j hj⟩
theorem ISt.set {w0 w w1 : World} {B k X : Nat} {x y : IV} {i : Nat} {v : Value} (h : ISt w0 B k w X x w1) (hi : i < 3) (hv : (ivC y)[i]? = some v) (hy : ∀ j, j ≠ i → (ivC y)[j]? = (ivC x)[j]?) : ISt w0 B k w X y (w1.setCell ⟨X, i, none⟩ v) :=
  ⟨rdr_other h.rdr (by have := h.X0; have := h.B0; omega) (by have := h.X0; have := h.W0; omega), grown_set h.grow (by have := h.X0; omega), tri_set h.x3 hi hv hy,
    there_blocks h.res (Below.heap_setCell _ _ _ _ (by simp; have := h.X0; omega)), h.X0, by have := h.X1; simpa using this, h.B0, h.W0⟩
theorem ISt.start {w0 w w3 : World} {B k : Nat} {x : IV} {t : TypeId} (hR : Rdr w0 w3 B k) (hB : B < w.heap.size) (hW : w0.heap.size ≤ w.heap.size) (hg : w.grownBy w3 (some B)) (hr : w3.there w.heap.size 0 3) (hs : w.heap.size < w3.heap.size) :
    ISt w0 B k w w3.heap.size x (w3.alloc (.cells #[.int .i64 x.k, .string ⟨x.g.toArray⟩, .int .i64 x.r] t)) :=
  ⟨rdr_alloc hR _, gtrans hg (galloc _ _ _), ⟨⟨new_cell rfl, new_cell rfl, new_cell rfl⟩, fun j hj => frozen_of_row _ _ _ _ _ (heap_alloc_new w3 _)⟩,
    there_blocks hr (Below.heap_alloc _ _ _ hs), hs, by simp, hB, hW⟩

theorem ISt.final {w0 w w1 : World} {B k X : Nat} {x : IV} (h : ISt w0 B k w X x w1) (vs : List Value) : Rdr w0 (w1.setCells w.heap.size 0 vs) B k ∧ w.grownBy (w1.setCells w.heap.size 0 vs) (some B) := by
  have hB0 := h.B0
  have hW0 := h.W0
  refine ⟨?_, (os_setCells _ _ _ _).trans h.grow.os, (tape_setCells _ _ _ _).trans h.grow.tape, (output_setCells _ _ _ _).trans h.grow.output, by rw [size_setCells]; exact h.grow.size, fun i hi hne => (heap_setCells_other w1 _ _ _ _ _ (by omega)).trans (h.grow.block i hi hne)⟩
  obtain ⟨a, len, cap, zs, p, hr, hp, hh, hb, hB⟩ := h.rdr
  exact ⟨a, len, cap, zs, p, hr, hp, (heap_setCells_other w1 _ _ _ _ _ (by omega)).trans hh, Below.setCells (Below.refl _ _) _ hW0 _ _ _ hb, hB⟩
theorem ivBits (x : IV) : ((#[.int .i64 x.k, .string ⟨x.g.toArray⟩, .int .i64 x.r] : Array Value)).all (·.oneCell') = true := by simp [Value.oneCell']
theorem info_iv : (Try.prog.info? 30).map (·.size) = some 3 := by kernel_rfl
theorem results_one_mid {P : Program} {fn : Func} {p : Tmp} {ty : TypeId} (h : fn.results = #[.cell p ty]) (tmps : Array Value) (w : World) (b o : Nat) (cs : List Value) (d : TypeDesc)
    (hp : tmps.getD p undef = .pointer (some ⟨b, o, none⟩)) (hc : w.rangeAt b o cs) (hu : P.underlying ty = some d) (hd : d.isRow = true) (hi : (P.info? ty).map (·.size) = some cs.length) :
    (results fn tmps).run P w = .ok (.agg cs.toArray) w := by
  have hp' : tmps[p]?.getD undef = .pointer (some ⟨b, o, none⟩) := by simpa using hp
  simp [results, h, hp', asAddr, run_loadVar_mid w b o ty cs d hc hu hd hi]
theorem final0 {w0 w w1 : World} {B k : Nat} (h : Rdr w0 w1 B k) (hg : w.grownBy w1 (some B)) (hB0 : B < w.heap.size) (hW0 : w0.heap.size ≤ w.heap.size) (vs : List Value) : Rdr w0 (w1.setCells w.heap.size 0 vs) B k ∧ w.grownBy (w1.setCells w.heap.size 0 vs) (some B) := by
  refine ⟨?_, (os_setCells _ _ _ _).trans hg.os, (tape_setCells _ _ _ _).trans hg.tape, (output_setCells _ _ _ _).trans hg.output, by rw [size_setCells]; exact hg.size, fun i hi hne => (heap_setCells_other w1 _ _ _ _ _ (by omega)).trans (hg.block i hi hne)⟩
  obtain ⟨a, len, cap, zs, p, hr, hp, hh, hb, hB⟩ := h
  exact ⟨a, len, cap, zs, p, hr, hp, (heap_setCells_other w1 _ _ _ _ _ (by omega)).trans hh, Below.setCells (Below.refl _ _) _ hW0 _ _ _ hb, hB⟩
/-- what is drawn has a short right -/
def shI (x : IV) : Prop := x.g.length ≤ 10
def DrewIV (w0 : World) (B k : Nat) (w : World) (e : Ending) (w' : World) : Prop := ∃ x : IV, shI x ∧ e = .returned (ivV x) ∧ Rdr w0 w' B k ∧ w.grownBy w' (some B)
theorem there_keep {w w' : World} {R n : Nat} (h : w.there R 0 n) (e : w'.heap[R]? = w.heap[R]?) : w'.there R 0 n := there_blocks h e
set_option maxRecDepth 100000 in
set_option maxHeartbeats 4000000 in
theorem info_any (w0 w : World) (B k : Nat) (hR : Rdr w0 w B k) (hk : k ≤ 800000) :
    Calls Try.prog 50 #[.pointer (some ⟨B, 0, none⟩)] w (DrewIV w0 B (k + 12) w) := by
  have hlt := rdr_lt hR
  have hw0 := (rdr_below hR).size
  go_enter Try.func50, Try.ntmps50
  go_wp2_with fail
  refine (pick_any w0 _ B k _ (rdr_alloc hR _) (by omega) (by omega)).mono ?_
  rintro e w1 ⟨m1, h10, h11, rfl, hR1, hO1⟩
  have hr1 : w1.there w.heap.size 0 3 := there_blocks (there_row (heap_alloc_new w _) (by simp)) (hO1.2.2.2.2 _ (by omega))
  have hs1 : w1.heap.size = w.heap.size + 1 := by rw [hO1.2.2.2.1]; simp
  have hg1 : w.grownBy w1 (some B) := gtrans (galloc w _ _) hO1.grown
  by_cases hm : m1 = 0
  · subst hm
    have HR1 := Lib.hid hr1
    have HS1 := Lib.hid hs1
    have HG1 := Lib.hid hg1
    have HRD := Lib.hid hR1
    have HLT := Lib.hid hlt
    have HW0 := Lib.hid hw0
    clear hr1 hs1 hg1 hR1 hO1 hR hlt hw0
    go_wp2_with ((with_reducible refine store_is 30 (.tmp 2) (.tmp 7) ?_); refine store_arr 30 (.tmp 2) (.tmp 7) w.heap.size 0 #[.int .i64 0, .string ⟨#[]⟩, .int .i64 0] rfl rfl HR1.out info_iv (by simp [Value.oneCell']) ?_)
    try simp only [Act.put]
    refine bodyPost_ret (results_one_mid rfl _ _ w.heap.size 0 [.int .i64 0, .string ⟨#[]⟩, .int .i64 0] _ rfl (World.rangeAt_setCells_same _ _ _ _ HR1.out) Try.underlying30 rfl (by kernel_rfl)) rfl ?_
    exact ⟨iz, Nat.zero_le _, rfl, rdr_mono (final0 HRD.out HG1.out HLT.out HW0.out _).1 (by omega), (final0 HRD.out HG1.out HLT.out HW0.out _).2⟩
  · have hm' : (m1 == 0) = false := by simpa using hm
    go_wp2_with fail
    refine (pick_any w0 _ B _ _ hR1 (by omega) (by omega)).mono ?_
    rintro e w2 ⟨m2, h20, h21, rfl, hR2, hO2⟩
    have hr2 : w2.there w.heap.size 0 3 := there_blocks hr1 (hO2.2.2.2.2 _ (by omega))
    have hs2 : w2.heap.size = w.heap.size + 1 := by rw [hO2.2.2.2.1, hs1]
    have hg2 : w.grownBy w2 (some B) := gtrans hg1 hO2.grown
    clear hr1 hs1 hg1 hR1 hO1 hO2 hR
    have HR2 := Lib.hid hr2
    have HS2 := Lib.hid hs2
    have HG2 := Lib.hid hg2
    have hlt2 : B < w2.heap.size := by omega
    clear hr2 hs2 hg2
    go_wp2_with fail
    refine (of_any w0 _ B _ w2.heap.size 5 5 ([[97], [97], [98], [97, 98], []] : List Bs) (rdr_alloc hR2 _) (by omega) (by omega) rfl (by omega) (by omega) (by omega) (by omega) (fun i hi => new_cell (by
      have hi' : i = 0 ∨ i = 1 ∨ i = 2 ∨ i = 3 ∨ i = 4 := by omega
      rcases hi' with rfl | rfl | rfl | rfl | rfl <;> rfl))).mono ?_
    rintro e w3 ⟨t, ht, rfl, hR3, hg3⟩
    have HSH : Hid (t.length ≤ 10) := Lib.hid ((show ∀ t ∈ ([[97], [97], [98], [97, 98], []] : List Bs), t.length ≤ 10 by decide) t ht)
    have HR3 : Hid (w3.there w.heap.size 0 3) := Lib.hid (there_blocks (there_blocks HR2.out (Below.heap_alloc _ _ _ (by have := HS2.out; omega))) (hg3.block _ (by rw [World.size_alloc]; have := HS2.out; omega) (by intro e; injection e with e; omega)))
    have HG3 := Lib.hid (gtrans HG2.out (gtrans (galloc _ _ _) hg3))
    have HS3 : Hid (w.heap.size < w3.heap.size) := Lib.hid (by have h := hg3.size; rw [World.size_alloc] at h; have := HS2.out; omega)
    clear ht hg3 HR2 HG2 HS2 hR2 hlt2
    go_wp2_with fail
    refine (pick_any w0 _ B _ _ hR3 (by omega) (by omega)).mono ?_
    rintro e w4 ⟨m4, h40, h41, rfl, hR4, hO4⟩
    have HR4 : Hid (w4.there w.heap.size 0 3) := Lib.hid (there_blocks HR3.out (hO4.2.2.2.2 _ (by omega)))
    have HG4 := Lib.hid (gtrans HG3.out hO4.grown)
    have HS4 : Hid (w.heap.size < w4.heap.size) := Lib.hid (by rw [hO4.2.2.2.1]; exact HS3.out)
    clear hO4 hR3 HR3 HG3 HS3
    go_wp2_with fail
    refine (pick_any w0 _ B _ _ hR4 (by omega) (by omega)).mono ?_
    rintro e w5 ⟨m5, h50, h51, rfl, hR5, hO5⟩
    have HR5 : Hid (w5.there w.heap.size 0 3) := Lib.hid (there_blocks HR4.out (hO5.2.2.2.2 _ (by omega)))
    have HG5 := Lib.hid (gtrans HG4.out hO5.grown)
    have HS5 : Hid (w.heap.size < w5.heap.size) := Lib.hid (by rw [hO5.2.2.2.1]; exact HS4.out)
    clear hO5 hR4 HR4 HG4 HS4
    obtain ⟨q, hq⟩ : ∃ q, q = m4 * m5 := ⟨_, rfl⟩
    have hq9 : 0 ≤ q ∧ q ≤ 2 := by
      have h : m4 = 0 ∨ m4 = 1 := by omega
      rcases h with rfl | rfl
      · rw [hq]; omega
      · rw [hq]; omega
    have hqw : IntKind.i64.wrap (m4 * m5) = q := by rw [← hq, IntKind.wrap_i64]; omega
    have HSX := Lib.hid (ISt.start (x := ⟨1 + m2, t, q⟩) (t := 30) hR5 hlt hw0 HG5.out HR5.out HS5.out)
    clear hq hq9 hR5 HG5 HR5 hlt
    go_wp2_with fail
    obtain ⟨X, hX⟩ : ∃ X, w5.heap.size = X := ⟨_, rfl⟩
    obtain ⟨wA, hA⟩ : ∃ wA, w5.alloc (.cells #[.int .i64 (1 + m2), .string ⟨t.toArray⟩, .int .i64 q] 30) = wA := ⟨_, rfl⟩
    simp only [hA, hX] at HSX ⊢
    clear hA hX hqw hm' hm HS5 hw0
    refine (pick_any w0 _ B _ _ HSX.out.rdr (by omega) (by omega)).mono ?_
    rintro e w6 ⟨m6, h60, h61, rfl, hR6, hO6⟩
    have HS6 := Lib.hid (HSX.out.picked hR6 hO6)
    clear hR6 hO6 HSX
    by_cases hm0 : m6 = 0
    · subst hm0
      go_wp2_with fail
      refine (pick_any w0 _ B _ _ (rdr_alloc HS6.out.rdr _) (by omega) (by omega)).mono ?_
      rintro e w7 ⟨m7, h70, h71, rfl, hR7, hO7⟩
      have HS7 := Lib.hid (HS6.out.drewn hR7 (gtrans (galloc _ _ _) hO7.grown))
      have hBX := HS6.out.B0
      have hsz := Nat.le_of_lt (Nat.lt_trans HS6.out.X0 HS6.out.X1)
      have hc : ∀ o, w7.cell? ⟨w6.heap.size, o, none⟩ = (w6.alloc (.cells #[.int .i64 (-1), .int .i64 0, .int .i64 4] 3)).cell? ⟨w6.heap.size, o, none⟩ := fun o => hO7.cell (by omega)
      obtain ⟨y0, y1, y2⟩ := HS7.out.x3.at3
      have yf := HS7.out.x3.fr 0 (by omega)
      simp only [Nat.zero_add] at y0 y1 y2 yf
      obtain ⟨n7, rfl⟩ : ∃ n7 : Nat, m7 = (n7 : Int) := ⟨m7.toNat, by omega⟩
      have hv : ∃ z, w7.cell? ⟨w6.heap.size, n7, none⟩ = some (.int .i64 z) := by
        have hmm : n7 = 0 ∨ n7 = 1 ∨ n7 = 2 := by omega
        rcases hmm with rfl | rfl | rfl
        · exact ⟨_, (hc 0).trans (new_cell rfl)⟩
        · exact ⟨_, (hc 1).trans (new_cell rfl)⟩
        · exact ⟨_, (hc 2).trans (new_cell rfl)⟩
      obtain ⟨z, hz⟩ := hv
      have HS8 := Lib.hid (HS7.out.set (y := ⟨z, t, q⟩) (i := 0) (v := .int .i64 z) (by omega) rfl (fun j hj => by
          obtain rfl | rfl | rfl | h4 : j = 0 ∨ j = 1 ∨ j = 2 ∨ 3 ≤ j := by omega
          all_goals first | rfl | (exact absurd rfl hj) | (rw [List.getElem?_eq_none (by exact h4), List.getElem?_eq_none (by exact h4)])))
      clear hc HS7 hR7 hO7 HS6
      go_wp2_with ((with_reducible refine store_is 30 (.tmp 2) (.tmp 43) ?_); refine store_arr 30 (.tmp 2) (.tmp 43) w.heap.size 0 #[.int .i64 z, .string ⟨t.toArray⟩, .int .i64 q] rfl rfl HS8.out.res info_iv (ivBits ⟨z, t, q⟩) ?_)
      try simp only [Act.put]
      refine bodyPost_ret (results_one_mid rfl _ _ w.heap.size 0 [.int .i64 z, .string ⟨t.toArray⟩, .int .i64 q] _ rfl (World.rangeAt_setCells_same _ _ _ _ HS8.out.res) Try.underlying30 rfl (by kernel_rfl)) rfl ?_
      exact ⟨⟨z, t, q⟩, HSH.out, rfl, rdr_mono (HS8.out.final _).1 (by omega), (HS8.out.final _).2⟩
    have hn0 : (m6 == 0) = false := by simpa using hm0
    by_cases hm1 : m6 = 1
    · clear hn0 hm0
      subst hm1
      go_wp2_with fail
      refine (right_any w0 _ B _ HS6.out.rdr (by omega)).mono ?_
      rintro e w7 ⟨t2, ht2, rfl, hR7, hg7⟩
      have HSH2 : Hid (t2.length ≤ 10) := Lib.hid ht2
      have HS7 := Lib.hid (HS6.out.drewn hR7 hg7)
      obtain ⟨y0, y1, y2⟩ := HS7.out.x3.at3
      have yf := HS7.out.x3.fr 1 (by omega)
      simp only [Nat.zero_add] at y0 y1 y2 yf
      have HS8 := Lib.hid (HS7.out.set (y := ⟨1 + m2, t2, q⟩) (i := 1) (v := .string ⟨t2.toArray⟩) (by omega) rfl (fun j hj => by
        obtain rfl | rfl | rfl | h4 : j = 0 ∨ j = 1 ∨ j = 2 ∨ 3 ≤ j := by omega
        all_goals first | rfl | (exact absurd rfl hj) | (rw [List.getElem?_eq_none (by exact h4), List.getElem?_eq_none (by exact h4)])))
      clear hR7 hg7 HS6 HS7 ht2
      go_wp2_with ((with_reducible refine store_is 30 (.tmp 2) (.tmp 43) ?_); refine store_arr 30 (.tmp 2) (.tmp 43) w.heap.size 0 #[.int .i64 (1 + m2), .string ⟨t2.toArray⟩, .int .i64 q] rfl rfl HS8.out.res info_iv (ivBits ⟨(1 + m2), t2, q⟩) ?_)
      try simp only [Act.put]
      refine bodyPost_ret (results_one_mid rfl _ _ w.heap.size 0 [.int .i64 (1 + m2), .string ⟨t2.toArray⟩, .int .i64 q] _ rfl (World.rangeAt_setCells_same _ _ _ _ HS8.out.res) Try.underlying30 rfl (by kernel_rfl)) rfl ?_
      exact ⟨⟨(1 + m2), t2, q⟩, HSH2.out, rfl, rdr_mono (HS8.out.final _).1 (by omega), (HS8.out.final _).2⟩
    have hn1 : (m6 == 1) = false := by simpa using hm1
    by_cases hm2 : m6 = 2
    · clear hn0 hm0 hn1 hm1
      subst hm2
      go_wp2_with fail
      refine (pick_any w0 _ B _ _ (rdr_alloc HS6.out.rdr _) (by omega) (by omega)).mono ?_
      rintro e w7 ⟨m7, h70, h71, rfl, hR7, hO7⟩
      have HS7 := Lib.hid (HS6.out.drewn hR7 (gtrans (galloc _ _ _) hO7.grown))
      have hBX := HS6.out.B0
      have hsz := Nat.le_of_lt (Nat.lt_trans HS6.out.X0 HS6.out.X1)
      have hc : ∀ o, w7.cell? ⟨w6.heap.size, o, none⟩ = (w6.alloc (.cells #[.int .i64 (-1), .int .i64 50, .int .i64 51] 3)).cell? ⟨w6.heap.size, o, none⟩ := fun o => hO7.cell (by omega)
      obtain ⟨y0, y1, y2⟩ := HS7.out.x3.at3
      have yf := HS7.out.x3.fr 2 (by omega)
      simp only [Nat.zero_add] at y0 y1 y2 yf
      obtain ⟨n7, rfl⟩ : ∃ n7 : Nat, m7 = (n7 : Int) := ⟨m7.toNat, by omega⟩
      have hv : ∃ z, w7.cell? ⟨w6.heap.size, n7, none⟩ = some (.int .i64 z) := by
        have hmm : n7 = 0 ∨ n7 = 1 ∨ n7 = 2 := by omega
        rcases hmm with rfl | rfl | rfl
        · exact ⟨_, (hc 0).trans (new_cell rfl)⟩
        · exact ⟨_, (hc 1).trans (new_cell rfl)⟩
        · exact ⟨_, (hc 2).trans (new_cell rfl)⟩
      obtain ⟨z, hz⟩ := hv
      have HS8 := Lib.hid (HS7.out.set (y := ⟨1 + m2, t, z⟩) (i := 2) (v := .int .i64 z) (by omega) rfl (fun j hj => by
          obtain rfl | rfl | rfl | h4 : j = 0 ∨ j = 1 ∨ j = 2 ∨ 3 ≤ j := by omega
          all_goals first | rfl | (exact absurd rfl hj) | (rw [List.getElem?_eq_none (by exact h4), List.getElem?_eq_none (by exact h4)])))
      clear hc HS7 hR7 hO7 HS6
      go_wp2_with ((with_reducible refine store_is 30 (.tmp 2) (.tmp 43) ?_); refine store_arr 30 (.tmp 2) (.tmp 43) w.heap.size 0 #[.int .i64 (1 + m2), .string ⟨t.toArray⟩, .int .i64 z] rfl rfl HS8.out.res info_iv (ivBits ⟨(1 + m2), t, z⟩) ?_)
      try simp only [Act.put]
      refine bodyPost_ret (results_one_mid rfl _ _ w.heap.size 0 [.int .i64 (1 + m2), .string ⟨t.toArray⟩, .int .i64 z] _ rfl (World.rangeAt_setCells_same _ _ _ _ HS8.out.res) Try.underlying30 rfl (by kernel_rfl)) rfl ?_
      exact ⟨⟨(1 + m2), t, z⟩, HSH.out, rfl, rdr_mono (HS8.out.final _).1 (by omega), (HS8.out.final _).2⟩
    have hn2 : (m6 == 2) = false := by simpa using hm2
    obtain ⟨y0, y1, y2⟩ := HS6.out.x3.at3
    simp only [Nat.zero_add] at y0 y1 y2
    go_wp2_with ((with_reducible refine store_is 30 (.tmp 2) (.tmp 43) ?_); refine store_arr 30 (.tmp 2) (.tmp 43) w.heap.size 0 #[.int .i64 (1 + m2), .string ⟨t.toArray⟩, .int .i64 q] rfl rfl HS6.out.res info_iv (ivBits ⟨(1 + m2), t, q⟩) ?_)
    try simp only [Act.put]
    refine bodyPost_ret (results_one_mid rfl _ _ w.heap.size 0 [.int .i64 (1 + m2), .string ⟨t.toArray⟩, .int .i64 q] _ rfl (World.rangeAt_setCells_same _ _ _ _ HS6.out.res) Try.underlying30 rfl (by kernel_rfl)) rfl ?_
    exact ⟨⟨(1 + m2), t, q⟩, HSH.out, rfl, rdr_mono (HS6.out.final _).1 (by omega), (HS6.out.final _).2⟩
end Go.Proofs.Ytopnomklfkkjfaa
