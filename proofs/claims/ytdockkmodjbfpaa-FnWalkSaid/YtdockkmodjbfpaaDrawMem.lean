/- What the draw of a memory gives: rows of their own, whatever the code; of what was there before only the reader changes. -/
import Derived.Test.YtdockkmodjbfpaaDraws
import Derived.Test.YtdockkmodjbfpaaNew
import Derived.Test.YtdockkmodjbfpaaChg
namespace Go.Proofs.Ytdockkmodjbfpaa
open Go.ChangeShapes Go.WideShapes Go.ChangeAt Go.RowKit
set_option linter.unusedVariables false

theorem rdr_drew {w0 w : World} {B k : Nat} (h : Rdr w0 w B k) : Rdr w0 w.drew B k := rdr_drewN h 1
theorem rdr_store {w0 w : World} {B k : Nat} (h : Rdr w0 w B k) {g p : Nat} (hg : g ≠ B) (hg0 : w0.heap.size ≤ g) (v : Value) : Rdr w0 (w.setCell ⟨g, p, none⟩ v) B k := by
  obtain ⟨a, len, cap, zs, q, hr, hp, hh, hb, hB⟩ := h
  exact ⟨a, len, cap, zs, q, hr, hp, (Below.heap_setCell w ⟨g, p, none⟩ v B (fun e => hg e.symm)).trans hh, hb.setCell (p := ⟨g, p, none⟩) hg0 v, hB⟩
theorem MatAt.names {w : World} {B0 B1 : Nat} {a : Option Addr} {n : Nat} {A : Nat → Option Addr} {L C : Nat → Nat} {X : Nat → Nat → Int} (h : MatAt w B0 B1 a n A L C X) {A' : Nat → Option Addr} (hA : ∀ j, j < n → A' j = A j) : MatAt w B0 B1 a n A' L C X := by
  refine ⟨fun j hj => ?_, fun j hj i hi => ?_, fun j hj j' hj' => ?_⟩
  · rw [hA j hj]; exact h.top j hj
  · rw [hA j hj]; exact h.row j hj i hi
  · rw [hA j hj, hA j' hj']; exact h.apart j hj j' hj'

/-- while a memory is drawn: the reader, and twelve rows of four words in blocks B0 to B1-1 behind it -/
structure MemRel (w0 w : World) (B B0 B1 k : Nat) (b o : Nat) (G P C : Nat → Nat) (wr : World) : Prop where
  rdr : Rdr w0 wr B k
  grown : w.grownBy wr (some B)
  mat : ∃ X, MatAt wr B0 B1 (some ⟨b, o, none⟩) 12 (fun j => some ⟨G j, P j, none⟩) (fun _ => 4) C X
  b0 : B < B0 ∧ w.heap.size ≤ B0 ∧ w0.heap.size ≤ B0
  b1 : B1 ≤ wr.heap.size

theorem MemRel.mono {w0 w : World} {B B0 B1 k k' b o : Nat} {G P C : Nat → Nat} {wr : World} (h : MemRel w0 w B B0 B1 k b o G P C wr) (hk : k ≤ k') : MemRel w0 w B B0 B1 k' b o G P C wr :=
  ⟨rdr_mono h.rdr hk, h.grown, h.mat, h.b0, h.b1⟩
/-- the reader goes on, and new blocks come -/
theorem MemRel.go {w0 w : World} {B B0 B1 k k' b o : Nat} {G P C : Nat → Nat} {wr w' : World} (h : MemRel w0 w B B0 B1 k b o G P C wr) (hR : Rdr w0 w' B k') (hg : wr.grownBy w' (some B)) : MemRel w0 w B B0 B1 k' b o G P C w' := by
  obtain ⟨X, hX⟩ := h.mat
  refine ⟨hR, gtrans h.grown hg, ⟨X, hX.of_blocks fun c h0 h1 => hg.block c (by have := h.b1; omega) (fun e => by injection e with e; have := h.b0.1; omega)⟩, h.b0, Nat.le_trans h.b1 hg.size⟩
theorem MemRel.store {w0 w : World} {B B0 B1 k b o : Nat} {G P C : Nat → Nat} {wr : World} (h : MemRel w0 w B B0 B1 k b o G P C wr) {i j : Nat} (hi : i < 12) (hj : j < 4) (x : Int) :
    MemRel w0 w B B0 B1 k b o G P C (wr.setCell ⟨G i, P i + j, none⟩ (.int .i64 x)) := by
  obtain ⟨X, hX⟩ := h.mat
  obtain ⟨g, p, e, hg0, hg1, _⟩ := hX.row i hi j hj
  injection e with e
  injection e with e1 e2
  subst e1
  have hb := h.b0
  refine ⟨rdr_store h.rdr (by omega) (by omega) _, ⟨h.grown.os, h.grown.tape, h.grown.output, by simpa [World.setCell] using h.grown.size, fun c hc hne => ?_⟩, ⟨_, hX.store hi hj rfl x⟩, h.b0, by simpa [World.setCell] using h.b1⟩
  exact (Below.heap_setCell wr ⟨G i, P i + j, none⟩ _ c (by show c ≠ G i; omega)).trans (h.grown.block c hc hne)
theorem MemRel.top {w0 w : World} {B B0 B1 k b o : Nat} {G P C : Nat → Nat} {wr : World} (h : MemRel w0 w B B0 B1 k b o G P C wr) {i : Nat} (hi : i < 12) :
    wr.cell? ⟨b, o + i, none⟩ = some (.slice (some ⟨G i, P i, none⟩) 4 (C i)) ∧ wr.frozen? ⟨b, o + i, none⟩ = false ∧ B < b ∧ b < wr.heap.size ∧ 4 ≤ C i ∧ C i ≤ maxLen := by
  obtain ⟨X, hX⟩ := h.mat
  obtain ⟨b', o', e, h0, h1, hc, hl, hm, hf⟩ := hX.top i hi
  injection e with e
  injection e with e1 e2
  subst e1
  subst e2
  have := h.b0
  have := h.b1
  exact ⟨hc, hf, by omega, by omega, hl, hm⟩
theorem MemRel.row {w0 w : World} {B B0 B1 k b o : Nat} {G P C : Nat → Nat} {wr : World} (h : MemRel w0 w B B0 B1 k b o G P C wr) {i j : Nat} (hi : i < 12) (hj : j < 4) :
    ∃ x, wr.cell? ⟨G i, P i + j, none⟩ = some (.int .i64 x) ∧ wr.frozen? ⟨G i, P i + j, none⟩ = false ∧ B < G i ∧ G i < wr.heap.size := by
  obtain ⟨X, hX⟩ := h.mat
  obtain ⟨g, p, e, h0, h1, hc, hf, _⟩ := hX.row i hi j hj
  injection e with e
  injection e with e1 e2
  subst e1
  subst e2
  have := h.b0
  have := h.b1
  exact ⟨_, hc, hf, by omega, by omega⟩
theorem grown_undrew {w w' : World} {r : Option Nat} (h : w.drew.grownBy w' r) : w.grownBy w' r := ⟨h.os, h.tape, h.output, h.size, h.block⟩
theorem grown_at {B : Nat} {w w' : World} (h : w.grownBy w' (some B)) {g : Nat} (h1 : B < g) (h2 : g < w.heap.size) : (∀ o, w'.cell? ⟨g, o, none⟩ = w.cell? ⟨g, o, none⟩) ∧ ∀ o, w'.frozen? ⟨g, o, none⟩ = w.frozen? ⟨g, o, none⟩ :=
  have hb := h.block g h2 (fun e => by injection e with e; omega)
  ⟨fun o => World.cell?_of_block hb, fun o => World.frozen?_of_block hb⟩


theorem mem_start {w0 w w1 : World} {B k : Nat} {v : Value} (hR : Rdr w0 w B k) (hm : MatW w1 w.heap.size w1.heap.size v zeros) (hb : Below w.heap.size w w1) :
    ∃ (b o cap : Nat) (G P C : Nat → Nat), v = .slice (some ⟨b, o, none⟩) 12 cap ∧ 12 ≤ cap ∧ cap ≤ maxLen ∧ MemRel w0 w B w.heap.size w1.heap.size k b o G P C w1 := by
  obtain ⟨a, cap, A, C, rfl, h1, h2, hX⟩ := hm
  have hz : zeros.length = 12 := by simp [zeros]
  rw [hz] at h1 hX ⊢
  obtain ⟨b, o, rfl, _⟩ := hX.top 0 (by omega)
  have each : ∀ j, j < 12 → ∃ gp : Nat × Nat, A j = some ⟨gp.1, gp.2, none⟩ := fun j hj => by
    obtain ⟨g, p, e, _⟩ := hX.row j hj 0 (by rw [zeros_get hj]; simp)
    exact ⟨(g, p), e⟩
  obtain ⟨F, hF⟩ : ∃ F : Nat → Nat × Nat, ∀ j, j < 12 → A j = some ⟨(F j).1, (F j).2, none⟩ := ⟨fun j => if hj : j < 12 then (each j hj).choose else (0, 0), fun j hj => by simp only [hj, dif_pos]; exact (each j hj).choose_spec⟩
  have hX2 := (hX.names (A' := fun j => some ⟨(F j).1, (F j).2, none⟩) (fun j hj => (hF j hj).symm)).congr (L' := fun _ => 4) (X' := fun j i => (zeros.getD j []).getD i 0) rfl (fun j hj => by rw [zeros_get hj]; rfl) (fun _ _ _ _ => rfl)
  have hlt := rdr_lt hR
  obtain ⟨ra, len, rcap, zs, p, hr, hp, hh, hbb, hB⟩ := hR
  refine ⟨b, o, cap, fun j => (F j).1, fun j => (F j).2, C, rfl, h1, h2, ⟨⟨ra, len, rcap, zs, p, hr, hp, (hb.block B hlt).trans hh, Below.trans hbb (hb.mono hbb.size), hB⟩, ⟨hb.os, hb.tape, hb.output, hb.size, fun c hc _ => hb.block c hc⟩, ⟨_, hX2⟩, ⟨hlt, Nat.le_refl _, hbb.size⟩, Nat.le_refl _⟩⟩

/-- a drawn memory: at most twelve rows of at most four words, in blocks of their own -/
def DrewMem (w0 : World) (B k : Nat) (w : World) (e : Ending) (w' : World) : Prop :=
  ∃ v xss, e = .returned v ∧ MatW w' w.heap.size w'.heap.size v xss ∧ xss.length ≤ 12 ∧ (∀ j, j < xss.length → (xss.getD j []).length ≤ 4) ∧ Rdr w0 w' B k ∧ w.grownBy w' (some B)

/-- a matrix as a list of lists -/
theorem MatAt.list {w : World} {B0 B1 B2 : Nat} {a : Option Addr} {n cap : Nat} {A : Nat → Option Addr} {L C : Nat → Nat} {X : Nat → Nat → Int} (h : MatAt w B0 B1 a n A L C X) (hB : B1 ≤ B2) (hc : n ≤ cap) (hm : cap ≤ maxLen) (h12 : n ≤ 12) (hL : ∀ j, j < n → L j ≤ 4) :
    ∃ xss, MatW w B0 B2 (.slice a n cap) xss ∧ xss.length ≤ 12 ∧ ∀ j, j < xss.length → (xss.getD j []).length ≤ 4 := by
  have hg : ∀ j, j < n → ((List.range n).map fun j => (List.range (L j)).map (X j)).getD j [] = (List.range (L j)).map (X j) := fun j hj => by rw [getD_lt (by simpa using hj)]; simp
  refine ⟨(List.range n).map fun j => (List.range (L j)).map (X j), ⟨a, cap, A, C, by simp, by simpa using hc, hm, ?_⟩, by simpa using h12, fun j hj => ?_⟩
  · refine (h.mono hB).congr (by simp) (fun j hj => ?_) (fun j hj i hi => ?_)
    · rw [hg j hj]; simp
    · rw [hg j hj, getD_lt (by simpa using hi)]; simp
  · have hj' : j < n := by simpa using hj
    rw [hg j hj']; simpa using hL j hj'
theorem drewMem_mk {w0 w wr : World} {B B1 k k' b o cap : Nat} {G P C : Nat → Nat} (hk : k ≤ k') (h : MemRel w0 w B w.heap.size B1 k b o G P C wr) (h1 : 12 ≤ cap) (h2 : cap ≤ maxLen) :
    DrewMem w0 B k' w (.returned (.slice (some ⟨b, o, none⟩) 12 cap)) wr := by
  obtain ⟨X, hX⟩ := h.mat
  obtain ⟨xss, h3, h4, h5⟩ := hX.list h.b1 h1 h2 (Nat.le_refl _) (fun _ _ => Nat.le_refl _)
  exact ⟨_, xss, rfl, h3, h4, h5, rdr_mono h.rdr hk, h.grown⟩
theorem drewMem_cut {w0 w wr : World} {B B1 k k' b o cap n : Nat} {G P C : Nat → Nat} (hk : k ≤ k') (h : MemRel w0 w B w.heap.size B1 k b o G P C wr) (h1 : 12 ≤ cap) (h2 : cap ≤ maxLen) (hn : n < 12) :
    DrewMem w0 B k' w (.returned (.slice (some ⟨b, o, none⟩) n cap)) wr := by
  obtain ⟨X, hX⟩ := h.mat
  have hX2 : MatAt wr w.heap.size B1 (some ⟨b, o, none⟩) n (fun j => some ⟨G j, P j, none⟩) (fun _ => 4) C X :=
    ⟨fun j hj => hX.top j (by omega), fun j hj => hX.row j (by omega), fun j hj j' hj' => hX.apart j (by omega) j' (by omega)⟩
  obtain ⟨xss, h3, h4, h5⟩ := hX2.list h.b1 (cap := cap) (by omega) h2 (by omega) (fun _ _ => Nat.le_refl _)
  exact ⟨_, xss, rfl, h3, h4, h5, rdr_mono h.rdr hk, h.grown⟩

theorem drewMem_short {w0 w wr : World} {B B1 k k' b o cap i m : Nat} {G P C : Nat → Nat} (hk : k ≤ k') (h : MemRel w0 w B w.heap.size B1 k b o G P C wr) (h1 : 12 ≤ cap) (h2 : cap ≤ maxLen) (hi : i < 12) (hm : m ≤ 4) :
    DrewMem w0 B k' w (.returned (.slice (some ⟨b, o, none⟩) 12 cap)) (wr.setCell ⟨b, o + i, none⟩ (.slice (some ⟨G i, P i, none⟩) m (C i))) := by
  obtain ⟨X, hX⟩ := h.mat
  have hb := (h.top (i := 0) (by omega)).2.2.1
  have hs : (wr.setCell ⟨b, o + i, none⟩ (.slice (some ⟨G i, P i, none⟩) m (C i))).heap.size = wr.heap.size := by simp [World.setCell]
  have hbw : w.heap.size ≤ b := by
    obtain ⟨b', o', e, h0, _⟩ := hX.top 0 (by omega)
    injection e with e; injection e with e1 _; subst e1; exact h0
  have hX2 : MatAt (wr.setCell ⟨b, o + i, none⟩ (.slice (some ⟨G i, P i, none⟩) m (C i))) w.heap.size B1 (some ⟨b, o, none⟩) 12 (fun j => some ⟨G j, P j, none⟩) (fun j => if j = i then m else 4) C X := by
    refine ⟨fun j hj => ?_, fun j hj q hq => ?_, fun j hj j' hj' hne h3 h4 g p g' p' ee ee' => ?_⟩
    · obtain ⟨b', o', e, h0, h3, hc, hl, hcm, hf⟩ := hX.top j hj
      injection e with e
      injection e with e1 e2
      subst e1
      subst e2
      by_cases hji : j = i
      · subst hji
        simp only [if_true]
        exact ⟨b, o, rfl, h0, h3, cell_set_same hc, by omega, hcm, (frozen_set _).trans hf⟩
      · simp only [if_neg hji]
        exact ⟨b, o, rfl, h0, h3, (cell_set_other (.inr (by omega))).trans hc, hl, hcm, (frozen_set _).trans hf⟩
    · have hq4 : q < 4 := by
        by_cases hji : j = i
        · simp only [hji, if_true] at hq; omega
        · simpa only [if_neg hji] using hq
      obtain ⟨g, p, e, h0, h3, hc, hf, hne⟩ := hX.row j hj q hq4
      exact ⟨g, p, e, h0, h3, (cell_set_other (.inl (hne b o rfl).symm)).trans hc, (frozen_set _).trans hf, hne⟩
    · have a1 := hX.apart j hj j' hj' hne (by omega) (by omega) g p g' p' ee ee'
      have l1 : (if j = i then m else 4) ≤ 4 := by split <;> omega
      have l2 : (if j' = i then m else 4) ≤ 4 := by split <;> omega
      rcases a1 with a1 | a1 | a1
      · exact .inl a1
      · exact .inr (.inl (by omega))
      · exact .inr (.inr (by omega))
  obtain ⟨xss, h3, h4, h5⟩ := hX2.list (B2 := wr.heap.size) h.b1 h1 h2 (Nat.le_refl _) (fun j _ => by split <;> omega)
  refine ⟨_, xss, rfl, by rw [hs]; exact h3, h4, h5, rdr_store (rdr_mono h.rdr hk) (by omega) (by have := h.b0; omega) _, ⟨h.grown.os, h.grown.tape, h.grown.output, by rw [hs]; exact h.grown.size, fun c hc hne => ?_⟩⟩
  exact (Below.heap_setCell wr ⟨b, o + i, none⟩ _ c (by show c ≠ b; omega)).trans (h.grown.block c hc hne)
theorem only_cells {B : Nat} {w w' : World} (h : Only B w w') : ∀ b o, B < b → w'.cell? ⟨b, o, none⟩ = w.cell? ⟨b, o, none⟩ := fun b o hb => h.cell (by omega)
theorem only_size {B : Nat} {w w' : World} (h : Only B w w') : w'.heap.size = w.heap.size := h.2.2.2.1
theorem pair_get (m : Int) (h0 : 0 ≤ m) (h1 : m < 2) : ∃ x, [Value.int .i64 (-1), .int .i64 10000][m.toNat]'(by simp; omega) = .int .i64 x := by
  have hm : m = 0 ∨ m = 1 := by omega
  rcases hm with rfl | rfl
  · exact ⟨-1, rfl⟩
  · exact ⟨10000, rfl⟩

set_option maxHeartbeats 4000000 in
theorem mem_any (w0 w : World) (B k : Nat) (hR : Rdr w0 w B k) (hk : k ≤ 800000) :
    Calls Try.prog 37 #[.pointer (some ⟨B, 0, none⟩)] w (DrewMem w0 B (k + 400) w) := by
  go_enter Try.func37, Try.ntmps37
  go_wp2_with fail
  refine (l2New_any w).mono ?_
  rintro e w1 ⟨v, rfl, hm, hb⟩
  obtain ⟨b, o, cap, G, P, C, rfl, hc1, hc2, hrel⟩ := mem_start hR hm hb
  generalize w1.heap.size = B1 at hrel
  clear hm hb hR
  go_wp2_with fail
  refine (pick_any w0 _ B _ _ hrel.rdr (by omega) (by omega)).mono ?_
  rintro e w2 ⟨N, hN0, hN1, rfl, hR2, hO2⟩
  have hrel2 := hrel.go hR2 hO2.grown
  clear hrel hR2 hO2
  go_wp2_with fail
  go_loopw [5] (fun i wr => ∃ j : Nat, (j : Int) ≤ N ∧ i = .int .i64 j ∧ MemRel w0 w B w.heap.size B1 (k + 1 + 5 * j) b o G P C wr) (fun i _ => 30 - (intOf i).toNat)
  case atStart => exact ⟨0, by omega, rfl, hrel2⟩
  case round =>
    clear hrel2
    obtain ⟨j, hj, rfl, hrel⟩ := hrel
    by_cases hlt : (j : Int) < N
    · have HREL := Lib.hid hrel
      have hR0 := Lib.hid (rdr_drew hrel.rdr)
      have hbb : B < b := (hrel.top (i := 0) (by omega)).2.2.1
      have hbs : b < wr.heap.size := (hrel.top (i := 0) (by omega)).2.2.2.1
      clear hrel
      go_wp2_with fail
      go_region_with (first
        | (go_at_call_of 40 (Value.int .i64 12); refine (pick_any w0 _ B _ _ hR0.out (by omega) (by omega)).mono ?_; rintro e w5 ⟨m12, h0, h1, rfl, hR5, hO5⟩; have HR5 := Lib.hid hR5; have HG5 := Lib.hid (grown_undrew hO5.grown); have q5b := (hO5.cell (w := wr.drew) (b := b) (o := o + m12.toNat) (by omega)); have t5 := (HREL.out.top (i := m12.toNat) (by omega)).1; clear hR5 hO5)
        | (go_at_call_of 40 (Value.int .i64 4); refine (pick_any w0 _ B _ _ HR5.out (by omega) (by omega)).mono ?_; rintro e w6 ⟨m4, h40, h41, rfl, hR6, hO6⟩; have HR6 := Lib.hid hR6; have HG6 := Lib.hid (gtrans HG5.out hO6.grown); have q6b := (hO6.cell (b := b) (o := o + m12.toNat) (by omega)); clear hR6 hO6)
        | (go_at_call 61; refine (entry_any w0 _ B _ HR6.out (by omega)).mono ?_; rintro e w7 ⟨f, hf, rfl, hR7, hg7⟩; have HR7 := Lib.hid hR7; have HG7 := Lib.hid (gtrans HG6.out hg7); have HREL7 := Lib.hid (HREL.out.go HR7.out HG7.out); have q7b := ((grown_at HG7.out hbb hbs).1 (o + m12.toNat)); obtain ⟨x7, hx7, hf7, _, _⟩ := HREL7.out.row (i := m12.toNat) (j := m4.toNat) (by omega) (by omega); clear hR7 hg7))
      all_goals
        have HST := Lib.hid ((HREL7.out.store (i := m12.toNat) (j := m4.toNat) (by omega) (by omega) (if f < 0 then 0 else f)).mono (k' := k + 1 + 5 * (j + 1)) (by omega))
        clear q5b q6b q7b t5 hx7 hf7
        go_wp2_with fail
        go_roundw
        case rel => exact ⟨j + 1, by omega, by go_num, HST.out⟩
        case measure => simp [intOf]; omega
    · have hge : decide ((j : Int) < N) = false := by simpa using hlt
      have hj30 : (j : Int) ≤ 30 := by omega
      have hkk : k + 1 + 5 * j ≤ 900000 := by omega
      have hk4 : k + 1 + 5 * j + 20 ≤ k + 400 := by omega
      generalize k + 1 + 5 * j = k2 at hrel hkk hk4
      go_wp2_with fail
      refine (pick_any w0 _ B _ _ hrel.rdr (by omega) (by omega)).mono ?_
      rintro e w3 ⟨mk, hk0, hk1, rfl, hR3, hO3⟩
      have hrel3 := hrel.go hR3 hO3.grown
      clear hrel hR3 hO3
      go_wp2_with fail
      refine (pick_any w0 _ B _ _ hrel3.rdr (by omega) (by omega)).mono ?_
      rintro e w4 ⟨ms, hs0, hs1, rfl, hR4, hO4⟩
      have hrel4 := hrel3.go hR4 hO4.grown
      clear hrel3 hR4 hO4
      have HREL := Lib.hid hrel4
      have hbb : B < b := (hrel4.top (i := 0) (by omega)).2.2.1
      have hbs : b < w4.heap.size := (hrel4.top (i := 0) (by omega)).2.2.2.1
      have t4 := (hrel4.top (i := mk.toNat) (by omega)).1
      have hR0 := Lib.hid (rdr_drew hrel4.rdr)
      have hBs := rdr_lt hrel4.rdr
      have hC4 := (hrel4.top (i := mk.toNat) (by omega)).2.2.2.2.1
      have hCm := (hrel4.top (i := mk.toNat) (by omega)).2.2.2.2.2
      have f4 := (hrel4.top (i := mk.toNat) (by omega)).2.1
      clear hrel4
      by_cases e0 : ms = 0
      · subst e0
        obtain ⟨_, _, _, hGB, hGs⟩ := HREL.out.row (i := mk.toNat) (j := 0) (by omega) (by omega)
        have hGs1 : G mk.toNat < w4.heap.size + 1 := by omega
        have hbs1 : b < w4.heap.size + 1 := by omega
        have hGne : (G mk.toNat = w4.heap.size) = False := by simp; omega
        have hbne : (b = w4.heap.size) = False := by simp; omega
        have hBs1 : B < w4.heap.size + 1 := by omega
        go_wp2_with fail
        go_region_with (first
          | (go_at_call_of 40 (Value.int .i64 4); (first | refine (pick_any w0 _ B _ _ hR0.out (by omega) (by omega)).mono ?_ | refine (pick_any w0 _ B _ _ (rdr_alloc hR0.out _) (by omega) (by omega)).mono ?_); rintro e w5 ⟨m4, h40, h41, rfl, hR5, hO5⟩; have HREL5 := Lib.hid (HREL.out.go hR5 (by first | exact grown_undrew hO5.grown | exact grown_undrew (gtrans (galloc _ _ _) hO5.grown))); have hc5 := only_cells hO5; have hs5 := only_size hO5; clear hR5 hO5)
          | (go_at_call_of 40 (Value.int .i64 2); (first | refine (pick_any w0 _ B _ _ HREL5.out.rdr (by omega) (by omega)).mono ?_ | refine (pick_any w0 _ B _ _ (rdr_alloc HREL5.out.rdr _) (by omega) (by omega)).mono ?_); rintro e w6 ⟨m2, h20, h21, rfl, hR6, hO6⟩; have HREL6 := Lib.hid (HREL5.out.go hR6 (by first | exact hO6.grown | exact gtrans (galloc _ _ _) hO6.grown)); have hc6 := only_cells hO6; have hs6 := only_size hO6; obtain ⟨x6, hx6, hf6, _, hg6⟩ := HREL6.out.row (i := mk.toNat) (j := m4.toNat) (by omega) (by omega); obtain ⟨x4, hx4, hf4, _, _⟩ := HREL.out.row (i := mk.toNat) (j := m4.toNat) (by omega) (by omega); obtain ⟨x2, hv2⟩ := pair_get m2 h20 h21; clear hR6 hO6))
        all_goals
          have HST := HREL6.out.store (i := mk.toNat) (j := m4.toNat) (by omega) (by omega) x2
          have HE1 := Lib.hid (drewMem_mk (k' := k + 400) (by omega) HST hc1 hc2)
          have HE2 := Lib.hid (fun ob => drewMem_mk (k' := k + 400) (by omega) (HST.go (rdr_alloc HST.rdr ob) (galloc _ ob _)) hc1 hc2)
          clear hc5 hs5 hc6 hs6 hx6 hf6 hx4 hf4 hv2 t4 f4 HST
          go_wp2_with fail
          go_ret
          first
            | exact HE1.out
            | exact HE2.out _
      have e0' : (ms == 0) = false := by simpa using e0
      by_cases e1 : ms = 1
      · subst e1
        have hb4 : (4 : Int) ≤ (C mk.toNat : Int) := by omega
        unfold maxLen at hCm
        go_wp2_with fail
        go_region_with (go_at_call_of 40 (Value.int .i64 4); refine (pick_any w0 _ B _ _ hR0.out (by omega) (by omega)).mono ?_; rintro e w5 ⟨m4, h40, h41, rfl, hR5, hO5⟩; have HREL5 := Lib.hid (HREL.out.go hR5 (grown_undrew hO5.grown)); have q5b := (HREL5.out.top (i := mk.toNat) (by omega)).1; have f5b := (HREL5.out.top (i := mk.toNat) (by omega)).2.1; have hmC : m4 ≤ (C mk.toNat : Int) := (by omega); clear hR5 hO5)
        all_goals
          have HE := Lib.hid (drewMem_short (k' := k + 400) (by omega) HREL5.out hc1 hc2 (i := mk.toNat) (m := m4.toNat) (by omega) (by omega))
          clear q5b f5b t4 f4
          go_wp2_with fail
          go_ret
          exact HE.out
      have e1' : (ms == 1) = false := by simpa using e1
      by_cases e2 : ms = 2
      · subst e2
        have hmk : mk ≤ (cap : Int) := by omega
        unfold maxLen at hc2
        go_wp2_with fail
        go_ret
        exact drewMem_cut (n := mk.toNat) (by omega) HREL.out hc1 (by unfold maxLen; omega) (by omega)
      have e2' : (ms == 2) = false := by simpa using e2
      go_wp2_with fail
      go_ret
      exact drewMem_mk (by omega) HREL.out hc1 hc2
end Go.Proofs.Ytdockkmodjbfpaa
