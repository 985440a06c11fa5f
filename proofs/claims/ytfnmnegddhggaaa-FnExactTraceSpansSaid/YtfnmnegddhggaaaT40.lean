/- What the proofs stand on, part 40. -/
import Derived.Test.YtfnmnegddhggaaaRows
import Derived.Test.YtfnmnegddhggaaaT1
import Derived.Test.YtfnmnegddhggaaaT2
import Derived.Test.YtfnmnegddhggaaaT3
import Derived.Test.YtfnmnegddhggaaaT6
import Derived.Test.YtfnmnegddhggaaaT11
import Derived.Test.YtfnmnegddhggaaaT14
import Derived.Test.YtfnmnegddhggaaaT19
import Derived.Test.YtfnmnegddhggaaaT21
import Derived.Test.YtfnmnegddhggaaaT22
import Derived.Test.YtfnmnegddhggaaaT24
import Derived.Test.YtfnmnegddhggaaaT25
import Derived.Test.YtfnmnegddhggaaaT30
set_option linter.unusedSimpArgs false
set_option linter.unusedVariables false
namespace Go.Proofs.Ytfnmnegddhggaaa
open Go.ChangeShapes Go.WideShapes Go.ChangeAt Go.RowKit
set_option linter.unusedVariables false
structure Marked (a : Option Addr) (n : Nat) (k : Int) (w w' : World) : Prop where
  os : w'.os = w.os
  tape : w'.tape = w.tape
  output : w'.output = w.output
  size : w'.heap.size = w.heap.size
  block : ∀ b, (∀ p, n = 0 ∨ a ≠ some ⟨b, p, none⟩) → w'.heap[b]? = w.heap[b]?
  frozen : ∀ b, w'.frozen? b = w.frozen? b
  inside : ∀ g p, a = some ⟨g, p, none⟩ → ∀ i, i < n → w'.cell? ⟨g, p + i, none⟩ = some (.int .i64 (k + i))
  outside : ∀ g p, a = some ⟨g, p, none⟩ → ∀ o, (o < p ∨ p + n ≤ o) → w'.cell? ⟨g, o, none⟩ = w.cell? ⟨g, o, none⟩
theorem Marked.zero (a : Option Addr) (k : Int) (w : World) : Marked a 0 k w w := ⟨rfl, rfl, rfl, rfl, fun _ _ => rfl, fun _ => rfl, fun _ _ _ i hi => by omega, fun _ _ _ _ _ => rfl⟩
theorem Marked.step {g p n : Nat} {k : Int} {w w' : World} (h : Marked (some ⟨g, p, none⟩) n k w w') {u : Value} (hc : w.cell? ⟨g, p + n, none⟩ = some u) :
    Marked (some ⟨g, p, none⟩) (n + 1) k w (w'.setCell ⟨g, p + n, none⟩ (.int .i64 (k + n))) := by
  refine ⟨h.os, h.tape, h.output, by simpa [World.setCell] using h.size, fun b hb => ?_, fun b => (frozen_set b).trans (h.frozen b), fun g' p' e i hi => ?_, fun g' p' e o ho => ?_⟩
  · have : b ≠ g := fun e => by
      rcases hb p with h' | h'
      · omega
      · exact h' (by rw [e])
    exact (Below.heap_setCell w' ⟨g, p + n, none⟩ _ b this).trans (h.block b (fun q => (hb q).elim (fun h' => by omega) .inr))
  · cases e
    by_cases hin : i = n
    · subst hin
      exact cell_set_same ((h.outside g p rfl (p + i) (.inr (Nat.le_refl _))).trans hc)
    · exact (cell_set_other (.inr (by omega))).trans (h.inside g p rfl i (by omega))
  · cases e
    exact (cell_set_other (.inr (by omega))).trans (h.outside g p rfl o (by omega))
def Marks (a : Option Addr) (n : Nat) (k : Int) (w : World) (e : Ending) (w' : World) : Prop := e = .returned (.int .i64 (k + n)) ∧ Marked a n k w w'
theorem marks_mk {a : Option Addr} {n : Nat} {k x : Int} {w w' : World} (h : x = k + n) (hm : Marked a n k w w') : Marks a n k w (.returned (.int .i64 x)) w' := ⟨by rw [h], hm⟩
theorem markIntS_any (w : World) (a : Option Addr) (n cap : Nat) (k : Int) (hn : n ≤ 1048576) (hk : 0 ≤ k) (hk2 : k ≤ 1000000000000)
    (h : ∀ i, i < n → ∃ g p u, a = some ⟨g, p, none⟩ ∧ w.cell? ⟨g, p + i, none⟩ = some u ∧ w.frozen? ⟨g, p + i, none⟩ = false) :
    Calls Try.prog 37 #[.slice a n cap, .int .i64 k] w (Marks a n k w) := by
  have H := Lib.hid h
  clear h
  go_enter Try.func37, Try.ntmps37
  go_wp2
  go_loopw [1, 5] (fun l i wr => ∃ j : Nat, j ≤ n ∧ i = .int .i64 j ∧ l = .int .i64 (k + j) ∧ Marked a j k w wr) (fun _ i _ => n - (intOf i).toNat)
  case atStart => exact ⟨0, Nat.zero_le _, rfl, by simp, Marked.zero _ _ _⟩
  case round =>
    obtain ⟨j, hj, rfl, rfl, hm⟩ := hrel
    by_cases hlt : j < n
    · obtain ⟨g, p, u, rfl, hc, hf⟩ := H.out j hlt
      have hcr := (hm.outside g p rfl (p + j) (.inr (Nat.le_refl _))).trans hc
      have hfr := (hm.frozen _).trans hf
      have hst := Lib.hid (hm.step hc)
      clear hc hf
      have hlt' : (j : Int) < (n : Int) := by omega
      go_wp2
      go_roundw
      case rel => exact ⟨j + 1, by omega, by go_num, by go_num, hst.out⟩
      case measure => simp [intOf]; omega
    · go_wp2
      go_ret
      have e : j = n := by omega
      subst e
      exact marks_mk rfl hm
structure Kept (B0 B1 : Nat) (w w' : World) : Prop where
  os : w'.os = w.os
  tape : w'.tape = w.tape
  output : w'.output = w.output
  size : w'.heap.size = w.heap.size
  block : ∀ b, (b < B0 ∨ B1 ≤ b) → w'.heap[b]? = w.heap[b]?
theorem Kept.refl (B0 B1 : Nat) (w : World) : Kept B0 B1 w w := ⟨rfl, rfl, rfl, rfl, fun _ _ => rfl⟩
theorem Kept.trans {B0 B1 : Nat} {a b c : World} (h : Kept B0 B1 a b) (k : Kept B0 B1 b c) : Kept B0 B1 a c :=
  ⟨k.os.trans h.os, k.tape.trans h.tape, k.output.trans h.output, k.size.trans h.size, fun i hi => (k.block i hi).trans (h.block i hi)⟩
theorem Kept.below {B0 B1 B : Nat} {a b w : World} (h : Kept B0 B1 a b) (hb : Below B w a) (hB : B ≤ B0) : Below B w b :=
  ⟨h.os.trans hb.os, h.tape.trans hb.tape, h.output.trans hb.output, by rw [h.size]; exact hb.size, fun k hk => (h.block k (.inl (by omega))).trans (hb.block k hk)⟩
end Go.Proofs.Ytfnmnegddhggaaa
namespace Go.Proofs.Ytfnmnegddhggaaa
open Go.ChangeShapes Go.WideShapes Go.ChangeAt Go.RowKit
set_option linter.unusedVariables false
theorem heldIntS_any (w : World) (a : Option Addr) (n cap : Nat) (k : Int) (hn : n ≤ 1048576) (hk : 0 ≤ k) (hk2 : k ≤ 1000000000000)
    (h : ∀ i, i < n → ∃ g p, a = some ⟨g, p, none⟩ ∧ w.cell? ⟨g, p + i, none⟩ = some (.int .i64 (k + i))) :
    Calls Try.prog 38 #[.slice a n cap, .int .i64 k] w fun e w' => e = .returned (.int .i64 (k + n)) ∧ w = w' := by
  have H := Lib.hid h
  clear h
  go_enter Try.func38, Try.ntmps38
  go_wp2
  go_loop [1, 5] (fun l i => ∃ j : Nat, j ≤ n ∧ i = .int .i64 j ∧ l = .int .i64 (k + j)) (fun _ i => n - (intOf i).toNat)
  case atStart => exact ⟨0, Nat.zero_le _, rfl, by simp⟩
  case round =>
    obtain ⟨j, hj, rfl, rfl⟩ := hrel
    by_cases hlt : j < n
    · obtain ⟨g, p, rfl, hc⟩ := H.out j hlt
      have hlt' : (j : Int) < (n : Int) := by omega
      go_wp2
      go_round
      case rel => exact ⟨j + 1, by omega, by go_num, by go_num⟩
      case measure => simp [intOf]; omega
    · go_wp2
      go_ret
      have e : j = n := by omega
      subst e
      exact ⟨rfl, rfl⟩
end Go.Proofs.Ytfnmnegddhggaaa
namespace Go.Proofs.Ytfnmnegddhggaaa
open Go.ChangeShapes Go.WideShapes Go.ChangeAt Go.RowKit
set_option linter.unusedVariables false
theorem Chg.of_kept {lo hi : Nat} {w w' : World} (h : Kept lo hi w w') : Chg lo hi w w' := ⟨h.os, h.tape, h.output, Nat.le_of_eq h.size.symm, fun b _ hb => h.block b hb⟩
end Go.Proofs.Ytfnmnegddhggaaa
namespace Go.Proofs.Ytfnmnegddhggaaa
open Go.ChangeShapes Go.WideShapes Go.ChangeAt Go.RowKit
set_option linter.unusedVariables false
def mk1 (n : Nat) : List Int := (List.range n).map (fun i : Nat => 1 + (i : Int))
theorem mk1_len (n : Nat) : (mk1 n).length = n := by simp [mk1]
theorem mk1_get {n i : Nat} (h : i < n) : (mk1 n).getD i 0 = 1 + i := by
  rw [getD_lt (by rw [mk1_len]; exact h)]
  simp [mk1]
theorem IntsW.marked {w w' : World} {B0 B1 : Nat} {a : Option Addr} {n cap : Nat} {xs : List Int} (h : IntsW w B0 B1 (.slice a n cap) xs) (hn : n = xs.length) (hm : Marked a n 1 w w') : IntsW w' B0 B1 (.slice a n cap) (mk1 n) ∧ Kept B0 B1 w w' := by
  obtain ⟨a', cap', e, h1, h2, h3⟩ := h
  injection e with e1 e2 e3
  subst e1
  subst e3
  rw [← hn] at h1 h3
  refine ⟨⟨a, cap, by rw [mk1_len], by rw [mk1_len]; exact h1, h2, fun i hi => ?_⟩, ⟨hm.os, hm.tape, hm.output, hm.size, fun b hb => hm.block b (fun p => ?_)⟩⟩
  · rw [mk1_len] at hi
    obtain ⟨g, p, e, hg0, hg1, _, hf⟩ := h3 i hi
    exact ⟨g, p, e, hg0, hg1, by rw [hm.inside g p e i hi, mk1_get hi], (hm.frozen _).trans hf⟩
  · by_cases h0 : n = 0
    · exact .inl h0
    · refine .inr (fun e => ?_)
      obtain ⟨g, q, e', hg0, hg1, _⟩ := h3 0 (by omega)
      rw [e] at e'
      injection e' with e'
      injection e' with e' _
      omega
theorem held_of {w : World} {B0 B1 : Nat} {a : Option Addr} {n cap : Nat} (h : IntsW w B0 B1 (.slice a n cap) (mk1 n)) (hn : n ≤ 1048576) :
    Calls Try.prog 38 #[.slice a n cap, .int .i64 1] w fun e w' => e = .returned (.int .i64 (1 + n)) ∧ w = w' := by
  obtain ⟨a', cap', e, h1, h2, h3⟩ := h
  injection e with e1 e2 e3
  subst e1
  subst e3
  rw [mk1_len] at h3
  exact heldIntS_any w a n cap 1 hn (by omega) (by omega) (fun i hi => by
    obtain ⟨g, p, e, _, _, hc, _⟩ := h3 i hi
    exact ⟨g, p, e, by rw [hc, mk1_get hi]⟩)
theorem mark_of {w : World} {B0 B1 : Nat} {a : Option Addr} {n cap : Nat} {xs : List Int} (h : IntsW w B0 B1 (.slice a n cap) xs) (hn : n = xs.length) (hl : n ≤ 1048576) :
    Calls Try.prog 37 #[.slice a n cap, .int .i64 1] w fun e w' => e = .returned (.int .i64 (1 + n)) ∧ IntsW w' B0 B1 (.slice a n cap) (mk1 n) ∧ Kept B0 B1 w w' := by
  have h0 := h
  obtain ⟨a', cap', e, h1, h2, h3⟩ := h
  injection e with e1 e2 e3
  subst e1
  subst e3
  rw [← hn] at h3
  exact (markIntS_any w a n cap 1 hl (by omega) (by omega) (fun i hi => by
    obtain ⟨g, p, e, _, _, hc, hf⟩ := h3 i hi
    exact ⟨g, p, _, e, hc, hf⟩)).mono fun e w' ⟨he, hm⟩ => ⟨he, h0.marked hn hm⟩
end Go.Proofs.Ytfnmnegddhggaaa
namespace Go.Proofs.Ytfnmnegddhggaaa
open Go.ChangeShapes Go.WideShapes Go.ChangeAt Go.RowKit
set_option linter.unusedVariables false
theorem markN_of {w : World} {B0 B1 : Nat} {v : Value} {xs : List Int} {n : Nat} (h : IntsW w B0 B1 v xs) (hN : n = xs.length) (hn : n ≤ 1048576) :
    Calls Try.prog 37 #[v, .int .i64 1] w fun e w' => e = .returned (.int .i64 (1 + (n : Int))) ∧ IntsW w' B0 B1 v (mk1 n) ∧ Chg B0 B1 w w' := by
  have h0 := h
  obtain ⟨a, cap, rfl, _⟩ := h0
  subst hN
  exact (mark_of h rfl hn).mono (fun e w' ⟨he, hi, hk⟩ => ⟨he, hi, Chg.of_kept hk⟩)
theorem heldN_of {w : World} {B0 B1 : Nat} {v : Value} {n : Nat} (h : IntsW w B0 B1 v (mk1 n)) (hn : n ≤ 1048576) :
    Calls Try.prog 38 #[v, .int .i64 1] w fun e w' => e = .returned (.int .i64 (1 + (n : Int))) ∧ Chg 0 0 w w' := by
  have h0 := h
  obtain ⟨a, cap, rfl, _⟩ := h0
  have h1 := held_of (n := n) (by rw [mk1_len] at h; exact h) hn
  rw [mk1_len]
  exact h1.mono (fun e w' ⟨he, hb⟩ => ⟨he, by rw [← hb]; exact ⟨rfl, rfl, rfl, Nat.le_refl _, fun _ _ _ => rfl⟩⟩)
theorem markK_of {w : World} {B0 B1 : Nat} {v : Value} {xs : List Int} {n : Nat} (k : Int) (h : IntsW w B0 B1 v xs) (hN : n = xs.length) (hn : n ≤ 1048576) (hk : 0 ≤ k) (hk2 : k ≤ 1000000000000) :
    Calls Try.prog 37 #[v, .int .i64 k] w fun e w' => e = .returned (.int .i64 (k + (n : Int))) ∧ Chg B0 B1 w w' := by
  obtain ⟨a, cap, rfl, h1, h2, h3⟩ := h
  subst hN
  refine (markIntS_any w a xs.length cap k hn hk hk2 (fun i hi => ?_)).mono ?_
  · obtain ⟨g, p, e, _, _, hc, hf⟩ := h3 i hi
    exact ⟨g, p, _, e, hc, hf⟩
  rintro e w' ⟨rfl, hm⟩
  refine ⟨rfl, Chg.of_kept ⟨hm.os, hm.tape, hm.output, hm.size, fun b hb => hm.block b (fun p => ?_)⟩⟩
  by_cases hl : 0 < xs.length
  · obtain ⟨g, p', e, hg0, hg1, _⟩ := h3 0 hl
    refine .inr (fun e' => ?_)
    rw [e] at e'; cases e'
    omega
  · exact .inl (by omega)
end Go.Proofs.Ytfnmnegddhggaaa
namespace Go.Proofs.Ytfnmnegddhggaaa
open Go.ChangeShapes Go.WideShapes Go.ChangeAt Go.RowKit
set_option linter.unusedVariables false
set_option linter.unusedSimpArgs false
theorem spans_small (xs : List Int) : (spans xs).length ≤ 1048576 := by
  unfold spans
  by_cases h : trOk xs = true
  · rw [if_pos h, spansN_len]
    have := (trOk_iff.1 h).2
    omega
  · rw [if_neg h]; simp
end Go.Proofs.Ytfnmnegddhggaaa
namespace Go.Proofs.Ytfnmnegddhggaaa
open Go.ChangeShapes Go.WideShapes Go.ChangeAt Go.RowKit
set_option linter.unusedVariables false
set_option maxRecDepth 100000 in
set_option maxHeartbeats 2000000 in
theorem exTraceSpans_walk (W : World) (v0 : Value) (xs0 : List Int) (ys : List Int) (h0 : Ints W v0 xs0) (hy : ys.length ≤ 1048576)
    (hS : ∀ w u0, Ints w u0 xs0 → Calls Try.prog 20 #[u0] w (NewR ys w))
    (hI : ∀ w u0, Ints w u0 xs0 → Calls Try.prog 19 #[u0] w (NewR ys w)) :
    Calls Try.prog 14 #[v0] W fun e w' => e = .returned (.bool true) ∧ Below W.heap.size W w' := by
  have HSPEC := Lib.hid hS
  have HIMPL := Lib.hid hI
  clear hS hI
  obtain ⟨a0, c0, e0, hla0, hma0, hx0⟩ := h0
  obtain ⟨V0, hV0⟩ : ∃ V, V = v0 := ⟨_, rfl⟩
  have H0 : Hid (Ints W V0 xs0) := Lib.hid (by rw [hV0]; exact ⟨a0, c0, e0, hla0, hma0, hx0⟩)
  subst e0
  clear hx0
  unfold maxLen at hma0
  obtain ⟨m0, hm0⟩ : ∃ m, m = xs0.length := ⟨_, rfl⟩
  rw [← hm0] at hla0 hV0 ⊢
  have HV0 := Lib.hid hV0
  have HM0 := Lib.hid hm0
  clear hm0 hV0
  obtain ⟨ny, hny⟩ : ∃ n, n = ys.length := ⟨_, rfl⟩
  have hny1 : ny ≤ 1048576 := by omega
  have HNY := Lib.hid hny
  clear hny hy
  have hge2 : decide ((1 : Int) + (ny : Int) < 0) = false := by simp; omega
  go_enter Try.func14, Try.ntmps14
  by_cases hq0 : 1048576 < m0
  · go_wp2_with fail
    go_ret
    exact ⟨rfl, Below.refl _ _⟩
  have hr0 : ¬ (1048576 : Int) < (m0 : Int) := by omega
  have hs0 : m0 ≤ 1048576 := by omega
  clear hq0
  have hxx : decide ((1 : Int) + (m0 : Int) < 0) = false := by simp; omega
  have BW := Lib.hid (Below.refl W.heap.size W)
  have ZW : W.heap.size ≤ W.heap.size := Nat.le_refl _
  go_wp2_with fail
  refine (toN_of W _ xs0 (by rw [← HV0.out]; exact H0.out) (by rw [← HM0.out]; exact hs0)).mono ?_
  rintro e wa0 ⟨ua0, rfl, ho, hb⟩
  have Cwa0 := Chg.of_below hb
  have Q_ := Lib.hid ho
  clear ho hb
  have Zwa0 := Cwa0.size
  have Bwa0 := Lib.hid (Below.chg BW.out Cwa0 (by omega) (.inr rfl))
  clear Cwa0 BW
  have X0_wa0 := Q_
  clear Q_
  go_wp2_with fail
  refine (HSPEC.out wa0 ua0 X0_wa0.out.ints).mono ?_
  rintro e w2 ⟨u2_, rfl, ho, hb⟩
  have Cw2 := Chg.of_below hb
  have Q_ := Lib.hid ho
  clear ho hb
  have Zw2 := Cw2.size
  have Bw2 := Lib.hid (Below.chg Bwa0.out Cw2 (by omega) (.inr rfl))
  have X0_w2 := Lib.hid (X0_wa0.out.chg Cw2 (by omega) (.inr (by omega)))
  clear Cw2 Bwa0 X0_wa0
  have Mw2 := Q_
  clear Q_
  clear X0_w2
  go_wp2_with fail
  refine (toN_of w2 _ xs0 (by rw [← HV0.out]; exact (Ints.below (B := 0) H0.out Bw2.out)) (by rw [← HM0.out]; exact hs0)).mono ?_
  rintro e wb0 ⟨ub0, rfl, ho, hb⟩
  have Cwb0 := Chg.of_below hb
  have Q_ := Lib.hid ho
  clear ho hb
  have Zwb0 := Cwb0.size
  have Bwb0 := Lib.hid (Below.chg Bw2.out Cwb0 (by omega) (.inr rfl))
  have Mwb0 := Lib.hid (Mw2.out.chg Cwb0 (by omega) (.inr (by omega)))
  clear Cwb0 Bw2 Mw2
  have X0_wb0 := Q_
  clear Q_
  go_wp2_with fail
  refine (HIMPL.out wb0 ub0 X0_wb0.out.ints).mono ?_
  rintro e w4 ⟨u4_, rfl, ho, hb⟩
  have Cw4 := Chg.of_below hb
  have Q_ := Lib.hid ho
  clear ho hb
  have Zw4 := Cw4.size
  have Bw4 := Lib.hid (Below.chg Bwb0.out Cw4 (by omega) (.inr rfl))
  have Mw4 := Lib.hid (Mwb0.out.chg Cw4 (by omega) (.inr (by omega)))
  have X0_w4 := Lib.hid (X0_wb0.out.chg Cw4 (by omega) (.inr (by omega)))
  clear Cw4 Bwb0 Mwb0 X0_wb0
  have Pw4 := Q_
  clear Q_
  go_wp2_with fail
  refine (eqs_c w4 u4_ u2_ ys Pw4.out.ints Mw4.out.ints).mono ?_
  rintro e w5 ⟨rfl, Cw5⟩
  have Zw5 := Cw5.size
  have Bw5 := Lib.hid (Below.chg Bw4.out Cw5 (by omega) (.inr rfl))
  have Mw5 := Lib.hid (Mw4.out.chg Cw5 (by omega) (.inr (by omega)))
  have X0_w5 := Lib.hid (X0_w4.out.chg Cw5 (by omega) (.inr (by omega)))
  have Pw5 := Lib.hid (Pw4.out.chg Cw5 (by omega) (.inr (by omega)))
  clear Cw5 Bw4 Mw4 X0_w4 Pw4
  go_wp2_with fail
  refine (toN_of w5 _ xs0 (by rw [← HV0.out]; exact (Ints.below (B := 0) H0.out Bw5.out)) (by rw [← HM0.out]; exact hs0)).mono ?_
  rintro e wc0 ⟨uc0, rfl, ho, hb⟩
  have Cwc0 := Chg.of_below hb
  have Q_ := Lib.hid ho
  clear ho hb
  have Zwc0 := Cwc0.size
  have Bwc0 := Lib.hid (Below.chg Bw5.out Cwc0 (by omega) (.inr rfl))
  have Mwc0 := Lib.hid (Mw5.out.chg Cwc0 (by omega) (.inr (by omega)))
  have X0_wc0 := Lib.hid (X0_w5.out.chg Cwc0 (by omega) (.inr (by omega)))
  have Pwc0 := Lib.hid (Pw5.out.chg Cwc0 (by omega) (.inr (by omega)))
  clear Cwc0 Bw5 Mw5 X0_w5 Pw5
  have Twc0 := Q_
  clear Q_
  go_wp2_with fail
  refine (eqs_c wc0 ub0 uc0 xs0 X0_wc0.out.ints Twc0.out.ints).mono ?_
  rintro e wd0 ⟨rfl, Cwd0⟩
  have Zwd0 := Cwd0.size
  have Bwd0 := Lib.hid (Below.chg Bwc0.out Cwd0 (by omega) (.inr rfl))
  have Mwd0 := Lib.hid (Mwc0.out.chg Cwd0 (by omega) (.inr (by omega)))
  have X0_wd0 := Lib.hid (X0_wc0.out.chg Cwd0 (by omega) (.inr (by omega)))
  have Pwd0 := Lib.hid (Pwc0.out.chg Cwd0 (by omega) (.inr (by omega)))
  have Twd0 := Lib.hid (Twc0.out.chg Cwd0 (by omega) (.inr (by omega)))
  clear Cwd0 Bwc0 Mwc0 X0_wc0 Pwc0 Twc0
  clear Twd0
  have HM_ := Lib.hid (markK_of (1) X0_wd0.out HM0.out hs0 (by omega) (by omega))
  clear X0_wd0
  go_wp2_with fail
  refine HM_.out.mono ?_
  rintro e we0 ⟨rfl, Cwe0⟩
  have Zwe0 := Cwe0.size
  have Bwe0 := Lib.hid (Below.chg Bwd0.out Cwe0 (by omega) (.inl (by omega)))
  have Mwe0 := Lib.hid (Mwd0.out.chg Cwe0 (by omega) (.inl (by omega)))
  have Pwe0 := Lib.hid (Pwd0.out.chg Cwe0 (by omega) (.inr (by omega)))
  clear Cwe0 Bwd0 Mwd0 Pwd0 HM_
  go_wp2_with fail
  refine (eqs_c we0 u4_ u2_ ys Pwe0.out.ints Mwe0.out.ints).mono ?_
  rintro e w9 ⟨rfl, Cw9⟩
  have Zw9 := Cw9.size
  have Bw9 := Lib.hid (Below.chg Bwe0.out Cw9 (by omega) (.inr rfl))
  have Mw9 := Lib.hid (Mwe0.out.chg Cw9 (by omega) (.inr (by omega)))
  have Pw9 := Lib.hid (Pwe0.out.chg Cw9 (by omega) (.inr (by omega)))
  clear Cw9 Bwe0 Mwe0 Pwe0
  have HM_ := Lib.hid (markN_of Pw9.out HNY.out hny1)
  clear Pw9
  go_wp2_with fail
  refine HM_.out.mono ?_
  rintro e w10 ⟨rfl, hk, Cw10⟩
  have P0 := Lib.hid hk
  have Zw10 := Cw10.size
  have Bw10 := Lib.hid (Below.chg Bw9.out Cw10 (by omega) (.inl (by omega)))
  have Mw10 := Lib.hid (Mw9.out.chg Cw10 (by omega) (.inl (by omega)))
  clear Cw10 Bw9 Mw9 HM_ hk
  have Pw10 := P0
  clear P0
  have HD_ := Lib.hid (heldN_of Pw10.out hny1)
  go_wp2_with fail
  refine HD_.out.mono ?_
  rintro e w11 ⟨rfl, Cw11⟩
  have Zw11 := Cw11.size
  have Bw11 := Lib.hid (Below.chg Bw10.out Cw11 (by omega) (.inr rfl))
  have Mw11 := Lib.hid (Mw10.out.chg Cw11 (by omega) (.inr (by omega)))
  have Pw11 := Lib.hid (Pw10.out.chg Cw11 (by omega) (.inr (by omega)))
  clear Cw11 Bw10 Mw10 Pw10 HD_
  go_wp2_with fail
  refine (toN_of w11 _ xs0 (by rw [← HV0.out]; exact (Ints.below (B := 0) H0.out Bw11.out)) (by rw [← HM0.out]; exact hs0)).mono ?_
  rintro e wf0 ⟨uf0, rfl, ho, hb⟩
  have Cwf0 := Chg.of_below hb
  have Q_ := Lib.hid ho
  clear ho hb
  have Zwf0 := Cwf0.size
  have Bwf0 := Lib.hid (Below.chg Bw11.out Cwf0 (by omega) (.inr rfl))
  have Mwf0 := Lib.hid (Mw11.out.chg Cwf0 (by omega) (.inr (by omega)))
  have Pwf0 := Lib.hid (Pw11.out.chg Cwf0 (by omega) (.inr (by omega)))
  clear Cwf0 Bw11 Mw11 Pw11
  have X0_wf0 := Q_
  clear Q_
  go_wp2_with fail
  refine (HIMPL.out wf0 uf0 X0_wf0.out.ints).mono ?_
  rintro e w13 ⟨u13_, rfl, ho, hb⟩
  have Cw13 := Chg.of_below hb
  have Q_ := Lib.hid ho
  clear ho hb
  have Zw13 := Cw13.size
  have Bw13 := Lib.hid (Below.chg Bwf0.out Cw13 (by omega) (.inr rfl))
  have Mw13 := Lib.hid (Mwf0.out.chg Cw13 (by omega) (.inr (by omega)))
  have Pw13 := Lib.hid (Pwf0.out.chg Cw13 (by omega) (.inr (by omega)))
  have X0_w13 := Lib.hid (X0_wf0.out.chg Cw13 (by omega) (.inr (by omega)))
  clear Cw13 Bwf0 Mwf0 Pwf0 X0_wf0
  have Gw13 := Q_
  clear Q_
  clear X0_w13
  go_wp2_with fail
  refine (eqs_c w13 u13_ u2_ ys Gw13.out.ints Mw13.out.ints).mono ?_
  rintro e w14 ⟨rfl, Cw14⟩
  have Zw14 := Cw14.size
  have Bw14 := Lib.hid (Below.chg Bw13.out Cw14 (by omega) (.inr rfl))
  have Mw14 := Lib.hid (Mw13.out.chg Cw14 (by omega) (.inr (by omega)))
  have Pw14 := Lib.hid (Pw13.out.chg Cw14 (by omega) (.inr (by omega)))
  have Gw14 := Lib.hid (Gw13.out.chg Cw14 (by omega) (.inr (by omega)))
  clear Cw14 Bw13 Mw13 Pw13 Gw13
  clear Gw14
  have HD_ := Lib.hid (heldN_of Pw14.out hny1)
  go_wp2_with fail
  refine HD_.out.mono ?_
  rintro e w15 ⟨rfl, Cw15⟩
  have Zw15 := Cw15.size
  have Bw15 := Lib.hid (Below.chg Bw14.out Cw15 (by omega) (.inr rfl))
  have Mw15 := Lib.hid (Mw14.out.chg Cw15 (by omega) (.inr (by omega)))
  have Pw15 := Lib.hid (Pw14.out.chg Cw15 (by omega) (.inr (by omega)))
  clear Cw15 Bw14 Mw14 Pw14 HD_
  go_wp2_with fail
  go_ret
  exact ⟨rfl, Bw15.out⟩
end Go.Proofs.Ytfnmnegddhggaaa
