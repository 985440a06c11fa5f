/- What the proofs stand on, part 39. -/
import Derived.Test.YtachiggolgdocaaRows
import Derived.Test.YtachiggolgdocaaM1
import Derived.Test.YtachiggolgdocaaM2
import Derived.Test.YtachiggolgdocaaM3
import Derived.Test.YtachiggolgdocaaM4
import Derived.Test.YtachiggolgdocaaM5
import Derived.Test.YtachiggolgdocaaM7
import Derived.Test.YtachiggolgdocaaM12
import Derived.Test.YtachiggolgdocaaM16
import Derived.Test.YtachiggolgdocaaM21
import Derived.Test.YtachiggolgdocaaM22
import Derived.Test.YtachiggolgdocaaM23
import Derived.Test.YtachiggolgdocaaM24
import Derived.Test.YtachiggolgdocaaM27
import Derived.Test.YtachiggolgdocaaM32
set_option linter.unusedSimpArgs false
set_option linter.unusedVariables false
namespace Go.Proofs.Ytachiggolgdocaa
open Go.ChangeShapes Go.WideShapes Go.ChangeAt Go.RowKit
set_option linter.unusedVariables false
theorem eqIntS_any (w : World) (va vb : Value) (xs ys : List Int) (ha : Ints w va xs) (hb : Ints w vb ys) :
    Calls Try.prog 36 #[va, vb] w (Reads (.bool (decide (xs = ys))) w) := by
  obtain ⟨a, ca, rfl, hla, hma, hxa⟩ := ha
  obtain ⟨b, cb, rfl, hlb, hmb, hxb⟩ := hb
  unfold maxLen at hma hmb
  by_cases hl : xs.length = ys.length
  · obtain ⟨n, hn⟩ : ∃ n, n = xs.length := ⟨_, rfl⟩
    have hn2 : ys.length = n := by omega
    rw [← hn] at hla hxa ⊢
    rw [hn2] at hlb hxb ⊢
    have HN := Lib.hid hn
    have HN2 := Lib.hid hn2
    clear hn hn2 hl
    go_enter Try.func36, Try.ntmps36
    go_wp2
    go_loopw [5] (fun i wr => ∃ k d : Nat, k ≤ n ∧ i = .int .i64 k ∧ Hid (xs.take k = ys.take k) ∧ wr = w.drewN d) (fun i _ => n - (intOf i).toNat)
    case atStart => exact ⟨0, 0, Nat.zero_le _, rfl, Lib.hid rfl, rfl⟩
    case round =>
      obtain ⟨k, d, hk, rfl, HT, rfl⟩ := hrel
      by_cases hlt : k < n
      · obtain ⟨ba, oa, rfl, hca⟩ := hxa k hlt
        obtain ⟨bb, ob, rfl, hcb⟩ := hxb k hlt
        generalize hx : xs.getD k 0 = x at hca
        generalize hy : ys.getD k 0 = y at hcb
        have HX := Lib.hid hx
        have HY := Lib.hid hy
        clear hx hy hxa hxb
        have hlt' : (k : Int) < (n : Int) := by omega
        by_cases he : x = y
        · subst he
          go_wp2_with fail
          go_quiet (fail)
          go_wp2
          go_roundw
          case rel => exact ⟨k + 1, _, by omega, by go_num, Lib.hid (take_eq_succ (d := 0) (HN.out.symm.trans HN2.out.symm) (by have := HN.out; omega) HT.out (HX.out.trans HY.out.symm)), rfl⟩
          case measure => simp [intOf]; omega
        · have hne : (x != y) = true := by simpa using he
          have HE : Hid (¬ x = y) := Lib.hid he
          clear he
          go_wp2_with fail
          go_quiet (fail)
          go_wp2
          go_ret
          exact reads_mk2 (by symm; exact decide_eq_false (ne_of_getD (d := 0) (k := k) (fun h => HE.out (HX.out.symm.trans (h.trans HY.out)))))
      · go_wp2
        go_ret
        exact reads_mk (by symm; exact decide_eq_true (eq_of_take (HN.out.symm.trans HN2.out.symm) (by have := HN.out; omega) HT.out))
  · have hne : ((xs.length : Int) != (ys.length : Int)) = true := by simp; omega
    have HL := Lib.hid hl
    clear hl
    go_enter Try.func36, Try.ntmps36
    go_wp2
    go_ret
    exact reads_mk0 (by symm; exact decide_eq_false (fun h => HL.out (by rw [h])))
end Go.Proofs.Ytachiggolgdocaa
namespace Go.Proofs.Ytachiggolgdocaa
open Go.ChangeShapes Go.WideShapes Go.ChangeAt Go.RowKit
set_option linter.unusedVariables false
structure Marked (a : Option Addr) (n : Nat) (k : Int) (w w' : World) : Prop where
  os : w'.os = w.os
  tape : w'.tape = w.tape
  output : w'.output = w.output
  size : w'.heap.size = w.heap.size
  block : ∀ b, (∀ p, n = 0 ∨ a ≠ some ⟨b, p, none⟩) → w'.heap[b]? = w.heap[b]?
  frozen : ∀ b, w'.frozen? b = w.frozen? b
  inside : ∀ g p, a = some ⟨g, p, none⟩ → ∀ i, i < n → w'.cell? ⟨g, p + i, none⟩ = some (.int .i64 (k + i))
  outside : ∀ g p, a = some ⟨g, p, none⟩ → ∀ o, (o < p ∨ p + n ≤ o) → w'.cell? ⟨g, o, none⟩ = w.cell? ⟨g, o, none⟩
theorem Marked.zero (a : Option Addr) (k : Int) (w : World) : Marked a 0 k w w := ⟨rfl, rfl, rfl, rfl, fun _ _ => rfl, fun _ => rfl, fun _ _ _ i hi => by omega, fun _ _ _ _ _ => rfl⟩
theorem Marked.step {g p n : Nat} {k : Int} {w w' : World} (h : Marked (some ⟨g, p, none⟩) n k w w') {u : Value} (hc : w.cell? ⟨g, p + n, none⟩ = some u) :
    Marked (some ⟨g, p, none⟩) (n + 1) k w (w'.setCell ⟨g, p + n, none⟩ (.int .i64 (k + n))) := by
  refine ⟨h.os, h.tape, h.output, by simpa [World.setCell] using h.size, fun b hb => ?_, fun b => (frozen_set b).trans (h.frozen b), fun g' p' e i hi => ?_, fun g' p' e o ho => ?_⟩
  · have : b ≠ g := fun e => by
      rcases hb p with h' | h'
      · omega
      · exact h' (by rw [e])
    exact (Below.heap_setCell w' ⟨g, p + n, none⟩ _ b this).trans (h.block b (fun q => (hb q).elim (fun h' => by omega) .inr))
  · cases e
    by_cases hin : i = n
    · subst hin
      exact cell_set_same ((h.outside g p rfl (p + i) (.inr (Nat.le_refl _))).trans hc)
    · exact (cell_set_other (.inr (by omega))).trans (h.inside g p rfl i (by omega))
  · cases e
    exact (cell_set_other (.inr (by omega))).trans (h.outside g p rfl o (by omega))
def Marks (a : Option Addr) (n : Nat) (k : Int) (w : World) (e : Ending) (w' : World) : Prop := e = .returned (.int .i64 (k + n)) ∧ Marked a n k w w'
theorem marks_mk {a : Option Addr} {n : Nat} {k x : Int} {w w' : World} (h : x = k + n) (hm : Marked a n k w w') : Marks a n k w (.returned (.int .i64 x)) w' := ⟨by rw [h], hm⟩
theorem markIntS_any (w : World) (a : Option Addr) (n cap : Nat) (k : Int) (hn : n ≤ 1048576) (hk : 0 ≤ k) (hk2 : k ≤ 1000000000000)
    (h : ∀ i, i < n → ∃ g p u, a = some ⟨g, p, none⟩ ∧ w.cell? ⟨g, p + i, none⟩ = some u ∧ w.frozen? ⟨g, p + i, none⟩ = false) :
    Calls Try.prog 37 #[.slice a n cap, .int .i64 k] w (Marks a n k w) := by
  have H := Lib.hid h
  clear h
  go_enter Try.func37, Try.ntmps37
  go_wp2
  go_loopw [1, 5] (fun l i wr => ∃ j : Nat, j ≤ n ∧ i = .int .i64 j ∧ l = .int .i64 (k + j) ∧ Marked a j k w wr) (fun _ i _ => n - (intOf i).toNat)
  case atStart => exact ⟨0, Nat.zero_le _, rfl, by simp, Marked.zero _ _ _⟩
  case round =>
    obtain ⟨j, hj, rfl, rfl, hm⟩ := hrel
    by_cases hlt : j < n
    · obtain ⟨g, p, u, rfl, hc, hf⟩ := H.out j hlt
      have hcr := (hm.outside g p rfl (p + j) (.inr (Nat.le_refl _))).trans hc
      have hfr := (hm.frozen _).trans hf
      have hst := Lib.hid (hm.step hc)
      clear hc hf
      have hlt' : (j : Int) < (n : Int) := by omega
      go_wp2
      go_roundw
      case rel => exact ⟨j + 1, by omega, by go_num, by go_num, hst.out⟩
      case measure => simp [intOf]; omega
    · go_wp2
      go_ret
      have e : j = n := by omega
      subst e
      exact marks_mk rfl hm
structure Kept (B0 B1 : Nat) (w w' : World) : Prop where
  os : w'.os = w.os
  tape : w'.tape = w.tape
  output : w'.output = w.output
  size : w'.heap.size = w.heap.size
  block : ∀ b, (b < B0 ∨ B1 ≤ b) → w'.heap[b]? = w.heap[b]?
theorem Kept.refl (B0 B1 : Nat) (w : World) : Kept B0 B1 w w := ⟨rfl, rfl, rfl, rfl, fun _ _ => rfl⟩
theorem Kept.trans {B0 B1 : Nat} {a b c : World} (h : Kept B0 B1 a b) (k : Kept B0 B1 b c) : Kept B0 B1 a c :=
  ⟨k.os.trans h.os, k.tape.trans h.tape, k.output.trans h.output, k.size.trans h.size, fun i hi => (k.block i hi).trans (h.block i hi)⟩
theorem Kept.below {B0 B1 B : Nat} {a b w : World} (h : Kept B0 B1 a b) (hb : Below B w a) (hB : B ≤ B0) : Below B w b :=
  ⟨h.os.trans hb.os, h.tape.trans hb.tape, h.output.trans hb.output, by rw [h.size]; exact hb.size, fun k hk => (h.block k (.inl (by omega))).trans (hb.block k hk)⟩
end Go.Proofs.Ytachiggolgdocaa
namespace Go.Proofs.Ytachiggolgdocaa
open Go.ChangeShapes Go.WideShapes Go.ChangeAt Go.RowKit
set_option linter.unusedVariables false
theorem heldIntS_any (w : World) (a : Option Addr) (n cap : Nat) (k : Int) (hn : n ≤ 1048576) (hk : 0 ≤ k) (hk2 : k ≤ 1000000000000)
    (h : ∀ i, i < n → ∃ g p, a = some ⟨g, p, none⟩ ∧ w.cell? ⟨g, p + i, none⟩ = some (.int .i64 (k + i))) :
    Calls Try.prog 38 #[.slice a n cap, .int .i64 k] w fun e w' => e = .returned (.int .i64 (k + n)) ∧ w = w' := by
  have H := Lib.hid h
  clear h
  go_enter Try.func38, Try.ntmps38
  go_wp2
  go_loop [1, 5] (fun l i => ∃ j : Nat, j ≤ n ∧ i = .int .i64 j ∧ l = .int .i64 (k + j)) (fun _ i => n - (intOf i).toNat)
  case atStart => exact ⟨0, Nat.zero_le _, rfl, by simp⟩
  case round =>
    obtain ⟨j, hj, rfl, rfl⟩ := hrel
    by_cases hlt : j < n
    · obtain ⟨g, p, rfl, hc⟩ := H.out j hlt
      have hlt' : (j : Int) < (n : Int) := by omega
      go_wp2
      go_round
      case rel => exact ⟨j + 1, by omega, by go_num, by go_num⟩
      case measure => simp [intOf]; omega
    · go_wp2
      go_ret
      have e : j = n := by omega
      subst e
      exact ⟨rfl, rfl⟩
end Go.Proofs.Ytachiggolgdocaa
namespace Go.Proofs.Ytachiggolgdocaa
open Go.ChangeShapes Go.WideShapes Go.ChangeAt Go.RowKit
set_option linter.unusedVariables false
theorem Chg.of_kept {lo hi : Nat} {w w' : World} (h : Kept lo hi w w') : Chg lo hi w w' := ⟨h.os, h.tape, h.output, Nat.le_of_eq h.size.symm, fun b _ hb => h.block b hb⟩
theorem Chg.of_drewN (w : World) (n : Nat) : Chg 0 0 w (w.drewN n) := ⟨rfl, rfl, rfl, Nat.le_refl _, fun _ _ _ => rfl⟩
end Go.Proofs.Ytachiggolgdocaa
namespace Go.Proofs.Ytachiggolgdocaa
open Go.ChangeShapes Go.WideShapes Go.ChangeAt Go.RowKit
set_option linter.unusedVariables false
def mk1 (n : Nat) : List Int := (List.range n).map (fun i : Nat => 1 + (i : Int))
theorem mk1_len (n : Nat) : (mk1 n).length = n := by simp [mk1]
theorem mk1_get {n i : Nat} (h : i < n) : (mk1 n).getD i 0 = 1 + i := by
  rw [getD_lt (by rw [mk1_len]; exact h)]
  simp [mk1]
theorem IntsW.marked {w w' : World} {B0 B1 : Nat} {a : Option Addr} {n cap : Nat} {xs : List Int} (h : IntsW w B0 B1 (.slice a n cap) xs) (hn : n = xs.length) (hm : Marked a n 1 w w') : IntsW w' B0 B1 (.slice a n cap) (mk1 n) ∧ Kept B0 B1 w w' := by
  obtain ⟨a', cap', e, h1, h2, h3⟩ := h
  injection e with e1 e2 e3
  subst e1
  subst e3
  rw [← hn] at h1 h3
  refine ⟨⟨a, cap, by rw [mk1_len], by rw [mk1_len]; exact h1, h2, fun i hi => ?_⟩, ⟨hm.os, hm.tape, hm.output, hm.size, fun b hb => hm.block b (fun p => ?_)⟩⟩
  · rw [mk1_len] at hi
    obtain ⟨g, p, e, hg0, hg1, _, hf⟩ := h3 i hi
    exact ⟨g, p, e, hg0, hg1, by rw [hm.inside g p e i hi, mk1_get hi], (hm.frozen _).trans hf⟩
  · by_cases h0 : n = 0
    · exact .inl h0
    · refine .inr (fun e => ?_)
      obtain ⟨g, q, e', hg0, hg1, _⟩ := h3 0 (by omega)
      rw [e] at e'
      injection e' with e'
      injection e' with e' _
      omega
theorem held_of {w : World} {B0 B1 : Nat} {a : Option Addr} {n cap : Nat} (h : IntsW w B0 B1 (.slice a n cap) (mk1 n)) (hn : n ≤ 1048576) :
    Calls Try.prog 38 #[.slice a n cap, .int .i64 1] w fun e w' => e = .returned (.int .i64 (1 + n)) ∧ w = w' := by
  obtain ⟨a', cap', e, h1, h2, h3⟩ := h
  injection e with e1 e2 e3
  subst e1
  subst e3
  rw [mk1_len] at h3
  exact heldIntS_any w a n cap 1 hn (by omega) (by omega) (fun i hi => by
    obtain ⟨g, p, e, _, _, hc, _⟩ := h3 i hi
    exact ⟨g, p, e, by rw [hc, mk1_get hi]⟩)
theorem mark_of {w : World} {B0 B1 : Nat} {a : Option Addr} {n cap : Nat} {xs : List Int} (h : IntsW w B0 B1 (.slice a n cap) xs) (hn : n = xs.length) (hl : n ≤ 1048576) :
    Calls Try.prog 37 #[.slice a n cap, .int .i64 1] w fun e w' => e = .returned (.int .i64 (1 + n)) ∧ IntsW w' B0 B1 (.slice a n cap) (mk1 n) ∧ Kept B0 B1 w w' := by
  have h0 := h
  obtain ⟨a', cap', e, h1, h2, h3⟩ := h
  injection e with e1 e2 e3
  subst e1
  subst e3
  rw [← hn] at h3
  exact (markIntS_any w a n cap 1 hl (by omega) (by omega) (fun i hi => by
    obtain ⟨g, p, e, _, _, hc, hf⟩ := h3 i hi
    exact ⟨g, p, _, e, hc, hf⟩)).mono fun e w' ⟨he, hm⟩ => ⟨he, h0.marked hn hm⟩
theorem eqs_c (w : World) (va vb : Value) (xs : List Int) (ha : Ints w va xs) (hb : Ints w vb xs) :
    Calls Try.prog 36 #[va, vb] w fun e w' => e = .returned (.bool true) ∧ Chg 0 0 w w' :=
  (eqIntS_any w va vb xs xs ha hb).mono fun e w' ⟨he, n, hn⟩ => ⟨by rw [he]; simp, by rw [hn]; exact Chg.of_drewN w n⟩
end Go.Proofs.Ytachiggolgdocaa
namespace Go.Proofs.Ytachiggolgdocaa
open Go.ChangeShapes Go.WideShapes Go.ChangeAt Go.RowKit
set_option linter.unusedVariables false
def MarkN (w : World) (B0 B1 : Nat) (v : Value) (n : Nat) : Prop := Calls Try.prog 37 #[v, .int .i64 1] w fun e w' => e = .returned (.int .i64 (1 + (n : Int))) ∧ IntsW w' B0 B1 v (mk1 n) ∧ Chg B0 B1 w w'
theorem markN_of {w : World} {B0 B1 : Nat} {v : Value} {xs : List Int} {n : Nat} (h : IntsW w B0 B1 v xs) (hN : n = xs.length) (hn : n ≤ 1048576) : MarkN w B0 B1 v n := by
  have h0 := h
  obtain ⟨a, cap, rfl, _⟩ := h0
  subst hN
  exact (mark_of h rfl hn).mono (fun e w' ⟨he, hi, hk⟩ => ⟨he, hi, Chg.of_kept hk⟩)
def HeldN (w : World) (v : Value) (n : Nat) : Prop := Calls Try.prog 38 #[v, .int .i64 1] w fun e w' => e = .returned (.int .i64 (1 + (n : Int))) ∧ Chg 0 0 w w'
theorem heldN_of {w : World} {B0 B1 : Nat} {v : Value} {n : Nat} (h : IntsW w B0 B1 v (mk1 n)) (hn : n ≤ 1048576) : HeldN w v n := by
  have h0 := h
  obtain ⟨a, cap, rfl, _⟩ := h0
  have h1 := held_of (n := n) (by rw [mk1_len] at h; exact h) hn
  rw [mk1_len]
  exact h1.mono (fun e w' ⟨he, hb⟩ => ⟨he, by rw [← hb]; exact ⟨rfl, rfl, rfl, Nat.le_refl _, fun _ _ _ => rfl⟩⟩)
set_option maxRecDepth 100000 in
set_option maxHeartbeats 2000000 in
theorem exMailWords_walk (W0 : World) (v0 : Value) (xs : List IV) (f t : Int) (h : Is W0 v0 xs) :
    Calls Try.prog 14 #[v0, .int .i64 f, .int .i64 t] W0 fun e w' => e = .returned (.bool true) ∧ Below W0.heap.size W0 w' := by
  have H0 := Lib.hid h
  obtain ⟨ys, hys⟩ : ∃ ys, ys = mws xs f t := ⟨_, rfl⟩
  have hy6 : ys.length ≤ 8 := by rw [hys]; exact mws_len
  have HYS := Lib.hid hys
  clear hys
  obtain ⟨ny, hny⟩ : ∃ n, n = ys.length := ⟨_, rfl⟩
  have HNY := Lib.hid hny
  have hny1 : ny ≤ 8 := by omega
  clear hny hy6
  have hge2 : decide ((1 : Int) + (ny : Int) < 0) = false := by simp; omega
  go_enter Try.func14, Try.ntmps14
  go_wp2_with fail
  refine (szMailS_any W0 v0 xs 1048576 (by exact h) (by omega) (by omega)).mono ?_
  clear h
  rintro e w0 ⟨r, hr, rfl, hw0⟩
  have B0 : Hid (Below W0.heap.size W0 w0) := Lib.hid (by rw [← hw0]; exact Below.refl _ _)
  clear hw0
  by_cases hr0 : r < 0
  · go_wp2_with fail
    go_ret
    exact ⟨rfl, B0.out⟩
  have hr1 : decide (r < 0) = false := by simpa using hr0
  have hn : xs.length ≤ 1048576 := by rcases hr with h | h <;> omega
  clear hr hr0
  have HSP : Hid (∀ w v, Is w v xs → NilOkI v → Calls Try.prog 26 #[v, .int .i64 f, .int .i64 t] w (NewR ys w)) := Lib.hid (fun w v h hn => by rw [HYS.out]; exact sMailWords_any w v xs f t h)
  have HIM : Hid (∀ w v, Is w v xs → NilOkI v → Calls Try.prog 19 #[v, .int .i64 f, .int .i64 t] w (NewR ys w)) := Lib.hid (fun w v h hn => by rw [HYS.out]; exact imw_any w v xs f t h)
  obtain ⟨m, hm⟩ : ∃ m, m = xs.length := ⟨_, rfl⟩
  have HM := Lib.hid hm
  have hm1 : m ≤ 1048576 := by omega
  clear hm
  have Z0 : W0.heap.size ≤ w0.heap.size := B0.out.size
  go_wp2_with fail
  refine (toInfoS_any w0 v0 xs (H0.out.below B0.out) hn).mono ?_
  rintro e w1 ⟨u1, rfl, ho1, hb1, hv1⟩
  have Bw1 := Lib.hid (B0.out.trans (hb1.mono B0.out.size))
  have Zw1 : W0.heap.size ≤ w1.heap.size := Bw1.out.size
  have R1 := Lib.hid ho1.is
  have N1 := Lib.hid (nilOk_of hv1)
  clear hb1 ho1 B0 hv1
  go_wp2_with fail
  refine (HSP.out w1 u1 R1.out N1.out).mono ?_
  rintro e w2 ⟨u2, rfl, hm2, hb2⟩
  have C2 := Chg.of_below hb2
  have M0 := Lib.hid hm2
  have Zw2 := C2.size
  have Bw2 := Lib.hid (Below.chg Bw1.out C2 (by omega) (.inr rfl))
  clear C2 Bw1 R1 N1 hm2 hb2
  have Mw2 := M0
  clear M0
  go_wp2_with fail
  refine (toInfoS_any w2 v0 xs (H0.out.below Bw2.out) hn).mono ?_
  rintro e w3 ⟨u3, rfl, ho, hb, hv⟩
  have Cw3 := Chg.of_below hb
  have O0 := Lib.hid ho
  have N0 := Lib.hid (nilOk_of hv)
  have Zw3 := Cw3.size
  have Bw3 := Lib.hid (Below.chg Bw2.out Cw3 (by omega) (.inr rfl))
  have Mw3 := Lib.hid (Mw2.out.chg Cw3 (by omega) (.inr (by omega)))
  clear Cw3 Bw2 Mw2 ho hb hv
  have Ow3 := O0
  clear O0
  go_wp2_with fail
  refine (HIM.out w3 u3 Ow3.out.is N0.out).mono ?_
  rintro e w4 ⟨u4, rfl, hm4, hb4⟩
  have C4 := Chg.of_below hb4
  have P0 := Lib.hid hm4
  have Zw4 := C4.size
  have Bw4 := Lib.hid (Below.chg Bw3.out C4 (by omega) (.inr rfl))
  have Mw4 := Lib.hid (Mw3.out.chg C4 (by omega) (.inr (by omega)))
  have Ow4 := Lib.hid (Ow3.out.chg C4 (by omega) (.inr (by omega)))
  clear C4 Bw3 Mw3 Ow3 hm4 hb4 N0
  have Pw4 := P0
  clear P0
  go_wp2_with fail
  refine (eqs_c w4 u4 u2 ys (Pw4.out.ints) (Mw4.out.ints)).mono ?_
  rintro e w5 ⟨rfl, Cw5⟩
  have Zw5 := Cw5.size
  have Bw5 := Lib.hid (Below.chg Bw4.out Cw5 (by omega) (.inr rfl))
  have Mw5 := Lib.hid (Mw4.out.chg Cw5 (by omega) (.inr (by omega)))
  have Ow5 := Lib.hid (Ow4.out.chg Cw5 (by omega) (.inr (by omega)))
  have Pw5 := Lib.hid (Pw4.out.chg Cw5 (by omega) (.inr (by omega)))
  clear Cw5 Bw4 Mw4 Ow4 Pw4
  go_wp2_with fail
  refine (toInfoS_any w5 v0 xs (H0.out.below Bw5.out) hn).mono ?_
  rintro e w6 ⟨u6, rfl, ho6, hb6, -⟩
  have C6 := Chg.of_below hb6
  have Q0 := Lib.hid ho6.is
  have Zw6 := C6.size
  have Bw6 := Lib.hid (Below.chg Bw5.out C6 (by omega) (.inr rfl))
  have Mw6 := Lib.hid (Mw5.out.chg C6 (by omega) (.inr (by omega)))
  have Ow6 := Lib.hid (Ow5.out.chg C6 (by omega) (.inr (by omega)))
  have Pw6 := Lib.hid (Pw5.out.chg C6 (by omega) (.inr (by omega)))
  clear C6 Bw5 Mw5 Ow5 Pw5 ho6 hb6
  go_wp2_with fail
  refine (eqI_same w6 u3 u6 xs Ow6.out.is Q0.out).mono ?_
  rintro e w7 ⟨rfl, Cw7⟩
  have Zw7 := Cw7.size
  have Bw7 := Lib.hid (Below.chg Bw6.out Cw7 (by omega) (.inr rfl))
  have Mw7 := Lib.hid (Mw6.out.chg Cw7 (by omega) (.inr (by omega)))
  have Ow7 := Lib.hid (Ow6.out.chg Cw7 (by omega) (.inr (by omega)))
  have Pw7 := Lib.hid (Pw6.out.chg Cw7 (by omega) (.inr (by omega)))
  clear Cw7 Bw6 Mw6 Ow6 Pw6
  clear Q0
  have HM7 := Lib.hid (markI_of Ow7.out (by omega) HM.out hm1)
  clear Ow7
  have hx2 : decide ((1 : Int) + 3 * (m : Int) < 0) = false := by simp; omega
  go_wp2_with fail
  refine HM7.out.mono ?_
  rintro e w8 ⟨rfl, _, C8⟩
  have Zw8 := C8.size
  have Bw8 := Lib.hid (Below.chg Bw7.out C8 (by omega) (.inl (by omega)))
  have Mw8 := Lib.hid (Mw7.out.chg C8 (by omega) (.inl (by omega)))
  have Pw8 := Lib.hid (Pw7.out.chg C8 (by omega) (.inr (by omega)))
  clear C8 Bw7 Mw7 Pw7 HM7
  go_wp2_with fail
  refine (eqs_c w8 u4 u2 ys (Pw8.out.ints) (Mw8.out.ints)).mono ?_
  rintro e w9 ⟨rfl, Cw9⟩
  have Zw9 := Cw9.size
  have Bw9 := Lib.hid (Below.chg Bw8.out Cw9 (by omega) (.inr rfl))
  have Mw9 := Lib.hid (Mw8.out.chg Cw9 (by omega) (.inr (by omega)))
  have Pw9 := Lib.hid (Pw8.out.chg Cw9 (by omega) (.inr (by omega)))
  clear Cw9 Bw8 Mw8 Pw8
  have HM9 := Lib.hid (markN_of Pw9.out HNY.out (by omega))
  clear Pw9
  go_wp2_with fail
  refine HM9.out.mono ?_
  rintro e w10 ⟨rfl, hk10, C10⟩
  have P0 := Lib.hid hk10
  have Zw10 := C10.size
  have Bw10 := Lib.hid (Below.chg Bw9.out C10 (by omega) (.inl (by omega)))
  have Mw10 := Lib.hid (Mw9.out.chg C10 (by omega) (.inl (by omega)))
  clear C10 Bw9 Mw9 HM9 hk10
  have Pw10 := P0
  clear P0
  have HD := Lib.hid (heldN_of Pw10.out (by omega))
  go_wp2_with fail
  refine HD.out.mono ?_
  rintro e w11 ⟨rfl, Cw11⟩
  have Zw11 := Cw11.size
  have Bw11 := Lib.hid (Below.chg Bw10.out Cw11 (by omega) (.inr rfl))
  have Mw11 := Lib.hid (Mw10.out.chg Cw11 (by omega) (.inr (by omega)))
  have Pw11 := Lib.hid (Pw10.out.chg Cw11 (by omega) (.inr (by omega)))
  clear Cw11 Bw10 Mw10 Pw10 HD
  go_wp2_with fail
  refine (toInfoS_any w11 v0 xs (H0.out.below Bw11.out) hn).mono ?_
  rintro e w12 ⟨u12, rfl, ho, hb, hv⟩
  have Cw12 := Chg.of_below hb
  have Q0 := Lib.hid ho.is
  have N0 := Lib.hid (nilOk_of hv)
  have Zw12 := Cw12.size
  have Bw12 := Lib.hid (Below.chg Bw11.out Cw12 (by omega) (.inr rfl))
  have Mw12 := Lib.hid (Mw11.out.chg Cw12 (by omega) (.inr (by omega)))
  have Pw12 := Lib.hid (Pw11.out.chg Cw12 (by omega) (.inr (by omega)))
  clear Cw12 Bw11 Mw11 Pw11 ho hb hv
  go_wp2_with fail
  refine (HIM.out w12 u12 Q0.out N0.out).mono ?_
  rintro e w13 ⟨u13, rfl, hm13, hb13⟩
  have C13 := Chg.of_below hb13
  have Q1 := Lib.hid hm13.ints
  have Zw13 := C13.size
  have Bw13 := Lib.hid (Below.chg Bw12.out C13 (by omega) (.inr rfl))
  have Mw13 := Lib.hid (Mw12.out.chg C13 (by omega) (.inr (by omega)))
  have Pw13 := Lib.hid (Pw12.out.chg C13 (by omega) (.inr (by omega)))
  clear C13 Bw12 Mw12 Pw12 hm13 hb13 Q0 N0
  go_wp2_with fail
  refine (eqs_c w13 u13 u2 ys (Q1.out) (Mw13.out.ints)).mono ?_
  rintro e w14 ⟨rfl, Cw14⟩
  have Zw14 := Cw14.size
  have Bw14 := Lib.hid (Below.chg Bw13.out Cw14 (by omega) (.inr rfl))
  have Mw14 := Lib.hid (Mw13.out.chg Cw14 (by omega) (.inr (by omega)))
  have Pw14 := Lib.hid (Pw13.out.chg Cw14 (by omega) (.inr (by omega)))
  clear Cw14 Bw13 Mw13 Pw13
  clear Q1
  have HD := Lib.hid (heldN_of Pw14.out (by omega))
  go_wp2_with fail
  refine HD.out.mono ?_
  rintro e w15 ⟨rfl, Cw15⟩
  have Zw15 := Cw15.size
  have Bw15 := Lib.hid (Below.chg Bw14.out Cw15 (by omega) (.inr rfl))
  have Mw15 := Lib.hid (Mw14.out.chg Cw15 (by omega) (.inr (by omega)))
  have Pw15 := Lib.hid (Pw14.out.chg Cw15 (by omega) (.inr (by omega)))
  clear Cw15 Bw14 Mw14 Pw14 HD
  go_wp2_with fail
  go_ret
  exact ⟨rfl, Bw15.out⟩
end Go.Proofs.Ytachiggolgdocaa
