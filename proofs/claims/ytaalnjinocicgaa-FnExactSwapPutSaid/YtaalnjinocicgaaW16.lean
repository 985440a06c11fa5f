/- What the proofs stand on, part 16. -/
import Derived.Test.YtaalnjinocicgaaRows
import Derived.Test.YtaalnjinocicgaaW1
import Derived.Test.YtaalnjinocicgaaW2
import Derived.Test.YtaalnjinocicgaaW3
import Derived.Test.YtaalnjinocicgaaW4
import Derived.Test.YtaalnjinocicgaaW13
set_option linter.unusedSimpArgs false
set_option linter.unusedVariables false
namespace Go.Proofs.Ytaalnjinocicgaa
open Go.ChangeShapes Go.WideShapes Go.ChangeAt Go.RowKit
set_option linter.unusedVariables false
def Marks (a : Option Addr) (n : Nat) (k : Int) (w : World) (e : Ending) (w' : World) : Prop := e = .returned (.int .i64 (k + n)) ∧ Marked a n k w w'
theorem marks_mk {a : Option Addr} {n : Nat} {k x : Int} {w w' : World} (h : x = k + n) (hm : Marked a n k w w') : Marks a n k w (.returned (.int .i64 x)) w' := ⟨by rw [h], hm⟩
theorem markIntS_any (w : World) (a : Option Addr) (n cap : Nat) (k : Int) (hn : n ≤ 1048576) (hk : 0 ≤ k) (hk2 : k ≤ 1000000000000)
    (h : ∀ i, i < n → ∃ g p u, a = some ⟨g, p, none⟩ ∧ w.cell? ⟨g, p + i, none⟩ = some u ∧ w.frozen? ⟨g, p + i, none⟩ = false) :
    Calls Try.prog 31 #[.slice a n cap, .int .i64 k] w (Marks a n k w) := by
  have H := Lib.hid h
  clear h
  go_enter Try.func31, Try.ntmps31
  go_wp2
  go_loopw [1, 5] (fun l i wr => ∃ j : Nat, j ≤ n ∧ i = .int .i64 j ∧ l = .int .i64 (k + j) ∧ Marked a j k w wr) (fun _ i _ => n - (intOf i).toNat)
  case atStart => exact ⟨0, Nat.zero_le _, rfl, by simp, Marked.zero _ _ _⟩
  case round =>
    obtain ⟨j, hj, rfl, rfl, hm⟩ := hrel
    by_cases hlt : j < n
    · obtain ⟨g, p, u, rfl, hc, hf⟩ := H.out j hlt
      have hcr := (hm.outside g p rfl (p + j) (.inr (Nat.le_refl _))).trans hc
      have hfr := (hm.frozen _).trans hf
      have hst := Lib.hid (hm.step hc)
      clear hc hf
      have hlt' : (j : Int) < (n : Int) := by omega
      go_wp2
      go_roundw
      case rel => exact ⟨j + 1, by omega, by go_num, by go_num, hst.out⟩
      case measure => simp [intOf]; omega
    · go_wp2
      go_ret
      have e : j = n := by omega
      subst e
      exact marks_mk rfl hm
theorem Marked.cell_same {a : Option Addr} {n : Nat} {k : Int} {w w' : World} (h : Marked a n k w w') (c o : Nat) (hh : ∀ g p, a = some ⟨g, p, none⟩ → c ≠ g ∨ o < p ∨ p + n ≤ o) :
    w'.cell? ⟨c, o, none⟩ = w.cell? ⟨c, o, none⟩ := by
  by_cases he : ∃ p, a = some ⟨c, p, none⟩
  · obtain ⟨p, rfl⟩ := he
    rcases hh c p rfl with h1 | h1
    · exact absurd rfl h1
    · exact h.outside c p rfl o h1
  · exact World.cell?_of_block (h.block c (fun p => .inr (fun e => he ⟨p, e⟩)))
def marks (L : Nat → Nat) (k : Int) (X : Nat → Nat → Int) (m : Nat) (j i : Nat) : Int := if j < m then k + off L j + i else X j i
theorem MatAt.marked {w w' : World} {B0 B1 : Nat} {a : Option Addr} {n : Nat} {A : Nat → Option Addr} {L C : Nat → Nat} {X : Nat → Nat → Int} {k : Int} {m : Nat} (hm : m < n)
    (h : MatAt w B0 B1 a n A L C (marks L k X m)) (hk : Marked (A m) (L m) (k + off L m) w w') : MatAt w' B0 B1 a n A L C (marks L k X (m + 1)) := by
  refine ⟨fun j hj => ?_, fun j hj i hi => ?_, h.apart⟩
  · obtain ⟨b, o, rfl, h1, h2, h3, h4⟩ := h.top j hj
    refine ⟨b, o, rfl, h1, h2, (hk.cell_same b (o + j) fun g p e => ?_).trans h3, h4.1, h4.2.1, (hk.frozen _).trans h4.2.2⟩
    by_cases hL : 0 < L m
    · obtain ⟨g', p', e', _, _, _, _, h5⟩ := h.row m hm 0 hL
      rw [e] at e'; cases e'
      exact .inl (h5 b o rfl)
    · omega
  · obtain ⟨g, p, e, h1, h2, h3, h4, h5⟩ := h.row j hj i hi
    refine ⟨g, p, e, h1, h2, ?_, (hk.frozen _).trans h4, h5⟩
    by_cases hjm : j = m
    · subst hjm
      rw [hk.inside g p e i hi]
      simp [marks]
    · have hx : marks L k X (m + 1) j i = marks L k X m j i := by
        unfold marks
        by_cases h6 : j < m
        · rw [if_pos h6, if_pos (by omega)]
        · rw [if_neg h6, if_neg (by omega)]
      rw [hx]
      refine (hk.cell_same g (p + i) fun g' p' e' => ?_).trans h3
      by_cases hL : 0 < L m
      · rcases h.apart j hj m hm hjm (by omega) hL g p g' p' e e' with h7 | h7 | h7
        · exact .inl h7
        · omega
        · omega
      · omega
def MarksAll (B0 B1 : Nat) (a : Option Addr) (n : Nat) (A : Nat → Option Addr) (L C : Nat → Nat) (k : Int) (w : World) (e : Ending) (w' : World) : Prop :=
  e = .returned (.int .i64 (k + off L n)) ∧ MatAt w' B0 B1 a n A L C (fun j i => k + off L j + i) ∧ Kept B0 B1 w w'
theorem marksAll_mk {B0 B1 : Nat} {a : Option Addr} {n : Nat} {A : Nat → Option Addr} {L C : Nat → Nat} {X : Nat → Nat → Int} {k x : Int} {w w' : World} (hx : x = k + off L n)
    (h : MatAt w' B0 B1 a n A L C (marks L k X n)) (hk : Kept B0 B1 w w') : MarksAll B0 B1 a n A L C k w (.returned (.int .i64 x)) w' :=
  ⟨by rw [hx], ⟨h.top, fun j hj i hi => by
    obtain ⟨g, p, e, h1, h2, h3, h4⟩ := h.row j hj i hi
    refine ⟨g, p, e, h1, h2, ?_, h4⟩
    rw [h3]; simp [marks, hj], h.apart⟩, hk⟩
theorem off_mono (L : Nat → Nat) {j n : Nat} (h : j ≤ n) : off L j ≤ off L n := by
  induction n with
  | zero => have : j = 0 := by omega
            rw [this]; exact Nat.le_refl _
  | succ n ih =>
    by_cases hj : j ≤ n
    · exact Nat.le_trans (ih hj) (Nat.le_add_right _ _)
    · have : j = n + 1 := by omega
      rw [this]; exact Nat.le_refl _
theorem off_row (L : Nat → Nat) {j n : Nat} (h : j < n) : off L j + L j ≤ off L n := off_mono L (j := j + 1) h
theorem markIntSS_any (w : World) (B0 B1 : Nat) (a : Option Addr) (n cap : Nat) (A : Nat → Option Addr) (L C : Nat → Nat) (X : Nat → Nat → Int) (k : Int) (hn : n ≤ 1048576) (ho : off L n ≤ 1048576) (hk : 0 ≤ k) (hk2 : k ≤ 1000000)
    (h : MatAt w B0 B1 a n A L C X) :
    Calls Try.prog 30 #[.slice a n cap, .int .i64 k] w (MarksAll B0 B1 a n A L C k w) := by
  have HO := Lib.hid (fun j (hj : j < n) => off_row L hj)
  have h0 : MatAt w B0 B1 a n A L C (marks L k X 0) := by
    have : marks L k X 0 = X := by funext j i; simp [marks]
    rw [this]; exact h
  clear h
  go_enter Try.func30, Try.ntmps30
  go_wp2
  go_loopw [1, 5] (fun l i wr => ∃ j : Nat, j ≤ n ∧ i = .int .i64 j ∧ l = .int .i64 (k + off L j) ∧ MatAt wr B0 B1 a n A L C (marks L k X j) ∧ Kept B0 B1 w wr) (fun _ i _ => n - (intOf i).toNat)
  case atStart => exact ⟨0, Nat.zero_le _, rfl, by simp [off], h0, Kept.refl _ _ _⟩
  case round =>
    obtain ⟨j, hj, rfl, rfl, hm, hkept⟩ := hrel
    by_cases hlt : j < n
    · have hoff := HO.out j hlt
      obtain ⟨b, o, rfl, _, _, hc, hLC, hCm⟩ := hm.top j hlt
      have HC := Lib.hid (markIntS_any wr (A j) (L j) (C j) (k + off L j) (by omega) (by omega) (by omega) (fun i hi => by
        obtain ⟨g, p, e, _, _, h3, h4, _⟩ := hm.row j hlt i hi
        exact ⟨g, p, _, e, h3, h4⟩))
      have hlt' : (j : Int) < (n : Int) := by omega
      have HM := Lib.hid hm
      clear hm
      go_wp2_with fail
      refine HC.out.mono ?_
      rintro e w2 ⟨rfl, hmk⟩
      have HM2 := Lib.hid (HM.out.marked hlt hmk)
      have HK2 := Lib.hid (hkept.trans (HM.out.kept hlt hmk))
      clear hmk hc
      go_wp2_with fail
      go_roundw
      case rel => exact ⟨j + 1, by omega, by go_num, by simp [off]; omega, HM2.out, HK2.out⟩
      case measure => simp [intOf]; omega
    · go_wp2
      go_ret
      have e : j = n := by omega
      subst e
      exact marksAll_mk rfl hm hkept
end Go.Proofs.Ytaalnjinocicgaa
namespace Go.Proofs.Ytaalnjinocicgaa
open Go.ChangeShapes Go.WideShapes Go.ChangeAt Go.RowKit
set_option linter.unusedVariables false
theorem heldIntS_any (w : World) (a : Option Addr) (n cap : Nat) (k : Int) (hn : n ≤ 1048576) (hk : 0 ≤ k) (hk2 : k ≤ 1000000000000)
    (h : ∀ i, i < n → ∃ g p, a = some ⟨g, p, none⟩ ∧ w.cell? ⟨g, p + i, none⟩ = some (.int .i64 (k + i))) :
    Calls Try.prog 33 #[.slice a n cap, .int .i64 k] w fun e w' => e = .returned (.int .i64 (k + n)) ∧ w = w' := by
  have H := Lib.hid h
  clear h
  go_enter Try.func33, Try.ntmps33
  go_wp2
  go_loop [1, 5] (fun l i => ∃ j : Nat, j ≤ n ∧ i = .int .i64 j ∧ l = .int .i64 (k + j)) (fun _ i => n - (intOf i).toNat)
  case atStart => exact ⟨0, Nat.zero_le _, rfl, by simp⟩
  case round =>
    obtain ⟨j, hj, rfl, rfl⟩ := hrel
    by_cases hlt : j < n
    · obtain ⟨g, p, rfl, hc⟩ := H.out j hlt
      have hlt' : (j : Int) < (n : Int) := by omega
      go_wp2
      go_round
      case rel => exact ⟨j + 1, by omega, by go_num, by go_num⟩
      case measure => simp [intOf]; omega
    · go_wp2
      go_ret
      have e : j = n := by omega
      subst e
      exact ⟨rfl, rfl⟩
theorem off_total (xss : List (List Int)) (m : Nat) (h : m ≤ xss.length) : off (fun j => (xss.getD j []).length) m = total (xss.take m) := by
  induction m with
  | zero => simp [off, total]
  | succ m ih => rw [total_snoc xss m (by omega), ← ih (by omega)]; rfl
theorem off_all (xss : List (List Int)) : off (fun j => (xss.getD j []).length) xss.length = total xss := by
  rw [off_total xss _ (Nat.le_refl _), List.take_length]
end Go.Proofs.Ytaalnjinocicgaa
namespace Go.Proofs.Ytaalnjinocicgaa
open Go.ChangeShapes Go.WideShapes Go.ChangeAt Go.RowKit
set_option linter.unusedVariables false
theorem Chg.of_kept {lo hi : Nat} {w w' : World} (h : Kept lo hi w w') : Chg lo hi w w' := ⟨h.os, h.tape, h.output, Nat.le_of_eq h.size.symm, fun b _ hb => h.block b hb⟩
end Go.Proofs.Ytaalnjinocicgaa
namespace Go.Proofs.Ytaalnjinocicgaa
open Go.ChangeShapes Go.WideShapes Go.ChangeAt Go.RowKit
set_option linter.unusedVariables false
def mk1 (n : Nat) : List Int := (List.range n).map (fun i : Nat => 1 + (i : Int))
theorem mk1_len (n : Nat) : (mk1 n).length = n := by simp [mk1]
theorem mk1_get {n i : Nat} (h : i < n) : (mk1 n).getD i 0 = 1 + i := by
  rw [getD_lt (by rw [mk1_len]; exact h)]
  simp [mk1]
theorem IntsW.marked {w w' : World} {B0 B1 : Nat} {a : Option Addr} {n cap : Nat} {xs : List Int} (h : IntsW w B0 B1 (.slice a n cap) xs) (hn : n = xs.length) (hm : Marked a n 1 w w') : IntsW w' B0 B1 (.slice a n cap) (mk1 n) ∧ Kept B0 B1 w w' := by
  obtain ⟨a', cap', e, h1, h2, h3⟩ := h
  injection e with e1 e2 e3
  subst e1
  subst e3
  rw [← hn] at h1 h3
  refine ⟨⟨a, cap, by rw [mk1_len], by rw [mk1_len]; exact h1, h2, fun i hi => ?_⟩, ⟨hm.os, hm.tape, hm.output, hm.size, fun b hb => hm.block b (fun p => ?_)⟩⟩
  · rw [mk1_len] at hi
    obtain ⟨g, p, e, hg0, hg1, _, hf⟩ := h3 i hi
    exact ⟨g, p, e, hg0, hg1, by rw [hm.inside g p e i hi, mk1_get hi], (hm.frozen _).trans hf⟩
  · by_cases h0 : n = 0
    · exact .inl h0
    · refine .inr (fun e => ?_)
      obtain ⟨g, q, e', hg0, hg1, _⟩ := h3 0 (by omega)
      rw [e] at e'
      injection e' with e'
      injection e' with e' _
      omega
end Go.Proofs.Ytaalnjinocicgaa
namespace Go.Proofs.Ytaalnjinocicgaa
open Go.ChangeShapes Go.WideShapes Go.ChangeAt Go.RowKit
set_option linter.unusedVariables false
set_option linter.unusedSimpArgs false
theorem sw_mem {xss : Rs} (h : swOk xss = true) {xs : List Int} (hx : xs ∈ xss) : xs.length ≤ 4 := row_len4 ((swOk_iff.1 h).1 xs hx)
def HldM (w : World) (B0 B1 : Nat) (v : Value) (t : Nat) : Prop :=
  ∃ a n cap A L C, v = .slice a n cap ∧ n ≤ 1048576 ∧ off L n = t ∧ MatAt w B0 B1 a n A L C (fun j i => 1 + off L j + i)
theorem HldM.chg {lo hi B0 B1 : Nat} {w w' : World} {v : Value} {t : Nat} (h : HldM w B0 B1 v t) (c : Chg lo hi w w') (hB : B1 ≤ w.heap.size) (hh : B1 ≤ lo ∨ hi ≤ B0) : HldM w' B0 B1 v t := by
  obtain ⟨a, n, cap, A, L, C, e, h1, h2, h3⟩ := h
  exact ⟨a, n, cap, A, L, C, e, h1, h2, h3.chg c hB hh⟩
theorem markM_of {w : World} {B0 B1 : Nat} {v : Value} {xss : Rs} (h : MatW w B0 B1 v xss) (hs : xss.length + total xss ≤ 1048576) (t : Nat) (ht : t = total xss) :
    Calls Try.prog 30 #[v, .int .i64 1] w fun e w' => e = .returned (.int .i64 (1 + (t : Int))) ∧ HldM w' B0 B1 v t ∧ Chg B0 B1 w w' := by
  obtain ⟨a, cap, A, C, rfl, h1, h2, h3⟩ := h
  have ho := off_all xss
  refine (markIntSS_any w B0 B1 a xss.length cap A _ C _ 1 (by omega) (by rw [ho]; omega) (by omega) (by omega) h3).mono ?_
  rintro e w' ⟨rfl, hk, hc⟩
  exact ⟨by rw [ho, ht], ⟨a, _, cap, A, _, C, rfl, by omega, by rw [ho, ht], hk⟩, Chg.of_kept hc⟩
end Go.Proofs.Ytaalnjinocicgaa
