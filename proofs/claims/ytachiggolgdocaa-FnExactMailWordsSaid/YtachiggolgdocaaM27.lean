/- What the proofs stand on, part 27. -/
import Derived.Test.YtachiggolgdocaaRows
import Derived.Test.YtachiggolgdocaaM1
import Derived.Test.YtachiggolgdocaaM2
import Derived.Test.YtachiggolgdocaaM3
import Derived.Test.YtachiggolgdocaaM4
import Derived.Test.YtachiggolgdocaaM5
import Derived.Test.YtachiggolgdocaaM21
import Derived.Test.YtachiggolgdocaaM22
set_option linter.unusedSimpArgs false
set_option linter.unusedVariables false
namespace Go.Proofs.Ytachiggolgdocaa
open Go.ChangeShapes Go.WideShapes Go.ChangeAt Go.RowKit
set_option linter.unusedVariables false
theorem chg_set {lo hi : Nat} {w w' : World} (h : Chg lo hi w w') {g p : Nat} {v : Value} (h0 : lo ≤ g) (h1 : g < hi) : Chg lo hi w (w'.setCell ⟨g, p, none⟩ v) :=
  ⟨h.os, h.tape, h.output, by have := h.size; simpa [World.setCell] using this, fun b hb hh => (Below.heap_setCell w' ⟨g, p, none⟩ v b (by show b ≠ g; omega)).trans (h.block b hb hh)⟩
end Go.Proofs.Ytachiggolgdocaa
namespace Go.Proofs.Ytachiggolgdocaa
open Go.ChangeShapes Go.WideShapes Go.ChangeAt Go.RowKit
set_option linter.unusedVariables false
theorem TriW.set0 {w : World} {b o : Nat} {x : IV} (h : TriW w b o x) (n : Int) : TriW (w.setCell ⟨b, o, none⟩ (.int .i64 n)) b o ⟨n, x.g, x.r⟩ :=
  ⟨⟨cell_set_same h.at3.c0, (cell_set_other (.inr (by omega))).trans h.at3.c1, (cell_set_other (.inr (by omega))).trans h.at3.c2⟩, fun j hj => (frozen_set _).trans (h.fr j hj)⟩
theorem TriW.set2 {w : World} {b o : Nat} {x : IV} (h : TriW w b o x) (n : Int) : TriW (w.setCell ⟨b, o + 2, none⟩ (.int .i64 n)) b o ⟨x.k, x.g, n⟩ :=
  ⟨⟨(cell_set_other (.inr (by omega))).trans h.at3.c0, (cell_set_other (.inr (by omega))).trans h.at3.c1, cell_set_same h.at3.c2⟩, fun j hj => (frozen_set _).trans (h.fr j hj)⟩
end Go.Proofs.Ytachiggolgdocaa
namespace Go.Proofs.Ytachiggolgdocaa
open Go.ChangeShapes Go.WideShapes Go.ChangeAt Go.RowKit
set_option linter.unusedVariables false
def mkI (i : Nat) : IV := ⟨1 + 3 * (i : Int), 2 + 3 * (i : Int), 3 + 3 * (i : Int)⟩
def mkIs (n : Nat) : List IV := (List.range n).map mkI
theorem mkIs_len (n : Nat) : (mkIs n).length = n := by simp [mkIs]
theorem mkIs_get {n i : Nat} (h : i < n) : (mkIs n).getD i iz = mkI i := by
  rw [getD_lt (by rw [mkIs_len]; exact h)]
  simp [mkIs]
theorem iv_list_ext {xs ys : List IV} (hl : xs.length = ys.length) (h : ∀ i, i < xs.length → xs.getD i iz = ys.getD i iz) : xs = ys := by
  refine List.ext_getElem hl (fun i h1 h2 => ?_)
  have := h i h1
  rwa [getD_lt h1, getD_lt h2] at this
theorem set_getD_iv {xs : List IV} {k i : Nat} {x : IV} (hk : k < xs.length) : (xs.set k x).getD i iz = if i = k then x else xs.getD i iz := by
  by_cases h : i = k
  · subst h
    rw [if_pos rfl, getD_lt (by rw [List.length_set]; exact hk), List.getElem_set_self]
  · rw [if_neg h]
    by_cases hi : i < xs.length
    · rw [getD_lt (by rw [List.length_set]; exact hi), getD_lt hi, List.getElem_set_ne (by omega)]
    · simp [List.getD, List.getElem?_eq_none (Nat.le_of_not_lt hi), List.getElem?_eq_none (show (xs.set k x).length ≤ i by rw [List.length_set]; omega)]
set_option maxHeartbeats 1000000 in
theorem markMailS_any (w : World) (B0 B1 : Nat) (a : Option Addr) (n cap : Nat) (xs : List IV) (h : IsW w B0 B1 (.slice a n cap) xs) (hB : B1 ≤ w.heap.size) (hN : n = xs.length) (hn : n ≤ 1048576) :
    Calls Try.prog 33 #[.slice a n cap, .int .i64 1] w fun e w' => e = .returned (.int .i64 (1 + 3 * (n : Int))) ∧ IsW w' B0 B1 (.slice a n cap) (mkIs n) ∧ Chg B0 B1 w w' := by
  have H := Lib.hid h
  have HN := Lib.hid hN
  have HB := Lib.hid hB
  clear h hN hB
  go_enter Try.func33, Try.ntmps33
  go_wp2
  go_loopw [1, 5] (fun l i wr => ∃ (j : Nat) (ys : List IV), j ≤ n ∧ i = .int .i64 j ∧ l = .int .i64 (1 + 3 * (j : Int)) ∧ Hid (ys.length = n) ∧ Hid (∀ q, q < j → ys.getD q iz = mkI q) ∧ Hid (IsW wr B0 B1 (.slice a n cap) ys) ∧ Hid (Chg B0 B1 w wr)) (fun _ i _ => n - (intOf i).toNat)
  case atStart => exact ⟨0, xs, Nat.zero_le _, rfl, rfl, Lib.hid HN.out.symm, Lib.hid (fun q hq => by omega), H, Lib.hid ⟨rfl, rfl, rfl, Nat.le_refl _, fun _ _ _ => rfl⟩⟩
  case round =>
    obtain ⟨j, ys, hj, rfl, rfl, HL, HY, HS, HC⟩ := hrel
    by_cases hlt : j < n
    · have hlt' : (j : Int) < (n : Int) := by omega
      obtain ⟨a', cap', e, q1, q2, q3⟩ := HS.out
      injection e with e1 e2 e3
      subst e1
      obtain ⟨g, p, rfl, hg0, hg1, ht⟩ := q3 j (by omega)
      clear q1 q2 q3 e2 e3
      generalize ys.getD j iz = x at ht
      have HT := Lib.hid ht
      have HG := Lib.hid (And.intro hg0 hg1)
      obtain ⟨⟨hc0, hc1, hc2⟩, hfr⟩ := ht
      have hf0 := hfr 0 (by omega)
      have hf1 := hfr 1 (by omega)
      have hf2 := hfr 2 (by omega)
      rw [Nat.add_zero] at hf0
      clear hg0 hg1 hfr
      go_wp2_with fail
      have z1 : (1 + 3 * (j : Int) + 1) = 2 + 3 * (j : Int) := by omega
      have z2 : (2 + 3 * (j : Int) + 1) = 3 + 3 * (j : Int) := by omega
      rw [z1, z2]
      have TD := Lib.hid (((HT.out.set0 (1 + 3 * (j : Int))).set1 (2 + 3 * (j : Int))).set2 (3 + 3 * (j : Int)))
      have SD := Lib.hid (HS.out.upd rfl hlt TD.out (fun i y hi hy => ((hy.off (by omega) _).off (by omega) _).off (by omega) _))
      have CD := Lib.hid (chg_set (v := .int .i64 (3 + 3 * (j : Int))) (p := p + j * 3 + 2) (chg_set (v := .int .i64 (2 + 3 * (j : Int))) (p := p + j * 3 + 1) (chg_set (v := .int .i64 (1 + 3 * (j : Int))) (p := p + j * 3) HC.out HG.out.1 HG.out.2) HG.out.1 HG.out.2) HG.out.1 HG.out.2)
      refine ⟨⟨j + 1, ys.set j (mkI j), by omega, by go_num, by congr 1; omega, Lib.hid (by rw [List.length_set]; exact HL.out), Lib.hid (fun q hq => ?_), SD, CD⟩, by simp [intOf]; omega⟩
      rw [set_getD_iv (by rw [HL.out]; exact hlt)]
      by_cases hqj : q = j
      · rw [if_pos hqj, hqj]
      · rw [if_neg hqj]; exact HY.out q (by omega)
    · go_wp2
      go_ret
      have e : j = n := by omega
      subst e
      have hys : ys = mkIs j := iv_list_ext (by rw [mkIs_len, HL.out]) (fun i hi => by rw [HL.out] at hi; rw [HY.out i hi, mkIs_get hi])
      rw [← hys]
      exact ⟨rfl, HS.out, HC.out⟩
end Go.Proofs.Ytachiggolgdocaa
namespace Go.Proofs.Ytachiggolgdocaa
open Go.ChangeShapes Go.WideShapes Go.ChangeAt Go.RowKit
set_option linter.unusedVariables false
def MarkI (w : World) (B0 B1 : Nat) (v : Value) (n : Nat) : Prop := Calls Try.prog 33 #[v, .int .i64 1] w fun e w' => e = .returned (.int .i64 (1 + 3 * (n : Int))) ∧ IsW w' B0 B1 v (mkIs n) ∧ Chg B0 B1 w w'
theorem markI_of {w : World} {B0 B1 : Nat} {v : Value} {xs : List IV} {n : Nat} (h : IsW w B0 B1 v xs) (hB : B1 ≤ w.heap.size) (hN : n = xs.length) (hn : n ≤ 1048576) : MarkI w B0 B1 v n := by
  have h0 := h
  obtain ⟨a, cap, rfl, _⟩ := h0
  subst hN
  exact markMailS_any w B0 B1 a _ cap xs h hB rfl hn
end Go.Proofs.Ytachiggolgdocaa
