/- What the proofs stand on, part 11. -/
import Derived.Test.YtcmmlgdfhkcmoaaGreatRows
import Derived.Test.YtcmmlgdfhkcmoaaGreatKe1
import Derived.Test.YtcmmlgdfhkcmoaaGreatKe2
import Derived.Test.YtcmmlgdfhkcmoaaGreatKe3
import Derived.Test.YtcmmlgdfhkcmoaaGreatKe4
import Derived.Test.YtcmmlgdfhkcmoaaGreatKe5
import Derived.Test.YtcmmlgdfhkcmoaaGreatKe6
import Derived.Test.YtcmmlgdfhkcmoaaGreatKe7
import Derived.Test.YtcmmlgdfhkcmoaaGreatKe8
import Derived.Test.YtcmmlgdfhkcmoaaGreatKe9
set_option linter.unusedSimpArgs false
set_option linter.unusedVariables false
namespace Go.Proofs.YtcmmlgdfhkcmoaaGreat
open Go.ChangeShapes Go.WideShapes Go.ChangeAt Go.RowKit
set_option linter.unusedVariables false
set_option maxRecDepth 100000
def Marks (a : Option Addr) (n : Nat) (k : Int) (w : World) (e : Ending) (w' : World) : Prop := e = .returned (.int .i64 (k + n)) ∧ Marked a n k w w'
theorem marks_mk {a : Option Addr} {n : Nat} {k x : Int} {w w' : World} (h : x = k + n) (hm : Marked a n k w w') : Marks a n k w (.returned (.int .i64 x)) w' := ⟨by rw [h], hm⟩
theorem markIntS_any (w : World) (a : Option Addr) (n cap : Nat) (k : Int) (hn : n ≤ 1048576) (hk : 0 ≤ k) (hk2 : k ≤ 1000000000000)
    (h : ∀ i, i < n → ∃ g p u, a = some ⟨g, p, none⟩ ∧ w.cell? ⟨g, p + i, none⟩ = some u ∧ w.frozen? ⟨g, p + i, none⟩ = false) :
    Calls Tryz.prog 46 #[.slice a n cap, .int .i64 k] w (Marks a n k w) := by
  have H := Lib.hid h
  clear h
  go_enter Tryz.func46, Tryz.ntmps46
  go_wp2
  go_loopw [1, 5] (fun l i wr => ∃ j : Nat, j ≤ n ∧ i = .int .i64 j ∧ l = .int .i64 (k + j) ∧ Marked a j k w wr) (fun _ i _ => n - (intOf i).toNat)
  case atStart => exact ⟨0, Nat.zero_le _, rfl, by simp, Marked.zero _ _ _⟩
  case round =>
    obtain ⟨j, hj, rfl, rfl, hm⟩ := hrel
    by_cases hlt : j < n
    · obtain ⟨g, p, u, rfl, hc, hf⟩ := H.out j hlt
      have hcr := (hm.outside g p rfl (p + j) (.inr (Nat.le_refl _))).trans hc
      have hfr := (hm.frozen _).trans hf
      have hst := Lib.hid (hm.step hc)
      clear hc hf
      have hlt' : (j : Int) < (n : Int) := by omega
      go_wp2
      go_roundw
      case rel => exact ⟨j + 1, by omega, by go_num, by go_num, hst.out⟩
      case measure => simp [intOf]; omega
    · go_wp2
      go_ret
      have e : j = n := by omega
      subst e
      exact marks_mk rfl hm
theorem Marked.cell_same {a : Option Addr} {n : Nat} {k : Int} {w w' : World} (h : Marked a n k w w') (c o : Nat) (hh : ∀ g p, a = some ⟨g, p, none⟩ → c ≠ g ∨ o < p ∨ p + n ≤ o) :
    w'.cell? ⟨c, o, none⟩ = w.cell? ⟨c, o, none⟩ := by
  by_cases he : ∃ p, a = some ⟨c, p, none⟩
  · obtain ⟨p, rfl⟩ := he
    rcases hh c p rfl with h1 | h1
    · exact absurd rfl h1
    · exact h.outside c p rfl o h1
  · exact World.cell?_of_block (h.block c (fun p => .inr (fun e => he ⟨p, e⟩)))
def marks (L : Nat → Nat) (k : Int) (X : Nat → Nat → Int) (m : Nat) (j i : Nat) : Int := if j < m then k + off L j + i else X j i
theorem MatAt.marked {w w' : World} {B0 B1 : Nat} {a : Option Addr} {n : Nat} {A : Nat → Option Addr} {L C : Nat → Nat} {X : Nat → Nat → Int} {k : Int} {m : Nat} (hm : m < n)
    (h : MatAt w B0 B1 a n A L C (marks L k X m)) (hk : Marked (A m) (L m) (k + off L m) w w') : MatAt w' B0 B1 a n A L C (marks L k X (m + 1)) := by
  refine ⟨fun j hj => ?_, fun j hj i hi => ?_, h.apart⟩
  · obtain ⟨b, o, rfl, h1, h2, h3, h4⟩ := h.top j hj
    refine ⟨b, o, rfl, h1, h2, (hk.cell_same b (o + j) fun g p e => ?_).trans h3, h4.1, h4.2.1, (hk.frozen _).trans h4.2.2⟩
    by_cases hL : 0 < L m
    · obtain ⟨g', p', e', _, _, _, _, h5⟩ := h.row m hm 0 hL
      rw [e] at e'; cases e'
      exact .inl (h5 b o rfl)
    · omega
  · obtain ⟨g, p, e, h1, h2, h3, h4, h5⟩ := h.row j hj i hi
    refine ⟨g, p, e, h1, h2, ?_, (hk.frozen _).trans h4, h5⟩
    by_cases hjm : j = m
    · subst hjm
      rw [hk.inside g p e i hi]
      simp [marks]
    · have hx : marks L k X (m + 1) j i = marks L k X m j i := by
        unfold marks
        by_cases h6 : j < m
        · rw [if_pos h6, if_pos (by omega)]
        · rw [if_neg h6, if_neg (by omega)]
      rw [hx]
      refine (hk.cell_same g (p + i) fun g' p' e' => ?_).trans h3
      by_cases hL : 0 < L m
      · rcases h.apart j hj m hm hjm (by omega) hL g p g' p' e e' with h7 | h7 | h7
        · exact .inl h7
        · omega
        · omega
      · omega
def MarksAll (B0 B1 : Nat) (a : Option Addr) (n : Nat) (A : Nat → Option Addr) (L C : Nat → Nat) (k : Int) (w : World) (e : Ending) (w' : World) : Prop :=
  e = .returned (.int .i64 (k + off L n)) ∧ MatAt w' B0 B1 a n A L C (fun j i => k + off L j + i) ∧ Kept B0 B1 w w'
theorem marksAll_mk {B0 B1 : Nat} {a : Option Addr} {n : Nat} {A : Nat → Option Addr} {L C : Nat → Nat} {X : Nat → Nat → Int} {k x : Int} {w w' : World} (hx : x = k + off L n)
    (h : MatAt w' B0 B1 a n A L C (marks L k X n)) (hk : Kept B0 B1 w w') : MarksAll B0 B1 a n A L C k w (.returned (.int .i64 x)) w' :=
  ⟨by rw [hx], ⟨h.top, fun j hj i hi => by
    obtain ⟨g, p, e, h1, h2, h3, h4⟩ := h.row j hj i hi
    refine ⟨g, p, e, h1, h2, ?_, h4⟩
    rw [h3]; simp [marks, hj], h.apart⟩, hk⟩
theorem off_mono (L : Nat → Nat) {j n : Nat} (h : j ≤ n) : off L j ≤ off L n := by
  induction n with
  | zero => have : j = 0 := by omega
            rw [this]; exact Nat.le_refl _
  | succ n ih =>
    by_cases hj : j ≤ n
    · exact Nat.le_trans (ih hj) (Nat.le_add_right _ _)
    · have : j = n + 1 := by omega
      rw [this]; exact Nat.le_refl _
theorem off_row (L : Nat → Nat) {j n : Nat} (h : j < n) : off L j + L j ≤ off L n := off_mono L (j := j + 1) h
theorem markIntSS_any (w : World) (B0 B1 : Nat) (a : Option Addr) (n cap : Nat) (A : Nat → Option Addr) (L C : Nat → Nat) (X : Nat → Nat → Int) (k : Int) (hn : n ≤ 1048576) (ho : off L n ≤ 1048576) (hk : 0 ≤ k) (hk2 : k ≤ 1000000)
    (h : MatAt w B0 B1 a n A L C X) :
    Calls Tryz.prog 104 #[.slice a n cap, .int .i64 k] w (MarksAll B0 B1 a n A L C k w) := by
  have HO := Lib.hid (fun j (hj : j < n) => off_row L hj)
  have h0 : MatAt w B0 B1 a n A L C (marks L k X 0) := by
    have : marks L k X 0 = X := by funext j i; simp [marks]
    rw [this]; exact h
  clear h
  go_enter Tryz.func104, Tryz.ntmps104
  go_wp2
  go_loopw [1, 5] (fun l i wr => ∃ j : Nat, j ≤ n ∧ i = .int .i64 j ∧ l = .int .i64 (k + off L j) ∧ MatAt wr B0 B1 a n A L C (marks L k X j) ∧ Kept B0 B1 w wr) (fun _ i _ => n - (intOf i).toNat)
  case atStart => exact ⟨0, Nat.zero_le _, rfl, by simp [off], h0, Kept.refl _ _ _⟩
  case round =>
    obtain ⟨j, hj, rfl, rfl, hm, hkept⟩ := hrel
    by_cases hlt : j < n
    · have hoff := HO.out j hlt
      obtain ⟨b, o, rfl, _, _, hc, hLC, hCm⟩ := hm.top j hlt
      have HC := Lib.hid (markIntS_any wr (A j) (L j) (C j) (k + off L j) (by omega) (by omega) (by omega) (fun i hi => by
        obtain ⟨g, p, e, _, _, h3, h4, _⟩ := hm.row j hlt i hi
        exact ⟨g, p, _, e, h3, h4⟩))
      have hlt' : (j : Int) < (n : Int) := by omega
      have HM := Lib.hid hm
      clear hm
      go_wp2_with fail
      refine HC.out.mono ?_
      rintro e w2 ⟨rfl, hmk⟩
      have HM2 := Lib.hid (HM.out.marked hlt hmk)
      have HK2 := Lib.hid (hkept.trans (HM.out.kept hlt hmk))
      clear hmk hc
      go_wp2_with fail
      go_roundw
      case rel => exact ⟨j + 1, by omega, by go_num, by simp [off]; omega, HM2.out, HK2.out⟩
      case measure => simp [intOf]; omega
    · go_wp2
      go_ret
      have e : j = n := by omega
      subst e
      exact marksAll_mk rfl hm hkept
end Go.Proofs.YtcmmlgdfhkcmoaaGreat
namespace Go.Proofs.YtcmmlgdfhkcmoaaGreat
open Go.ChangeShapes Go.WideShapes Go.ChangeAt Go.RowKit
set_option linter.unusedVariables false
set_option maxRecDepth 100000
theorem heldIntS_any (w : World) (a : Option Addr) (n cap : Nat) (k : Int) (hn : n ≤ 1048576) (hk : 0 ≤ k) (hk2 : k ≤ 1000000000000)
    (h : ∀ i, i < n → ∃ g p, a = some ⟨g, p, none⟩ ∧ w.cell? ⟨g, p + i, none⟩ = some (.int .i64 (k + i))) :
    Calls Tryz.prog 47 #[.slice a n cap, .int .i64 k] w fun e w' => e = .returned (.int .i64 (k + n)) ∧ w = w' := by
  have H := Lib.hid h
  clear h
  go_enter Tryz.func47, Tryz.ntmps47
  go_wp2
  go_loop [1, 5] (fun l i => ∃ j : Nat, j ≤ n ∧ i = .int .i64 j ∧ l = .int .i64 (k + j)) (fun _ i => n - (intOf i).toNat)
  case atStart => exact ⟨0, Nat.zero_le _, rfl, by simp⟩
  case round =>
    obtain ⟨j, hj, rfl, rfl⟩ := hrel
    by_cases hlt : j < n
    · obtain ⟨g, p, rfl, hc⟩ := H.out j hlt
      have hlt' : (j : Int) < (n : Int) := by omega
      go_wp2
      go_round
      case rel => exact ⟨j + 1, by omega, by go_num, by go_num⟩
      case measure => simp [intOf]; omega
    · go_wp2
      go_ret
      have e : j = n := by omega
      subst e
      exact ⟨rfl, rfl⟩
theorem off_total (xss : List (List Int)) (m : Nat) (h : m ≤ xss.length) : off (fun j => (xss.getD j []).length) m = total (xss.take m) := by
  induction m with
  | zero => simp [off, total]
  | succ m ih => rw [total_snoc xss m (by omega), ← ih (by omega)]; rfl
theorem off_all (xss : List (List Int)) : off (fun j => (xss.getD j []).length) xss.length = total xss := by
  rw [off_total xss _ (Nat.le_refl _), List.take_length]
end Go.Proofs.YtcmmlgdfhkcmoaaGreat
namespace Go.Proofs.YtcmmlgdfhkcmoaaGreat
open Go.ChangeShapes Go.WideShapes Go.ChangeAt Go.RowKit
set_option linter.unusedVariables false
set_option maxRecDepth 100000
theorem Chg.of_kept {lo hi : Nat} {w w' : World} (h : Kept lo hi w w') : Chg lo hi w w' := ⟨h.os, h.tape, h.output, Nat.le_of_eq h.size.symm, fun b _ hb => h.block b hb⟩
end Go.Proofs.YtcmmlgdfhkcmoaaGreat
namespace Go.Proofs.YtcmmlgdfhkcmoaaGreat
open Go.ChangeShapes Go.WideShapes Go.ChangeAt Go.RowKit
set_option linter.unusedVariables false
set_option maxRecDepth 100000
theorem TriW.set0 {w : World} {b o : Nat} {x : IV} (h : TriW w b o x) (n : Int) : TriW (w.setCell ⟨b, o, none⟩ (.int .i64 n)) b o ⟨n, x.g, x.r⟩ :=
  ⟨⟨cell_set_same h.at3.c0, (cell_set_other (.inr (by omega))).trans h.at3.c1, (cell_set_other (.inr (by omega))).trans h.at3.c2⟩, fun j hj => (frozen_set _).trans (h.fr j hj)⟩
theorem TriW.set1 {w : World} {b o : Nat} {x : IV} (h : TriW w b o x) (s : Bs) : TriW (w.setCell ⟨b, o + 1, none⟩ (.string ⟨s.toArray⟩)) b o ⟨x.k, s, x.r⟩ :=
  ⟨⟨(cell_set_other (.inr (by omega))).trans h.at3.c0, cell_set_same h.at3.c1, (cell_set_other (.inr (by omega))).trans h.at3.c2⟩, fun j hj => (frozen_set _).trans (h.fr j hj)⟩
theorem TriW.set2 {w : World} {b o : Nat} {x : IV} (h : TriW w b o x) (n : Int) : TriW (w.setCell ⟨b, o + 2, none⟩ (.int .i64 n)) b o ⟨x.k, x.g, n⟩ :=
  ⟨⟨(cell_set_other (.inr (by omega))).trans h.at3.c0, (cell_set_other (.inr (by omega))).trans h.at3.c1, cell_set_same h.at3.c2⟩, fun j hj => (frozen_set _).trans (h.fr j hj)⟩
end Go.Proofs.YtcmmlgdfhkcmoaaGreat
namespace Go.Proofs.YtcmmlgdfhkcmoaaGreat
open Go.ChangeShapes Go.WideShapes Go.ChangeAt Go.RowKit
set_option linter.unusedVariables false
set_option maxRecDepth 100000
def dig (k : Nat) : UInt8 := UInt8.ofNat (48 + k % 10)
def digs (k : Nat) (acc : Bs) : Bs := if h : k = 0 then acc else digs (k / 10) (dig k :: acc)
termination_by k
decreasing_by omega
theorem digs_zero (acc : Bs) : digs 0 acc = acc := by rw [digs]; simp
theorem digs_step {k : Nat} (h : k ≠ 0) (acc : Bs) : digs k acc = digs (k / 10) (dig k :: acc) := by rw [digs, dif_neg h]
theorem dig_nat (k : Nat) : ((dig k).toNat : Int) = 48 + (k : Int) % 10 := by
  have : (dig k).toNat = 48 + k % 10 := by
    show (48 + k % 10) % 256 = _
    omega
  rw [this]; omega
def mtext (k : Nat) : Bs := 109 :: digs k []
theorem markText_any (w : World) (k : Nat) (h0 : 1 ≤ k) (h1 : k ≤ 4000000) :
    Calls Tryz.prog 160 #[.int .i64 k] w fun e w' => e = .returned (.string ⟨(mtext k).toArray⟩) ∧ Below w.heap.size w w' := by
  have hk : ¬ (k : Int) ≤ 0 := by omega
  go_enter Tryz.func160, Tryz.ntmps160
  go_wp2
  go_loopw [0, 3] (fun a b wr => ∃ (j : Nat) (t : Bs), a = .int .i64 j ∧ b = .string ⟨t.toArray⟩ ∧ t.length + j ≤ k ∧ Hid (digs j t = digs k []) ∧ Below w.heap.size w wr) (fun a _ _ => (intOf a).toNat)
  case atStart => exact ⟨k, [], rfl, rfl, by simp, Lib.hid rfl, Below.refl _ _⟩
  case round =>
    obtain ⟨j, t, rfl, rfl, hl, HD, hb⟩ := hrel
    by_cases hj : 0 < j
    · have hj' : (0 : Int) < (j : Int) := by omega
      have hcv := run_convert_bytes_back (P := Tryz.prog) (wr.alloc (Obj.cells #[Value.int IntKind.u8 (48 + (j : Int) % 10)] 5)) 22 9 5 ⟨wr.heap.size, 0, none⟩ 1 [dig j] Tryz.underlying22 Tryz.underlying5 Tryz.underlying9 (fun i hi => by
        have e : i = 0 := by simpa using hi
        subst e
        show _ = some (Value.int .u8 ((dig j).toNat : Int))
        rw [dig_nat]
        exact new_cell rfl)
      simp only [List.length_singleton] at hcv
      have hb2 := Lib.hid (hb.alloc hb.size (Obj.cells #[Value.int IntKind.u8 (48 + (j : Int) % 10)] 5))
      have hsz : (t.length : Int) ≤ 4000000 := by omega
      go_wp2
      go_roundw
      case rel =>
        refine ⟨j / 10, dig j :: t, by simp, ?_, by simp only [List.length_cons]; omega, Lib.hid (by rw [← HD.out, digs_step (k := j) (by omega)]), hb2.out⟩
        rw [show (ByteArray.mk #[dig j]) = ByteArray.mk ([dig j] : List UInt8).toArray from rfl, ByteArray.mk_append_mk]
        rfl
      case measure => simp [intOf]; omega
    · have e : j = 0 := by omega
      subst e
      have hsz : (t.length : Int) ≤ 4000000 := by omega
      go_wp2
      go_ret
      have ht : t = digs k [] := by rw [← HD.out, digs_zero]
      refine ⟨?_, hb⟩
      rw [ht, show (ByteArray.mk #[109]) = ByteArray.mk ([109] : List UInt8).toArray from rfl, ByteArray.mk_append_mk]
      rfl
end Go.Proofs.YtcmmlgdfhkcmoaaGreat
namespace Go.Proofs.YtcmmlgdfhkcmoaaGreat
open Go.ChangeShapes Go.WideShapes Go.ChangeAt Go.RowKit
set_option linter.unusedVariables false
def kreach (K : KV) (e : Int) : List Int := if (kvalid K && inR e 0 2) = true then reach K.m (rootOf K.e e) else []
theorem kreach_len (K : KV) (e : Int) : (kreach K e).length ≤ 12 := by
  unfold kreach
  split
  · exact reach_len _ _
  · exact Nat.zero_le _
end Go.Proofs.YtcmmlgdfhkcmoaaGreat
namespace Go.Proofs.YtcmmlgdfhkcmoaaGreat
open Go.ChangeShapes Go.WideShapes Go.ChangeAt Go.RowKit
set_option linter.unusedVariables false
set_option maxRecDepth 100000
theorem os_setCells (b : Nat) : ∀ (vs : List Value) (o : Nat) (w : World), (w.setCells b o vs).os = w.os
  | [], _, _ => rfl
  | v :: r, o, w => by rw [World.setCells, os_setCells b r (o + 1)]; rfl
theorem tape_setCells (b : Nat) : ∀ (vs : List Value) (o : Nat) (w : World), (w.setCells b o vs).tape = w.tape
  | [], _, _ => rfl
  | v :: r, o, w => by rw [World.setCells, tape_setCells b r (o + 1)]; rfl
theorem output_setCells (b : Nat) : ∀ (vs : List Value) (o : Nat) (w : World), (w.setCells b o vs).output = w.output
  | [], _, _ => rfl
  | v :: r, o, w => by rw [World.setCells, output_setCells b r (o + 1)]; rfl
end Go.Proofs.YtcmmlgdfhkcmoaaGreat
namespace Go.Proofs.YtcmmlgdfhkcmoaaGreat
open Go.ChangeShapes Go.WideShapes Go.ChangeAt Go.RowKit
set_option linter.unusedVariables false
set_option maxRecDepth 100000
def mk1 (n : Nat) : List Int := (List.range n).map (fun i : Nat => 1 + (i : Int))
theorem mk1_len (n : Nat) : (mk1 n).length = n := by simp [mk1]
theorem mk1_get {n i : Nat} (h : i < n) : (mk1 n).getD i 0 = 1 + i := by
  rw [getD_lt (by rw [mk1_len]; exact h)]
  simp [mk1]
theorem IntsW.marked {w w' : World} {B0 B1 : Nat} {a : Option Addr} {n cap : Nat} {xs : List Int} (h : IntsW w B0 B1 (.slice a n cap) xs) (hn : n = xs.length) (hm : Marked a n 1 w w') : IntsW w' B0 B1 (.slice a n cap) (mk1 n) ∧ Kept B0 B1 w w' := by
  obtain ⟨a', cap', e, h1, h2, h3⟩ := h
  injection e with e1 e2 e3
  subst e1
  subst e3
  rw [← hn] at h1 h3
  refine ⟨⟨a, cap, by rw [mk1_len], by rw [mk1_len]; exact h1, h2, fun i hi => ?_⟩, ⟨hm.os, hm.tape, hm.output, hm.size, fun b hb => hm.block b (fun p => ?_)⟩⟩
  · rw [mk1_len] at hi
    obtain ⟨g, p, e, hg0, hg1, _, hf⟩ := h3 i hi
    exact ⟨g, p, e, hg0, hg1, by rw [hm.inside g p e i hi, mk1_get hi], (hm.frozen _).trans hf⟩
  · by_cases h0 : n = 0
    · exact .inl h0
    · refine .inr (fun e => ?_)
      obtain ⟨g, q, e', hg0, hg1, _⟩ := h3 0 (by omega)
      rw [e] at e'
      injection e' with e'
      injection e' with e' _
      omega
theorem held_of {w : World} {B0 B1 : Nat} {a : Option Addr} {n cap : Nat} (h : IntsW w B0 B1 (.slice a n cap) (mk1 n)) (hn : n ≤ 1048576) :
    Calls Tryz.prog 47 #[.slice a n cap, .int .i64 1] w fun e w' => e = .returned (.int .i64 (1 + n)) ∧ w = w' := by
  obtain ⟨a', cap', e, h1, h2, h3⟩ := h
  injection e with e1 e2 e3
  subst e1
  subst e3
  rw [mk1_len] at h3
  exact heldIntS_any w a n cap 1 hn (by omega) (by omega) (fun i hi => by
    obtain ⟨g, p, e, _, _, hc, _⟩ := h3 i hi
    exact ⟨g, p, e, by rw [hc, mk1_get hi]⟩)
theorem mark_of {w : World} {B0 B1 : Nat} {a : Option Addr} {n cap : Nat} {xs : List Int} (h : IntsW w B0 B1 (.slice a n cap) xs) (hn : n = xs.length) (hl : n ≤ 1048576) :
    Calls Tryz.prog 46 #[.slice a n cap, .int .i64 1] w fun e w' => e = .returned (.int .i64 (1 + n)) ∧ IntsW w' B0 B1 (.slice a n cap) (mk1 n) ∧ Kept B0 B1 w w' := by
  have h0 := h
  obtain ⟨a', cap', e, h1, h2, h3⟩ := h
  injection e with e1 e2 e3
  subst e1
  subst e3
  rw [← hn] at h3
  exact (markIntS_any w a n cap 1 hl (by omega) (by omega) (fun i hi => by
    obtain ⟨g, p, e, _, _, hc, hf⟩ := h3 i hi
    exact ⟨g, p, _, e, hc, hf⟩)).mono fun e w' ⟨he, hm⟩ => ⟨he, h0.marked hn hm⟩
theorem eqs_c (w : World) (va vb : Value) (xs : List Int) (ha : Ints w va xs) (hb : Ints w vb xs) :
    Calls Tryz.prog 44 #[va, vb] w fun e w' => e = .returned (.bool true) ∧ Chg 0 0 w w' :=
  (eqIntS_any w va vb xs xs ha hb).mono fun e w' ⟨he, n, hn⟩ => ⟨by rw [he]; simp, by rw [hn]; exact Chg.of_drewN w n⟩
end Go.Proofs.YtcmmlgdfhkcmoaaGreat
namespace Go.Proofs.YtcmmlgdfhkcmoaaGreat
open Go.ChangeShapes Go.WideShapes Go.ChangeAt Go.RowKit
set_option linter.unusedVariables false
set_option maxRecDepth 100000
set_option maxHeartbeats 1000000 in
theorem markInfoK_any (k0 : Nat) (hk0 : 1 ≤ k0) (hkm : k0 ≤ 3200000) (w : World) (B0 B1 : Nat) (a : Option Addr) (n cap : Nat) (xs : List IV) (h : IsW w B0 B1 (.slice a n cap) xs) (hB : B1 ≤ w.heap.size) (hN : n = xs.length) (hn : k0 + 3 * n ≤ 3200000) :
    Calls Tryz.prog 105 #[.slice a n cap, .int .i64 k0] w fun e w' => e = .returned (.int .i64 ((k0 + 3 * n : Nat) : Int)) ∧ Chg B0 B1 w w' := by
  have H := Lib.hid h
  have HN := Lib.hid hN
  have HB := Lib.hid hB
  clear h hN hB
  go_enter Tryz.func105, Tryz.ntmps105
  go_wp2
  go_loopw [1, 5] (fun l i wr => ∃ (j : Nat) (ys : List IV), j ≤ n ∧ i = .int .i64 j ∧ l = .int .i64 ((k0 + 3 * j : Nat) : Int) ∧ Hid (ys.length = n) ∧ Hid (IsW wr B0 B1 (.slice a n cap) ys) ∧ Hid (Chg B0 B1 w wr)) (fun _ i _ => n - (intOf i).toNat)
  case atStart => exact ⟨0, xs, Nat.zero_le _, rfl, rfl, Lib.hid HN.out.symm, H, Lib.hid ⟨rfl, rfl, rfl, Nat.le_refl _, fun _ _ _ => rfl⟩⟩
  case round =>
    obtain ⟨j, ys, hj, rfl, rfl, HL, HS, HC⟩ := hrel
    by_cases hlt : j < n
    · have hlt' : (j : Int) < (n : Int) := by omega
      obtain ⟨a', cap', e, q1, q2, q3⟩ := HS.out
      injection e with e1 e2 e3
      subst e1
      obtain ⟨g, p, rfl, hg0, hg1, ht⟩ := q3 j (by omega)
      clear q1 q2 q3 e2 e3
      generalize ys.getD j iz = x at ht
      have HT := Lib.hid ht
      have HG := Lib.hid (And.intro hg0 hg1)
      have hc0 := ht.at3.c0
      have hf0 := ht.fr 0 (by omega)
      rw [Nat.add_zero] at hf0
      clear hg0 hg1 ht
      go_wp2_with fail
      have z1 : ((k0 : Int) + 3 * (j : Int) + 1) = ((k0 + 1 + 3 * j : Nat) : Int) := by omega
      obtain ⟨wa, hwa⟩ : ∃ wa, wa = wr.setCell ⟨g, p + j * 3, none⟩ (.int .i64 ((k0 : Int) + 3 * (j : Int))) := ⟨_, rfl⟩
      have TA : Hid (TriW wa g (p + j * 3) ⟨(k0 : Int) + 3 * (j : Int), x.g, x.r⟩) := Lib.hid (by rw [hwa]; exact HT.out.set0 _)
      have SA : Hid (IsW wa B0 B1 (.slice (some ⟨g, p, none⟩) n cap) (ys.set j ⟨(k0 : Int) + 3 * (j : Int), x.g, x.r⟩)) := Lib.hid (HS.out.upd rfl hlt TA.out (fun i y hi hy => by rw [hwa]; exact hy.off (by omega) _))
      have CA : Hid (Chg B0 B1 w wa) := Lib.hid (by rw [hwa]; exact chg_set HC.out HG.out.1 HG.out.2)
      rw [z1, ← hwa]
      clear hwa
      refine (markText_any wa (k0 + 1 + 3 * j) (by omega) (by omega)).mono ?_
      rintro e wb ⟨rfl, hbb⟩
      have TB := Lib.hid (TA.out.block (hbb.block g TA.out.at3.lt))
      have SB := Lib.hid (SA.out.below hbb (Nat.le_trans HB.out CA.out.size))
      have CB := Lib.hid (chg_below CA.out hbb)
      have hc1 := TB.out.at3.c1
      have hf1 := TB.out.fr 1 (by omega)
      have hc2 := TB.out.at3.c2
      have hf2 := TB.out.fr 2 (by omega)
      clear hbb TA SA CA
      go_wp2_with fail
      have z2 : ((k0 : Int) + 1 + 3 * (j : Int) + 1) = ((k0 + 2 + 3 * j : Nat) : Int) := by omega
      obtain ⟨wc, hwc⟩ : ∃ wc, wc = wb.setCell ⟨g, p + j * 3 + 1, none⟩ (.string ⟨(mtext (k0 + 1 + 3 * j)).toArray⟩) := ⟨_, rfl⟩
      have TC : Hid (TriW wc g (p + j * 3) ⟨(k0 : Int) + 3 * (j : Int), mtext (k0 + 1 + 3 * j), x.r⟩) := Lib.hid (by rw [hwc]; exact TB.out.set1 _)
      have SC : Hid (IsW wc B0 B1 (.slice (some ⟨g, p, none⟩) n cap) ((ys.set j ⟨(k0 : Int) + 3 * (j : Int), x.g, x.r⟩).set j ⟨(k0 : Int) + 3 * (j : Int), mtext (k0 + 1 + 3 * j), x.r⟩)) := Lib.hid (SB.out.upd rfl hlt TC.out (fun i y hi hy => by rw [hwc]; exact hy.off (by omega) _))
      have CC : Hid (Chg B0 B1 w wc) := Lib.hid (by rw [hwc]; exact chg_set CB.out HG.out.1 HG.out.2)
      rw [← hwc]
      clear hwc
      have TD := Lib.hid (TC.out.set2 ((k0 : Int) + 1 + 3 * (j : Int) + 1))
      have SD := Lib.hid (SC.out.upd rfl hlt TD.out (fun i y hi hy => hy.off (by omega) _))
      have CD := Lib.hid (chg_set (v := .int .i64 ((k0 : Int) + 1 + 3 * (j : Int) + 1)) CC.out HG.out.1 HG.out.2 (p := p + j * 3 + 2))
      exact ⟨⟨j + 1, _, by omega, by go_num, by congr 1; omega, Lib.hid (by rw [List.length_set, List.length_set, List.length_set]; exact HL.out), SD, CD⟩, by simp [intOf]; omega⟩
    · go_wp2
      go_ret
      have e : j = n := by omega
      subst e
      exact ⟨rfl, HC.out⟩
theorem markStringK_any (k0 : Nat) (hk0 : 1 ≤ k0) (hkm : k0 ≤ 3200000) (w : World) (B0 B1 : Nat) (a : Option Addr) (n cap : Nat) (xs : List Bs) (h : StrsW w B0 B1 (.slice a n cap) xs) (hB : B1 ≤ w.heap.size) (hN : n = xs.length) (hn : k0 + n ≤ 3200000) :
    Calls Tryz.prog 161 #[.slice a n cap, .int .i64 k0] w fun e w' => e = .returned (.int .i64 ((k0 + n : Nat) : Int)) ∧ Chg B0 B1 w w' := by
  have H := Lib.hid h
  have HN := Lib.hid hN
  have HB := Lib.hid hB
  clear h hN hB
  go_enter Tryz.func161, Tryz.ntmps161
  go_wp2
  go_loopw [1, 5] (fun l i wr => ∃ (j : Nat) (ys : List Bs), j ≤ n ∧ i = .int .i64 j ∧ l = .int .i64 ((k0 + j : Nat) : Int) ∧ Hid (ys.length = n) ∧ Hid (StrsW wr B0 B1 (.slice a n cap) ys) ∧ Hid (Chg B0 B1 w wr)) (fun _ i _ => n - (intOf i).toNat)
  case atStart => exact ⟨0, xs, Nat.zero_le _, rfl, rfl, Lib.hid HN.out.symm, H, Lib.hid ⟨rfl, rfl, rfl, Nat.le_refl _, fun _ _ _ => rfl⟩⟩
  case round =>
    obtain ⟨j, ys, hj, rfl, rfl, HL, HS, HC⟩ := hrel
    by_cases hlt : j < n
    · have hlt' : (j : Int) < (n : Int) := by omega
      have hs0 := HS.out
      obtain ⟨a', cap', e, q1, q2, q3⟩ := hs0
      injection e with e1 e2 e3
      subst e1
      obtain ⟨g, p, rfl, hg0, hg1, -, -⟩ := q3 j (by omega)
      clear q1 q2 q3 e2 e3
      have HG := Lib.hid (And.intro hg0 hg1)
      clear hg0 hg1
      go_wp2_with fail
      refine (markText_any wr (k0 + j) (by omega) (by omega)).mono ?_
      rintro e w1 ⟨rfl, hb1⟩
      have HS1 := Lib.hid (HS.out.below hb1 (Nat.le_trans HB.out HC.out.size))
      have HC1 := Lib.hid (chg_below HC.out hb1)
      clear hb1
      have hcell : ∃ u, w1.cell? ⟨g, p + j, none⟩ = some u ∧ w1.frozen? ⟨g, p + j, none⟩ = false := by
        obtain ⟨a', cap', e, q1, q2, q3⟩ := HS1.out
        injection e with e1 e2 e3
        subst e1
        obtain ⟨g', p', e, _, _, h1, h2⟩ := q3 j (by omega)
        cases e
        exact ⟨_, h1, h2⟩
      obtain ⟨u, hc, hf⟩ := hcell
      go_wp2
      go_roundw
      case rel =>
        refine ⟨j + 1, ys.set j (mtext (k0 + j)), by omega, by go_num, by go_num, Lib.hid (by rw [List.length_set]; exact HL.out), Lib.hid (HS1.out.put rfl hlt _), Lib.hid (chg_set HC1.out HG.out.1 HG.out.2)⟩
      case measure => simp [intOf]; omega
    · go_wp2
      go_ret
      have e : j = n := by omega
      subst e
      exact ⟨rfl, HC.out⟩
end Go.Proofs.YtcmmlgdfhkcmoaaGreat
namespace Go.Proofs.YtcmmlgdfhkcmoaaGreat
open Go.ChangeShapes Go.WideShapes Go.ChangeAt Go.RowKit
set_option linter.unusedVariables false
set_option maxRecDepth 100000
def MarkTo (f : FuncId) (w : World) (B0 B1 : Nat) (v : Value) (k0 k1 : Nat) : Prop := Calls Tryz.prog f #[v, .int .i64 k0] w fun e w' => e = .returned (.int .i64 k1) ∧ Chg B0 B1 w w'
theorem markM_to {w : World} {B0 B1 : Nat} {v : Value} {xss : List (List Int)} {k1 : Nat} (h : MatW w B0 B1 v xss) (hn : xss.length + total xss ≤ 1048576) (hk : k1 = 1 + total xss) : MarkTo 104 w B0 B1 v 1 k1 := by
  obtain ⟨a, cap, A, C, rfl, h1, h2, h3⟩ := h
  refine (markIntSS_any w B0 B1 a xss.length cap A _ C _ 1 (by omega) (by rw [off_all]; omega) (by omega) (by omega) h3).mono ?_
  rintro e w' ⟨rfl, _, hk'⟩
  refine ⟨?_, Chg.of_kept hk'⟩
  rw [off_all, hk]
  congr 1
theorem markI_to {w : World} {B0 B1 : Nat} {v : Value} {ys : List IV} {k0 k1 : Nat} (h : IsW w B0 B1 v ys) (hB : B1 ≤ w.heap.size) (hk0 : 1 ≤ k0) (hn : k0 + 3 * ys.length ≤ 3200000) (hk : k1 = k0 + 3 * ys.length) : MarkTo 105 w B0 B1 v k0 k1 := by
  have h0 := h
  obtain ⟨a, cap, rfl, _⟩ := h0
  subst hk
  exact markInfoK_any k0 hk0 (by omega) w B0 B1 a _ cap ys h hB rfl hn
def MarkN (w : World) (B0 B1 : Nat) (v : Value) (n : Nat) : Prop := Calls Tryz.prog 46 #[v, .int .i64 1] w fun e w' => e = .returned (.int .i64 ((1 + n : Nat) : Int)) ∧ IntsW w' B0 B1 v (mk1 n) ∧ Chg B0 B1 w w'
theorem markN_of {w : World} {B0 B1 : Nat} {v : Value} {xs : List Int} {n : Nat} (h : IntsW w B0 B1 v xs) (hN : n = xs.length) (hn : n ≤ 1048576) : MarkN w B0 B1 v n := by
  have h0 := h
  obtain ⟨a, cap, rfl, _⟩ := h0
  subst hN
  exact (mark_of h rfl hn).mono fun e w' ⟨he, hi, hk⟩ => ⟨by rw [he]; congr 1, hi, Chg.of_kept hk⟩
def HeldN (w : World) (v : Value) (n : Nat) : Prop := Calls Tryz.prog 47 #[v, .int .i64 1] w fun e w' => e = .returned (.int .i64 ((1 + n : Nat) : Int)) ∧ Chg 0 0 w w'
theorem heldN_of {w : World} {B0 B1 : Nat} {v : Value} {n : Nat} (h : IntsW w B0 B1 v (mk1 n)) (hn : n ≤ 1048576) : HeldN w v n := by
  have h0 := h
  obtain ⟨a, cap, rfl, _⟩ := h0
  rw [mk1_len] at h ⊢
  exact (held_of h hn).mono fun e w' ⟨he, hw⟩ => ⟨by rw [he]; congr 1, by rw [← hw]; exact ⟨rfl, rfl, rfl, Nat.le_refl _, fun _ _ _ => rfl⟩⟩
end Go.Proofs.YtcmmlgdfhkcmoaaGreat
namespace Go.Proofs.YtcmmlgdfhkcmoaaGreat
open Go.ChangeShapes Go.WideShapes Go.ChangeAt Go.RowKit
set_option linter.unusedVariables false
set_option maxRecDepth 100000
set_option maxHeartbeats 1000000 in
theorem sKernelReach_any (w : World) (vm vi ve vc : Value) (K : KV) (e : Int) (h : Ks w vm vi ve vc K) (hs : ShortI K.i) (hse : Short3 K.e) :
    Calls Tryz.prog 31 #[kV vm vi ve vc, .int .i64 e] w (NewR (kreach K e) w) := by
  have HK := Lib.hid h
  have HKP := Lib.hid (fun t => KP.start w vm vi ve vc t)
  have HV : Hid (∀ W, Below w.heap.size w W → Calls Tryz.prog 23 #[kV vm vi ve vc] W (BRes (kvalid K) W)) := Lib.hid (fun W hW => sKernelValid_any W vm vi ve vc K (h.below hW) hs hse)
  have HE := Lib.hid (fun w => l4Env_any w e)
  have HR : Hid (∀ W t, Below w.heap.size w W → kvalid K = true → -1 ≤ t ∧ t < 12 → Calls Tryz.prog 84 #[vm, .int .i64 t] W (NewI (reach K.m t) W)) := Lib.hid (fun W t hW hv ht => l21Reach_any W vm K.m t (h.m.below hW) (kvalid_len hv).1 ht)
  unfold kreach
  obtain ⟨b1, hb1⟩ : ∃ b, b = kvalid K := ⟨_, rfl⟩
  obtain ⟨b2, hb2⟩ : ∃ b, b = inR e 0 2 := ⟨_, rfl⟩
  rw [← hb1] at HV HR ⊢
  rw [← hb2] at HE ⊢
  have HB1 := Lib.hid hb1
  have HB2 := Lib.hid hb2
  obtain ⟨L, hL⟩ : ∃ L, L = (if (b1 && b2) = true then reach K.m (rootOf K.e e) else []) := ⟨_, rfl⟩
  rw [← hL]
  have HL := Lib.hid hL
  clear h hs hse hb1 hb2 hL
  go_enter Tryz.func31, Tryz.ntmps31
  obtain ⟨W0, hW0⟩ : ∃ W0, W0 = w.alloc (.cells #[vm, vi, ve, vc] 30) := ⟨_, rfl⟩
  have HP0 : Hid (KP w W0 vm vi ve vc) := Lib.hid (by rw [hW0]; exact HKP.out _)
  have HW0 := Lib.hid hW0
  clear hW0
  go_wp2_with fail
  rw [← HW0.out]
  refine (HV.out W0 HP0.out.bel).mono ?_
  rintro _ W1 ⟨rfl, hb⟩
  have HP1 := Lib.hid (HP0.out.go hb)
  clear hb
  cases b1 with
  | false =>
    go_wp2_with fail
    go_ret
    rw [show L = [] from HL.out]
    exact ⟨_, rfl, IntsW.of_own ((OwnI.start W1).from HP1.out.bel), ((OwnI.start W1).from HP1.out.bel).bel⟩
  | true =>
    go_wp2_with fail
    refine (HE.out W1).mono ?_
    rintro _ w' ⟨rfl, rfl⟩
    cases b2 with
    | false =>
      go_wp2_with fail
      go_ret
      rw [show L = [] from HL.out]
      exact ⟨_, rfl, IntsW.of_own ((OwnI.start W1).from HP1.out.bel), ((OwnI.start W1).from HP1.out.bel).bel⟩
    | true =>
      obtain ⟨h0, h2⟩ := inR_iff.1 HB2.out.symm
      obtain ⟨j, rfl⟩ := Int.eq_ofNat_of_zero_le h0
      have hl := kvalid_len HB1.out.symm
      have hj3 : j < 3 := by omega
      have hj3' : (j : Int) < 3 := by omega
      have hbd := hl.2.2 j hj3
      obtain ⟨be, oe, ce, rfl, c1, c2, hbe, hc⟩ := HP1.out.root HK.out (j := j) (by have := hl.2.1; omega)
      have hLE : L = reach K.m (K.e.getD j ez).t := by
        rw [HL.out, if_pos (show (true && true) = true from rfl)]
        unfold rootOf
        rw [Int.toNat_natCast]
      rw [hl.2.1] at c2 HP1 ⊢
      unfold maxLen at c1
      obtain ⟨t, ht⟩ : ∃ t, t = (K.e.getD j ez).t := ⟨_, rfl⟩
      rw [← ht] at hbd hc hLE
      have HRR := Lib.hid (HR.out W1.drew t HP1.out.drew.bel (by trivial) (by omega))
      obtain ⟨q0, q1, q2, q3⟩ := HP1.out.cells
      have HBL := Lib.hid HP1.out.drew.bel
      have FS : Hid (∀ W, Below W1.heap.size W1 W → W.cell? ⟨w.heap.size, 0, none⟩ = some vm ∧ W.cell? ⟨w.heap.size, 2, none⟩ = some (.slice (some ⟨be, oe, none⟩) 3 ce) ∧ W.cell? ⟨be, oe + j * 2 + 1, none⟩ = some (.int .i64 t)) := Lib.hid (fun W hW => ⟨(HP1.out.go hW).c0, (HP1.out.go hW).c2, (hW.cell (p := ⟨be, oe + j * 2 + 1, none⟩) (cell_lt hc)).trans hc⟩)
      rw [← hLE] at HRR
      clear hLE ht hl h2 HP0 HW0 HR HV HE HK HKP HB1 HB2 HL
      go_wp2_with fail
      refine wp_region_held_drew (S := fun w' => w'.cell? ⟨w.heap.size, 0, none⟩ = some vm ∧ w'.cell? ⟨w.heap.size, 2, none⟩ = some (.slice (some ⟨be, oe, none⟩) 3 ce) ∧ w'.cell? ⟨be, oe + j * 2 + 1, none⟩ = some (.int .i64 t)) (by kernel_rfl) (FS.out _ (Below.refl _ _).drew) (fun hHeld => ?_)
      refine wpAnyH_take (i := 0) (oi := { dst := some 14, op := .fieldAddr 30 (.tmp 2) 0, type := _, pos := _, after := _, guard := none }) (v := .pointer (some ⟨w.heap.size, 0, none⟩)) rfl (by kernel_rfl) (by kernel_rfl) (by kernel_rfl) (fun _ _ _ h => h) (Or.inl ⟨by rfl, fun wh hSw => ?_⟩) hHeld ?_
      · (obtain ⟨s0, s1, s2⟩ := hSw; go_simp)
      try simp only [Act.put, List.setIfInBounds_toArray, List.set_cons_zero, List.set_cons_succ]
      refine wpAnyH_take (i := 1) (oi := { dst := some 15, op := .load 25 (.tmp 14), type := _, pos := _, after := _, guard := none }) (v := vm) rfl (by kernel_rfl) (by kernel_rfl) (by kernel_rfl) (fun _ _ _ h => h) (Or.inl ⟨by rfl, fun wh hSw => ?_⟩) hHeld ?_
      · (obtain ⟨s0, s1, s2⟩ := hSw; go_simp)
      try simp only [Act.put, List.setIfInBounds_toArray, List.set_cons_zero, List.set_cons_succ]
      refine wpAnyH_take (i := 2) (oi := { dst := some 16, op := .fieldAddr 30 (.tmp 2) 2, type := _, pos := _, after := _, guard := none }) (v := .pointer (some ⟨w.heap.size, 0 + 2, none⟩)) rfl (by kernel_rfl) (by kernel_rfl) (by kernel_rfl) (fun _ _ _ h => h) (Or.inl ⟨by rfl, fun wh hSw => ?_⟩) hHeld ?_
      · (obtain ⟨s0, s1, s2⟩ := hSw; go_simp)
      try simp only [Act.put, List.setIfInBounds_toArray, List.set_cons_zero, List.set_cons_succ]
      refine wpAnyH_take (i := 3) (oi := { dst := some 17, op := .load 27 (.tmp 16), type := _, pos := _, after := _, guard := none }) (v := .slice (some ⟨be, oe, none⟩) 3 ce) rfl (by kernel_rfl) (by kernel_rfl) (by kernel_rfl) (fun _ _ _ h => h) (Or.inl ⟨by rfl, fun wh hSw => ?_⟩) hHeld ?_
      · (obtain ⟨s0, s1, s2⟩ := hSw; go_simp)
      try simp only [Act.put, List.setIfInBounds_toArray, List.set_cons_zero, List.set_cons_succ]
      refine wpAnyH_take (i := 4) (oi := { dst := some 18, op := .move (.tmp 1), type := _, pos := _, after := _, guard := none }) (v := .int .i64 (j : Int)) rfl (by kernel_rfl) (by kernel_rfl) (by kernel_rfl) (fun _ _ _ h => h) (Or.inl ⟨by rfl, fun wh hSw => ?_⟩) hHeld ?_
      · (obtain ⟨s0, s1, s2⟩ := hSw; go_simp)
      try simp only [Act.put, List.setIfInBounds_toArray, List.set_cons_zero, List.set_cons_succ]
      refine wpAnyH_take (i := 5) (oi := { dst := some 19, op := .indexAddr 27 (.tmp 17) (.tmp 18), type := _, pos := _, after := _, guard := none }) (v := .pointer (some ⟨be, oe + j * 2, none⟩)) rfl (by kernel_rfl) (by kernel_rfl) (by kernel_rfl) (fun _ _ _ h => h) (Or.inl ⟨by rfl, fun wh hSw => ?_⟩) hHeld ?_
      · (obtain ⟨s0, s1, s2⟩ := hSw; go_simp)
      try simp only [Act.put, List.setIfInBounds_toArray, List.set_cons_zero, List.set_cons_succ]
      refine wpAnyH_take (i := 6) (oi := { dst := some 20, op := .fieldAddr 37 (.tmp 19) 1, type := _, pos := _, after := _, guard := none }) (v := .pointer (some ⟨be, oe + j * 2 + 1, none⟩)) rfl (by kernel_rfl) (by kernel_rfl) (by kernel_rfl) (fun _ _ _ h => h) (Or.inl ⟨by rfl, fun wh hSw => ?_⟩) hHeld ?_
      · (obtain ⟨s0, s1, s2⟩ := hSw; go_simp)
      try simp only [Act.put, List.setIfInBounds_toArray, List.set_cons_zero, List.set_cons_succ]
      refine wpAnyH_take (i := 7) (oi := { dst := some 21, op := .load 3 (.tmp 20), type := _, pos := _, after := _, guard := none }) (v := .int .i64 t) rfl (by kernel_rfl) (by kernel_rfl) (by kernel_rfl) (fun _ _ _ h => h) (Or.inl ⟨by rfl, fun wh hSw => ?_⟩) hHeld ?_
      · (obtain ⟨s0, s1, s2⟩ := hSw; go_simp)
      try simp only [Act.put, List.setIfInBounds_toArray, List.set_cons_zero, List.set_cons_succ]
      refine wpAnyH_ready (rs := [8]) (by kernel_rfl) (by simp) ?_
      refine AllReadyH.cons (o := { dst := some 22, op := .call { callee := .value (.func 84), args := #[.tmp 15, .tmp 21], argTypes := #[25, 3] }, type := _, pos := _, after := _, guard := none }) rfl (fun K hK => ?_) AllReadyH.nil
      go_simp
      refine HRR.out.mono ?_
      rintro _ W2 ⟨v2, rfl, ho⟩
      have HB2 : Hid (Below W1.heap.size W1 W2) := Lib.hid ((Below.refl W1.heap.size W1).drew.trans (ho.bel.mono (Nat.le_refl _)))
      have HO := Lib.hid (ho.from HBL.out)
      clear ho
      try go_simp
      refine hK.out _ _ ?_ (fun hHeld => ?_)
      · exact FS.out _ HB2.out
      clear hK K
      try simp only [Act.put, List.setIfInBounds_toArray, List.set_cons_zero, List.set_cons_succ]
      refine wpAnyH_take (i := 9) (oi := { dst := some 4, op := .assign (.tmp 22), type := _, pos := _, after := _, guard := none }) (v := v2) rfl (by kernel_rfl) (by kernel_rfl) (by kernel_rfl) (fun _ _ _ h => h) (Or.inl ⟨by rfl, fun wh hSw => ?_⟩) hHeld ?_
      · (obtain ⟨s0, s1, s2⟩ := hSw; go_simp)
      try simp only [Act.put, List.setIfInBounds_toArray, List.set_cons_zero, List.set_cons_succ]
      refine wpAnyH_done (by kernel_rfl) ?_ _
      go_wp2_with fail
      go_ret
      exact ⟨_, rfl, IntsW.of_own HO.out, HO.out.bel⟩
end Go.Proofs.YtcmmlgdfhkcmoaaGreat
namespace Go.Proofs.YtcmmlgdfhkcmoaaGreat
open Go.ChangeShapes Go.WideShapes Go.ChangeAt Go.RowKit Go.Maps Go.Shelf
set_option linter.unusedVariables false
set_option linter.unusedSimpArgs false
set_option maxRecDepth 100000
abbrev IKR : Prop := ∀ (w : World) (vm vi ve vc : Value) (K : KV) (e : Int), Ks w vm vi ve vc K → ShortI K.i → Short3 K.e → Calls Tryz.prog 24 #[kV vm vi ve vc, .int .i64 e] w (NewR (kreach K e) w)
set_option maxHeartbeats 4000000 in
theorem ikreach_any : IKR := by
  intro w vm vi ve vc K e h hs hse
  have HKP := Lib.hid (fun t => KP.start w vm vi ve vc t)
  have HKO : Hid (∀ W, Below w.heap.size w W → Calls Tryz.prog 59 #[kV vm vi ve vc] W (KOfR K W)) := Lib.hid (fun W hW => kernelOf_any W vm vi ve vc K (h.below hW) hs hse)
  unfold KOfR at HKO
  have HZ := Lib.hid zero_kernel
  have HZL := Lib.hid Z108_len
  obtain ⟨Z, hZ⟩ : ∃ Z, Z = Z108 := ⟨_, rfl⟩
  rw [← hZ] at HZ HZL
  obtain ⟨W0, hW0⟩ : ∃ W0, W0 = w.alloc (.cells #[vm, vi, ve, vc] 30) := ⟨_, rfl⟩
  have HP0 : Hid (KP w W0 vm vi ve vc) := Lib.hid (by rw [hW0]; exact HKP.out _)
  have HW0 := Lib.hid hW0
  have HBL := Lib.hid (fun w => ibelow_any w e 3)
  rw [show (3 : Int) - 1 = 2 from rfl] at HBL
  obtain ⟨q, hq⟩ : ∃ q, q = inR e 0 2 := ⟨_, rfl⟩
  rw [← hq] at HBL
  have HQ := Lib.hid hq
  obtain ⟨b, hb⟩ : ∃ b, b = kvalid K := ⟨_, rfl⟩
  have HBV := Lib.hid hb
  obtain ⟨N, hN⟩ : ∃ N, N = kreach K e := ⟨_, rfl⟩
  have HNN := Lib.hid hN
  rw [← hN]
  unfold kreach at HNN
  rw [← hb, ← hq] at HNN
  rw [← hb] at HKO
  clear hZ hW0 h hs hse hq hb hN
  go_enter Tryz.func24, Tryz.ntmps24
  go_wp2_with fail
  rw [← HW0.out]
  refine (HKO.out W0 HP0.out.bel).mono ?_
  rintro _ w1 ⟨L, rfl, hl, ho, hb, hkl⟩
  obtain ⟨Y, hY⟩ : ∃ Y, Y = w1.heap.size := ⟨_, rfl⟩
  obtain ⟨W1, hW1⟩ : ∃ W1, W1 = (w1.alloc (.cells Z.toArray 101)).setCells Y 0 L := ⟨_, rfl⟩
  have HMK := Lib.hid (VarL.make (w := w) (w1 := w1) (L := L) (Z := Z.toArray) 101 (HP0.out.bel.trans (hb.mono HP0.out.bel.size)) (by rw [List.size_toArray, HZL.out, hl]))
  have HL1 : Hid (VarL w Y L W1) := Lib.hid (by rw [hW1, hY]; exact HMK.out.2)
  have HTH : Hid ((w1.alloc (.cells Z.toArray 101)).there Y 0 L.toArray.size) := Lib.hid (by rw [hY, List.size_toArray]; exact HMK.out.1)
  have HLL := Lib.hid hl
  have HLO := Lib.hid ho
  have HLS : Hid (L.toArray.size = 108) := Lib.hid (by rw [List.size_toArray, hl])
  have HBW : Hid (Below w1.heap.size w1 W1) := Lib.hid (by rw [hW1, hY]; exact bel_var (Below.refl _ _) _ _ _)
  have HKL := Lib.hid (fun hk => by
    obtain ⟨bs, A, f, c, h1, h2, h3, h4⟩ := hkl hk
    exact (⟨bs, A, f, c, h1.below HBW.out, h2, h3, h4⟩ : ∃ (bs : Nat → Nat) (A : Nat → CV) (f c : Nat), KL W1 K.m K.i K.e bs (ringC A f c) L ∧ f < 4 ∧ c ≤ 4 ∧ rlist A f c = K.c))
  have HY := Lib.hid hY
  have HW1 := Lib.hid hW1
  clear hl ho hb hkl hY hW1 HMK
  cases b with
  | false =>
    go_wp2_with (first | ((with_reducible refine alloc_is 101 ?_); refine alloc_arr 101 Z.toArray HZ.out ?_; rw [← HY.out]) | ((with_reducible refine store_is 101 (.tmp 5) (.tmp 10) ?_); refine store_arr 101 (.tmp 5) (.tmp 10) Y 0 L.toArray rfl rfl HTH.out (info_kernel HLS.out) HLO.out ?_; rw [show L.toArray.toList = L from rfl, ← HW1.out]) | fail)
    go_ret
    rw [show N = [] from HNN.out]
    exact ⟨_, rfl, nil_intsW, HL1.out.bel⟩
  | true =>
    go_wp2_with (first | ((with_reducible refine alloc_is 101 ?_); refine alloc_arr 101 Z.toArray HZ.out ?_; rw [← HY.out]) | ((with_reducible refine store_is 101 (.tmp 5) (.tmp 10) ?_); refine store_arr 101 (.tmp 5) (.tmp 10) Y 0 L.toArray rfl rfl HTH.out (info_kernel HLS.out) HLO.out ?_; rw [show L.toArray.toList = L from rfl, ← HW1.out]) | fail)
    refine (HBL.out W1).mono ?_
    rintro _ w' ⟨rfl, rfl⟩
    cases q with
    | false =>
      go_wp2_with fail
      go_ret
      rw [show N = [] from HNN.out]
      exact ⟨_, rfl, nil_intsW, HL1.out.bel⟩
    | true =>
      obtain ⟨e0, e2⟩ := inR_iff.1 HQ.out.symm
      obtain ⟨j, rfl⟩ := Int.eq_ofNat_of_zero_le e0
      have hj3 : j < 3 := by omega
      obtain ⟨bs, A, f, c, hk, hf, hc, hrl⟩ := HKL.out (by trivial)
      have hbd := (kvalid_len HBV.out.symm).2.2 j hj3
      have HRE := Lib.hid (kreach_any W1 K.m K.i K.e bs (ringC A f c) L hk j hj3 hbd)
      have hN : N = reach K.m (K.e.getD j ez).t := by
        rw [HNN.out, if_pos (show (true && true) = true from rfl)]
        unfold rootOf
        rw [Int.toNat_natCast]
      rw [← hN] at HRE
      clear hk hf hc hrl hbd hN e0 e2
      go_wp2_with (first | ((with_reducible refine load_is 101 (.tmp 5) ?_); refine load_arr 101 (.tmp 5) Y 0 L _ rfl HL1.out.at0 Tryz.underlying101 rfl (info_kernel HLL.out) ?_) | fail)
      refine HRE.out.mono ?_
      rintro _ W2 ⟨v2, rfl, hi2, hb2⟩
      have HI2 := Lib.hid (hi2.lower HL1.out.bel.size)
      have HB2 := Lib.hid (HL1.out.bel.trans (hb2.mono HL1.out.bel.size))
      clear hi2 hb2
      go_wp2_with fail
      go_ret
      exact ⟨_, rfl, HI2.out, HB2.out⟩
end Go.Proofs.YtcmmlgdfhkcmoaaGreat
namespace Go.Proofs.YtcmmlgdfhkcmoaaGreat
open Go.ChangeShapes Go.WideShapes Go.ChangeAt Go.RowKit
set_option linter.unusedVariables false
set_option maxRecDepth 100000
structure TFrom (w : World) (B0 B1 : Nat) (a : Option Addr) (n : Nat) (A : Nat → Option Addr) (L C : Nat → Nat) (X : Nat → Nat → Bs) (k : Nat) : Prop where
  top : ∀ j, k ≤ j → j < n → ∃ b o, a = some ⟨b, o, none⟩ ∧ B0 ≤ b ∧ b < B1 ∧ w.cell? ⟨b, o + j * 2, none⟩ = some (.slice (A j) (L j) (C j)) ∧ L j ≤ C j ∧ C j ≤ maxLen
  root : ∀ j, k ≤ j → j < n → ∀ b o, a = some ⟨b, o, none⟩ → ∃ t, w.cell? ⟨b, o + j * 2 + 1, none⟩ = some (.int .i64 t) ∧ w.frozen? ⟨b, o + j * 2 + 1, none⟩ = false
  row : ∀ j, k ≤ j → j < n → ∀ i, i < L j → ∃ g p, A j = some ⟨g, p, none⟩ ∧ B0 ≤ g ∧ g < B1 ∧ w.cell? ⟨g, p + i, none⟩ = some (.string ⟨(X j i).toArray⟩) ∧ w.frozen? ⟨g, p + i, none⟩ = false ∧ ∀ b o, a = some ⟨b, o, none⟩ → g ≠ b
  apart : ∀ j, j < n → ∀ j', j' < n → j ≠ j' → 0 < L j → 0 < L j' → ∀ g p g' p', A j = some ⟨g, p, none⟩ → A j' = some ⟨g', p', none⟩ → g ≠ g'
theorem tfrom_start {w : World} {B0 B1 : Nat} {a : Option Addr} {n : Nat} {A : Nat → Option Addr} {L C : Nat → Nat} {X : Nat → Nat → Bs} {R : Nat → Int} (h : TAt w B0 B1 2 a n A L C X) (hr : RAt w B0 B1 a n R) : TFrom w B0 B1 a n A L C X 0 := by
  refine ⟨fun j _ hj => ?_, fun j _ hj b o e => ?_, fun j _ hj i hi => h.row j hj i hi, h.apart⟩
  · obtain ⟨b, o, e, h1, h2, h3, h4, h5, _⟩ := h.top j hj
    exact ⟨b, o, e, h1, h2, h3, h4, h5⟩
  · obtain ⟨b', o', e', _, _, hc, hf⟩ := hr j hj
    rw [e] at e'
    cases e'
    exact ⟨_, hc, hf⟩
theorem TFrom.rowW {w : World} {B0 B1 : Nat} {a : Option Addr} {n : Nat} {A : Nat → Option Addr} {L C : Nat → Nat} {X : Nat → Nat → Bs} {k : Nat} (h : TFrom w B0 B1 a n A L C X k) (hk : k < n) :
    ∃ lo hi, StrsW w lo hi (.slice (A k) (L k) (C k)) ((List.range (L k)).map (X k)) ∧ hi ≤ B1 ∧ (hi ≤ lo ∨ (B0 ≤ lo ∧ hi = lo + 1 ∧ 0 < L k ∧ ∃ p, A k = some ⟨lo, p, none⟩)) := by
  obtain ⟨b, o, _, _, _, _, hl, hm⟩ := h.top k (Nat.le_refl _) hk
  by_cases h0 : L k = 0
  · refine ⟨0, 0, ⟨A k, C k, by simp, by simpa using hl, hm, fun i hi => ?_⟩, Nat.zero_le _, .inl (Nat.le_refl _)⟩
    simp [h0] at hi
  · obtain ⟨g, p, e, hg0, hg1, _⟩ := h.row k (Nat.le_refl _) hk 0 (by omega)
    refine ⟨g, g + 1, ⟨A k, C k, by simp, by simpa using hl, hm, fun i hi => ?_⟩, by omega, .inr ⟨hg0, rfl, by omega, p, e⟩⟩
    simp at hi
    obtain ⟨g', p', e', _, _, hc, hf, _⟩ := h.row k (Nat.le_refl _) hk i hi
    have ee := e.symm.trans e'
    cases ee
    refine ⟨g, p, e, Nat.le_refl _, by omega, ?_, hf⟩
    rw [hc, getD_lt (by simpa using hi)]
    simp
theorem TFrom.step {w w1 : World} {B0 B1 : Nat} {a : Option Addr} {n : Nat} {A : Nat → Option Addr} {L C : Nat → Nat} {X : Nat → Nat → Bs} {k lo hi : Nat} (h : TFrom w B0 B1 a n A L C X k) (hk : k < n) (hB : B1 ≤ w.heap.size)
    (hc : Chg lo hi w w1) (hlo : hi ≤ lo ∨ (B0 ≤ lo ∧ hi = lo + 1 ∧ 0 < L k ∧ ∃ p, A k = some ⟨lo, p, none⟩)) :
    (∀ b o, a = some ⟨b, o, none⟩ → ∃ t, w1.cell? ⟨b, o + k * 2 + 1, none⟩ = some (.int .i64 t) ∧ w1.frozen? ⟨b, o + k * 2 + 1, none⟩ = false) ∧
    (∀ b o v, a = some ⟨b, o, none⟩ → TFrom (w1.setCell ⟨b, o + k * 2 + 1, none⟩ v) B0 B1 a n A L C X (k + 1)) := by
  have htop : ∀ b o, a = some ⟨b, o, none⟩ → w1.heap[b]? = w.heap[b]? := fun b o e => by
    obtain ⟨b', o', e', h0, h1, _⟩ := h.top k (Nat.le_refl _) hk
    rw [e] at e'
    cases e'
    refine hc.block b (by omega) ?_
    rcases hlo with hlo | ⟨hl0, rfl, hL, p, eA⟩
    · omega
    · obtain ⟨g, p', e2, _, _, _, _, hne⟩ := h.row k (Nat.le_refl _) hk 0 hL
      rw [eA] at e2
      cases e2
      have := hne b o e
      omega
  refine ⟨fun b o e => ?_, fun b o v e => ⟨fun j hj hn => ?_, fun j hj hn b' o' e' => ?_, fun j hj hn i hi => ?_, h.apart⟩⟩
  · obtain ⟨t, h1, h2⟩ := h.root k (Nat.le_refl _) hk b o e
    exact ⟨t, (World.cell?_of_block (htop b o e)).trans h1, (World.frozen?_of_block (htop b o e)).trans h2⟩
  · obtain ⟨b', o', e', h0, h1, h2, h3⟩ := h.top j (by omega) hn
    have ee := e.symm.trans e'
    cases ee
    exact ⟨b, o, e, h0, h1, (cell_set_other (.inr (by omega))).trans ((World.cell?_of_block (htop b o e)).trans h2), h3⟩
  · have ee := e.symm.trans e'
    cases ee
    obtain ⟨t, h1, h2⟩ := h.root j (by omega) hn b o e
    exact ⟨t, (cell_set_other (.inr (by omega))).trans ((World.cell?_of_block (htop b o e)).trans h1), (frozen_set _).trans ((World.frozen?_of_block (htop b o e)).trans h2)⟩
  · obtain ⟨g, p, e1, h0, h1, h2, h3, h4⟩ := h.row j (by omega) hn i hi
    have hb : w1.heap[g]? = w.heap[g]? := by
      refine hc.block g (by omega) ?_
      rcases hlo with hlo | ⟨hl0, rfl, hL, q, eA⟩
      · omega
      · have := h.apart k hk j hn (by omega) hL (by omega) _ _ _ _ eA e1
        omega
    exact ⟨g, p, e1, h0, h1, (cell_set_other (.inl (h4 b o e))).trans ((World.cell?_of_block hb).trans h2), (frozen_set _).trans ((World.frozen?_of_block hb).trans h3), h4⟩
def no (L : Nat → Nat) (k0 : Nat) : Nat → Nat
  | 0 => k0
  | j + 1 => no L k0 j + L j + 1
theorem no_mono (L : Nat → Nat) (k0 : Nat) {i j : Nat} (h : i ≤ j) : no L k0 i ≤ no L k0 j := by
  induction j with
  | zero => obtain rfl : i = 0 := by omega
            exact Nat.le_refl _
  | succ j ih =>
    by_cases e : i = j + 1
    · subst e; exact Nat.le_refl _
    · exact Nat.le_trans (ih (by omega)) (by show no L k0 j ≤ no L k0 j + L j + 1; omega)
theorem no_ge (L : Nat → Nat) (k0 j : Nat) : k0 + j ≤ no L k0 j := by
  induction j with
  | zero => exact Nat.le_refl _
  | succ j ih => show k0 + (j + 1) ≤ no L k0 j + L j + 1; omega
theorem chg_wide {lo hi B0 B1 : Nat} {w w' : World} (h : Chg lo hi w w') (hh : hi ≤ lo ∨ (B0 ≤ lo ∧ hi ≤ B1)) : Chg B0 B1 w w' := ⟨h.os, h.tape, h.output, h.size, fun b hb hx => h.block b hb (by omega)⟩
theorem markEnvS_at (k0 : Nat) (hk0 : 1 ≤ k0) (w : World) (B0 B1 : Nat) (a : Option Addr) (n cap : Nat) (A : Nat → Option Addr) (L C : Nat → Nat) (X : Nat → Nat → Bs) (h : TFrom w B0 B1 a n A L C X 0) (hB : B1 ≤ w.heap.size) (hn : no L k0 n ≤ 3200000) :
    Calls Tryz.prog 106 #[.slice a n cap, .int .i64 k0] w fun e w' => e = .returned (.int .i64 (no L k0 n : Nat)) ∧ Chg B0 B1 w w' := by
  have H := Lib.hid h
  have HB := Lib.hid hB
  have HN := Lib.hid hn
  clear h hB hn
  go_enter Tryz.func106, Tryz.ntmps106
  go_wp2
  go_loopw [1, 5] (fun l i wr => ∃ j : Nat, j ≤ n ∧ i = .int .i64 j ∧ l = .int .i64 (no L k0 j : Nat) ∧ Hid (TFrom wr B0 B1 a n A L C X j) ∧ Hid (Chg B0 B1 w wr)) (fun _ i _ => n - (intOf i).toNat)
  case atStart => exact ⟨0, Nat.zero_le _, rfl, rfl, H, Lib.hid (chg_refl _ _ _)⟩
  case round =>
    obtain ⟨j, hj, rfl, rfl, HT, HC⟩ := hrel
    by_cases hlt : j < n
    · have hlt' : (j : Int) < (n : Int) := by omega
      have hj32 : (j : Int) + 1 ≤ 3200000 := by have h1 := no_ge L k0 n; have h2 := HN.out; omega
      obtain ⟨b, o, rfl, hb0, hb1, hc, hl, hm⟩ := HT.out.top j (Nat.le_refl _) hlt
      obtain ⟨lo, hi, hw, hhi, hlo⟩ := HT.out.rowW hlt
      have hstep : no L k0 j + L j + 1 ≤ no L k0 n := no_mono L k0 (i := j + 1) (by omega)
      have HK : Hid (Calls Tryz.prog 161 #[.slice (A j) (L j) (C j), .int .i64 (no L k0 j : Nat)] wr fun e w' => e = .returned (.int .i64 ((no L k0 j + L j : Nat) : Int)) ∧ Chg lo hi wr w') := Lib.hid (markStringK_any (no L k0 j) (Nat.le_trans hk0 (no_mono L k0 (Nat.zero_le j))) (by have := HN.out; omega) wr lo hi (A j) (L j) (C j) _ hw (by have h1 := HC.out.size; have h2 := HB.out; omega) (by simp) (by have := HN.out; omega))
      have HLO := Lib.hid (And.intro hhi hlo)
      have HBB := Lib.hid (And.intro hb0 hb1)
      have HST := Lib.hid hstep
      clear hw hhi hlo hb0 hb1 hl hm hstep
      obtain ⟨q, hq⟩ : ∃ q, q = no L k0 j := ⟨_, rfl⟩
      rw [← hq] at HK ⊢
      have HQ := Lib.hid hq
      have hqn : (q : Int) + (L j : Int) + 1 ≤ 3200000 := by have h1 := HST.out; have h2 := HN.out; omega
      clear hq
      go_wp2_with fail
      refine HK.out.mono ?_
      rintro e w1 ⟨rfl, hc1⟩
      obtain ⟨hroot, hnext⟩ := HT.out.step hlt (Nat.le_trans HB.out HC.out.size) hc1 HLO.out.2
      obtain ⟨t, hc0, hf0⟩ := hroot b o rfl
      have HNX := Lib.hid (hnext b o (.int .i64 ((q + L j : Nat) : Int)) rfl)
      have HC2 : Hid (Chg B0 B1 w (w1.setCell ⟨b, o + j * 2 + 1, none⟩ (.int .i64 ((q + L j : Nat) : Int)))) := Lib.hid (chg_set (chg_trans HC.out (chg_wide hc1 (by have := HLO.out; omega))) HBB.out.1 HBB.out.2)
      clear hroot hnext hc1 hc
      go_wp2_with fail
      go_roundw
      case rel => exact ⟨j + 1, by omega, by (have h1 := no_ge L k0 n; have h2 := HN.out; go_num), by rw [show no L k0 (j + 1) = q + L j + 1 from by show no L k0 j + L j + 1 = _; rw [HQ.out]]; congr 1, HNX, HC2⟩
      case measure => (have h1 := no_ge L k0 n; have h2 := HN.out; simp [intOf]; omega)
    · go_wp2
      go_ret
      have e : j = n := by omega
      subst e
      exact ⟨rfl, HC.out⟩
end Go.Proofs.YtcmmlgdfhkcmoaaGreat
namespace Go.Proofs.YtcmmlgdfhkcmoaaGreat
open Go.ChangeShapes Go.WideShapes Go.ChangeAt Go.RowKit
set_option linter.unusedVariables false
set_option maxRecDepth 100000
theorem chg_put4 {lo hi : Nat} {w W : World} (h : Chg lo hi w W) {g : Nat} (h0 : lo ≤ g) (h1 : g < hi) (o : Nat) (vs : List Value) : Chg lo hi w (W.setCells g o vs) :=
  ⟨(os_setCells _ _ _ _).trans h.os, (tape_setCells _ _ _ _).trans h.tape, (output_setCells _ _ _ _).trans h.output, by rw [size_setCells]; exact h.size, fun b hb hx => (heap_setCells_other W g _ _ W b (by omega)).trans (h.block b hb hx)⟩
set_option maxHeartbeats 1000000 in
theorem markCachedK_any (k0 : Nat) (hk0 : k0 ≤ 3200000) (w : World) (v : Value) (xs : List CV) (B0 B1 : Nat) (h : CsW w B0 B1 v xs) (hB : B1 ≤ w.heap.size) (hn : xs.length ≤ 1048580) :
    Calls Tryz.prog 107 #[v, .int .i64 k0] w fun e w' => e = .returned (.int .i64 ((k0 + 4 * xs.length : Nat) : Int)) ∧ Chg B0 B1 w w' := by
  obtain ⟨a, ca, rfl, hla, hma, hxa⟩ := h
  unfold maxLen at hma
  obtain ⟨n, hN⟩ : ∃ n, n = xs.length := ⟨_, rfl⟩
  have HXA := Lib.hid hxa
  have HN := Lib.hid hN
  rw [← hN] at hla hn ⊢
  clear hN hxa
  go_enter Tryz.func107, Tryz.ntmps107
  go_wp2
  go_loopw [1, 5] (fun q i wr => ∃ (k : Nat) (z : Int), k ≤ n ∧ i = .int .i64 k ∧ q = .int .i64 z ∧ 0 ≤ z ∧ z ≤ 10000000 ∧ Hid (z = ((k0 + 4 * k : Nat) : Int)) ∧ Hid (Chg B0 B1 w wr) ∧ Hid (∀ i, i < n → ∃ g p x, a = some ⟨g, p, none⟩ ∧ B0 ≤ g ∧ g < B1 ∧ FourW wr g (p + i * 4) x)) (fun _ i _ => n - (intOf i).toNat)
  case atStart => exact ⟨0, k0, Nat.zero_le _, rfl, rfl, by omega, by omega, Lib.hid (by omega), Lib.hid (chg_refl _ _ _), Lib.hid (fun i hi => by
    obtain ⟨g, p, h⟩ := HXA.out i (by have := HN.out; omega)
    exact ⟨g, p, _, h⟩)⟩
  case round =>
    obtain ⟨k, z, hk, rfl, rfl, hz0, hz1, HZ, HKP, HFW⟩ := hrel
    by_cases hlt : k < n
    · obtain ⟨g, p, x, rfl, hg0, hg1, hf⟩ := HFW.out k hlt
      have HT := Lib.hid hf.there
      have HG0 := Lib.hid hg0
      have HG1 := Lib.hid hg1
      have hz2 : z + 4 ≤ 10000000 := by have := HZ.out; omega
      obtain ⟨⟨g0, g1, g2, g3⟩, hfr⟩ := hf
      have f0 := hfr 0 (by omega)
      have f1 := hfr 1 (by omega)
      have f2 := hfr 2 (by omega)
      have f3 := hfr 3 (by omega)
      rw [Nat.add_zero] at f0
      have hlt' : (k : Int) < (n : Int) := by omega
      clear hfr hg0 hg1
      go_wp2_with fail
      obtain ⟨wn, hwn⟩ : ∃ wn, wn = wr.setCells g (p + k * 4) (cvC ⟨z, z + 1, z + 1 + 1, (z + 1 + 1 + 1) % 3 == 0⟩) := ⟨_, rfl⟩
      have hw4 : (((wr.setCell ⟨g, p + k * 4, none⟩ (.int .i64 z)).setCell ⟨g, p + k * 4 + 1, none⟩ (.int .i64 (z + 1))).setCell ⟨g, p + k * 4 + 2, none⟩ (.int .i64 (z + 1 + 1))).setCell ⟨g, p + k * 4 + 3, none⟩ (.bool ((z + 1 + 1 + 1) % 3 == 0)) = wn := by rw [hwn]; rfl
      rw [hw4]
      have HK2 : Hid (Chg B0 B1 w wn) := Lib.hid (by
        rw [hwn]
        exact chg_put4 HKP.out HG0.out HG1.out _ _)
      have HF2 : Hid (∀ i, i < n → ∃ g' p' x', (some ⟨g, p, none⟩ : Option Addr) = some ⟨g', p', none⟩ ∧ B0 ≤ g' ∧ g' < B1 ∧ FourW wn g' (p' + i * 4) x') := Lib.hid (fun i hi => by
        rw [hwn]
        by_cases hik : i = k
        · subst hik
          exact ⟨g, p, _, rfl, HG0.out, HG1.out, FourW.stored HT.out⟩
        · obtain ⟨g', p', x', e2, _, _, h2⟩ := HFW.out i hi
          cases e2
          exact ⟨g, p, x', rfl, HG0.out, HG1.out, h2.apart (by show p + i * 4 + 4 ≤ p + k * 4 ∨ p + k * 4 + 4 ≤ p + i * 4; omega)⟩)
      exact ⟨⟨k + 1, z + 1 + 1 + 1 + 1, by omega, by go_num, rfl, by omega, by omega, Lib.hid (by have := HZ.out; omega), HK2, HF2⟩, by simp [intOf]; omega⟩
    · have ek : k = n := by omega
      subst ek
      go_wp2
      go_ret
      exact ⟨by rw [HZ.out]; rfl, HKP.out⟩
end Go.Proofs.YtcmmlgdfhkcmoaaGreat
namespace Go.Proofs.YtcmmlgdfhkcmoaaGreat
open Go.ChangeShapes Go.WideShapes Go.ChangeAt Go.RowKit
set_option linter.unusedVariables false
set_option maxRecDepth 100000
theorem no_tot (es : List EV) (k0 : Nat) : ∀ n, n ≤ es.length → no (fun j => (es.getD j ez).r.length) k0 n ≤ k0 + n + tot3 (es.take n)
  | 0, _ => by simp [no]
  | n + 1, h => by
    have ih := no_tot es k0 n (by omega)
    rw [tot3_snoc es n (by omega)]
    show no _ k0 n + (es.getD n ez).r.length + 1 ≤ _
    omega
theorem markE_to {w : World} {B0 B1 : Nat} {v : Value} {es : List EV} {k0 : Nat} (h : EsW w B0 B1 v es) (hB : B1 ≤ w.heap.size) (hk0 : 1 ≤ k0) (hn : k0 + es.length + tot3 es ≤ 3200000) :
    ∃ k1, k1 ≤ k0 + es.length + tot3 es ∧ MarkTo 106 w B0 B1 v k0 k1 := by
  obtain ⟨a, cap, A, C, rfl, h1, h2, h3, h4⟩ := h
  have hk := no_tot es k0 es.length (Nat.le_refl _)
  rw [List.take_length] at hk
  exact ⟨_, hk, markEnvS_at k0 hk0 w B0 B1 a es.length cap A _ C _ (tfrom_start h3 h4) hB (by omega)⟩
theorem markKernel_any (w : World) (B0 B1 B2 B3 B4 : Nat) (vm vi ve vc : Value) (K : KV) (h : KsW w B0 B1 B2 B3 B4 vm vi ve vc K) (h0 : B0 ≤ B1) (h1 : B1 ≤ B2) (h2 : B2 ≤ B3) (h3 : B3 ≤ B4) (hB : B4 ≤ w.heap.size) (hn : szK K ≤ 1048576) :
    Calls Tryz.prog 45 #[kV vm vi ve vc, .int .i64 1] w fun e w' => ∃ k : Nat, e = .returned (.int .i64 (k : Int)) ∧ Chg B0 B4 w w' := by
  obtain ⟨M, I, E, C⟩ := K
  unfold szK at hn
  dsimp only at hn
  have HA : Hid (∀ o, Below w.heap.size w (w.alloc o)) := Lib.hid (fun o => (Below.refl _ _).alloc (Nat.le_refl _) _)
  have HM : Hid (∀ W, Below w.heap.size w W → MarkTo 104 W B0 B1 vm 1 (1 + total M)) := Lib.hid (fun W hW => markM_to (h.m.chg (Chg.of_below hW) (by omega) (.inr (Nat.zero_le _))) (show M.length + total M ≤ 1048576 by omega) rfl)
  have HI : Hid (∀ W, Chg B0 B4 w W → (∀ b, B1 ≤ b → b < B4 → W.heap[b]? = w.heap[b]?) → MarkTo 105 W B1 B2 vi (1 + total M) (1 + total M + 3 * I.length)) := Lib.hid (fun W hW hb => markI_to (h.i.of_blocks (fun b b0 b1 => hb b b0 (by omega))) (by have := hW.size; omega) (by omega) (show 1 + total M + 3 * I.length ≤ 3200000 by omega) rfl)
  have HE : Hid (∀ W, Chg B0 B4 w W → (∀ b, B2 ≤ b → b < B4 → W.heap[b]? = w.heap[b]?) → ∃ k1, k1 ≤ 1 + total M + 3 * I.length + E.length + tot3 E ∧ MarkTo 106 W B2 B3 ve (1 + total M + 3 * I.length) k1) := Lib.hid (fun W hW hb => markE_to (h.e.of_blocks (fun b b0 b1 => hb b b0 (by omega))) (by have := hW.size; omega) (by omega) (by omega))
  have HCC : Hid (∀ W k, Chg B0 B4 w W → (∀ b, B3 ≤ b → b < B4 → W.heap[b]? = w.heap[b]?) → k ≤ 3200000 → MarkTo 107 W B3 B4 vc k (k + 4 * C.length)) := Lib.hid (fun W k hW hb hk => markCachedK_any k hk W vc C B3 B4 (h.c.of_blocks (fun b b0 b1 => hb b b0 b1)) (by have := hW.size; omega) (by omega))
  have HQ : Hid (∀ t W', Chg B0 B4 (w.alloc (.cells #[vm, vi, ve, vc] t)) W' → W'.cell? ⟨w.heap.size, 1, none⟩ = some vi ∧ W'.cell? ⟨w.heap.size, 2, none⟩ = some ve ∧ W'.cell? ⟨w.heap.size, 3, none⟩ = some vc) := Lib.hid (fun t W' hb => by
    have e : ∀ j v, (#[vm, vi, ve, vc] : Array Value)[j]? = some v → W'.cell? ⟨w.heap.size, j, none⟩ = some v := fun j v hj => (World.cell?_of_block (hb.block w.heap.size (by simp) (.inr hB))).trans (new_cell hj)
    exact ⟨e 1 _ rfl, e 2 _ rfl, e 3 _ rfl⟩)
  have HN := Lib.hid hn
  have HL := Lib.hid (And.intro h0 (And.intro h1 (And.intro h2 (And.intro h3 hB))))
  clear h h0 h1 h2 h3 hB hn
  unfold MarkTo at HM HI HE HCC
  obtain ⟨k1, hk1⟩ : ∃ k, k = 1 + total M := ⟨_, rfl⟩
  obtain ⟨k2, hk2⟩ : ∃ k, k = k1 + 3 * I.length := ⟨_, rfl⟩
  rw [← hk1] at HM HI HE
  rw [← hk2] at HI HE
  have HK := Lib.hid (And.intro hk1 hk2)
  clear hk1 hk2
  go_enter Tryz.func45, Tryz.ntmps45
  go_wp2_with fail
  refine (HM.out _ (HA.out _)).mono ?_
  rintro e w1 ⟨rfl, hc1⟩
  have HC1 := Lib.hid (chg_wide (B0 := B0) (B1 := B4) hc1 (.inr ⟨Nat.le_refl _, by have := HL.out; omega⟩))
  obtain ⟨q1, q2, q3⟩ := HQ.out _ _ HC1.out
  have HD1 : Hid (Chg B0 B4 w w1) := Lib.hid (chg_trans (chg_below (chg_refl _ _ _) (HA.out _)) HC1.out)
  have HB1 : Hid (∀ b, B1 ≤ b → b < B4 → w1.heap[b]? = w.heap[b]?) := Lib.hid (fun b b0 b1 => (hc1.block b (by have := HL.out; simp; omega) (.inr b0)).trans ((HA.out _).block b (by have := HL.out; omega)))
  clear hc1
  go_wp2_with fail
  refine (HI.out _ HD1.out HB1.out).mono ?_
  rintro e w2 ⟨rfl, hc2⟩
  have HC2 := Lib.hid (chg_trans HC1.out (chg_wide (B0 := B0) (B1 := B4) hc2 (.inr ⟨by have := HL.out; omega, by have := HL.out; omega⟩)))
  have HD2 := Lib.hid (chg_trans HD1.out (chg_wide (B0 := B0) (B1 := B4) hc2 (.inr ⟨by have := HL.out; omega, by have := HL.out; omega⟩)))
  have HB2 : Hid (∀ b, B2 ≤ b → b < B4 → w2.heap[b]? = w.heap[b]?) := Lib.hid (fun b b0 b1 => (hc2.block b (by have := HL.out; have := HD1.out.size; omega) (.inr b0)).trans (HB1.out b (by have := HL.out; omega) b1))
  clear q1 q2 q3 hc2
  obtain ⟨q1, q2, q3⟩ := HQ.out _ _ HC2.out
  obtain ⟨k3, hk3, hE3⟩ := HE.out _ HD2.out HB2.out
  have HE3 := Lib.hid hE3
  have HK3 := Lib.hid hk3
  clear hE3 hk3
  go_wp2_with fail
  refine HE3.out.mono ?_
  rintro e w3 ⟨rfl, hc3⟩
  have HC3 := Lib.hid (chg_trans HC2.out (chg_wide (B0 := B0) (B1 := B4) hc3 (.inr ⟨by have := HL.out; omega, by have := HL.out; omega⟩)))
  have HD3 := Lib.hid (chg_trans HD2.out (chg_wide (B0 := B0) (B1 := B4) hc3 (.inr ⟨by have := HL.out; omega, by have := HL.out; omega⟩)))
  have HB3 : Hid (∀ b, B3 ≤ b → b < B4 → w3.heap[b]? = w.heap[b]?) := Lib.hid (fun b b0 b1 => (hc3.block b (by have := HL.out; have := HD2.out.size; omega) (.inr b0)).trans (HB2.out b (by have := HL.out; omega) b1))
  clear q1 q2 q3 hc3
  obtain ⟨q1, q2, q3⟩ := HQ.out _ _ HC3.out
  go_wp2_with fail
  refine (HCC.out _ k3 HD3.out HB3.out (by have := HK3.out; have := HK.out; have := HN.out; omega)).mono ?_
  rintro e w4 ⟨rfl, hc4⟩
  have HD4 := Lib.hid (chg_trans HD3.out (chg_wide (B0 := B0) (B1 := B4) hc4 (.inr ⟨by have := HL.out; omega, Nat.le_refl _⟩)))
  clear q1 q2 q3 hc4
  go_wp2_with fail
  go_ret
  exact ⟨_, rfl, HD4.out⟩
end Go.Proofs.YtcmmlgdfhkcmoaaGreat
namespace Go.Proofs.YtcmmlgdfhkcmoaaGreat
open Go.ChangeShapes Go.WideShapes Go.ChangeAt Go.RowKit Go.Maps Go.Shelf
set_option linter.unusedVariables false
set_option linter.unusedSimpArgs false
set_option maxRecDepth 100000
theorem KP.chg {lo hi : Nat} {w W W' : World} {vm vi ve vc : Value} (h : KP w W vm vi ve vc) (c : Chg lo hi W W') (hlo : w.heap.size < lo ∨ hi = 0) : KP w W' vm vi ve vc := by
  have e := c.block w.heap.size h.sz (by omega)
  refine ⟨?_, Nat.lt_of_lt_of_le h.sz c.size, (World.cell?_of_block e).trans h.c0, (World.cell?_of_block e).trans h.c1, (World.cell?_of_block e).trans h.c2, (World.cell?_of_block e).trans h.c3⟩
  rcases hlo with hl | hl
  · exact Below.chg h.bel c h.bel.size (.inl (by omega))
  · subst hl
    exact ⟨c.os.trans h.bel.os, c.tape.trans h.bel.tape, c.output.trans h.bel.output, Nat.le_trans h.bel.size c.size, fun k hk => (c.block k (by have := h.bel.size; omega) (.inr (Nat.zero_le _))).trans (h.bel.block k hk)⟩
set_option maxHeartbeats 8000000 in
theorem exKernelReach_walk (hI : IKR) (W : World) (v0 v1 v2 v3 : Value) (K : KV) (e : Int) (h : Ks W v0 v1 v2 v3 K) (hfi : FitI K.i) (hfe : Fit3 K.e) :
    Calls Tryz.prog 13 #[kV v0 v1 v2 v3, .int .i64 e] W fun e w' => e = .returned (.bool true) ∧ Below W.heap.size W w' := by
  have HKS := Lib.hid h
  obtain ⟨W0, hW0⟩ : ∃ W0, W0 = W.alloc (.cells #[v0, v1, v2, v3] 72) := ⟨_, rfl⟩
  have HP0 : Hid (KP W W0 v0 v1 v2 v3) := Lib.hid (by rw [hW0]; exact KP.start W v0 v1 v2 v3 _)
  have HSZ := Lib.hid (szKernel_any W0 v0 v1 v2 v3 K 1048576 (h.below HP0.out.bel) hfi hfe (by omega) (by omega))
  unfold LeftK at HSZ
  have HW0 := Lib.hid hW0
  obtain ⟨q0, q1, q2, q3⟩ := HP0.out.cells
  have HI := Lib.hid hI
  clear h hW0 hI hfi hfe
  go_enter Tryz.func13, Tryz.ntmps13
  go_wp2_with (first | ((with_reducible refine load_is 72 _ ?_); rw [← HW0.out]; fail) | fail)
  rw [← HW0.out]
  refine HSZ.out.mono ?_
  rintro _ w1 ⟨lf, hlf, rfl, hb⟩
  have HP1 := Lib.hid (HP0.out.go hb)
  clear hb q0 q1 q2 q3
  obtain ⟨q0, q1, q2, q3⟩ := HP1.out.cells
  by_cases hneg : lf < 0
  · go_wp2_with fail
    go_ret
    exact ⟨rfl, HP1.out.bel⟩
  have hpos : decide (lf < 0) = false := by simpa using hneg
  have hz : szK K ≤ 1048576 := by unfold szK; omega
  have HZ := Lib.hid hz
  have HSH := Lib.hid (szK_short hz)
  have HCP := Lib.hid (fun Q (hQ : Below W.heap.size W Q) => copyK Q v0 v1 v2 v3 K (HKS.out.below hQ) HZ.out)
  have HEQF := Lib.hid (fun Q (x0 x1 x2 x3 y0 y1 y2 y3 : Value) (h1 : Ks Q x0 x1 x2 x3 K) (h2 : Ks Q y0 y1 y2 y3 K) => eqKernel_any Q x0 x1 x2 x3 y0 y1 y2 y3 K K h1 h2 true (by simp))
  unfold CopyK at HCP
  clear hlf hz hneg
  obtain ⟨N, hN⟩ : ∃ N, N = kreach K e := ⟨_, rfl⟩
  have hNL : N.length ≤ 12 := by rw [hN]; exact kreach_len K e
  have HSP : Hid (∀ Q a b c d, Ks Q a b c d K → Calls Tryz.prog 31 #[kV a b c d, .int .i64 e] Q (NewR N Q)) := Lib.hid (fun Q a b c d hk => by rw [hN]; exact sKernelReach_any Q a b c d K e hk HSH.out.1 HSH.out.2)
  have HIM : Hid (∀ Q a b c d, Ks Q a b c d K → Calls Tryz.prog 24 #[kV a b c d, .int .i64 e] Q (NewR N Q)) := Lib.hid (fun Q a b c d hk => by rw [hN]; exact HI.out Q a b c d K e hk HSH.out.1 HSH.out.2)
  obtain ⟨n, hn⟩ : ∃ n, n = N.length := ⟨_, rfl⟩
  have HNN := Lib.hid hn
  have hn12 : n ≤ 12 := by omega
  have HMKK := Lib.hid (fun Q (B0 B1 B2 B3 B4 : Nat) (x0 x1 x2 x3 : Value) (h : KsW Q B0 B1 B2 B3 B4 x0 x1 x2 x3 K) h0 h1 h2 h3 hB => markKernel_any Q B0 B1 B2 B3 B4 x0 x1 x2 x3 K h h0 h1 h2 h3 hB HZ.out)
  have hw1 : W.heap.size < w1.heap.size := HP1.out.sz
  clear hN HI hNL hn
  go_wp2_with fail
  refine (HCP.out w1 HP1.out.bel).mono ?_
  rintro _ w2 ⟨asm, nsm, csm, asi, nsi, csi, ase, nse, cse, asc, nsc, csc, sB0, sB1, sB2, sB3, sB4, rfl, sh0, sh1, sh2, sh3, sh4, sh5, sk, hb⟩
  have Cw2 := Chg.of_below hb
  have Zw2 := Cw2.size
  clear q0 q1 q2 q3
  have SK0 := Lib.hid sk.ks
  clear hb sk sh0 sh1 sh2 sh3 sh4 sh5
  have HP2 := Lib.hid (HP1.out.chg Cw2 (by omega))
  obtain ⟨q0, q1, q2, q3⟩ := HP2.out.cells
  go_wp2_with fail
  refine (HSP.out w2 _ _ _ _ SK0.out).mono ?_
  rintro _ w3 ⟨vs, rfl, hi, hb⟩
  have Cw3 := Chg.of_below hb
  have Zw3 := Cw3.size
  have SV3 := Lib.hid hi
  clear hb hi q0 q1 q2 q3
  have HP3 := Lib.hid (HP2.out.chg Cw3 (by omega))
  obtain ⟨q0, q1, q2, q3⟩ := HP3.out.cells
  clear SK0
  go_wp2_with fail
  refine (HCP.out w3 HP3.out.bel).mono ?_
  rintro _ w4 ⟨axm, nxm, cxm, axi, nxi, cxi, axe, nxe, cxe, axc, nxc, cxc, xB0, xB1, xB2, xB3, xB4, rfl, xh0, xh1, xh2, xh3, xh4, xh5, xk, hb⟩
  have Cw4 := Chg.of_below hb
  have Zw4 := Cw4.size
  clear q0 q1 q2 q3
  have XK4 := Lib.hid xk
  clear hb xk
  have HP4 := Lib.hid (HP3.out.chg Cw4 (by omega))
  have SV4 := Lib.hid (SV3.out.chg Cw4 (by omega) (by omega))
  obtain ⟨q0, q1, q2, q3⟩ := HP4.out.cells
  obtain ⟨Y, hY⟩ : ∃ Y, Y = w4.heap.size := ⟨_, rfl⟩
  obtain ⟨w5, hw5⟩ : ∃ w5, w5 = w4.alloc (.cells #[.slice axm nxm cxm, .slice axi nxi cxi, .slice axe nxe cxe, .slice axc nxc cxc] 30) := ⟨_, rfl⟩
  have HB5 : Hid (Below w4.heap.size w4 w5) := Lib.hid (by rw [hw5]; exact (Below.refl _ _).alloc (Nat.le_refl _) _)
  have HY5 : Hid (KB4 w5 Y (.slice axm nxm cxm) (.slice axi nxi cxi) (.slice axe nxe cxe) (.slice axc nxc cxc)) := Lib.hid (by rw [hw5, hY]; exact KB4.new w4 _ _ _ _ _)
  have Cw5 := Chg.of_below HB5.out
  have Zw5 : w5.heap.size = w4.heap.size + 1 := by rw [hw5]; simp
  have HY := Lib.hid hY
  have HW5 := Lib.hid hw5
  have hYw : Y = w4.heap.size := hY
  have hwl : W.heap.size < w4.heap.size := HP4.out.sz
  clear hw5 hY
  have HP5 := Lib.hid (HP4.out.chg Cw5 (by omega))
  have SV5 := Lib.hid (SV4.out.chg Cw5 (by omega) (by omega))
  have XK5 := Lib.hid (XK4.out.chg Cw5 (by omega) (by omega) (by omega) (by omega) (by omega) (by omega))
  have HYW := Lib.hid hYw
  clear hYw
  go_wp2_with fail
  rw [← HW5.out]
  refine (HIM.out w5 _ _ _ _ XK5.out.ks).mono ?_
  rintro _ w6 ⟨vg, rfl, hi, hb⟩
  have Cw6 := Chg.of_below hb
  have Zw6 := Cw6.size
  have GV6 := Lib.hid hi
  have hYw : Y ≤ w4.heap.size ∧ w4.heap.size ≤ Y := by have := HYW.out; omega
  clear hb hi q0 q1 q2 q3
  have HP6 := Lib.hid (HP5.out.chg Cw6 (by omega))
  have SV6 := Lib.hid (SV5.out.chg Cw6 (by omega) (by omega))
  have XK6 := Lib.hid (XK5.out.chg Cw6 (by omega) (by omega) (by omega) (by omega) (by omega) (by omega))
  have HY6 := Lib.hid (HY5.out.chg Cw6 (by omega))
  obtain ⟨q0, q1, q2, q3⟩ := HP6.out.cells
  rw [← HY.out]
  go_wp2_with fail
  refine (eqs_c w6 vg vs N GV6.out.ints SV6.out.ints).mono ?_
  rintro _ w7 ⟨rfl, hc⟩
  have Cw7 := hc
  have Zw7 := Cw7.size
  clear hc q0 q1 q2 q3
  have HP7 := Lib.hid (HP6.out.chg Cw7 (by omega))
  have SV7 := Lib.hid (SV6.out.chg Cw7 (by omega) (by omega))
  have XK7 := Lib.hid (XK6.out.chg Cw7 (by omega) (by omega) (by omega) (by omega) (by omega) (by omega))
  have HY7 := Lib.hid (HY6.out.chg Cw7 (by omega))
  have GV7 := Lib.hid (GV6.out.chg Cw7 (by omega) (by omega))
  obtain ⟨q0, q1, q2, q3⟩ := HP7.out.cells
  go_wp2_with fail
  have HX7 : Hid (Ks w7 (.slice axm nxm cxm) (.slice axi nxi cxi) (.slice axe nxe cxe) (.slice axc nxc cxc) K) := Lib.hid XK7.out.ks
  have HPD := Lib.hid HP7.out.drew
  have HYD := Lib.hid (HY7.out.go (Below.refl _ _).drew)
  refine wp_region_held_drew (S := fun w' => (w'.cell? ⟨Y, 0, none⟩ = some (.slice axm nxm cxm) ∧ w'.cell? ⟨Y, 1, none⟩ = some (.slice axi nxi cxi) ∧ w'.cell? ⟨Y, 2, none⟩ = some (.slice axe nxe cxe) ∧ w'.cell? ⟨Y, 3, none⟩ = some (.slice axc nxc cxc)) ∧ w'.cell? ⟨W.heap.size, 0, none⟩ = some v0 ∧ w'.cell? ⟨W.heap.size, 1, none⟩ = some v1 ∧ w'.cell? ⟨W.heap.size, 2, none⟩ = some v2 ∧ w'.cell? ⟨W.heap.size, 3, none⟩ = some v3) (by kernel_rfl) ⟨HYD.out.cells, HPD.out.cells⟩ (fun hHeld => ?_)
  refine wpAnyH_take (i := 0) (oi := { dst := some 31, op := .load 30 (.tmp 7), type := _, pos := _, after := _, guard := none }) (v := .agg #[.slice axm nxm cxm, .slice axi nxi cxi, .slice axe nxe cxe, .slice axc nxc cxc]) rfl (by kernel_rfl) (by kernel_rfl) (by kernel_rfl) (fun _ _ _ h => h) (Or.inl ⟨by rfl, fun wh hSw => ?_⟩) hHeld ?_
  · (obtain ⟨⟨y0, y1, y2, y3⟩, s0, s1, s2, s3⟩ := hSw; go_simp)
  try simp only [Act.put, List.setIfInBounds_toArray, List.set_cons_zero, List.set_cons_succ]
  refine wpAnyH_take (i := 1) (oi := { dst := some 32, op := .load 72 (.tmp 2), type := _, pos := _, after := _, guard := none }) (v := .agg #[v0, v1, v2, v3]) rfl (by kernel_rfl) (by kernel_rfl) (by kernel_rfl) (fun _ _ _ h => h) (Or.inl ⟨by rfl, fun wh hSw => ?_⟩) hHeld ?_
  · (obtain ⟨⟨y0, y1, y2, y3⟩, s0, s1, s2, s3⟩ := hSw; go_simp)
  try simp only [Act.put, List.setIfInBounds_toArray, List.set_cons_zero, List.set_cons_succ]
  refine wpAnyH_ready (rs := [2]) (by kernel_rfl) (by simp) ?_
  refine AllReadyH.cons (o := { dst := some 33, op := .call { callee := .value (.func 42), args := #[.tmp 32], argTypes := #[72] }, type := _, pos := _, after := _, guard := none }) rfl (fun K hK => ?_) AllReadyH.nil
  go_simp
  refine (HCP.out w7.drew HPD.out.bel).mono ?_
  rintro _ wy ⟨atm, ntm, ctm, ati, nti, cti, ate, nte, cte, atc, ntc, ctc, B0, B1, B2, B3, B4, rfl, h0, h1, h2, h3, h4, h5, hk, hb⟩
  have HPY := Lib.hid (HPD.out.go hb)
  have HYY := Lib.hid (HYD.out.go hb)
  have HBY : Hid (Below w7.heap.size w7 wy) := Lib.hid ((Below.refl w7.heap.size w7).drew.trans (hb.mono (Nat.le_refl _)))
  have HEQ := Lib.hid (HEQF.out wy _ _ _ _ _ _ _ _ (HX7.out.below HBY.out) hk.ks)
  clear hb hk h0 h1 h2 h3 h4 h5
  try go_simp
  refine hK.out _ _ ?_ (fun hHeld => ?_)
  · exact ⟨HYY.out.cells, HPY.out.cells⟩
  clear hK K
  try simp only [Act.put, List.setIfInBounds_toArray, List.set_cons_zero, List.set_cons_succ]
  refine wpAnyH_ready (rs := [3]) (by kernel_rfl) (by simp) ?_
  refine AllReadyH.cons (o := { dst := some 34, op := .call { callee := .value (.func 43), args := #[.tmp 31, .tmp 33], argTypes := #[30, 30] }, type := _, pos := _, after := _, guard := none }) rfl (fun K hK => ?_) AllReadyH.nil
  go_simp
  refine HEQ.out.mono ?_
  rintro _ w9 ⟨rfl, hb⟩
  have HPE := Lib.hid (HPY.out.go hb)
  have HYE := Lib.hid (HYY.out.go hb)
  have HBE := Lib.hid (HBY.out.trans (hb.mono HBY.out.size))
  clear hb
  try go_simp
  refine hK.out _ _ ?_ (fun hHeld => ?_)
  · exact ⟨HYE.out.cells, HPE.out.cells⟩
  clear hK K
  try simp only [Act.put, List.setIfInBounds_toArray, List.set_cons_zero, List.set_cons_succ]
  refine wpAnyH_take (i := 4) (oi := { dst := some 35, op := .unOp .not 4 (.tmp 34), type := _, pos := _, after := _, guard := none }) (v := .bool false) rfl (by kernel_rfl) (by kernel_rfl) (by kernel_rfl) (fun _ _ _ h => h) (Or.inl ⟨by rfl, fun wh hSw => ?_⟩) hHeld ?_
  · (obtain ⟨⟨y0, y1, y2, y3⟩, s0, s1, s2, s3⟩ := hSw; go_simp)
  try simp only [Act.put, List.setIfInBounds_toArray, List.set_cons_zero, List.set_cons_succ]
  refine wpAnyH_done (by kernel_rfl) ?_ _
  have Cw9 := Chg.of_below HBE.out
  have Zw9 := Cw9.size
  clear q0 q1 q2 q3
  have HP9 := Lib.hid (HP7.out.chg Cw9 (by omega))
  have SV9 := Lib.hid (SV7.out.chg Cw9 (by omega) (by omega))
  have XK9 := Lib.hid (XK7.out.chg Cw9 (by omega) (by omega) (by omega) (by omega) (by omega) (by omega))
  have HY9 := Lib.hid (HY7.out.chg Cw9 (by omega))
  have GV9 := Lib.hid (GV7.out.chg Cw9 (by omega) (by omega))
  obtain ⟨q0, q1, q2, q3⟩ := HP9.out.cells
  obtain ⟨y0, y1, y2, y3⟩ := HY9.out.cells
  go_wp2_with fail
  refine (HMKK.out w9 _ _ _ _ _ _ _ _ _ XK9.out xh1 xh2 xh3 xh4 (by omega)).mono ?_
  rintro _ w10 ⟨km, rfl, hc⟩
  have Cw10 := hc
  have Zw10 := Cw10.size
  have hkm : ¬ (km : Int) < 0 := by omega
  clear hc q0 q1 q2 q3 y0 y1 y2 y3
  have HP10 := Lib.hid (HP9.out.chg Cw10 (by omega))
  have SV10 := Lib.hid (SV9.out.chg Cw10 (by omega) (by omega))
  have HY10 := Lib.hid (HY9.out.chg Cw10 (by omega))
  have GV10 := Lib.hid (GV9.out.chg Cw10 (by omega) (by omega))
  obtain ⟨q0, q1, q2, q3⟩ := HP10.out.cells
  go_wp2_with fail
  refine (eqs_c w10 vg vs N GV10.out.ints SV10.out.ints).mono ?_
  rintro _ w11 ⟨rfl, hc⟩
  have Cw11 := hc
  have Zw11 := Cw11.size
  clear hc q0 q1 q2 q3
  have HP11 := Lib.hid (HP10.out.chg Cw11 (by omega))
  have SV11 := Lib.hid (SV10.out.chg Cw11 (by omega) (by omega))
  have HY11 := Lib.hid (HY10.out.chg Cw11 (by omega))
  have GV11 := Lib.hid (GV10.out.chg Cw11 (by omega) (by omega))
  obtain ⟨q0, q1, q2, q3⟩ := HP11.out.cells
  go_wp2_with fail
  refine (markN_of (n := n) GV11.out HNN.out (by omega)).mono ?_
  rintro _ w12 ⟨rfl, hgi, hc⟩
  have Cw12 := hc
  have Zw12 := Cw12.size
  have GM12 := Lib.hid hgi
  clear hgi
  clear hc q0 q1 q2 q3
  have HP12 := Lib.hid (HP11.out.chg Cw12 (by omega))
  have SV12 := Lib.hid (SV11.out.chg Cw12 (by omega) (by omega))
  have HY12 := Lib.hid (HY11.out.chg Cw12 (by omega))
  obtain ⟨q0, q1, q2, q3⟩ := HP12.out.cells
  go_wp2_with fail
  refine (heldN_of GM12.out (by omega)).mono ?_
  rintro _ w13 ⟨rfl, hc⟩
  have Cw13 := hc
  have Zw13 := Cw13.size
  clear hc q0 q1 q2 q3
  have HP13 := Lib.hid (HP12.out.chg Cw13 (by omega))
  have SV13 := Lib.hid (SV12.out.chg Cw13 (by omega) (by omega))
  have HY13 := Lib.hid (HY12.out.chg Cw13 (by omega))
  have GM13 := Lib.hid (GM12.out.chg Cw13 (by omega) (by omega))
  obtain ⟨q0, q1, q2, q3⟩ := HP13.out.cells
  have hm1 : ¬ ((1 + n : Nat) : Int) < 0 := by omega
  have hm2 : ((1 + n : Nat) : Int) ≠ 0 := by omega
  go_wp2_with fail
  refine (HCP.out w13 HP13.out.bel).mono ?_
  rintro _ w14 ⟨atm, ntm, ctm, ati, nti, cti, ate, nte, cte, atc, ntc, ctc, tB0, tB1, tB2, tB3, tB4, rfl, th0, th1, th2, th3, th4, th5, tk, hb⟩
  have Cw14 := Chg.of_below hb
  have Zw14 := Cw14.size
  clear q0 q1 q2 q3
  have TK0 := Lib.hid tk.ks
  clear hb tk th0 th1 th2 th3 th4 th5
  have HP14 := Lib.hid (HP13.out.chg Cw14 (by omega))
  have SV14 := Lib.hid (SV13.out.chg Cw14 (by omega) (by omega))
  have HY14 := Lib.hid (HY13.out.chg Cw14 (by omega))
  have GM14 := Lib.hid (GM13.out.chg Cw14 (by omega) (by omega))
  obtain ⟨q0, q1, q2, q3⟩ := HP14.out.cells
  go_wp2_with fail
  refine (HIM.out w14 _ _ _ _ TK0.out).mono ?_
  rintro _ w15 ⟨vh, rfl, hi, hb⟩
  have Cw15 := Chg.of_below hb
  have Zw15 := Cw15.size
  have HV15 := Lib.hid hi
  clear hb hi q0 q1 q2 q3
  have HP15 := Lib.hid (HP14.out.chg Cw15 (by omega))
  have SV15 := Lib.hid (SV14.out.chg Cw15 (by omega) (by omega))
  have HY15 := Lib.hid (HY14.out.chg Cw15 (by omega))
  have GM15 := Lib.hid (GM14.out.chg Cw15 (by omega) (by omega))
  obtain ⟨q0, q1, q2, q3⟩ := HP15.out.cells
  go_wp2_with fail
  refine (eqs_c w15 vh vs N HV15.out.ints SV15.out.ints).mono ?_
  rintro _ w16 ⟨rfl, hc⟩
  have Cw16 := hc
  have Zw16 := Cw16.size
  clear hc q0 q1 q2 q3
  have HP16 := Lib.hid (HP15.out.chg Cw16 (by omega))
  have SV16 := Lib.hid (SV15.out.chg Cw16 (by omega) (by omega))
  have HY16 := Lib.hid (HY15.out.chg Cw16 (by omega))
  have GM16 := Lib.hid (GM15.out.chg Cw16 (by omega) (by omega))
  have HV16 := Lib.hid (HV15.out.chg Cw16 (by omega) (by omega))
  obtain ⟨q0, q1, q2, q3⟩ := HP16.out.cells
  go_wp2_with fail
  refine (heldN_of GM16.out (by omega)).mono ?_
  rintro _ w17 ⟨rfl, hc⟩
  have Cw17 := hc
  have Zw17 := Cw17.size
  clear hc q0 q1 q2 q3
  have HP17 := Lib.hid (HP16.out.chg Cw17 (by omega))
  have SV17 := Lib.hid (SV16.out.chg Cw17 (by omega) (by omega))
  have HY17 := Lib.hid (HY16.out.chg Cw17 (by omega))
  have GM17 := Lib.hid (GM16.out.chg Cw17 (by omega) (by omega))
  have HV17 := Lib.hid (HV16.out.chg Cw17 (by omega) (by omega))
  obtain ⟨q0, q1, q2, q3⟩ := HP17.out.cells
  go_wp2_with fail
  go_ret
  exact ⟨rfl, HP17.out.bel⟩
end Go.Proofs.YtcmmlgdfhkcmoaaGreat
