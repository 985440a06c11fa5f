/- What the marking and the holding helpers of the laws do for slices of texts. -/
import Derived.Test.YtjakelpdnmnofaaStrSz
import Derived.Laws.BytesString
import Derived.Laws.IdiomStrings
import Derived.Test.YtjakelpdnmnofaaDraws
namespace Go.Proofs.Ytjakelpdnmnofaa
open Go.ChangeShapes Go.WideShapes Go.ChangeAt Go.RowKit
set_option linter.unusedVariables false

def dig (k : Nat) : UInt8 := UInt8.ofNat (48 + k % 10)
def digs (k : Nat) (acc : Bs) : Bs := if h : k = 0 then acc else digs (k / 10) (dig k :: acc)
termination_by k
decreasing_by omega
theorem digs_zero (acc : Bs) : digs 0 acc = acc := by rw [digs]; simp
theorem digs_step {k : Nat} (h : k ≠ 0) (acc : Bs) : digs k acc = digs (k / 10) (dig k :: acc) := by rw [digs, dif_neg h]
theorem dig_nat (k : Nat) : ((dig k).toNat : Int) = 48 + (k : Int) % 10 := by
  have : (dig k).toNat = 48 + k % 10 := by
    show (48 + k % 10) % 256 = _
    omega
  rw [this]; omega
/-- the text that marks with k -/
def mtext (k : Nat) : Bs := 109 :: digs k []

theorem markText_any (w : World) (k : Nat) (h0 : 1 ≤ k) (h1 : k ≤ 4000000) :
    Calls Try.prog 55 #[.int .i64 k] w fun e w' => e = .returned (.string ⟨(mtext k).toArray⟩) ∧ Below w.heap.size w w' := by
  have hk : ¬ (k : Int) ≤ 0 := by omega
  go_enter Try.func55, Try.ntmps55
  go_wp2
  go_loopw [0, 3] (fun a b wr => ∃ (j : Nat) (t : Bs), a = .int .i64 j ∧ b = .string ⟨t.toArray⟩ ∧ t.length + j ≤ k ∧ Hid (digs j t = digs k []) ∧ Below w.heap.size w wr) (fun a _ _ => (intOf a).toNat)
  case atStart => exact ⟨k, [], rfl, rfl, by simp, Lib.hid rfl, Below.refl _ _⟩
  case round =>
    obtain ⟨j, t, rfl, rfl, hl, HD, hb⟩ := hrel
    by_cases hj : 0 < j
    · have hj' : (0 : Int) < (j : Int) := by omega
      have hcv := run_convert_bytes_back (P := Try.prog) (wr.alloc (Obj.cells #[Value.int IntKind.u8 (48 + (j : Int) % 10)] 5)) 22 9 5 ⟨wr.heap.size, 0, none⟩ 1 [dig j] Try.underlying22 Try.underlying5 Try.underlying9 (fun i hi => by
        have e : i = 0 := by simpa using hi
        subst e
        show _ = some (Value.int .u8 ((dig j).toNat : Int))
        rw [dig_nat]
        exact new_cell rfl)
      simp only [List.length_singleton] at hcv
      have hb2 := Lib.hid (hb.alloc hb.size (Obj.cells #[Value.int IntKind.u8 (48 + (j : Int) % 10)] 5))
      have hsz : (t.length : Int) ≤ 4000000 := by omega
      go_wp2
      go_roundw
      case rel =>
        refine ⟨j / 10, dig j :: t, by simp, ?_, by simp only [List.length_cons]; omega, Lib.hid (by rw [← HD.out, digs_step (k := j) (by omega)]), hb2.out⟩
        rw [show (ByteArray.mk #[dig j]) = ByteArray.mk ([dig j] : List UInt8).toArray from rfl, ByteArray.mk_append_mk]
        rfl
      case measure => simp [intOf]; omega
    · have e : j = 0 := by omega
      subst e
      have hsz : (t.length : Int) ≤ 4000000 := by omega
      go_wp2
      go_ret
      have ht : t = digs k [] := by rw [← HD.out, digs_zero]
      refine ⟨?_, hb⟩
      rw [ht, show (ByteArray.mk #[109]) = ByteArray.mk ([109] : List UInt8).toArray from rfl, ByteArray.mk_append_mk]
      rfl

/-- the texts that mark n places -/
def mkS (n : Nat) : List Bs := (List.range n).map (fun i => mtext (1 + i))
theorem mkS_len (n : Nat) : (mkS n).length = n := by simp [mkS]
theorem mkS_get {n i : Nat} (h : i < n) : (mkS n).getD i [] = mtext (1 + i) := by
  rw [getD_lt (by rw [mkS_len]; exact h)]
  simp [mkS]
theorem list_ext_getD {xs ys : List Bs} (hl : xs.length = ys.length) (h : ∀ i, i < xs.length → xs.getD i [] = ys.getD i []) : xs = ys := by
  refine List.ext_getElem hl (fun i h1 h2 => ?_)
  have := h i h1
  rwa [getD_lt h1, getD_lt h2] at this
theorem set_getD {xs : List Bs} {k i : Nat} {t : Bs} (hk : k < xs.length) : (xs.set k t).getD i [] = if i = k then t else xs.getD i [] := by
  by_cases h : i = k
  · subst h
    rw [if_pos rfl, getD_lt (by rw [List.length_set]; exact hk), List.getElem_set_self]
  · rw [if_neg h]
    by_cases hi : i < xs.length
    · rw [getD_lt (by rw [List.length_set]; exact hi), getD_lt hi, List.getElem_set_ne (by omega)]
    · simp [List.getD, List.getElem?_eq_none (Nat.le_of_not_lt hi), List.getElem?_eq_none (show (xs.set k t).length ≤ i by rw [List.length_set]; omega)]

/-- the texts of a slice in blocks B0 .. B1-1 are replaced by the marks -/
theorem markStringS_any (w : World) (B0 B1 : Nat) (a : Option Addr) (n cap : Nat) (xs : List Bs) (h : StrsW w B0 B1 (.slice a n cap) xs) (hB : B1 ≤ w.heap.size) (hN : n = xs.length) (hn : n ≤ 1048576) :
    Calls Try.prog 40 #[.slice a n cap, .int .i64 1] w fun e w' => e = .returned (.int .i64 (1 + n)) ∧ StrsW w' B0 B1 (.slice a n cap) (mkS n) ∧ Chg B0 B1 w w' := by
  have H := Lib.hid h
  have HN := Lib.hid hN
  have HB := Lib.hid hB
  clear h hN hB
  go_enter Try.func40, Try.ntmps40
  go_wp2
  go_loopw [1, 5] (fun l i wr => ∃ (j : Nat) (ys : List Bs), j ≤ n ∧ i = .int .i64 j ∧ l = .int .i64 ((1 + j : Nat) : Int) ∧ Hid (ys.length = n) ∧ Hid (∀ q, q < j → ys.getD q [] = mtext (1 + q)) ∧ Hid (StrsW wr B0 B1 (.slice a n cap) ys) ∧ Hid (Chg B0 B1 w wr)) (fun _ i _ => n - (intOf i).toNat)
  case atStart => exact ⟨0, xs, Nat.zero_le _, rfl, rfl, Lib.hid HN.out.symm, Lib.hid (fun q hq => by omega), H, Lib.hid ⟨rfl, rfl, rfl, Nat.le_refl _, fun _ _ _ => rfl⟩⟩
  case round =>
    obtain ⟨j, ys, hj, rfl, rfl, HL, HY, HS, HC⟩ := hrel
    by_cases hlt : j < n
    · have hlt' : (j : Int) < (n : Int) := by omega
      have hs0 := HS.out
      obtain ⟨a', cap', e, q1, q2, q3⟩ := hs0
      injection e with e1 e2 e3
      subst e1
      obtain ⟨g, p, rfl, hg0, hg1, -, -⟩ := q3 j (by omega)
      clear q1 q2 q3 e2 e3
      have HG := Lib.hid (And.intro hg0 hg1)
      clear hg0 hg1
      go_wp2_with fail
      refine (markText_any wr (1 + j) (by omega) (by omega)).mono ?_
      rintro e w1 ⟨rfl, hb1⟩
      have HS1 := Lib.hid (HS.out.below hb1 (Nat.le_trans HB.out HC.out.size))
      have HC1 := Lib.hid (chg_below HC.out hb1)
      clear hb1
      have hcell : ∃ u, w1.cell? ⟨g, p + j, none⟩ = some u ∧ w1.frozen? ⟨g, p + j, none⟩ = false := by
        obtain ⟨a', cap', e, q1, q2, q3⟩ := HS1.out
        injection e with e1 e2 e3
        subst e1
        obtain ⟨g', p', e, _, _, h1, h2⟩ := q3 j (by omega)
        cases e
        exact ⟨_, h1, h2⟩
      obtain ⟨u, hc, hf⟩ := hcell
      go_wp2
      go_roundw
      case rel =>
        refine ⟨j + 1, ys.set j (mtext (1 + j)), by omega, by go_num, by go_num, Lib.hid (by rw [List.length_set]; exact HL.out), Lib.hid (fun q hq => ?_), Lib.hid (HS1.out.put rfl hlt _), Lib.hid (chg_set HC1.out HG.out.1 HG.out.2)⟩
        rw [set_getD (by rw [HL.out]; exact hlt)]
        by_cases hqj : q = j
        · rw [if_pos hqj, hqj]
        · rw [if_neg hqj]; exact HY.out q (by omega)
      case measure => simp [intOf]; omega
    · go_wp2
      go_ret
      have e : j = n := by omega
      subst e
      have hys : ys = mkS j := list_ext_getD (by rw [mkS_len, HL.out]) (fun i hi => by rw [HL.out] at hi; rw [HY.out i hi, mkS_get hi])
      rw [← hys]
      exact ⟨by rw [Int.natCast_add]; rfl, HS.out, HC.out⟩

theorem heldStringS_any (w : World) (a : Option Addr) (n cap : Nat) (h : Strs w (.slice a n cap) (mkS n)) (hn : n ≤ 1048576) :
    Calls Try.prog 41 #[.slice a n cap, .int .i64 1] w fun e w' => e = .returned (.int .i64 (1 + n)) ∧ Below w.heap.size w w' := by
  have H := Lib.hid h
  clear h
  go_enter Try.func41, Try.ntmps41
  go_wp2
  go_loopw [1, 5] (fun l i wr => ∃ (j : Nat), j ≤ n ∧ i = .int .i64 j ∧ l = .int .i64 ((1 + j : Nat) : Int) ∧ Hid (Below w.heap.size w wr)) (fun _ i _ => n - (intOf i).toNat)
  case atStart => exact ⟨0, Nat.zero_le _, rfl, rfl, Lib.hid (Below.refl _ _)⟩
  case round =>
    obtain ⟨j, hj, rfl, rfl, HB⟩ := hrel
    by_cases hlt : j < n
    · have hlt' : (j : Int) < (n : Int) := by omega
      have hcell : ∃ g p, a = some ⟨g, p, none⟩ ∧ wr.cell? ⟨g, p + j, none⟩ = some (.string ⟨(mtext (1 + j)).toArray⟩) := by
        obtain ⟨a', cap', e, q1, q2, q3⟩ := H.out.below HB.out
        injection e with e1 e2 e3
        subst e1
        obtain ⟨g', p', e, h1⟩ := q3 j (by rw [mkS_len]; exact hlt)
        rw [mkS_get hlt] at h1
        exact ⟨_, _, e, h1⟩
      obtain ⟨g, p, rfl, hc⟩ := hcell
      have HMK := Lib.hid (fun w => markText_any w (1 + j) (by omega) (by omega))
      obtain ⟨M, hM⟩ : ∃ M, M = mtext (1 + j) := ⟨_, rfl⟩
      rw [← hM] at HMK hc
      clear hM
      have HCL := Lib.hid (cell_lt hc)
      have HC := Lib.hid hc
      clear hc
      go_wp2_with fail
      refine wp_region_held_drew (S := fun w' => w'.cell? ⟨g, p + j, none⟩ = some (.string ⟨M.toArray⟩)) (by kernel_rfl) HC.out (fun hHeld => ?_)
      refine wpAnyH_take (i := 0) (oi := { dst := some 12, op := .move (.tmp 0), type := _, pos := _, after := _, guard := none }) (v := .slice (some ⟨g, p, none⟩) n cap) rfl (by kernel_rfl) (by kernel_rfl) (by kernel_rfl) (fun _ _ _ h => h) (Or.inl ⟨by rfl, fun wh hSw => ?_⟩) hHeld ?_
      · (dsimp only at hSw; go_simp)
      try simp only [Act.put, List.setIfInBounds_toArray, List.set_cons_zero, List.set_cons_succ]
      refine wpAnyH_take (i := 1) (oi := { dst := some 13, op := .move (.tmp 5), type := _, pos := _, after := _, guard := none }) (v := .int .i64 (j : Int)) rfl (by kernel_rfl) (by kernel_rfl) (by kernel_rfl) (fun _ _ _ h => h) (Or.inl ⟨by rfl, fun wh hSw => ?_⟩) hHeld ?_
      · (dsimp only at hSw; go_simp)
      try simp only [Act.put, List.setIfInBounds_toArray, List.set_cons_zero, List.set_cons_succ]
      refine wpAnyH_take (i := 2) (oi := { dst := some 14, op := .indexAddr 29 (.tmp 12) (.tmp 13), type := _, pos := _, after := _, guard := none }) (v := .pointer (some ⟨g, p + j, none⟩)) rfl (by kernel_rfl) (by kernel_rfl) (by kernel_rfl) (fun _ _ _ h => h) (Or.inl ⟨by rfl, fun wh hSw => ?_⟩) hHeld ?_
      · (dsimp only at hSw; go_simp)
      try simp only [Act.put, List.setIfInBounds_toArray, List.set_cons_zero, List.set_cons_succ]
      refine wpAnyH_take (i := 3) (oi := { dst := some 15, op := .load 9 (.tmp 14), type := _, pos := _, after := _, guard := none }) (v := .string ⟨M.toArray⟩) rfl (by kernel_rfl) (by kernel_rfl) (by kernel_rfl) (fun _ _ _ h => h) (Or.inl ⟨by rfl, fun wh hSw => ?_⟩) hHeld ?_
      · (dsimp only at hSw; go_simp)
      try simp only [Act.put, List.setIfInBounds_toArray, List.set_cons_zero, List.set_cons_succ]
      refine wpAnyH_take (i := 4) (oi := { dst := some 16, op := .move (.tmp 1), type := _, pos := _, after := _, guard := none }) (v := .int .i64 ((1 + j : Nat) : Int)) rfl (by kernel_rfl) (by kernel_rfl) (by kernel_rfl) (fun _ _ _ h => h) (Or.inl ⟨by rfl, fun wh hSw => ?_⟩) hHeld ?_
      · (dsimp only at hSw; go_simp)
      try simp only [Act.put, List.setIfInBounds_toArray, List.set_cons_zero, List.set_cons_succ]
      refine wpAnyH_ready (rs := [5]) (by kernel_rfl) (by simp) ?_
      refine AllReadyH.cons (o := { dst := some 17, op := .call { callee := .value (.func 55), args := #[.tmp 16], argTypes := #[3] }, type := _, pos := _, after := _, guard := none }) rfl (fun K hK => ?_) AllReadyH.nil
      go_simp
      refine (HMK.out _).mono ?_
      rintro e w1 ⟨rfl, hb1⟩
      replace hb1 : Below wr.heap.size wr w1 := ⟨hb1.os, hb1.tape, hb1.output, hb1.size, hb1.block⟩
      have HB1 := Lib.hid (HB.out.trans (hb1.mono HB.out.size))
      refine hK.out _ _ ?_ (fun hHeld => ?_)
      · exact (hb1.cell (p := ⟨g, p + j, none⟩) HCL.out).trans HC.out
      clear hK K
      try simp only [Act.put, List.setIfInBounds_toArray, List.set_cons_zero, List.set_cons_succ]
      refine wpAnyH_take (i := 6) (oi := { dst := some 18, op := .binOp .neq 9 (.tmp 15) (.tmp 17) 9, type := _, pos := _, after := _, guard := none }) (v := .bool false) rfl (by kernel_rfl) (by kernel_rfl) (by kernel_rfl) (fun _ _ _ h => h) (Or.inl ⟨by rfl, fun wh hSw => ?_⟩) hHeld ?_
      · (dsimp only at hSw; go_simp)
      try simp only [Act.put, List.setIfInBounds_toArray, List.set_cons_zero, List.set_cons_succ]
      refine wpAnyH_done (by kernel_rfl) ?_ _
      clear hb1
      go_wp2
      go_roundw
      case rel => exact ⟨j + 1, by omega, by go_num, by go_num, HB1⟩
      case measure => simp [intOf]; omega
    · go_wp2
      go_ret
      have e : j = n := by omega
      subst e
      exact ⟨by rw [Int.natCast_add]; rfl, HB.out⟩
end Go.Proofs.Ytjakelpdnmnofaa
