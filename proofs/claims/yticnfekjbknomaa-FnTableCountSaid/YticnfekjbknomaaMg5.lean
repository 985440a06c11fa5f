/- What the proofs stand on, part 5: IHeld ISz IEx RDraw IDraw IDraws IDraws2 ISame LawI ILink IA IB IC ID. -/
import Derived.Test.YticnfekjbknomaaMg4
import Derived.Deep.RegionHeld3
import Derived.Test.YticnfekjbknomaaMg2
import Derived.Deep.RegionHeld
import Derived.Test.YticnfekjbknomaaMg3
import Derived.Laws.IdiomStrings
import Derived.Deep.SlicePairs
/- Marks that are held are found. -/
namespace Go.Proofs.Yticnfekjbknomaa
open Go.ChangeShapes Go.WideShapes Go.ChangeAt Go.RowKit
set_option linter.unusedVariables false

set_option maxHeartbeats 1000000 in
theorem heldInfoS_any (w : World) (a : Option Addr) (n cap : Nat) (h : Is w (.slice a n cap) (mkIs n)) (hn : n ≤ 1048576) :
    Calls Try.prog 61 #[.slice a n cap, .int .i64 1] w fun e w' => e = .returned (.int .i64 ((1 + 3 * n : Nat) : Int)) ∧ Below w.heap.size w w' := by
  have H := Lib.hid h
  clear h
  go_enter Try.func61, Try.ntmps61
  go_wp2
  go_loopw [1, 5] (fun l i wr => ∃ (j : Nat), j ≤ n ∧ i = .int .i64 j ∧ l = .int .i64 ((1 + 3 * j : Nat) : Int) ∧ Hid (Below w.heap.size w wr)) (fun _ i _ => n - (intOf i).toNat)
  case atStart => exact ⟨0, Nat.zero_le _, rfl, rfl, Lib.hid (Below.refl _ _)⟩
  case round =>
    obtain ⟨j, hj, rfl, rfl, HB⟩ := hrel
    by_cases hlt : j < n
    · have hlt' : (j : Int) < (n : Int) := by omega
      have hcell : ∃ g p, a = some ⟨g, p, none⟩ ∧ Tri wr g (p + j * 3) (mkI j) := by
        obtain ⟨a', cap', e, q1, q2, q3⟩ := H.out.below HB.out
        injection e with e1 e2 e3
        subst e1
        obtain ⟨g', p', e, h1⟩ := q3 j (by rw [mkIs_len]; exact hlt)
        rw [mkIs_get hlt] at h1
        exact ⟨_, _, e, h1⟩
      obtain ⟨g, p, rfl, hc⟩ := hcell
      have HT := Lib.hid hc
      have HMK := Lib.hid (fun w => markText_any w (2 + 3 * j) (by omega) (by omega))
      obtain ⟨h0, h1, h2⟩ := hc
      simp only [mkI] at h0 h1 h2
      have HC := Lib.hid (show wr.cell? ⟨g, p + j * 3 + 1, none⟩ = some (.string ⟨(mtext (2 + 3 * j)).toArray⟩) from h1)
      obtain ⟨M, hM⟩ : ∃ M, M = mtext (2 + 3 * j) := ⟨_, rfl⟩
      rw [← hM] at HMK h1 HC
      clear hM
      have HCL := Lib.hid (cell_lt h1)
      clear h1 h2
      go_wp2_with fail
      have z1 : (1 + 3 * (j : Int) + 1) = ((2 + 3 * j : Nat) : Int) := by omega
      rw [z1]
      refine wp_region_held_drew (S := fun w' => w'.cell? ⟨g, p + j * 3 + 1, none⟩ = some (.string ⟨M.toArray⟩)) (by kernel_rfl) HC.out (fun hHeld => ?_)
      refine wpAnyH_take (i := 0) (oi := { dst := some 21, op := .move (.tmp 0), type := _, pos := _, after := _, guard := none }) (v := .slice (some ⟨g, p, none⟩) n cap) rfl (by kernel_rfl) (by kernel_rfl) (by kernel_rfl) (fun _ _ _ h => h) (Or.inl ⟨by rfl, fun wh hSw => ?_⟩) hHeld ?_
      · (dsimp only at hSw; go_simp)
      try simp only [Act.put, List.setIfInBounds_toArray, List.set_cons_zero, List.set_cons_succ]
      refine wpAnyH_take (i := 1) (oi := { dst := some 22, op := .move (.tmp 5), type := _, pos := _, after := _, guard := none }) (v := .int .i64 (j : Int)) rfl (by kernel_rfl) (by kernel_rfl) (by kernel_rfl) (fun _ _ _ h => h) (Or.inl ⟨by rfl, fun wh hSw => ?_⟩) hHeld ?_
      · (dsimp only at hSw; go_simp)
      try simp only [Act.put, List.setIfInBounds_toArray, List.set_cons_zero, List.set_cons_succ]
      refine wpAnyH_take (i := 2) (oi := { dst := some 23, op := .indexAddr 27 (.tmp 21) (.tmp 22), type := _, pos := _, after := _, guard := none }) (v := .pointer (some ⟨g, p + j * 3, none⟩)) rfl (by kernel_rfl) (by kernel_rfl) (by kernel_rfl) (fun _ _ _ h => h) (Or.inl ⟨by rfl, fun wh hSw => ?_⟩) hHeld ?_
      · (dsimp only at hSw; go_simp)
      try simp only [Act.put, List.setIfInBounds_toArray, List.set_cons_zero, List.set_cons_succ]
      refine wpAnyH_take (i := 3) (oi := { dst := some 24, op := .fieldAddr 36 (.tmp 23) 1, type := _, pos := _, after := _, guard := none }) (v := .pointer (some ⟨g, p + j * 3 + 1, none⟩)) rfl (by kernel_rfl) (by kernel_rfl) (by kernel_rfl) (fun _ _ _ h => h) (Or.inl ⟨by rfl, fun wh hSw => ?_⟩) hHeld ?_
      · (dsimp only at hSw; go_simp)
      try simp only [Act.put, List.setIfInBounds_toArray, List.set_cons_zero, List.set_cons_succ]
      refine wpAnyH_take (i := 4) (oi := { dst := some 25, op := .load 9 (.tmp 24), type := _, pos := _, after := _, guard := none }) (v := .string ⟨M.toArray⟩) rfl (by kernel_rfl) (by kernel_rfl) (by kernel_rfl) (fun _ _ _ h => h) (Or.inl ⟨by rfl, fun wh hSw => ?_⟩) hHeld ?_
      · (dsimp only at hSw; go_simp)
      try simp only [Act.put, List.setIfInBounds_toArray, List.set_cons_zero, List.set_cons_succ]
      refine wpAnyH_take (i := 5) (oi := { dst := some 26, op := .move (.tmp 1), type := _, pos := _, after := _, guard := none }) (v := .int .i64 ((2 + 3 * j : Nat) : Int)) rfl (by kernel_rfl) (by kernel_rfl) (by kernel_rfl) (fun _ _ _ h => h) (Or.inl ⟨by rfl, fun wh hSw => ?_⟩) hHeld ?_
      · (dsimp only at hSw; go_simp)
      try simp only [Act.put, List.setIfInBounds_toArray, List.set_cons_zero, List.set_cons_succ]
      refine wpAnyH_ready (rs := [6]) (by kernel_rfl) (by simp) ?_
      refine AllReadyH.cons (o := { dst := some 27, op := .call { callee := .value (.func 99), args := #[.tmp 26], argTypes := #[3] }, type := _, pos := _, after := _, guard := none }) rfl (fun K hK => ?_) AllReadyH.nil
      go_simp
      refine (HMK.out _).mono ?_
      rintro e w1 ⟨rfl, hb1⟩
      replace hb1 : Below wr.heap.size wr w1 := ⟨hb1.os, hb1.tape, hb1.output, hb1.size, hb1.block⟩
      have HBW := Lib.hid hb1
      have HB1 := Lib.hid (HB.out.trans (hb1.mono HB.out.size))
      refine hK.out _ _ ?_ (fun hHeld => ?_)
      · exact (hb1.cell (p := ⟨g, p + j * 3 + 1, none⟩) HCL.out).trans HC.out
      clear hK K
      try simp only [Act.put, List.setIfInBounds_toArray, List.set_cons_zero, List.set_cons_succ]
      refine wpAnyH_take (i := 7) (oi := { dst := some 28, op := .binOp .neq 9 (.tmp 25) (.tmp 27) 9, type := _, pos := _, after := _, guard := none }) (v := .bool false) rfl (by kernel_rfl) (by kernel_rfl) (by kernel_rfl) (fun _ _ _ h => h) (Or.inl ⟨by rfl, fun wh hSw => ?_⟩) hHeld ?_
      · (dsimp only at hSw; go_simp)
      try simp only [Act.put, List.setIfInBounds_toArray, List.set_cons_zero, List.set_cons_succ]
      refine wpAnyH_done (by kernel_rfl) ?_ _
      clear hb1
      obtain ⟨k0, k1, k2⟩ := HT.out.below (w' := w1) (B := wr.heap.size) HBW.out HT.out.lt
      simp only [mkI] at k0 k1 k2
      clear k0 k1
      go_wp2
      go_roundw
      case rel => exact ⟨j + 1, by omega, by go_num, by congr 1; omega, HB1⟩
      case measure => simp [intOf]; omega
    · go_wp2
      go_ret
      have e : j = n := by omega
      subst e
      exact ⟨rfl, HB.out⟩
end Go.Proofs.Yticnfekjbknomaa
/- What the counting helper of the laws returns for what is known of frames: a number below 0, or what is left of the bound. -/
namespace Go.Proofs.Yticnfekjbknomaa
open Go.ChangeShapes Go.WideShapes Go.ChangeAt Go.RowKit
set_option linter.unusedVariables false

def FitI (xs : List IV) : Prop := ∀ x ∈ xs, x.g.length ≤ maxLen
theorem FitI.at {xs : List IV} (h : FitI xs) (i : Nat) : (xs.getD i iz).g.length ≤ maxLen := by
  by_cases hi : i < xs.length
  · rw [getD_lt hi]; exact h _ (List.getElem_mem hi)
  · rw [List.getD, List.getElem?_eq_none (Nat.le_of_not_lt hi)]; exact Nat.zero_le _
def totalI (xs : List IV) : Nat := (xs.map (fun x => x.g.length)).sum
theorem totalI_snoc (xs : List IV) (k : Nat) (h : k < xs.length) : totalI (xs.take (k + 1)) = totalI (xs.take k) + (xs.getD k iz).g.length := by
  rw [take_snoc_getD xs k iz h]; simp [totalI]
theorem totalI_mem {xs : List IV} {x : IV} (h : x ∈ xs) : x.g.length ≤ totalI xs := by
  induction xs with
  | nil => cases h
  | cons y ys ih =>
    simp only [totalI, List.map_cons, List.sum_cons] at ih ⊢
    rcases List.mem_cons.1 h with e | h
    · subst e; omega
    · have := ih h; omega
/-- below 0; or all and their letters together with it make 'left'; nothing that was there changes -/
def LeftI (xs : List IV) (left : Int) (w : World) (e : Ending) (w' : World) : Prop :=
  ∃ r : Int, (r < 0 ∨ (0 ≤ r ∧ r + xs.length + totalI xs = left)) ∧ e = .returned (.int .i64 r) ∧ Below w.heap.size w w'
theorem leftI_neg {xs : List IV} {left : Int} {w w' : World} (h : Below w.heap.size w w') : LeftI xs left w (.returned (.int .i64 (-1))) w' := ⟨-1, .inl (by omega), rfl, h⟩
theorem szInfo_any (w : World) (x : IV) (left : Int) (hx : x.g.length ≤ maxLen) (h0 : 0 ≤ left) (h1 : left ≤ 1048576) :
    Calls Try.prog 95 #[ivV x, .int .i64 left] w fun e w' => e = .returned (.int .i64 (if (x.g.length : Int) ≤ left then left - x.g.length else -1)) ∧ Below w.heap.size w w' := by
  obtain ⟨xk, xg, xr⟩ := x
  unfold maxLen at hx
  dsimp only at hx ⊢
  by_cases hc : (xg.length : Int) ≤ left
  · rw [if_pos hc]
    have hc' : ¬ left - (xg.length : Int) < 0 := by omega
    go_enter Try.func95, Try.ntmps95
    go_wp2
    go_ret
    exact ⟨rfl, (Below.refl _ _).alloc (Nat.le_refl _) _⟩
  · rw [if_neg hc]
    have hc' : left - (xg.length : Int) < 0 := by omega
    go_enter Try.func95, Try.ntmps95
    go_wp2
    go_ret
    exact ⟨rfl, (Below.refl _ _).alloc (Nat.le_refl _) _⟩
theorem szInfoS_any (w : World) (v : Value) (xs : List IV) (left : Int) (h : Is w v xs) (hf : FitI xs) (h0 : 0 ≤ left) (h1 : left ≤ 1048576) :
    Calls Try.prog 47 #[v, .int .i64 left] w (LeftI xs left w) := by
  obtain ⟨a, ca, rfl, hla, hma, hxa⟩ := h
  unfold maxLen at hma
  obtain ⟨n, hN⟩ : ∃ n, n = xs.length := ⟨_, rfl⟩
  rw [← hN] at hla hxa ⊢
  have HN := Lib.hid hN
  have HF := Lib.hid hf
  have HX := Lib.hid hxa
  clear hN hf hxa
  by_cases hneg : left < (n : Int)
  · have hneg' : left - (n : Int) < 0 := by omega
    go_enter Try.func47, Try.ntmps47
    go_wp2
    go_ret
    exact leftI_neg (Below.refl _ _)
  · have hpos : ¬ left - (n : Int) < 0 := by omega
    go_enter Try.func47, Try.ntmps47
    go_wp2
    go_loopw [1, 5] (fun l i wr => ∃ (k : Nat) (r : Int), k ≤ n ∧ i = .int .i64 k ∧ l = .int .i64 r ∧ 0 ≤ r ∧ r ≤ 1048576 ∧ Hid (r + n + totalI (xs.take k) = left) ∧ Hid (Below w.heap.size w wr)) (fun _ i _ => n - (intOf i).toNat)
    case atStart => exact ⟨0, left - n, Nat.zero_le _, rfl, rfl, by omega, by omega, Lib.hid (by simp [totalI]), Lib.hid (Below.refl _ _)⟩
    case round =>
      obtain ⟨k, r, hk, rfl, rfl, hr0, hr1, HT, HB⟩ := hrel
      by_cases hlt : k < n
      · obtain ⟨b, o, rfl, hc⟩ := HX.out k hlt
        have hc1 := hc.below HB.out hc.lt
        have HSZ := Lib.hid (fun w => szInfo_any w (xs.getD k iz) r (HF.out.at k) hr0 hr1)
        have HTT := Lib.hid (totalI_snoc xs k (by have := HN.out; omega))
        generalize xs.getD k iz = x at hc hc1 HSZ HTT
        have HXC := Lib.hid hc1
        obtain ⟨c0, c1, c2⟩ := hc1
        have hlt' : (k : Int) < (n : Int) := by omega
        clear hc
        by_cases hng : (x.g.length : Int) ≤ r
        · rw [if_pos hng] at HSZ
          have hrn : ¬ r - (x.g.length : Int) < 0 := by omega
          go_wp2_with fail
          refine (HSZ.out wr).mono ?_
          rintro e w1 ⟨rfl, hb1⟩
          have B1 := Lib.hid (HB.out.trans (hb1.mono HB.out.size))
          clear hb1
          go_wp2
          go_roundw
          case rel => exact ⟨k + 1, r - x.g.length, by omega, by go_num, rfl, by omega, by omega, Lib.hid (by have h1 := HT.out; have h2 := HTT.out; omega), B1⟩
          case measure => simp [intOf]; omega
        · rw [if_neg hng] at HSZ
          go_wp2_with fail
          refine (HSZ.out wr).mono ?_
          rintro e w1 ⟨rfl, hb1⟩
          have B1 := Lib.hid (HB.out.trans (hb1.mono HB.out.size))
          clear hb1
          go_wp2
          go_ret
          exact leftI_neg B1.out
      · go_wp2
        go_ret
        have e : k = n := by omega
        subst e
        exact ⟨r, .inr ⟨hr0, by have h1 := HT.out; rw [take_all HN.out] at h1; rw [← HN.out]; exact h1⟩, rfl, HB.out⟩
end Go.Proofs.Yticnfekjbknomaa
/- The walks of the exact statements on what is known of frames, out of contracts of the program. -/
namespace Go.Proofs.Yticnfekjbknomaa
open Go.ChangeShapes Go.WideShapes Go.ChangeAt Go.RowKit
set_option linter.unusedVariables false

/-- the call answers a number; nothing that was there changes -/
def NRes (n : Int) (w : World) (e : Ending) (w' : World) : Prop := e = .returned (.int .i64 n) ∧ Below w.heap.size w w'
/-- the program's functions answer as these do -/
abbrev IIV : Prop := ∀ (w : World) (v : Value) (xs : List IV), Is w v xs → ShortI xs → Calls Try.prog 40 #[v] w (BRes (isok xs) w)
theorem eqI_same (w : World) (va vb : Value) (xs : List IV) (ha : Is w va xs) (hb : Is w vb xs) :
    Calls Try.prog 53 #[va, vb] w fun e w' => e = .returned (.bool true) ∧ Chg 0 0 w w' := by
  refine (eqInfoS_any w va vb xs xs ha hb).mono ?_
  rintro e w' ⟨rfl, hb⟩
  rw [decide_eq_true (rfl : xs = xs)]
  exact ⟨rfl, Chg.of_below hb⟩
theorem neI (n : Int) : (n != n) = false := by simp
def MarkI (w : World) (B0 B1 : Nat) (v : Value) (n : Nat) : Prop := Calls Try.prog 57 #[v, .int .i64 1] w fun e w' => e = .returned (.int .i64 ((1 + 3 * n : Nat) : Int)) ∧ IsW w' B0 B1 v (mkIs n) ∧ Chg B0 B1 w w'
theorem markI_of {w : World} {B0 B1 : Nat} {v : Value} {xs : List IV} {n : Nat} (h : IsW w B0 B1 v xs) (hB : B1 ≤ w.heap.size) (hN : n = xs.length) (hn : n ≤ 1048576) : MarkI w B0 B1 v n := by
  have h0 := h
  obtain ⟨a, cap, rfl, _⟩ := h0
  subst hN
  exact markInfoS_any w B0 B1 a _ cap xs h hB rfl hn
def HeldI (w : World) (v : Value) (n : Nat) : Prop := Calls Try.prog 61 #[v, .int .i64 1] w fun e w' => e = .returned (.int .i64 ((1 + 3 * n : Nat) : Int)) ∧ Chg 0 0 w w'
theorem heldI_of {w : World} {v : Value} {n : Nat} (h : Is w v (mkIs n)) (hn : n ≤ 1048576) : HeldI w v n := by
  have h0 := h
  obtain ⟨a, cap, rfl, _⟩ := h0
  have h1 := heldInfoS_any w a n cap (by rw [mkIs_len] at h; exact h) hn
  rw [mkIs_len]
  exact h1.mono (fun e w' ⟨he, hb⟩ => ⟨he, Chg.of_below hb⟩)
theorem igive_len {xs : List IV} {f : Int} : (igive xs f).length ≤ 12 := by
  unfold igive
  split
  · rename_i h
    rw [List.length_set, isok_len (gok_iff.1 h).1]; exact Nat.le_refl _
  · exact Nat.zero_le _
theorem itake_len {xs : List IV} {s : Bs} : (itake xs s).length ≤ 12 := by
  unfold itake
  split
  · rename_i h
    rw [List.length_set, isok_len (tok_iff.1 h).1]; exact Nat.le_refl _
  · exact Nat.zero_le _

end Go.Proofs.Yticnfekjbknomaa
/- What the draws of rights give; nothing that was there before the call changes. -/
namespace Go.Proofs.Yticnfekjbknomaa
open Go.ChangeShapes Go.WideShapes Go.ChangeAt Go.RowKit
set_option linter.unusedVariables false

/-- a text with P has been drawn: the reader has been asked at most k times; nothing else that was there has changed -/
def DrewT (P : Bs → Prop) (w0 : World) (B k : Nat) (w : World) (e : Ending) (w' : World) : Prop :=
  ∃ t : Bs, P t ∧ e = .returned (.string ⟨t.toArray⟩) ∧ Rdr w0 w' B k ∧ w.grownBy w' (some B)
theorem of_any (w0 w : World) (B k : Nat) (g n c : Nat) (ts : List Bs) (hR : Rdr w0 w B k) (hk : k ≤ 950000) (hg : g ≠ B) (hN : n = ts.length) (h0 : 1 ≤ n) (h1 : n ≤ 100) (hc : n ≤ c) (hc2 : c ≤ 100)
    (h : ∀ i, i < n → w.cell? ⟨g, i, none⟩ = some (.string ⟨(ts.getD i []).toArray⟩)) :
    Calls Try.prog 121 #[.pointer (some ⟨B, 0, none⟩), .slice (some ⟨g, 0, none⟩) n c] w (DrewT (fun t => t ∈ ts) w0 B (k + 1) w) := by
  have H := Lib.hid h
  have HN := Lib.hid hN
  clear h hN
  go_enter Try.func121, Try.ntmps121
  go_wp2_with fail
  refine (pick_any w0 _ B k _ hR (by omega) (by omega)).mono ?_
  rintro e w1 ⟨m, h20, h21, rfl, hR1, hO1⟩
  obtain ⟨q, rfl⟩ : ∃ q : Nat, m = (q : Int) := ⟨m.toNat, by omega⟩
  have hq : q < n := by omega
  have hcell : w1.cell? ⟨g, q, none⟩ = some (.string ⟨(ts.getD q []).toArray⟩) := (hO1.cell hg).trans (H.out q hq)
  have HM : Hid (ts.getD q [] ∈ ts) := Lib.hid (by rw [getD_lt (by rw [← HN.out]; exact hq)]; exact List.getElem_mem _)
  generalize ts.getD q [] = t at hcell HM
  have HO := Lib.hid hO1
  clear hO1
  go_wp2_with fail
  go_ret
  exact ⟨t, HM.out, rfl, hR1, HO.out.grown⟩

def shortP (t : Bs) : Prop := t.length ≤ 10
theorem right_any (w0 w : World) (B k : Nat) (hR : Rdr w0 w B k) (hk : k ≤ 900000) :
    Calls Try.prog 105 #[.pointer (some ⟨B, 0, none⟩)] w (DrewT shortP w0 B (k + 2) w) := by
  go_enter Try.func105, Try.ntmps105
  go_wp2_with fail
  refine (pick_any w0 _ B k _ hR (by omega) (by omega)).mono ?_
  rintro e w1 ⟨m, h0, h1, rfl, hR1, hO1⟩
  have hB1 := rdr_lt hR1
  by_cases hm : m = 0
  · subst hm
    go_wp2_with fail
    refine (of_any w0 _ B _ w1.heap.size 4 4 ([[100], [65], [97, 98, 99, 97, 98], [97, 32, 98]] : List Bs) (rdr_alloc hR1 _) (by omega) (by omega) rfl (by omega) (by omega) (by omega) (by omega) (fun i hi => new_cell (by
      have hi' : i = 0 ∨ i = 1 ∨ i = 2 ∨ i = 3 := by omega
      rcases hi' with rfl | rfl | rfl | rfl <;> rfl))).mono ?_
    rintro e w2 ⟨t, ht, rfl, hR2, hg2⟩
    have hsh : shortP t := (show ∀ t ∈ ([[100], [65], [97, 98, 99, 97, 98], [97, 32, 98]] : List Bs), t.length ≤ 10 by decide) t ht
    have hg := gtrans hO1.grown (gtrans (galloc _ _ _) hg2)
    clear ht
    go_wp2_with fail
    go_ret
    exact ⟨t, hsh, rfl, rdr_mono hR2 (by omega), hg⟩
  · have hm' : (m == 0) = false := by simpa using hm
    go_wp2_with fail
    refine (of_any w0 _ B _ w1.heap.size 12 12 ([[], [97], [98], [99], [97, 98], [97, 97], [97, 98, 99], [98, 97], [98], [97], [97, 98, 99, 97], [97, 99]] : List Bs) (rdr_alloc hR1 _) (by omega) (by omega) rfl (by omega) (by omega) (by omega) (by omega) (fun i hi => new_cell (by
      have hi' : i = 0 ∨ i = 1 ∨ i = 2 ∨ i = 3 ∨ i = 4 ∨ i = 5 ∨ i = 6 ∨ i = 7 ∨ i = 8 ∨ i = 9 ∨ i = 10 ∨ i = 11 := by omega
      rcases hi' with rfl | rfl | rfl | rfl | rfl | rfl | rfl | rfl | rfl | rfl | rfl | rfl <;> rfl))).mono ?_
    rintro e w2 ⟨t, ht, rfl, hR2, hg2⟩
    have hsh : shortP t := (show ∀ t ∈ ([[], [97], [98], [99], [97, 98], [97, 97], [97, 98, 99], [98, 97], [98], [97], [97, 98, 99, 97], [97, 99]] : List Bs), t.length ≤ 10 by decide) t ht
    have hg := gtrans hO1.grown (gtrans (galloc _ _ _) hg2)
    clear ht
    go_wp2_with fail
    go_ret
    exact ⟨t, hsh, rfl, rdr_mono hR2 (by omega), hg⟩

def DrewR (W : World) (e : Ending) (w' : World) : Prop := ∃ t, shortP t ∧ e = .returned (.string ⟨t.toArray⟩) ∧ Below W.heap.size W w'
def DrewRR (W : World) (e : Ending) (w' : World) : Prop := ∃ t u : Bs, shortP t ∧ shortP u ∧ e = .returned (.tuple #[.string ⟨t.toArray⟩, .string ⟨u.toArray⟩]) ∧ Below W.heap.size W w'
/-- texts that are being drawn: they own blocks from base on; but for these and the reader's, nothing has changed -/
structure OwnBS (w0 : World) (B k : Nat) (w : World) (v : Value) (ys : List Bs) (w' : World) : Prop where
  own : w'.ownsRow w.heap.size 9 1 v ys.length (ys.map (fun s => .string ⟨s.toArray⟩))
  nn : v ≠ .slice none 0 0
  rdr : Rdr w0 w' B k
  grow : w.grownBy w' (some B)
  B0 : B < w.heap.size
theorem OwnBS.strs {w0 w w' : World} {B k : Nat} {v : Value} {ys : List Bs} (h : OwnBS w0 B k w v ys w') : Strs w' v ys := (StrsW.of_ownsRow h.own).strs
theorem OwnBS.start {w0 w : World} {B k : Nat} (hR : Rdr w0 w B k) : OwnBS w0 B k w (.slice (some ⟨w.heap.size, 0, none⟩) 0 0) [] (w.alloc (.cells #[] 9)) :=
  ⟨World.ownsRow_made w #[] 0 (Nat.le_refl _) (Nat.zero_le _) rfl, (fun h => by cases h), rdr_alloc hR _, galloc _ _ _, rdr_lt hR⟩
theorem own_grown {w w' : World} {B base : Nat} {e : TypeId} {s : Nat} {v : Value} {n : Nat} {x : List Value} (h : w.ownsRow base e s v n x) (hg : w.grownBy w' (some B)) (hB : B < base) : w'.ownsRow base e s v n x := by
  refine ⟨h.1, ?_⟩
  rcases h.2 with hn | ⟨g, cap, cur, e, hb, hbl, rest⟩
  · exact .inl hn
  · exact .inr ⟨g, cap, cur, e, hb, (hg.block g (Array.getElem?_eq_some_iff.1 hbl).1 (by simp; omega)).trans hbl, rest⟩
theorem OwnBS.drew {w0 w w' w2 : World} {B k k' : Nat} {v : Value} {ys : List Bs} (h : OwnBS w0 B k w v ys w') (hR : Rdr w0 w2 B k') (hg : w'.grownBy w2 (some B)) : OwnBS w0 B k' w v ys w2 :=
  ⟨own_grown h.own hg h.B0, h.nn, hR, gtrans h.grow hg, h.B0⟩
theorem grown_of_below {w w' : World} {B : Nat} (h : Below w.heap.size w w') : w.grownBy w' (some B) := ⟨h.os, h.tape, h.output, h.size, fun i hi _ => h.block i hi⟩
theorem rdr_of_below {w0 w w' : World} {B k : Nat} (h : Rdr w0 w B k) (hb : Below w.heap.size w w') : Rdr w0 w' B k := by
  have hlt := rdr_lt h
  obtain ⟨a, len, cap, zs, p, hr, hp, hh, hbb, hB⟩ := h
  exact ⟨a, len, cap, zs, p, hr, hp, (hb.block B hlt).trans hh, hbb.trans (hb.mono hbb.size), hB⟩
theorem OwnBS.next {w0 w w1 w2 : World} {B k : Nat} {v v2 : Value} {ys zs : List Bs} (h : OwnBS w0 B k w v ys w1) (h2 : OwnS w1 v2 zs w2) (hn : v2 ≠ .slice none 0 0) : OwnBS w0 B k w v2 zs w2 :=
  ⟨own_lowS h2.own h.grow.size, hn, rdr_of_below h.rdr h2.bel, gtrans h.grow (grown_of_below h2.bel), h.B0⟩
theorem OwnBS.keep {w0 w w1 w2 : World} {B k : Nat} {v : Value} {ys : List Bs} (h : OwnBS w0 B k w v ys w1) (hb : Below w1.heap.size w1 w2) : OwnBS w0 B k w v ys w2 :=
  h.drew (rdr_of_below h.rdr hb) (grown_of_below hb)
theorem OwnBS.append {w0 w wr w2 : World} {B k : Nat} {v v2 : Value} {ys zs : List Bs} (h : OwnBS w0 B k w v ys wr) (h2 : w2.ownsRow w.heap.size 9 1 v2 (ys ++ zs).length ((ys ++ zs).map (fun s => .string ⟨s.toArray⟩))) (hg : wr.grownBy w2 v.ownBlock) (hnn : v2 = .slice none 0 0 → v = .slice none 0 0) :
    OwnBS w0 B k w v2 (ys ++ zs) w2 := by
  have hob : ∀ b, v.ownBlock = some b → w.heap.size ≤ b := fun b hb => (h.own.lt b hb).1
  have hB0 := h.B0
  have hlt := rdr_lt h.rdr
  refine ⟨h2, fun e => h.nn (hnn e), ?_, ?_, h.B0⟩
  · have hw0 := h.rdr
    obtain ⟨a, len, cap, zs, p, hr, hp, hh, hbb, hB⟩ := hw0
    refine ⟨a, len, cap, zs, p, hr, hp, (hg.block B hlt (fun e => by have := hob B e.symm; omega)).trans hh, hbb.grown hg hbb.size (fun b hb => by have := hob b hb; have := h.grow.size; omega), hB⟩
  · exact ⟨hg.os.trans h.grow.os, hg.tape.trans h.grow.tape, hg.output.trans h.grow.output, Nat.le_trans h.grow.size hg.size, fun i hi hne => (hg.block i (Nat.lt_of_lt_of_le hi h.grow.size) (fun e => by have := hob i e.symm; omega)).trans (h.grow.block i hi hne)⟩
theorem OwnBS.form {w0 w w' : World} {B k : Nat} {v : Value} {ys : List Bs} (h : OwnBS w0 B k w v ys w') : ∃ g cap, v = .slice (some ⟨g, 0, none⟩) ys.length cap ∧ ys.length ≤ cap ∧ cap ≤ maxLen ∧ w.heap.size ≤ g := by
  rcases h.own.2 with ⟨e, _⟩ | ⟨g, cap, cur, e, hb, _, hnc, hcm, _⟩
  · exact absurd e h.nn
  · exact ⟨g, cap, e, hnc, hcm, hb⟩
theorem OwnBS.mono {w0 w w' : World} {B k k' : Nat} {v : Value} {ys : List Bs} (h : OwnBS w0 B k w v ys w') (hk : k ≤ k') : OwnBS w0 B k' w v ys w' := ⟨h.own, h.nn, rdr_mono h.rdr hk, h.grow, h.B0⟩
theorem shortP_short {ys : List Bs} (h : ∀ y ∈ ys, shortP y) : Short ys := fun y hy => by have := h y hy; unfold shortP at this; omega
theorem radd_mem {xs : List Bs} {s y : Bs} (h : y ∈ (radd xs s).1) : y ∈ xs ∨ y = s := by
  by_cases hv : (rvs xs && rv s) = true
  · by_cases hm : s ∈ xs
    · rw [radd_there hv hm] at h; exact .inl h
    · by_cases hl : 6 ≤ xs.length
      · rw [radd_full hv hm hl] at h; exact .inl h
      · rw [radd_ins hv hm hl] at h
        rcases ins_mem.1 h with h | h
        · exact .inr h
        · exact .inl h
  · rw [radd_bad hv] at h; cases h

theorem six_any {w0 w w1 : World} {B k : Nat} {v : Value} {ys : List Bs} (h : OwnBS w0 B k w v ys w1) : OwnBS w0 B k w (.slice (some ⟨w1.heap.size, 0, none⟩) 6 6) [[97], [97, 97], [97, 98], [98], [98, 97], [99]] (w1.alloc (.cells #[.string ⟨#[97]⟩, .string ⟨#[97, 97]⟩, .string ⟨#[97, 98]⟩, .string ⟨#[98]⟩, .string ⟨#[98, 97]⟩, .string ⟨#[99]⟩] 9)) :=
  ⟨World.ownsRow_lit w1 _ 6 h.grow.size (by decide) rfl, (fun h => by cases h), rdr_alloc h.rdr _, gtrans h.grow (galloc _ _ _), h.B0⟩
/-- rights have been drawn -/
def DrewSs (w0 : World) (B k : Nat) (w : World) (e : Ending) (w' : World) : Prop := ∃ v ys, e = .returned v ∧ (ys.length ≤ 8 ∧ ∀ y ∈ ys, shortP y) ∧ OwnBS w0 B k w v ys w'
set_option maxRecDepth 100000 in
set_option maxHeartbeats 4000000 in
theorem rights_any (w0 w : World) (B k : Nat) (hR : Rdr w0 w B k) (hk : k ≤ 700000) :
    Calls Try.prog 67 #[.pointer (some ⟨B, 0, none⟩)] w (DrewSs w0 B (k + 100) w) := by
  have HS := Lib.hid (OwnBS.start hR)
  have HB : Hid (B < w.heap.size) := Lib.hid (rdr_lt hR)
  clear hR
  go_enter Try.func67, Try.ntmps67
  go_wp2_with fail
  refine (pick_any w0 _ B _ _ HS.out.rdr (by omega) (by omega)).mono ?_
  rintro e w1 ⟨m, h0, h1, rfl, hR1, hO1⟩
  have HS1 := Lib.hid (HS.out.drew hR1 hO1.grown)
  clear HS hR1 hO1
  go_wp2_with fail
  go_loopw [3, 5, 6, 7] (fun c i x y wr => ∃ (j : Nat) (ys : List Bs), (j : Int) ≤ m ∧ i = .int .i64 j ∧ (ys.length ≤ 6 ∧ Hid (∀ y ∈ ys, shortP y)) ∧ OwnBS w0 B (k + 1 + 7 * j) w c ys wr) (fun _ i _ _ _ => m.toNat - (intOf i).toNat)
  case atStart => exact ⟨0, [], by omega, rfl, ⟨by simp, Lib.hid (fun y hy => by cases hy)⟩, HS1.out⟩
  case round =>
    obtain ⟨j, ys, hj, rfl, ⟨hl, HYS⟩, hrel⟩ := hrel
    have HREL := Lib.hid hrel
    clear hrel
    by_cases hlt : (j : Int) < m
    · go_wp2_with fail
      refine (right_any w0 _ B _ HREL.out.rdr (by omega)).mono ?_
      rintro e w2 ⟨x, hx, rfl, hR2, hg2⟩
      have HS2 := Lib.hid (HREL.out.drew hR2 hg2)
      clear HREL hR2 hg2
      obtain ⟨g, cap, rfl, hc1, hc2, hg0⟩ := HS2.out.form
      have HP := Lib.hid (sRightsAdd_any w2 g 0 cap ys.length ys x HS2.out.strs rfl (shortP_short HYS.out) (by unfold shortP at hx; omega))
      have HL := Lib.hid (radd_len ys x)
      have HZP : Hid (∀ y ∈ (radd ys x).1, shortP y) := Lib.hid (fun y hy => by
        rcases radd_mem hy with hy | rfl
        · exact HYS.out y hy
        · exact hx)
      generalize (radd ys x).1 = zs at HP HL HZP
      generalize (radd ys x).2 = b at HP
      clear hg0 hc1 hc2
      go_wp2_with fail
      refine HP.out.mono ?_
      rintro e w3 ⟨v3, rfl, h3, hn3⟩
      have HN := Lib.hid (HS2.out.next h3 hn3)
      have HK := Lib.hid (HS2.out.keep h3.bel)
      clear h3 HS2 hn3
      cases b
      · go_wp2_with fail
        go_roundw
        case rel => exact ⟨j + 1, ys, by omega, by go_num, ⟨hl, HYS⟩, HK.out.mono (by omega)⟩
        case measure => simp [intOf]; omega
      · go_wp2_with fail
        go_roundw
        case rel => exact ⟨j + 1, zs, by omega, by go_num, ⟨HL.out, HZP⟩, HN.out.mono (by omega)⟩
        case measure => simp [intOf]; omega
    · have hjm : (j : Int) = m := by omega
      have hj5 : j ≤ 6 := by omega
      go_wp2_with fail
      refine (pick_any w0 _ B _ _ HREL.out.rdr (by omega) (by omega)).mono ?_
      rintro e w2 ⟨n, hn0, hn1, rfl, hR2, hO2⟩
      have HS2 := Lib.hid (HREL.out.drew hR2 hO2.grown)
      clear HREL hR2 hO2 hlt
      by_cases hn : n = 0
      · subst hn
        go_wp2_with fail
        refine (right_any w0 _ B _ HS2.out.rdr (by omega)).mono ?_
        rintro e w3 ⟨x, hx, rfl, hR3, hg3⟩
        have HXP := Lib.hid hx
        clear hx
        have HS3 := Lib.hid (HS2.out.drew hR3 hg3)
        clear HS2 hR3 hg3
        have HS4 := Lib.hid (HS3.out.keep ((Below.refl w3.heap.size w3).alloc (Nat.le_refl _) (.cells #[.string ⟨x.toArray⟩] 9)))
        go_wp2_with (at_builtin; refine wpList_append_row (.tmp 28) (.tmp 31) w.heap.size _ ys rfl HS4.out.own HS4.out.grow.size _ [x] rfl (strs_one _ x) nilOk_some (by simp; omega) ?_; intro v2 w4 hown2 hnn2 hgrow2)
        have HE := Lib.hid (HS4.out.append (zs := [x]) hown2 hgrow2 (fun e => (hnn2.1 e).1))
        clear hown2 hgrow2 hnn2
        go_wp2_with fail
        go_ret
        exact ⟨_, ys ++ [x], rfl, ⟨by simp; omega, fun y hy => by
          rw [List.mem_append, List.mem_singleton] at hy
          rcases hy with hy | rfl
          · exact HYS.out y hy
          · exact HXP.out⟩, HE.out.mono (by omega)⟩
      · have hne : (n == 0) = false := by simpa using hn
        go_wp2_with fail
        refine (pick_any w0 _ B _ _ HS2.out.rdr (by omega) (by omega)).mono ?_
        rintro e w3 ⟨n2, hn20, hn21, rfl, hR3, hO3⟩
        have HS3 := Lib.hid (HS2.out.drew hR3 hO3.grown)
        clear HS2 hR3 hO3
        by_cases hn2 : n2 = 0
        · subst hn2
          have HX := Lib.hid (six_any HS3.out)
          go_wp2_with fail
          go_ret
          exact ⟨_, _, rfl, ⟨by decide, fun y hy => (show ∀ t ∈ ([[97], [97, 97], [97, 98], [98], [98, 97], [99]] : List Bs), t.length ≤ 10 by decide) y hy⟩, HX.out.mono (by omega)⟩
        · have hne2 : (n2 == 0) = false := by simpa using hn2
          go_wp2_with fail
          go_ret
          exact ⟨_, ys, rfl, ⟨by omega, HYS.out⟩, HS3.out.mono (by omega)⟩

/-- drawn rights, in a slice that is not nil; nothing that was there before has changed -/
structure DSs (W : World) (v : Value) (ys : List Bs) (w' : World) : Prop where
  strs : Strs w' v ys
  len : ys.length ≤ 8
  rng : ∀ y ∈ ys, shortP y
  bel : Below W.heap.size W w'
  form : ∃ g cap, v = .slice (some ⟨g, 0, none⟩) ys.length cap
theorem DSs.of {W w1 w' : World} {k : Nat} {v : Value} {ys : List Bs} (h : OwnBS W W.heap.size k w1 v ys w') (hl : ys.length ≤ 8 ∧ ∀ y ∈ ys, shortP y) : DSs W v ys w' := ⟨h.strs, hl.1, hl.2, rdr_below h.rdr, by obtain ⟨g, cap, e, _⟩ := h.form; exact ⟨g, cap, e⟩⟩
def DrewS0 (W : World) (e : Ending) (w' : World) : Prop := ∃ v ys, e = .returned v ∧ DSs W v ys w'
def DrewS1 (W : World) (e : Ending) (w' : World) : Prop := ∃ v ys x, shortP x ∧ e = .returned (.tuple #[v, .string ⟨x.toArray⟩]) ∧ DSs W v ys w'
end Go.Proofs.Yticnfekjbknomaa
/- What the draws of what is known of frames give; nothing that was there before the call changes. -/
namespace Go.Proofs.Yticnfekjbknomaa
open Go.ChangeShapes Go.WideShapes Go.ChangeAt Go.RowKit
set_option linter.unusedVariables false

theorem os_setCells (b : Nat) : ∀ (vs : List Value) (o : Nat) (w : World), (w.setCells b o vs).os = w.os
  | [], _, _ => rfl
  | v :: r, o, w => by rw [World.setCells, os_setCells b r (o + 1)]; rfl
theorem tape_setCells (b : Nat) : ∀ (vs : List Value) (o : Nat) (w : World), (w.setCells b o vs).tape = w.tape
  | [], _, _ => rfl
  | v :: r, o, w => by rw [World.setCells, tape_setCells b r (o + 1)]; rfl
theorem output_setCells (b : Nat) : ∀ (vs : List Value) (o : Nat) (w : World), (w.setCells b o vs).output = w.output
  | [], _, _ => rfl
  | v :: r, o, w => by rw [World.setCells, output_setCells b r (o + 1)]; rfl
theorem rdr_block {w0 w w' : World} {B k : Nat} (h : Rdr w0 w B k) (hg : w.grownBy w' none) : Rdr w0 w' B k := by
  have hlt := rdr_lt h
  obtain ⟨a, len, cap, zs, p, hr, hp, hh, hb, hB⟩ := h
  exact ⟨a, len, cap, zs, p, hr, hp, (hg.block B hlt (by simp)).trans hh, hb.grown hg hb.size (fun _ e => by cases e), hB⟩
theorem rdr_other {w0 w : World} {B k X o : Nat} {v : Value} (h : Rdr w0 w B k) (hX : X ≠ B) (hX0 : w0.heap.size ≤ X) : Rdr w0 (w.setCell ⟨X, o, none⟩ v) B k := by
  obtain ⟨a, len, cap, zs, p, hr, hp, hh, hb, hB⟩ := h
  exact ⟨a, len, cap, zs, p, hr, hp, (Below.heap_setCell _ _ _ B (fun e => hX e.symm)).trans hh, hb.setCell hX0 _, hB⟩
theorem grown_set {w w' : World} {B X o : Nat} {v : Value} (h : w.grownBy w' (some B)) (hX : w.heap.size ≤ X) : w.grownBy (w'.setCell ⟨X, o, none⟩ v) (some B) :=
  ⟨h.os, h.tape, h.output, by have := h.size; simpa using this, fun i hi hne => (Below.heap_setCell _ _ _ i (by simp; omega)).trans (h.block i hi hne)⟩
/-- what is known of a frame, in block X, that is being made; the result's place is block R -/
structure ISt (w0 : World) (B k : Nat) (w : World) (X : Nat) (x : IV) (w' : World) : Prop where
  rdr : Rdr w0 w' B k
  grow : w.grownBy w' (some B)
  x3 : TriW w' X 0 x
  res : w'.there w.heap.size 0 3
  X0 : w.heap.size < X
  X1 : X < w'.heap.size
  B0 : B < w.heap.size
  W0 : w0.heap.size ≤ w.heap.size
theorem ISt.picked {w0 w w1 w2 : World} {B k k' X : Nat} {x : IV} (h : ISt w0 B k w X x w1) (hR : Rdr w0 w2 B k') (hO : Only B w1 w2) : ISt w0 B k' w X x w2 :=
  ⟨hR, gtrans h.grow hO.grown, h.x3.block (hO.2.2.2.2 X (by have := h.X0; have := h.B0; omega)), there_blocks h.res (hO.2.2.2.2 _ (by have := h.B0; omega)), h.X0, by rw [hO.2.2.2.1]; exact h.X1, h.B0, h.W0⟩
theorem ISt.drewn {w0 w w1 w2 : World} {B k k' X : Nat} {x : IV} (h : ISt w0 B k w X x w1) (hR : Rdr w0 w2 B k') (hg : w1.grownBy w2 (some B)) : ISt w0 B k' w X x w2 :=
  ⟨hR, gtrans h.grow hg, h.x3.block (hg.block X h.X1 (by simp; have := h.X0; have := h.B0; omega)), there_blocks h.res (hg.block _ (by have := h.X1; have := h.X0; omega) (by simp; have := h.B0; omega)), h.X0, Nat.lt_of_lt_of_le h.X1 hg.size, h.B0, h.W0⟩
theorem tri_set {w : World} {X : Nat} {x y : IV} {i : Nat} {v : Value} (h : TriW w X 0 x) (hi : i < 3) (hv : (ivC y)[i]? = some v) (hy : ∀ j, j ≠ i → (ivC y)[j]? = (ivC x)[j]?) : TriW (w.setCell ⟨X, i, none⟩ v) X 0 y := by
  have hr : w.rangeAt X 0 (ivC x) := fun j u hu => by
    have hj : j < 3 := (List.getElem?_eq_some_iff.1 hu).1
    obtain rfl | rfl | rfl : j = 0 ∨ j = 1 ∨ j = 2 := by omega
    · cases hu; exact h.at3.c0
    · cases hu; exact h.at3.c1
    · cases hu; exact h.at3.c2
  have hn : (w.setCell ⟨X, i, none⟩ v).rangeAt X 0 (ivC y) := fun j u hu => by
    have hj : j < 3 := (List.getElem?_eq_some_iff.1 hu).1
    rw [Nat.zero_add]
    by_cases e : j = i
    · subst e
      rw [hv] at hu
      injection hu with hu
      subst hu
      obtain ⟨u0, hu0⟩ : ∃ u0, (ivC x)[j]? = some u0 := ⟨_, List.getElem?_eq_getElem (by show j < 3; omega)⟩
      have := hr j u0 hu0
      rw [Nat.zero_add] at this
      exact cell_set_same this
    · rw [cell_set_other (.inr (by omega))]
      have := hr j u (by rw [← hy j e]; exact hu)
      rwa [Nat.zero_add] at this
  exact ⟨⟨hn 0 _ rfl, hn 1 _ rfl, hn 2 _ rfl⟩, fun j hj => by rw [frozen_set]; exact h.fr j hj⟩
theorem ISt.set {w0 w w1 : World} {B k X : Nat} {x y : IV} {i : Nat} {v : Value} (h : ISt w0 B k w X x w1) (hi : i < 3) (hv : (ivC y)[i]? = some v) (hy : ∀ j, j ≠ i → (ivC y)[j]? = (ivC x)[j]?) : ISt w0 B k w X y (w1.setCell ⟨X, i, none⟩ v) :=
  ⟨rdr_other h.rdr (by have := h.X0; have := h.B0; omega) (by have := h.X0; have := h.W0; omega), grown_set h.grow (by have := h.X0; omega), tri_set h.x3 hi hv hy,
    there_blocks h.res (Below.heap_setCell _ _ _ _ (by simp; have := h.X0; omega)), h.X0, by have := h.X1; simpa using this, h.B0, h.W0⟩
theorem ISt.start {w0 w w3 : World} {B k : Nat} {x : IV} {t : TypeId} (hR : Rdr w0 w3 B k) (hB : B < w.heap.size) (hW : w0.heap.size ≤ w.heap.size) (hg : w.grownBy w3 (some B)) (hr : w3.there w.heap.size 0 3) (hs : w.heap.size < w3.heap.size) :
    ISt w0 B k w w3.heap.size x (w3.alloc (.cells #[.int .i64 x.k, .string ⟨x.g.toArray⟩, .int .i64 x.r] t)) :=
  ⟨rdr_alloc hR _, gtrans hg (galloc _ _ _), ⟨⟨new_cell rfl, new_cell rfl, new_cell rfl⟩, fun j hj => frozen_of_row _ _ _ _ _ (heap_alloc_new w3 _)⟩,
    there_blocks hr (Below.heap_alloc _ _ _ hs), hs, by simp, hB, hW⟩

theorem ISt.final {w0 w w1 : World} {B k X : Nat} {x : IV} (h : ISt w0 B k w X x w1) (vs : List Value) : Rdr w0 (w1.setCells w.heap.size 0 vs) B k ∧ w.grownBy (w1.setCells w.heap.size 0 vs) (some B) := by
  have hB0 := h.B0
  have hW0 := h.W0
  refine ⟨?_, (os_setCells _ _ _ _).trans h.grow.os, (tape_setCells _ _ _ _).trans h.grow.tape, (output_setCells _ _ _ _).trans h.grow.output, by rw [size_setCells]; exact h.grow.size, fun i hi hne => (heap_setCells_other w1 _ _ _ _ _ (by omega)).trans (h.grow.block i hi hne)⟩
  obtain ⟨a, len, cap, zs, p, hr, hp, hh, hb, hB⟩ := h.rdr
  exact ⟨a, len, cap, zs, p, hr, hp, (heap_setCells_other w1 _ _ _ _ _ (by omega)).trans hh, Below.setCells (Below.refl _ _) _ hW0 _ _ _ hb, hB⟩
theorem ivBits (x : IV) : ((#[.int .i64 x.k, .string ⟨x.g.toArray⟩, .int .i64 x.r] : Array Value)).all (·.oneCell') = true := by simp [Value.oneCell']
theorem info_iv : (Try.prog.info? 36).map (·.size) = some 3 := by kernel_rfl
theorem results_one_mid {P : Program} {fn : Func} {p : Tmp} {ty : TypeId} (h : fn.results = #[.cell p ty]) (tmps : Array Value) (w : World) (b o : Nat) (cs : List Value) (d : TypeDesc)
    (hp : tmps.getD p undef = .pointer (some ⟨b, o, none⟩)) (hc : w.rangeAt b o cs) (hu : P.underlying ty = some d) (hd : d.isRow = true) (hi : (P.info? ty).map (·.size) = some cs.length) :
    (results fn tmps).run P w = .ok (.agg cs.toArray) w := by
  have hp' : tmps[p]?.getD undef = .pointer (some ⟨b, o, none⟩) := by simpa using hp
  simp [results, h, hp', asAddr, run_loadVar_mid w b o ty cs d hc hu hd hi]
theorem final0 {w0 w w1 : World} {B k : Nat} (h : Rdr w0 w1 B k) (hg : w.grownBy w1 (some B)) (hB0 : B < w.heap.size) (hW0 : w0.heap.size ≤ w.heap.size) (vs : List Value) : Rdr w0 (w1.setCells w.heap.size 0 vs) B k ∧ w.grownBy (w1.setCells w.heap.size 0 vs) (some B) := by
  refine ⟨?_, (os_setCells _ _ _ _).trans hg.os, (tape_setCells _ _ _ _).trans hg.tape, (output_setCells _ _ _ _).trans hg.output, by rw [size_setCells]; exact hg.size, fun i hi hne => (heap_setCells_other w1 _ _ _ _ _ (by omega)).trans (hg.block i hi hne)⟩
  obtain ⟨a, len, cap, zs, p, hr, hp, hh, hb, hB⟩ := h
  exact ⟨a, len, cap, zs, p, hr, hp, (heap_setCells_other w1 _ _ _ _ _ (by omega)).trans hh, Below.setCells (Below.refl _ _) _ hW0 _ _ _ hb, hB⟩
/-- what is drawn has a short right -/
def shI (x : IV) : Prop := x.g.length ≤ 10
def DrewIV (w0 : World) (B k : Nat) (w : World) (e : Ending) (w' : World) : Prop := ∃ x : IV, shI x ∧ e = .returned (ivV x) ∧ Rdr w0 w' B k ∧ w.grownBy w' (some B)
theorem there_keep {w w' : World} {R n : Nat} (h : w.there R 0 n) (e : w'.heap[R]? = w.heap[R]?) : w'.there R 0 n := there_blocks h e
set_option maxRecDepth 100000 in
set_option maxHeartbeats 4000000 in
theorem info_any (w0 w : World) (B k : Nat) (hR : Rdr w0 w B k) (hk : k ≤ 800000) :
    Calls Try.prog 120 #[.pointer (some ⟨B, 0, none⟩)] w (DrewIV w0 B (k + 12) w) := by
  have hlt := rdr_lt hR
  have hw0 := (rdr_below hR).size
  go_enter Try.func120, Try.ntmps120
  go_wp2_with fail
  refine (pick_any w0 _ B k _ (rdr_alloc hR _) (by omega) (by omega)).mono ?_
  rintro e w1 ⟨m1, h10, h11, rfl, hR1, hO1⟩
  have hr1 : w1.there w.heap.size 0 3 := there_blocks (there_row (heap_alloc_new w _) (by simp)) (hO1.2.2.2.2 _ (by omega))
  have hs1 : w1.heap.size = w.heap.size + 1 := by rw [hO1.2.2.2.1]; simp
  have hg1 : w.grownBy w1 (some B) := gtrans (galloc w _ _) hO1.grown
  by_cases hm : m1 = 0
  · subst hm
    have HR1 := Lib.hid hr1
    have HS1 := Lib.hid hs1
    have HG1 := Lib.hid hg1
    have HRD := Lib.hid hR1
    have HLT := Lib.hid hlt
    have HW0 := Lib.hid hw0
    clear hr1 hs1 hg1 hR1 hO1 hR hlt hw0
    go_wp2_with ((with_reducible refine store_is 36 (.tmp 2) (.tmp 7) ?_); refine store_arr 36 (.tmp 2) (.tmp 7) w.heap.size 0 #[.int .i64 0, .string ⟨#[]⟩, .int .i64 0] rfl rfl HR1.out info_iv (by simp [Value.oneCell']) ?_)
    try simp only [Act.put]
    refine bodyPost_ret (results_one_mid rfl _ _ w.heap.size 0 [.int .i64 0, .string ⟨#[]⟩, .int .i64 0] _ rfl (World.rangeAt_setCells_same _ _ _ _ HR1.out) Try.underlying36 rfl (by kernel_rfl)) rfl ?_
    exact ⟨iz, Nat.zero_le _, rfl, rdr_mono (final0 HRD.out HG1.out HLT.out HW0.out _).1 (by omega), (final0 HRD.out HG1.out HLT.out HW0.out _).2⟩
  · have hm' : (m1 == 0) = false := by simpa using hm
    go_wp2_with fail
    refine (pick_any w0 _ B _ _ hR1 (by omega) (by omega)).mono ?_
    rintro e w2 ⟨m2, h20, h21, rfl, hR2, hO2⟩
    have hr2 : w2.there w.heap.size 0 3 := there_blocks hr1 (hO2.2.2.2.2 _ (by omega))
    have hs2 : w2.heap.size = w.heap.size + 1 := by rw [hO2.2.2.2.1, hs1]
    have hg2 : w.grownBy w2 (some B) := gtrans hg1 hO2.grown
    clear hr1 hs1 hg1 hR1 hO1 hO2 hR
    have HR2 := Lib.hid hr2
    have HS2 := Lib.hid hs2
    have HG2 := Lib.hid hg2
    have hlt2 : B < w2.heap.size := by omega
    clear hr2 hs2 hg2
    go_wp2_with fail
    refine (of_any w0 _ B _ w2.heap.size 5 5 ([[97], [97], [98], [97, 98], []] : List Bs) (rdr_alloc hR2 _) (by omega) (by omega) rfl (by omega) (by omega) (by omega) (by omega) (fun i hi => new_cell (by
      have hi' : i = 0 ∨ i = 1 ∨ i = 2 ∨ i = 3 ∨ i = 4 := by omega
      rcases hi' with rfl | rfl | rfl | rfl | rfl <;> rfl))).mono ?_
    rintro e w3 ⟨t, ht, rfl, hR3, hg3⟩
    have HSH : Hid (t.length ≤ 10) := Lib.hid ((show ∀ t ∈ ([[97], [97], [98], [97, 98], []] : List Bs), t.length ≤ 10 by decide) t ht)
    have HR3 : Hid (w3.there w.heap.size 0 3) := Lib.hid (there_blocks (there_blocks HR2.out (Below.heap_alloc _ _ _ (by have := HS2.out; omega))) (hg3.block _ (by rw [World.size_alloc]; have := HS2.out; omega) (by intro e; injection e with e; omega)))
    have HG3 := Lib.hid (gtrans HG2.out (gtrans (galloc _ _ _) hg3))
    have HS3 : Hid (w.heap.size < w3.heap.size) := Lib.hid (by have h := hg3.size; rw [World.size_alloc] at h; have := HS2.out; omega)
    clear ht hg3 HR2 HG2 HS2 hR2 hlt2
    go_wp2_with fail
    refine (pick_any w0 _ B _ _ hR3 (by omega) (by omega)).mono ?_
    rintro e w4 ⟨m4, h40, h41, rfl, hR4, hO4⟩
    have HR4 : Hid (w4.there w.heap.size 0 3) := Lib.hid (there_blocks HR3.out (hO4.2.2.2.2 _ (by omega)))
    have HG4 := Lib.hid (gtrans HG3.out hO4.grown)
    have HS4 : Hid (w.heap.size < w4.heap.size) := Lib.hid (by rw [hO4.2.2.2.1]; exact HS3.out)
    clear hO4 hR3 HR3 HG3 HS3
    go_wp2_with fail
    refine (pick_any w0 _ B _ _ hR4 (by omega) (by omega)).mono ?_
    rintro e w5 ⟨m5, h50, h51, rfl, hR5, hO5⟩
    have HR5 : Hid (w5.there w.heap.size 0 3) := Lib.hid (there_blocks HR4.out (hO5.2.2.2.2 _ (by omega)))
    have HG5 := Lib.hid (gtrans HG4.out hO5.grown)
    have HS5 : Hid (w.heap.size < w5.heap.size) := Lib.hid (by rw [hO5.2.2.2.1]; exact HS4.out)
    clear hO5 hR4 HR4 HG4 HS4
    obtain ⟨q, hq⟩ : ∃ q, q = m4 * m5 := ⟨_, rfl⟩
    have hq9 : 0 ≤ q ∧ q ≤ 2 := by
      have h : m4 = 0 ∨ m4 = 1 := by omega
      rcases h with rfl | rfl
      · rw [hq]; omega
      · rw [hq]; omega
    have hqw : IntKind.i64.wrap (m4 * m5) = q := by rw [← hq, IntKind.wrap_i64]; omega
    have HSX := Lib.hid (ISt.start (x := ⟨1 + m2, t, q⟩) (t := 36) hR5 hlt hw0 HG5.out HR5.out HS5.out)
    clear hq hq9 hR5 HG5 HR5 hlt
    go_wp2_with fail
    obtain ⟨X, hX⟩ : ∃ X, w5.heap.size = X := ⟨_, rfl⟩
    obtain ⟨wA, hA⟩ : ∃ wA, w5.alloc (.cells #[.int .i64 (1 + m2), .string ⟨t.toArray⟩, .int .i64 q] 36) = wA := ⟨_, rfl⟩
    simp only [hA, hX] at HSX ⊢
    clear hA hX hqw hm' hm HS5 hw0
    refine (pick_any w0 _ B _ _ HSX.out.rdr (by omega) (by omega)).mono ?_
    rintro e w6 ⟨m6, h60, h61, rfl, hR6, hO6⟩
    have HS6 := Lib.hid (HSX.out.picked hR6 hO6)
    clear hR6 hO6 HSX
    by_cases hm0 : m6 = 0
    · subst hm0
      go_wp2_with fail
      refine (pick_any w0 _ B _ _ (rdr_alloc HS6.out.rdr _) (by omega) (by omega)).mono ?_
      rintro e w7 ⟨m7, h70, h71, rfl, hR7, hO7⟩
      have HS7 := Lib.hid (HS6.out.drewn hR7 (gtrans (galloc _ _ _) hO7.grown))
      have hBX := HS6.out.B0
      have hsz := Nat.le_of_lt (Nat.lt_trans HS6.out.X0 HS6.out.X1)
      have hc : ∀ o, w7.cell? ⟨w6.heap.size, o, none⟩ = (w6.alloc (.cells #[.int .i64 (-1), .int .i64 0, .int .i64 4] 3)).cell? ⟨w6.heap.size, o, none⟩ := fun o => hO7.cell (by omega)
      obtain ⟨y0, y1, y2⟩ := HS7.out.x3.at3
      have yf := HS7.out.x3.fr 0 (by omega)
      simp only [Nat.zero_add] at y0 y1 y2 yf
      obtain ⟨n7, rfl⟩ : ∃ n7 : Nat, m7 = (n7 : Int) := ⟨m7.toNat, by omega⟩
      have hv : ∃ z, w7.cell? ⟨w6.heap.size, n7, none⟩ = some (.int .i64 z) := by
        have hmm : n7 = 0 ∨ n7 = 1 ∨ n7 = 2 := by omega
        rcases hmm with rfl | rfl | rfl
        · exact ⟨_, (hc 0).trans (new_cell rfl)⟩
        · exact ⟨_, (hc 1).trans (new_cell rfl)⟩
        · exact ⟨_, (hc 2).trans (new_cell rfl)⟩
      obtain ⟨z, hz⟩ := hv
      have HS8 := Lib.hid (HS7.out.set (y := ⟨z, t, q⟩) (i := 0) (v := .int .i64 z) (by omega) rfl (fun j hj => by
          obtain rfl | rfl | rfl | h4 : j = 0 ∨ j = 1 ∨ j = 2 ∨ 3 ≤ j := by omega
          all_goals first | rfl | (exact absurd rfl hj) | (rw [List.getElem?_eq_none (by exact h4), List.getElem?_eq_none (by exact h4)])))
      clear hc HS7 hR7 hO7 HS6
      go_wp2_with ((with_reducible refine store_is 36 (.tmp 2) (.tmp 43) ?_); refine store_arr 36 (.tmp 2) (.tmp 43) w.heap.size 0 #[.int .i64 z, .string ⟨t.toArray⟩, .int .i64 q] rfl rfl HS8.out.res info_iv (ivBits ⟨z, t, q⟩) ?_)
      try simp only [Act.put]
      refine bodyPost_ret (results_one_mid rfl _ _ w.heap.size 0 [.int .i64 z, .string ⟨t.toArray⟩, .int .i64 q] _ rfl (World.rangeAt_setCells_same _ _ _ _ HS8.out.res) Try.underlying36 rfl (by kernel_rfl)) rfl ?_
      exact ⟨⟨z, t, q⟩, HSH.out, rfl, rdr_mono (HS8.out.final _).1 (by omega), (HS8.out.final _).2⟩
    have hn0 : (m6 == 0) = false := by simpa using hm0
    by_cases hm1 : m6 = 1
    · clear hn0 hm0
      subst hm1
      go_wp2_with fail
      refine (right_any w0 _ B _ HS6.out.rdr (by omega)).mono ?_
      rintro e w7 ⟨t2, ht2, rfl, hR7, hg7⟩
      have HSH2 : Hid (t2.length ≤ 10) := Lib.hid ht2
      have HS7 := Lib.hid (HS6.out.drewn hR7 hg7)
      obtain ⟨y0, y1, y2⟩ := HS7.out.x3.at3
      have yf := HS7.out.x3.fr 1 (by omega)
      simp only [Nat.zero_add] at y0 y1 y2 yf
      have HS8 := Lib.hid (HS7.out.set (y := ⟨1 + m2, t2, q⟩) (i := 1) (v := .string ⟨t2.toArray⟩) (by omega) rfl (fun j hj => by
        obtain rfl | rfl | rfl | h4 : j = 0 ∨ j = 1 ∨ j = 2 ∨ 3 ≤ j := by omega
        all_goals first | rfl | (exact absurd rfl hj) | (rw [List.getElem?_eq_none (by exact h4), List.getElem?_eq_none (by exact h4)])))
      clear hR7 hg7 HS6 HS7 ht2
      go_wp2_with ((with_reducible refine store_is 36 (.tmp 2) (.tmp 43) ?_); refine store_arr 36 (.tmp 2) (.tmp 43) w.heap.size 0 #[.int .i64 (1 + m2), .string ⟨t2.toArray⟩, .int .i64 q] rfl rfl HS8.out.res info_iv (ivBits ⟨(1 + m2), t2, q⟩) ?_)
      try simp only [Act.put]
      refine bodyPost_ret (results_one_mid rfl _ _ w.heap.size 0 [.int .i64 (1 + m2), .string ⟨t2.toArray⟩, .int .i64 q] _ rfl (World.rangeAt_setCells_same _ _ _ _ HS8.out.res) Try.underlying36 rfl (by kernel_rfl)) rfl ?_
      exact ⟨⟨(1 + m2), t2, q⟩, HSH2.out, rfl, rdr_mono (HS8.out.final _).1 (by omega), (HS8.out.final _).2⟩
    have hn1 : (m6 == 1) = false := by simpa using hm1
    by_cases hm2 : m6 = 2
    · clear hn0 hm0 hn1 hm1
      subst hm2
      go_wp2_with fail
      refine (pick_any w0 _ B _ _ (rdr_alloc HS6.out.rdr _) (by omega) (by omega)).mono ?_
      rintro e w7 ⟨m7, h70, h71, rfl, hR7, hO7⟩
      have HS7 := Lib.hid (HS6.out.drewn hR7 (gtrans (galloc _ _ _) hO7.grown))
      have hBX := HS6.out.B0
      have hsz := Nat.le_of_lt (Nat.lt_trans HS6.out.X0 HS6.out.X1)
      have hc : ∀ o, w7.cell? ⟨w6.heap.size, o, none⟩ = (w6.alloc (.cells #[.int .i64 (-1), .int .i64 50, .int .i64 51] 3)).cell? ⟨w6.heap.size, o, none⟩ := fun o => hO7.cell (by omega)
      obtain ⟨y0, y1, y2⟩ := HS7.out.x3.at3
      have yf := HS7.out.x3.fr 2 (by omega)
      simp only [Nat.zero_add] at y0 y1 y2 yf
      obtain ⟨n7, rfl⟩ : ∃ n7 : Nat, m7 = (n7 : Int) := ⟨m7.toNat, by omega⟩
      have hv : ∃ z, w7.cell? ⟨w6.heap.size, n7, none⟩ = some (.int .i64 z) := by
        have hmm : n7 = 0 ∨ n7 = 1 ∨ n7 = 2 := by omega
        rcases hmm with rfl | rfl | rfl
        · exact ⟨_, (hc 0).trans (new_cell rfl)⟩
        · exact ⟨_, (hc 1).trans (new_cell rfl)⟩
        · exact ⟨_, (hc 2).trans (new_cell rfl)⟩
      obtain ⟨z, hz⟩ := hv
      have HS8 := Lib.hid (HS7.out.set (y := ⟨1 + m2, t, z⟩) (i := 2) (v := .int .i64 z) (by omega) rfl (fun j hj => by
          obtain rfl | rfl | rfl | h4 : j = 0 ∨ j = 1 ∨ j = 2 ∨ 3 ≤ j := by omega
          all_goals first | rfl | (exact absurd rfl hj) | (rw [List.getElem?_eq_none (by exact h4), List.getElem?_eq_none (by exact h4)])))
      clear hc HS7 hR7 hO7 HS6
      go_wp2_with ((with_reducible refine store_is 36 (.tmp 2) (.tmp 43) ?_); refine store_arr 36 (.tmp 2) (.tmp 43) w.heap.size 0 #[.int .i64 (1 + m2), .string ⟨t.toArray⟩, .int .i64 z] rfl rfl HS8.out.res info_iv (ivBits ⟨(1 + m2), t, z⟩) ?_)
      try simp only [Act.put]
      refine bodyPost_ret (results_one_mid rfl _ _ w.heap.size 0 [.int .i64 (1 + m2), .string ⟨t.toArray⟩, .int .i64 z] _ rfl (World.rangeAt_setCells_same _ _ _ _ HS8.out.res) Try.underlying36 rfl (by kernel_rfl)) rfl ?_
      exact ⟨⟨(1 + m2), t, z⟩, HSH.out, rfl, rdr_mono (HS8.out.final _).1 (by omega), (HS8.out.final _).2⟩
    have hn2 : (m6 == 2) = false := by simpa using hm2
    obtain ⟨y0, y1, y2⟩ := HS6.out.x3.at3
    simp only [Nat.zero_add] at y0 y1 y2
    go_wp2_with ((with_reducible refine store_is 36 (.tmp 2) (.tmp 43) ?_); refine store_arr 36 (.tmp 2) (.tmp 43) w.heap.size 0 #[.int .i64 (1 + m2), .string ⟨t.toArray⟩, .int .i64 q] rfl rfl HS6.out.res info_iv (ivBits ⟨(1 + m2), t, q⟩) ?_)
    try simp only [Act.put]
    refine bodyPost_ret (results_one_mid rfl _ _ w.heap.size 0 [.int .i64 (1 + m2), .string ⟨t.toArray⟩, .int .i64 q] _ rfl (World.rangeAt_setCells_same _ _ _ _ HS6.out.res) Try.underlying36 rfl (by kernel_rfl)) rfl ?_
    exact ⟨⟨(1 + m2), t, q⟩, HSH.out, rfl, rdr_mono (HS6.out.final _).1 (by omega), (HS6.out.final _).2⟩
end Go.Proofs.Yticnfekjbknomaa
/- What the draws of lists of what is known of frames give; nothing that was there before the call changes. -/
namespace Go.Proofs.Yticnfekjbknomaa
open Go.ChangeShapes Go.WideShapes Go.ChangeAt Go.RowKit
set_option linter.unusedVariables false

/-- a list that is being drawn: it owns blocks from base on; but for these and the reader's, nothing has changed -/
structure OwnBI (w0 : World) (B k : Nat) (w : World) (v : Value) (ys : List IV) (w' : World) : Prop where
  own : w'.ownsRow w.heap.size 36 3 v ys.length (isC ys)
  nn : v ≠ .slice none 0 0
  rdr : Rdr w0 w' B k
  grow : w.grownBy w' (some B)
  B0 : B < w.heap.size
theorem OwnBI.is {w0 w w' : World} {B k : Nat} {v : Value} {ys : List IV} (h : OwnBI w0 B k w v ys w') : Is w' v ys := (IsW.of_ownsRow h.own).is
theorem OwnBI.row {w0 w w' : World} {B k : Nat} {v : Value} {ys : List IV} (h : OwnBI w0 B k w v ys w') : IsW w' w.heap.size w'.heap.size v ys := IsW.of_ownsRow h.own
theorem OwnBI.start {w0 w : World} {B k : Nat} (hR : Rdr w0 w B k) : OwnBI w0 B k w (.slice (some ⟨w.heap.size, 0, none⟩) 0 0) [] (w.alloc (.cells #[] 36)) :=
  ⟨World.ownsRow_made w #[] 0 (Nat.le_refl _) (Nat.zero_le _) rfl, (fun h => by cases h), rdr_alloc hR _, galloc _ _ _, rdr_lt hR⟩
theorem OwnBI.drew {w0 w w' w2 : World} {B k k' : Nat} {v : Value} {ys : List IV} (h : OwnBI w0 B k w v ys w') (hR : Rdr w0 w2 B k') (hg : w'.grownBy w2 (some B)) : OwnBI w0 B k' w v ys w2 :=
  ⟨own_grown h.own hg h.B0, h.nn, hR, gtrans h.grow hg, h.B0⟩
theorem OwnBI.keep {w0 w w1 w2 : World} {B k : Nat} {v : Value} {ys : List IV} (h : OwnBI w0 B k w v ys w1) (hb : Below w1.heap.size w1 w2) : OwnBI w0 B k w v ys w2 :=
  h.drew (rdr_of_below h.rdr hb) (grown_of_below hb)
theorem OwnBI.append {w0 w wr w2 : World} {B k : Nat} {v v2 : Value} {ys zs : List IV} (h : OwnBI w0 B k w v ys wr) (h2 : w2.ownsRow w.heap.size 36 3 v2 (ys ++ zs).length (isC (ys ++ zs))) (hg : wr.grownBy w2 v.ownBlock) (hnn : v2 = .slice none 0 0 → v = .slice none 0 0) :
    OwnBI w0 B k w v2 (ys ++ zs) w2 := by
  have hob : ∀ b, v.ownBlock = some b → w.heap.size ≤ b := fun b hb => (h.own.lt b hb).1
  have hB0 := h.B0
  have hlt := rdr_lt h.rdr
  refine ⟨h2, fun e => h.nn (hnn e), ?_, ?_, h.B0⟩
  · have hw0 := h.rdr
    obtain ⟨a, len, cap, zs, p, hr, hp, hh, hbb, hB⟩ := hw0
    refine ⟨a, len, cap, zs, p, hr, hp, (hg.block B hlt (fun e => by have := hob B e.symm; omega)).trans hh, hbb.grown hg hbb.size (fun b hb => by have := hob b hb; have := h.grow.size; omega), hB⟩
  · exact ⟨hg.os.trans h.grow.os, hg.tape.trans h.grow.tape, hg.output.trans h.grow.output, Nat.le_trans h.grow.size hg.size, fun i hi hne => (hg.block i (Nat.lt_of_lt_of_le hi h.grow.size) (fun e => by have := hob i e.symm; omega)).trans (h.grow.block i hi hne)⟩
theorem OwnBI.form {w0 w w' : World} {B k : Nat} {v : Value} {ys : List IV} (h : OwnBI w0 B k w v ys w') : ∃ g cap, v = .slice (some ⟨g, 0, none⟩) ys.length cap ∧ ys.length ≤ cap ∧ cap ≤ maxLen ∧ w.heap.size ≤ g := by
  rcases h.own.2 with ⟨e, _⟩ | ⟨g, cap, cur, e, hb, _, hnc, hcm, _⟩
  · exact absurd e h.nn
  · exact ⟨g, cap, e, hnc, hcm, hb⟩
theorem OwnBI.mono {w0 w w' : World} {B k k' : Nat} {v : Value} {ys : List IV} (h : OwnBI w0 B k w v ys w') (hk : k ≤ k') : OwnBI w0 B k' w v ys w' := ⟨h.own, h.nn, rdr_mono h.rdr hk, h.grow, h.B0⟩
theorem is_one (w : World) (x : IV) : Is (w.alloc (.cells #[.int .i64 x.k, .string ⟨x.g.toArray⟩, .int .i64 x.r] 36)) (.slice (some ⟨w.heap.size, 0, none⟩) 1 1) [x] :=
  ⟨_, 1, rfl, Nat.le_refl _, by decide, fun i hi => ⟨w.heap.size, 0, rfl, by
    have e : i = 0 := by simpa using hi
    subst e
    exact tri_new w x _⟩⟩
theorem wpList_append_rowI {ops : Array Oper} {rest : List Oper} {a : Act} {w : World} {Q : Exit → Act → World → Prop} {dst : Option Nat} {tt : TypeId} {pos : String} {after : Array Edge} (s x : Operand)
    (base : Nat) (v : Value) (ys : List IV) (hs : a.eval s = v) (hown : w.ownsRow base 36 3 v ys.length (isC ys)) (hbase : base ≤ w.heap.size) (xv : Value) (zs : List IV) (hx : a.eval x = xv) (hz : Is w xv zs) (hn : NilOkI xv) (hl : ys.length + zs.length ≤ 1000000)
    (h : ∀ v' w', w'.ownsRow base 36 3 v' (ys ++ zs).length (isC (ys ++ zs)) → (v' = .slice none 0 0 ↔ v = .slice none 0 0 ∧ zs.length = 0) → w.grownBy w' v.ownBlock → wpList Try.prog ops Q rest (a.put dst v') w') :
    wpList Try.prog ops Q ({ dst := dst, op := .call { callee := .builtin .append, args := #[s, x], argTypes := #[27, 27] }, type := tt, pos := pos, after := after, guard := none } :: rest) a w :=
  wpList_plain rfl fun K hK => wp_append_rowI s x base v ys hs hown hbase xv zs hx hz hn hl (fun v' w' h1 h2 h3 => hK _ _ (h v' w' h1 h2 h3))
/-- a list that has been drawn, in blocks of its own -/
structure RowBI (w0 : World) (B k : Nat) (w : World) (v : Value) (ys : List IV) (w' : World) : Prop where
  row : IsW w' w.heap.size w'.heap.size v ys
  form : ∃ g cap, v = .slice (some ⟨g, 0, none⟩) ys.length cap
  rdr : Rdr w0 w' B k
  grow : w.grownBy w' (some B)
  B0 : B < w.heap.size
theorem OwnBI.rowB {w0 w w' : World} {B k : Nat} {v : Value} {ys : List IV} (h : OwnBI w0 B k w v ys w') : RowBI w0 B k w v ys w' :=
  ⟨h.row, by obtain ⟨g, cap, e, _⟩ := h.form; exact ⟨g, cap, e⟩, h.rdr, h.grow, h.B0⟩
def DrewIs (w0 : World) (B k : Nat) (w : World) (e : Ending) (w' : World) : Prop := ∃ v ys, e = .returned v ∧ (ys.length ≤ 12 ∧ ∀ y ∈ ys, shI y) ∧ RowBI w0 B k w v ys w'
set_option maxRecDepth 100000 in
set_option maxHeartbeats 4000000 in
theorem infos_any (w0 w : World) (B k : Nat) (hR : Rdr w0 w B k) (hk : k ≤ 700000) :
    Calls Try.prog 101 #[.pointer (some ⟨B, 0, none⟩)] w (DrewIs w0 B (k + 200) w) := by
  have HS := Lib.hid (OwnBI.start hR)
  clear hR
  go_enter Try.func101, Try.ntmps101
  go_wp2
  go_loopw [3, 4] (fun c i wr => ∃ (j : Nat) (ys : List IV), j ≤ 12 ∧ i = .int .i64 j ∧ ys.length = j ∧ Hid (∀ y ∈ ys, shI y) ∧ Hid (OwnBI w0 B (k + 12 * j) w c ys wr)) (fun _ i _ => 12 - (intOf i).toNat)
  case atStart => exact ⟨0, [], Nat.zero_le _, rfl, rfl, Lib.hid (fun y hy => by cases hy), HS⟩
  case round =>
    obtain ⟨j, ys, hj, rfl, hl, HYS, HREL⟩ := hrel
    have HL := Lib.hid hl
    clear hl
    by_cases hlt : j < 12
    · have hlt' : (j : Int) < 12 := by omega
      go_wp2_with fail
      refine (info_any w0 _ B _ HREL.out.rdr (by omega)).mono ?_
      rintro e w2 ⟨x, hx, rfl, hR2, hg2⟩
      have HXP := Lib.hid hx
      have HS2 := Lib.hid (HREL.out.drew hR2 hg2)
      clear HREL hR2 hg2 hx
      have HS4 := Lib.hid (HS2.out.keep ((Below.refl w2.heap.size w2).alloc (Nat.le_refl _) (.cells #[.int .i64 x.k, .string ⟨x.g.toArray⟩, .int .i64 x.r] 36)))
      go_wp2_with (at_builtin; refine wpList_append_rowI (.tmp 10) (.tmp 13) w.heap.size _ ys rfl HS4.out.own HS4.out.grow.size _ [x] rfl (is_one _ x) nilOkI_some (by have := HL.out; simp only [List.length_singleton]; omega) ?_; intro v2 w4 hown2 hnn2 hgrow2)
      have HE := Lib.hid (HS4.out.append (zs := [x]) hown2 hgrow2 (fun e => (hnn2.1 e).1))
      clear hown2 hgrow2 hnn2 HS4 HS2
      go_wp2
      go_roundw
      case rel => exact ⟨j + 1, ys ++ [x], by omega, by go_num, by rw [List.length_append, HL.out]; rfl, Lib.hid (fun y hy => by
          rw [List.mem_append, List.mem_singleton] at hy
          rcases hy with hy | rfl
          · exact HYS.out y hy
          · exact HXP.out), Lib.hid (HE.out.mono (by omega))⟩
      case measure => simp [intOf]; omega
    · have e12 : j = 12 := by omega
      subst e12
      go_wp2_with fail
      refine (pick_any w0 _ B _ _ HREL.out.rdr (by omega) (by omega)).mono ?_
      rintro e w2 ⟨m2, h20, h21, rfl, hR2, hO2⟩
      have HS2 := Lib.hid (HREL.out.drew hR2 hO2.grown)
      clear HREL hR2 hO2
      by_cases hm : m2 = 0
      · subst hm
        go_wp2_with fail
        refine (pick_any w0 _ B _ _ HS2.out.rdr (by omega) (by omega)).mono ?_
        rintro e w3 ⟨m3, h30, h31, rfl, hR3, hO3⟩
        have HS3 := Lib.hid (HS2.out.drew hR3 hO3.grown)
        clear HS2 hR3 hO3
        obtain ⟨n3, rfl⟩ : ∃ n3 : Nat, m3 = (n3 : Int) := ⟨m3.toNat, by omega⟩
        obtain ⟨g, cap, rfl, hc1, hc2, hg0⟩ := HS3.out.form
        rw [HL.out] at HS3 hc1 ⊢
        unfold maxLen at hc2
        have hcc : (n3 : Int) ≤ (cap : Int) := by omega
        have hn12 : (n3 : Int) ≤ 12 := by omega
        have HP : Hid (IsW w3 w.heap.size w3.heap.size (.slice (some ⟨g, 0, none⟩) n3 cap) (ys.take n3)) := Lib.hid (by
          obtain ⟨a', cap', e, q1, q2, q3⟩ := HS3.out.row
          injection e with e1 e2 e3
          subst e1
          subst e3
          have hln : (ys.take n3).length = n3 := by rw [List.length_take, HL.out]; omega
          refine ⟨_, cap, by rw [hln], by rw [hln]; omega, q2, fun i hi => ?_⟩
          rw [hln] at hi
          obtain ⟨g', p', e, h1, h2, h3⟩ := q3 i (by rw [HL.out]; omega)
          rw [getD_lt (by rw [HL.out]; omega)] at h3
          refine ⟨g', p', e, h1, h2, ?_⟩
          rw [getD_lt (by rw [hln]; exact hi), List.getElem_take]
          exact h3)
        go_wp2_with fail
        go_ret
        exact ⟨_, ys.take n3, rfl, ⟨by rw [List.length_take]; omega, fun y hy => HYS.out y (List.mem_of_mem_take hy)⟩, HP.out, ⟨g, cap, by rw [List.length_take, HL.out, Nat.min_eq_left (by omega)]; rfl⟩, rdr_mono HS3.out.rdr (by omega), HS3.out.grow, HS3.out.B0⟩
      · have hm' : (m2 == 0) = false := by simpa using hm
        go_wp2_with fail
        go_ret
        exact ⟨_, ys, rfl, ⟨by rw [HL.out]; exact Nat.le_refl _, HYS.out⟩, (HS2.out.mono (by omega)).rowB⟩
end Go.Proofs.Yticnfekjbknomaa
/- What the draws of stage 7 give. -/
namespace Go.Proofs.Yticnfekjbknomaa
open Go.ChangeShapes Go.WideShapes Go.ChangeAt Go.RowKit
set_option linter.unusedVariables false

theorem RowBI.drew {w0 w w1 w2 : World} {B k k' : Nat} {v : Value} {ys : List IV} (h : RowBI w0 B k w v ys w1) (hR : Rdr w0 w2 B k') (hg : w1.grownBy w2 (some B)) : RowBI w0 B k' w v ys w2 := by
  refine ⟨?_, h.form, hR, gtrans h.grow hg, h.B0⟩
  obtain ⟨a, cap, e, h2, h3, h4⟩ := h.row
  refine ⟨a, cap, e, h2, h3, fun i hi => ?_⟩
  obtain ⟨g, p, e, hg0, hg1, hf⟩ := h4 i hi
  exact ⟨g, p, e, hg0, Nat.lt_of_lt_of_le hg1 hg.size, hf.block (hg.block g hg1 (by have := h.B0; intro e; injection e with e; omega))⟩
theorem RowBI.mono {w0 w w1 : World} {B k k' : Nat} {v : Value} {ys : List IV} (h : RowBI w0 B k w v ys w1) (hk : k ≤ k') : RowBI w0 B k' w v ys w1 := ⟨h.row, h.form, rdr_mono h.rdr hk, h.grow, h.B0⟩
theorem RowBI.place {w0 w w1 : World} {B k : Nat} {g n c : Nat} {ys : List IV} (h : RowBI w0 B k w (.slice (some ⟨g, 0, none⟩) n c) ys w1) {i : Nat} (hi : i < ys.length) : w.heap.size ≤ g ∧ w1.there g (i * 3) 3 := by
  obtain ⟨a, cap, e, h2, h3, h4⟩ := h.row
  injection e with e1 e2 e3
  subst e1
  obtain ⟨g', p', e, hg0, hg1, hf⟩ := h4 i hi
  cases e
  have ht := hf.there
  rw [Nat.zero_add] at ht
  exact ⟨hg0, ht⟩
theorem RowBI.store {w0 w w1 : World} {B k : Nat} {g n c : Nat} {ys : List IV} (h : RowBI w0 B k w (.slice (some ⟨g, 0, none⟩) n c) ys w1) {i : Nat} (hi : i < ys.length) (x : IV) : RowBI w0 B k w (.slice (some ⟨g, 0, none⟩) n c) (ys.set i x) (w1.setCells g (i * 3) (ivC x)) := by
  have hp := h.place hi
  have hn : n = ys.length := by
    obtain ⟨a, cap, e, _⟩ := h.row
    injection e
  have hB0 := h.B0
  refine ⟨?_, ?_, ?_, ?_, h.B0⟩
  · rw [size_setCells]
    refine h.row.upd (p := 0) rfl (by omega) ?_ (fun j y hj hy => hy.apart (.inr (by show 0 + j * 3 + 3 ≤ i * 3 ∨ i * 3 + 3 ≤ 0 + j * 3; omega)))
    rw [Nat.zero_add]
    exact TriW.stored hp.2
  · obtain ⟨g', c', e⟩ := h.form
    exact ⟨g', c', by rw [List.length_set]; exact e⟩
  · have hw0 := (rdr_below h.rdr).size
    obtain ⟨a, len, cap, zs, p, hr, hpk, hh, hb, hB⟩ := h.rdr
    exact ⟨a, len, cap, zs, p, hr, hpk, (heap_setCells_other w1 _ _ _ _ _ (by omega)).trans hh, Below.setCells (Below.refl _ _) _ (by omega) _ _ _ hb, hB⟩
  · exact ⟨(os_setCells _ _ _ _).trans h.grow.os, (tape_setCells _ _ _ _).trans h.grow.tape, (output_setCells _ _ _ _).trans h.grow.output, by rw [size_setCells]; exact h.grow.size, fun j hj hne => (heap_setCells_other w1 _ _ _ _ _ (by omega)).trans (h.grow.block j hj hne)⟩
/-- a drawn list, in a slice that is not nil; nothing that was there before has changed -/
structure DIs (W : World) (v : Value) (ys : List IV) (w' : World) : Prop where
  is : Is w' v ys
  len : ys.length ≤ 12
  rng : ∀ y ∈ ys, shI y
  bel : Below W.heap.size W w'
  form : ∃ g cap, v = .slice (some ⟨g, 0, none⟩) ys.length cap
theorem DIs.of {W w1 w' : World} {k : Nat} {v : Value} {ys : List IV} (h : RowBI W W.heap.size k w1 v ys w') (hl : ys.length ≤ 12 ∧ ∀ y ∈ ys, shI y) : DIs W v ys w' := ⟨h.row.is, hl.1, hl.2, rdr_below h.rdr, h.form⟩
def DrewI0 (W : World) (e : Ending) (w' : World) : Prop := ∃ v ys, e = .returned v ∧ DIs W v ys w'
def DrewI1 (W : World) (e : Ending) (w' : World) : Prop := ∃ v ys x, shortP x ∧ e = .returned (.tuple #[v, .string ⟨x.toArray⟩]) ∧ DIs W v ys w'
def DrewI2 (W : World) (e : Ending) (w' : World) : Prop := ∃ v ys f, frameP f ∧ e = .returned (.tuple #[v, .int .i64 f]) ∧ DIs W v ys w'
end Go.Proofs.Yticnfekjbknomaa
/- How the drawn statements compare what is known of frames. -/
namespace Go.Proofs.Yticnfekjbknomaa
open Go.ChangeShapes Go.WideShapes Go.ChangeAt Go.RowKit
set_option linter.unusedVariables false

set_option maxRecDepth 100000 in
theorem sameInfos_any (w : World) (v u : Value) (xs ys : List IV) (h : Is w v xs) (k : Is w u ys) : Calls Try.prog 39 #[v, u] w (BRes (decide (xs = ys)) w) := by
  obtain ⟨a, ca, rfl, ha1, ha2, ha3⟩ := h
  obtain ⟨b, cb, rfl, hb1, hb2, hb3⟩ := k
  unfold maxLen at ha2 hb2
  obtain ⟨r, hr⟩ : ∃ r, r = decide (xs = ys) := ⟨_, rfl⟩
  rw [← hr]
  have HR := Lib.hid hr
  have HA := Lib.hid ha3
  have HBs := Lib.hid hb3
  obtain ⟨m, hm⟩ : ∃ m, m = xs.length := ⟨_, rfl⟩
  obtain ⟨n, hn⟩ : ∃ n, n = ys.length := ⟨_, rfl⟩
  have HM := Lib.hid hm
  have HN := Lib.hid hn
  rw [← hm] at ha1 ⊢
  rw [← hn] at hb1 ⊢
  clear hm hn hr ha3 hb3
  by_cases hl : m = n
  · subst hl
    have hl' : ((m : Int) != (m : Int)) = false := by simp
    go_enter Try.func39, Try.ntmps39
    go_wp2
    go_loopw [5] (fun i wr => ∃ k : Nat, k ≤ m ∧ i = .int .i64 k ∧ Hid (Below w.heap.size w wr) ∧ Hid (xs.take k = ys.take k)) (fun i _ => m - (intOf i).toNat)
    case atStart => exact ⟨0, Nat.zero_le _, rfl, Lib.hid (Below.refl _ _), Lib.hid rfl⟩
    case round =>
      obtain ⟨k, hk, rfl, HBW, HTK⟩ := hrel
      by_cases hlt : k < m
      · obtain ⟨ba, oa, rfl, hfa⟩ := HA.out k (by have := HM.out; omega)
        obtain ⟨bb, ob, rfl, hfb⟩ := HBs.out k (by have := HN.out; omega)
        have hba := block_lt_of_cell hfa.c0
        have hbb := block_lt_of_cell hfb.c0
        obtain ⟨x, hx⟩ : ∃ x, x = xs.getD k iz := ⟨_, rfl⟩
        obtain ⟨y, hy⟩ : ∃ y, y = ys.getD k iz := ⟨_, rfl⟩
        rw [← hx] at hfa
        rw [← hy] at hfb
        have HFA := Lib.hid hfa
        have HFB := Lib.hid hfb
        have HX := Lib.hid hx
        have HY := Lib.hid hy
        have FA : Hid (Tri wr.drew ba (oa + k * 3) x) := Lib.hid (hfa.below HBW.out.drew hba)
        have FB : Hid (Tri wr.drew bb (ob + k * 3) y) := Lib.hid (hfb.below HBW.out.drew hbb)
        have hlt' : (k : Int) < (m : Int) := by omega
        clear hx hy hfa hfb
        by_cases he : x = y
        · have HT2 : Hid (xs.take (k + 1) = ys.take (k + 1)) := Lib.hid (take_eq_succ (d := iz) (by rw [← HM.out, ← HN.out]) (by have := HM.out; omega) HTK.out (by rw [← HX.out, ← HY.out]; exact he))
          have hE := he
          clear he
          go_wp2_with fail
          refine wp_region_held_drew (S := fun w' => Tri w' ba (oa + k * 3) x ∧ Tri w' bb (ob + k * 3) y) (by kernel_rfl) ⟨FA.out, FB.out⟩ (fun hHeld => ?_)
          refine wpAnyH_take (i := 0) (oi := { dst := some 17, op := .move (.tmp 0), type := _, pos := _, after := _, guard := none }) (v := .slice (some ⟨ba, oa, none⟩) m ca) rfl (by kernel_rfl) (by kernel_rfl) (by kernel_rfl) (fun _ _ _ h => h) (Or.inl ⟨by rfl, fun wh hSw => ?_⟩) hHeld ?_
          · (obtain ⟨⟨s0, s1, s2⟩, t0, t1, t2⟩ := hSw; go_simp)
          try simp only [Act.put, List.setIfInBounds_toArray, List.set_cons_zero, List.set_cons_succ]
          refine wpAnyH_take (i := 1) (oi := { dst := some 18, op := .move (.tmp 5), type := _, pos := _, after := _, guard := none }) (v := .int .i64 (k : Int)) rfl (by kernel_rfl) (by kernel_rfl) (by kernel_rfl) (fun _ _ _ h => h) (Or.inl ⟨by rfl, fun wh hSw => ?_⟩) hHeld ?_
          · (obtain ⟨⟨s0, s1, s2⟩, t0, t1, t2⟩ := hSw; go_simp)
          try simp only [Act.put, List.setIfInBounds_toArray, List.set_cons_zero, List.set_cons_succ]
          refine wpAnyH_take (i := 2) (oi := { dst := some 19, op := .indexAddr 27 (.tmp 17) (.tmp 18), type := _, pos := _, after := _, guard := none }) (v := .pointer (some ⟨ba, oa + k * 3, none⟩)) rfl (by kernel_rfl) (by kernel_rfl) (by kernel_rfl) (fun _ _ _ h => h) (Or.inl ⟨by rfl, fun wh hSw => ?_⟩) hHeld ?_
          · (obtain ⟨⟨s0, s1, s2⟩, t0, t1, t2⟩ := hSw; go_simp)
          try simp only [Act.put, List.setIfInBounds_toArray, List.set_cons_zero, List.set_cons_succ]
          refine wpAnyH_take (i := 3) (oi := { dst := some 20, op := .load 36 (.tmp 19), type := _, pos := _, after := _, guard := none }) (v := ivV x) rfl (by kernel_rfl) (by kernel_rfl) (by kernel_rfl) (fun _ _ _ h => h) (Or.inl ⟨by rfl, fun wh hSw => ?_⟩) hHeld ?_
          · (obtain ⟨⟨s0, s1, s2⟩, t0, t1, t2⟩ := hSw; go_simp)
          try simp only [Act.put, List.setIfInBounds_toArray, List.set_cons_zero, List.set_cons_succ]
          refine wpAnyH_take (i := 4) (oi := { dst := some 21, op := .move (.tmp 1), type := _, pos := _, after := _, guard := none }) (v := .slice (some ⟨bb, ob, none⟩) m cb) rfl (by kernel_rfl) (by kernel_rfl) (by kernel_rfl) (fun _ _ _ h => h) (Or.inl ⟨by rfl, fun wh hSw => ?_⟩) hHeld ?_
          · (obtain ⟨⟨s0, s1, s2⟩, t0, t1, t2⟩ := hSw; go_simp)
          try simp only [Act.put, List.setIfInBounds_toArray, List.set_cons_zero, List.set_cons_succ]
          refine wpAnyH_take (i := 5) (oi := { dst := some 22, op := .move (.tmp 5), type := _, pos := _, after := _, guard := none }) (v := .int .i64 (k : Int)) rfl (by kernel_rfl) (by kernel_rfl) (by kernel_rfl) (fun _ _ _ h => h) (Or.inl ⟨by rfl, fun wh hSw => ?_⟩) hHeld ?_
          · (obtain ⟨⟨s0, s1, s2⟩, t0, t1, t2⟩ := hSw; go_simp)
          try simp only [Act.put, List.setIfInBounds_toArray, List.set_cons_zero, List.set_cons_succ]
          refine wpAnyH_take (i := 6) (oi := { dst := some 23, op := .indexAddr 27 (.tmp 21) (.tmp 22), type := _, pos := _, after := _, guard := none }) (v := .pointer (some ⟨bb, ob + k * 3, none⟩)) rfl (by kernel_rfl) (by kernel_rfl) (by kernel_rfl) (fun _ _ _ h => h) (Or.inl ⟨by rfl, fun wh hSw => ?_⟩) hHeld ?_
          · (obtain ⟨⟨s0, s1, s2⟩, t0, t1, t2⟩ := hSw; go_simp)
          try simp only [Act.put, List.setIfInBounds_toArray, List.set_cons_zero, List.set_cons_succ]
          refine wpAnyH_take (i := 7) (oi := { dst := some 24, op := .load 36 (.tmp 23), type := _, pos := _, after := _, guard := none }) (v := ivV y) rfl (by kernel_rfl) (by kernel_rfl) (by kernel_rfl) (fun _ _ _ h => h) (Or.inl ⟨by rfl, fun wh hSw => ?_⟩) hHeld ?_
          · (obtain ⟨⟨s0, s1, s2⟩, t0, t1, t2⟩ := hSw; go_simp)
          try simp only [Act.put, List.setIfInBounds_toArray, List.set_cons_zero, List.set_cons_succ]
          refine wpAnyH_take (i := 8) (oi := { dst := some 25, op := .binOp .neq 36 (.tmp 20) (.tmp 24) 36, type := _, pos := _, after := _, guard := none }) (v := .bool false) rfl (by kernel_rfl) (by kernel_rfl) (by kernel_rfl) (fun _ _ _ h => h) (Or.inl ⟨by rfl, fun wh hSw => ?_⟩) hHeld ?_
          · (obtain ⟨⟨s0, s1, s2⟩, t0, t1, t2⟩ := hSw; go_simp)
          try simp only [Act.put, List.setIfInBounds_toArray, List.set_cons_zero, List.set_cons_succ]
          refine wpAnyH_done (by kernel_rfl) ?_ _
          go_wp2
          go_roundw
          case rel => exact ⟨k + 1, by omega, by go_num, Lib.hid HBW.out.drew, HT2⟩
          case measure => simp [intOf]; omega
        · have HF : Hid (r = false) := Lib.hid (by rw [HR.out]; exact decide_eq_false (fun hh => he (by rw [HX.out, HY.out, hh])))
          have hE := he
          clear he
          go_wp2_with fail
          refine wp_region_held_drew (S := fun w' => Tri w' ba (oa + k * 3) x ∧ Tri w' bb (ob + k * 3) y) (by kernel_rfl) ⟨FA.out, FB.out⟩ (fun hHeld => ?_)
          refine wpAnyH_take (i := 0) (oi := { dst := some 17, op := .move (.tmp 0), type := _, pos := _, after := _, guard := none }) (v := .slice (some ⟨ba, oa, none⟩) m ca) rfl (by kernel_rfl) (by kernel_rfl) (by kernel_rfl) (fun _ _ _ h => h) (Or.inl ⟨by rfl, fun wh hSw => ?_⟩) hHeld ?_
          · (obtain ⟨⟨s0, s1, s2⟩, t0, t1, t2⟩ := hSw; go_simp)
          try simp only [Act.put, List.setIfInBounds_toArray, List.set_cons_zero, List.set_cons_succ]
          refine wpAnyH_take (i := 1) (oi := { dst := some 18, op := .move (.tmp 5), type := _, pos := _, after := _, guard := none }) (v := .int .i64 (k : Int)) rfl (by kernel_rfl) (by kernel_rfl) (by kernel_rfl) (fun _ _ _ h => h) (Or.inl ⟨by rfl, fun wh hSw => ?_⟩) hHeld ?_
          · (obtain ⟨⟨s0, s1, s2⟩, t0, t1, t2⟩ := hSw; go_simp)
          try simp only [Act.put, List.setIfInBounds_toArray, List.set_cons_zero, List.set_cons_succ]
          refine wpAnyH_take (i := 2) (oi := { dst := some 19, op := .indexAddr 27 (.tmp 17) (.tmp 18), type := _, pos := _, after := _, guard := none }) (v := .pointer (some ⟨ba, oa + k * 3, none⟩)) rfl (by kernel_rfl) (by kernel_rfl) (by kernel_rfl) (fun _ _ _ h => h) (Or.inl ⟨by rfl, fun wh hSw => ?_⟩) hHeld ?_
          · (obtain ⟨⟨s0, s1, s2⟩, t0, t1, t2⟩ := hSw; go_simp)
          try simp only [Act.put, List.setIfInBounds_toArray, List.set_cons_zero, List.set_cons_succ]
          refine wpAnyH_take (i := 3) (oi := { dst := some 20, op := .load 36 (.tmp 19), type := _, pos := _, after := _, guard := none }) (v := ivV x) rfl (by kernel_rfl) (by kernel_rfl) (by kernel_rfl) (fun _ _ _ h => h) (Or.inl ⟨by rfl, fun wh hSw => ?_⟩) hHeld ?_
          · (obtain ⟨⟨s0, s1, s2⟩, t0, t1, t2⟩ := hSw; go_simp)
          try simp only [Act.put, List.setIfInBounds_toArray, List.set_cons_zero, List.set_cons_succ]
          refine wpAnyH_take (i := 4) (oi := { dst := some 21, op := .move (.tmp 1), type := _, pos := _, after := _, guard := none }) (v := .slice (some ⟨bb, ob, none⟩) m cb) rfl (by kernel_rfl) (by kernel_rfl) (by kernel_rfl) (fun _ _ _ h => h) (Or.inl ⟨by rfl, fun wh hSw => ?_⟩) hHeld ?_
          · (obtain ⟨⟨s0, s1, s2⟩, t0, t1, t2⟩ := hSw; go_simp)
          try simp only [Act.put, List.setIfInBounds_toArray, List.set_cons_zero, List.set_cons_succ]
          refine wpAnyH_take (i := 5) (oi := { dst := some 22, op := .move (.tmp 5), type := _, pos := _, after := _, guard := none }) (v := .int .i64 (k : Int)) rfl (by kernel_rfl) (by kernel_rfl) (by kernel_rfl) (fun _ _ _ h => h) (Or.inl ⟨by rfl, fun wh hSw => ?_⟩) hHeld ?_
          · (obtain ⟨⟨s0, s1, s2⟩, t0, t1, t2⟩ := hSw; go_simp)
          try simp only [Act.put, List.setIfInBounds_toArray, List.set_cons_zero, List.set_cons_succ]
          refine wpAnyH_take (i := 6) (oi := { dst := some 23, op := .indexAddr 27 (.tmp 21) (.tmp 22), type := _, pos := _, after := _, guard := none }) (v := .pointer (some ⟨bb, ob + k * 3, none⟩)) rfl (by kernel_rfl) (by kernel_rfl) (by kernel_rfl) (fun _ _ _ h => h) (Or.inl ⟨by rfl, fun wh hSw => ?_⟩) hHeld ?_
          · (obtain ⟨⟨s0, s1, s2⟩, t0, t1, t2⟩ := hSw; go_simp)
          try simp only [Act.put, List.setIfInBounds_toArray, List.set_cons_zero, List.set_cons_succ]
          refine wpAnyH_take (i := 7) (oi := { dst := some 24, op := .load 36 (.tmp 23), type := _, pos := _, after := _, guard := none }) (v := ivV y) rfl (by kernel_rfl) (by kernel_rfl) (by kernel_rfl) (fun _ _ _ h => h) (Or.inl ⟨by rfl, fun wh hSw => ?_⟩) hHeld ?_
          · (obtain ⟨⟨s0, s1, s2⟩, t0, t1, t2⟩ := hSw; go_simp)
          try simp only [Act.put, List.setIfInBounds_toArray, List.set_cons_zero, List.set_cons_succ]
          refine wpAnyH_take (i := 8) (oi := { dst := some 25, op := .binOp .neq 36 (.tmp 20) (.tmp 24) 36, type := _, pos := _, after := _, guard := none }) (v := .bool true) rfl (by kernel_rfl) (by kernel_rfl) (by kernel_rfl) (fun _ _ _ h => h) (Or.inl ⟨by rfl, fun wh hSw => ?_⟩) hHeld ?_
          · (go_simp; exact fun h1 h2 h3 => hE (iv_ext.2 ⟨h1, h2, h3⟩))
          try simp only [Act.put, List.setIfInBounds_toArray, List.set_cons_zero, List.set_cons_succ]
          refine wpAnyH_done (by kernel_rfl) ?_ _
          go_wp2
          go_ret
          exact ⟨by rw [HF.out]; rfl, HBW.out.drew⟩
      · have ek : k = m := by omega
        subst ek
        have HF : Hid (r = true) := Lib.hid (by rw [HR.out]; exact decide_eq_true (eq_of_take (by rw [← HM.out, ← HN.out]) HM.out HTK.out))
        go_wp2
        go_ret
        exact ⟨by rw [HF.out]; rfl, HBW.out⟩
  · have hl' : ((m : Int) != (n : Int)) = true := by simp; omega
    have HF : Hid (r = false) := Lib.hid (by rw [HR.out]; exact decide_eq_false (fun hh => hl (by rw [HM.out, HN.out, hh])))
    go_enter Try.func39, Try.ntmps39
    go_wp2
    go_ret
    exact ⟨by rw [HF.out]; rfl, Below.refl _ _⟩
end Go.Proofs.Yticnfekjbknomaa
/- The walks of the statements on taken frames, out of contracts of the program. -/
namespace Go.Proofs.Yticnfekjbknomaa
open Go.ChangeShapes Go.WideShapes Go.ChangeAt Go.RowKit
set_option linter.unusedVariables false

theorem row_len {k : IntKind} {w : World} {a : Option Addr} {len cap : Nat} {zs : List Int} (hr : Row k w a len cap zs) : len ≤ 9223372036854775807 := by
  rcases hr with ⟨_, rfl, rfl, _⟩ | ⟨x, _, hl, hm, _⟩
  · omega
  · unfold maxLen at hm; omega
theorem shortI {ys : List IV} (h : ∀ y ∈ ys, shI y) : ShortI ys := fun y hy => by have := h y hy; unfold shI at this; omega
theorem sameI (w : World) (va vb : Value) (xs : List IV) (ha : Is w va xs) (hb : Is w vb xs) :
    Calls Try.prog 39 #[va, vb] w fun e w' => e = .returned (.bool true) ∧ Below w.heap.size w w' := by
  refine (sameInfos_any w va vb xs xs ha hb).mono ?_
  rintro e w' ⟨rfl, hb⟩
  rw [decide_eq_true (rfl : xs = xs)]
  exact ⟨rfl, hb⟩
theorem itake_short {ys : List IV} {x : Bs} (h : ∀ y ∈ ys, shI y) (hx : shortP x) : ∀ y ∈ itake ys x, shI y := fun y hy => by
  unfold itake at hy
  split at hy
  · rcases List.mem_or_eq_of_mem_set hy with h1 | h1
    · exact h y h1
    · rw [h1]; exact hx
  · cases hy
theorem igive_short {ys : List IV} {f : Int} (h : ∀ y ∈ ys, shI y) : ∀ y ∈ igive ys f, shI y := fun y hy => by
  unfold igive at hy
  split at hy
  · rcases List.mem_or_eq_of_mem_set hy with h1 | h1
    · exact h y h1
    · rw [h1]; exact Nat.zero_le _
  · cases hy
theorem ifree_range {ys : List IV} (h : ys.length ≤ 12) : -1 ≤ ifree ys ∧ ifree ys ≤ 12 := by
  have := cnt_le ys
  unfold ifree
  split <;> omega
/-- what taking leads to, place by place -/
theorem itake_at {ys : List IV} {x : Bs} (h : tok ys x = true) {i : Nat} (hi : i < ys.length) :
    (((i : Int) = itakeN ys x → (ys.getD i iz).k = 0 ∧ (itake ys x).getD i iz = ⟨1, x, 0⟩) ∧ ((i : Int) ≠ itakeN ys x → (itake ys x).getD i iz = ys.getD i iz)) ∧ ((i : Int) < itakeN ys x → (ys.getD i iz).k ≠ 0) := by
  have ht := (tok_iff.1 h).2.2
  unfold itake itakeN
  rw [if_pos h, if_pos h]
  refine ⟨⟨fun e => ?_, fun e => ?_⟩, fun e => ?_⟩
  · have e : i = fidx ys := by omega
    rw [e, set_getD_eq ht, if_pos rfl]
    exact ⟨fidx_free ht, rfl⟩
  · rw [set_getD_eq ht, if_neg (by omega)]
  · exact fidx_before (by omega)
theorem itake_len_eq {ys : List IV} {x : Bs} (h : tok ys x = true) : (itake ys x).length = ys.length := by
  unfold itake
  rw [if_pos h, List.length_set]
end Go.Proofs.Yticnfekjbknomaa
/- Linked lists of numbers: nodes of two cells, a number and what follows. -/
namespace Go.Proofs.Yticnfekjbknomaa
open Go.ChangeShapes Go.WideShapes Go.ChangeAt Go.RowKit
set_option linter.unusedVariables false

/-- the linked list at p holds xs -/
def Chain (w : World) : List Nat → Option Addr → Prop
  | [], p => p = none
  | x :: xs, p => ∃ b q, p = some ⟨b, 0, none⟩ ∧ w.cell? ⟨b, 0, none⟩ = some (.int .i64 x) ∧ w.cell? ⟨b, 1, none⟩ = some (.pointer q) ∧ Chain w xs q
theorem Chain.below {w w' : World} {B : Nat} : ∀ {xs : List Nat} {p : Option Addr}, Chain w xs p → w.heap.size ≤ B → Below B w w' → Chain w' xs p
  | [], p, h, _, _ => h
  | x :: xs, p, ⟨b, q, e, h0, h1, h2⟩, hB, hb => by
    have hlt : b < w.heap.size := block_lt_of_cell h0
    have hbl := hb.block b (by omega)
    exact ⟨b, q, e, (World.cell?_of_block hbl).trans h0, (World.cell?_of_block hbl).trans h1, Chain.below h2 hB hb⟩
theorem Chain.drew {w : World} : ∀ {xs : List Nat} {p : Option Addr}, Chain w xs p → Chain w.drew xs p
  | [], p, h => h
  | x :: xs, p, ⟨b, q, e, h0, h1, h2⟩ => ⟨b, q, e, h0, h1, Chain.drew h2⟩
/-- a node in front -/
theorem Chain.cons {w : World} {xs : List Nat} {p : Option Addr} (x : Nat) (t : TypeId) (h : Chain w xs p) : Chain (w.alloc (.cells #[.int .i64 x, .pointer p] t)) (x :: xs) (some ⟨w.heap.size, 0, none⟩) := by
  have e := fun j => cell_of_row (w.alloc (.cells #[.int .i64 x, .pointer p] t)) w.heap.size j _ _ (0, 0) (heap_alloc_new w _)
  exact ⟨_, p, rfl, (e 0).trans rfl, (e 1).trans rfl, h.below (Nat.le_refl _) (Below.alloc (Below.refl _ _) (Nat.le_refl _) _)⟩

/-- the free frames from k on -/
def frs (ys : List IV) (k : Nat) : List Nat := ((List.range ys.length).drop k).filter (fun i => isFree (ys.getD i iz))
theorem frs_end (ys : List IV) : frs ys ys.length = [] := by
  unfold frs
  rw [List.drop_of_length_le (by rw [List.length_range]; exact Nat.le_refl _)]
  rfl
theorem frs_step {ys : List IV} {k : Nat} (hk : k < ys.length) : frs ys k = if (ys.getD k iz).k = 0 then k :: frs ys (k + 1) else frs ys (k + 1) := by
  unfold frs
  rw [List.drop_eq_getElem_cons (by rw [List.length_range]; exact hk), List.getElem_range, List.filter_cons]
  unfold isFree
  by_cases h : (ys.getD k iz).k = 0
  · simp_all
  · simp_all
theorem frs_cnt (ys : List IV) : ∀ d k, k + d = ys.length → (frs ys k).length + cnt (ys.take k) = cnt ys
  | 0, k, h => by
    obtain rfl : k = ys.length := by omega
    rw [frs_end, List.take_length, List.length_nil, Nat.zero_add]
  | d + 1, k, h => by
    have ih := frs_cnt ys d (k + 1) (by omega)
    rw [cnt_take_succ (by omega)] at ih
    rw [frs_step (by omega)]
    split
    · rename_i h0
      rw [if_pos h0] at ih
      rw [List.length_cons]
      omega
    · rename_i h0
      rw [if_neg h0] at ih
      omega
theorem frs_length (ys : List IV) : (frs ys 0).length = cnt ys := by
  have := frs_cnt ys ys.length 0 (by omega)
  rwa [List.take_zero, show cnt [] = 0 from rfl, Nat.add_zero] at this
theorem frs_first (ys : List IV) : ∀ d k, k + d = ys.length → (∀ j, j < k → (ys.getD j iz).k ≠ 0) → (frs ys k).head?.getD ys.length = fidx ys
  | 0, k, h, hb => by
    obtain rfl : k = ys.length := by omega
    rw [frs_end]
    show ys.length = fidx ys
    have hle : fidx ys ≤ ys.length := fidx_le ys
    rcases Nat.lt_or_ge (fidx ys) ys.length with hlt | hge
    · exact absurd (fidx_free hlt) (hb _ hlt)
    · omega
  | d + 1, k, h, hb => by
    rw [frs_step (by omega)]
    split
    · rename_i h0
      show k = fidx ys
      rcases Nat.lt_or_ge (fidx ys) k with hl | hl
      · exact absurd (fidx_free (by omega)) (hb _ hl)
      · rcases Nat.lt_or_ge k (fidx ys) with hl2 | hl2
        · exact absurd h0 (fidx_before hl2)
        · omega
    · rename_i h0
      exact frs_first ys d (k + 1) (by omega) (fun j hj => by
        rcases Nat.lt_or_ge j k with hl | hl
        · exact hb j hl
        · obtain rfl : j = k := by omega
          exact h0)
theorem frs_head (ys : List IV) : (frs ys 0).head?.getD ys.length = fidx ys := frs_first ys ys.length 0 (by omega) (fun j hj => by omega)
end Go.Proofs.Yticnfekjbknomaa
/- What the program's RightValid, and its methods on what is known of a frame, answer. -/
namespace Go.Proofs.Yticnfekjbknomaa
open Go.ChangeShapes Go.WideShapes Go.ChangeAt Go.RowKit
set_option linter.unusedVariables false

theorem ibelow_any (w : World) (x n : Int) : Calls Try.prog 82 #[.int .i64 x, .int .i64 n] w (Says (inR x 0 (n - 1)) w) := by
  unfold inR
  by_cases h : 0 ≤ x ∧ x ≤ n - 1
  · rw [decide_eq_true h]
    obtain ⟨h1, h2⟩ := h
    have h3 : x < n := by omega
    go_enter Try.func82, Try.ntmps82
    go_wp2
    go_ret
    exact says_mk rfl
  · rw [decide_eq_false h]
    by_cases h1 : 0 ≤ x
    · have h2 : decide (x < n) = false := by simp; omega
      clear h
      go_enter Try.func82, Try.ntmps82
      go_wp2
      go_ret
      exact says_mk rfl
    · have h2 : decide (0 ≤ x) = false := by simpa using h1
      clear h
      go_enter Try.func82, Try.ntmps82
      go_wp2
      go_ret
      exact says_mk rfl
theorem iok_nz {x : IV} (h : x.k ≠ 0) : iok x = (inR x.k 0 3 && (rv x.g && inR x.r 0 50)) := by
  unfold iok
  rw [if_neg h]
  congr 1
  unfold inR
  rw [Bool.eq_iff_iff, decide_eq_true_eq, decide_eq_true_eq]
  omega
set_option maxRecDepth 100000 in
theorem ivalid1_any (w : World) (x : IV) (hx : x.g.length ≤ 2000000) : Calls Try.prog 117 #[ivV x] w (BRes (iok x) w) := by
  obtain ⟨xk, xg, xr⟩ := x
  have HB : Hid (Below w.heap.size w (w.alloc (.cells #[.int .i64 xk, .string ⟨xg.toArray⟩, .int .i64 xr] 36))) := Lib.hid ((Below.refl _ _).alloc (Nat.le_refl _) _)
  obtain ⟨r, hr⟩ : ∃ r, r = iok ⟨xk, xg, xr⟩ := ⟨_, rfl⟩
  rw [← hr]
  by_cases hk : xk = 0
  · subst hk
    have HR : Hid (r = decide ((⟨0, xg, xr⟩ : IV) = iz)) := Lib.hid (by rw [hr]; unfold iok; rw [if_pos rfl])
    clear hr
    by_cases hg : xg = []
    · subst hg
      by_cases hz : xr = 0
      · subst hz
        have HR2 : Hid (r = true) := Lib.hid (by rw [HR.out]; exact decide_eq_true rfl)
        clear HR
        go_enter Try.func117, Try.ntmps117
        go_wp2_with fail
        go_ret
        exact ⟨by rw [HR2.out]; rfl, HB.out⟩
      · have HR2 : Hid (r = false) := Lib.hid (by rw [HR.out]; exact decide_eq_false (fun hh => hz (iv_ext.1 hh).2.2))
        have e1 : (xr == 0) = false := by simpa using hz
        clear HR
        go_enter Try.func117, Try.ntmps117
        go_wp2_with fail
        go_ret
        exact ⟨by rw [HR2.out]; rfl, HB.out⟩
    · have HR2 : Hid (r = false) := Lib.hid (by rw [HR.out]; exact decide_eq_false (fun hh => hg (iv_ext.1 hh).2.1))
      have e1 : (xg == []) = false := by simpa using hg
      clear HR
      go_enter Try.func117, Try.ntmps117
      go_wp2_with fail
      go_ret
      exact ⟨by rw [HR2.out]; rfl, HB.out⟩
  · have hk' : (xk == 0) = false := by simpa using hk
    have HR : Hid (r = (inR xk 0 3 && (rv xg && inR xr 0 50))) := Lib.hid (by rw [hr]; exact iok_nz hk)
    have HI1 := Lib.hid (fun w => ibelow_any w xk 4)
    have HI2 := Lib.hid (fun w => ibelow_any w xr 51)
    have HV := Lib.hid (fun w => irv_any w xg hx)
    clear hr hk
    go_enter Try.func117, Try.ntmps117
    go_wp2_with fail
    refine (HI1.out _).mono ?_
    rintro e w' ⟨rfl, rfl⟩
    rw [show (4 : Int) - 1 = 3 from rfl]
    cases h1 : inR xk 0 3 with
    | false =>
      rw [h1] at HR
      clear h1
      go_wp2_with fail
      go_ret
      exact ⟨by rw [HR.out]; rfl, HB.out⟩
    | true =>
      rw [h1] at HR
      clear h1
      go_wp2_with fail
      refine (HV.out _).mono ?_
      rintro e w2 ⟨rfl, hb2⟩
      have B2 := Lib.hid (HB.out.trans (hb2.mono HB.out.size))
      obtain ⟨c0, c1, c2⟩ := (tri_new w ⟨xk, xg, xr⟩ 36).below hb2 (tri_new w ⟨xk, xg, xr⟩ 36).lt
      simp only [Nat.zero_add] at c0 c1 c2
      clear hb2
      cases h2 : rv xg with
      | false =>
        rw [h2] at HR
        clear h2
        go_wp2_with fail
        go_ret
        exact ⟨by rw [HR.out]; rfl, B2.out⟩
      | true =>
        rw [h2] at HR
        clear h2
        go_wp2_with fail
        refine (HI2.out _).mono ?_
        rintro e w' ⟨rfl, rfl⟩
        rw [show (51 : Int) - 1 = 50 from rfl]
        go_wp2_with fail
        go_ret
        exact ⟨by rw [HR.out]; rfl, B2.out⟩
end Go.Proofs.Yticnfekjbknomaa
/- Arrays of what is known of frames, as values. -/
namespace Go.Proofs.Yticnfekjbknomaa
open Go.ChangeShapes Go.WideShapes Go.ChangeAt Go.RowKit
set_option linter.unusedVariables false

def z12 : List IV := List.replicate 12 iz
theorem z12_len : z12.length = 12 := rfl
theorem zero_infos (w : World) : (zeroValue 81).run Try.prog w = .ok (.agg (isC z12).toArray) w := Try.zeroValue81 w
theorem size_info (w : World) : (sizeOf 36).run Try.prog w = .ok 3 w := Try.sizeOf36 w
theorem agg_info (w : World) : (isAgg 36).run Try.prog w = .ok true w := Try.isAgg36 w
theorem info_infos {n : Nat} (h : n = 36) : (Try.prog.info? 81).map (·.size) = some n := by subst h; kernel_rfl
theorem isC_all (xs : List IV) : (isC xs).toArray.all (·.oneCell') = true := all_oneCell_toArray (isC_one xs)
theorem isC_36 {xs : List IV} (h : xs.length = 12) : (isC xs).length = 36 := by rw [isC_len, h]
theorem isC_split (xs : List IV) {k : Nat} (hk : k < xs.length) : isC xs = isC (xs.take k) ++ (ivC (xs.getD k iz) ++ isC (xs.drop (k + 1))) := by
  have e : xs = xs.take k ++ ([xs.getD k iz] ++ xs.drop (k + 1)) := by
    rw [← List.append_assoc, ← take_snoc_getD xs k iz hk, List.take_append_drop]
  conv => lhs; rw [e]
  simp [isC]
theorem isC_extract (xs : List IV) {k : Nat} (hk : k < xs.length) : (isC xs).toArray.extract (k * 3) (k * 3 + 3) = (ivC (xs.getD k iz)).toArray := by
  have h1 : (isC (xs.take k)).length = k * 3 := by rw [isC_len, List.length_take]; omega
  rw [isC_split xs hk, List.extract_toArray, List.extract_eq_take_drop]
  congr 1
  rw [List.drop_append_of_le_length (by omega), List.drop_of_length_le (by omega), List.nil_append, List.take_append_of_le_length (by simp [ivC])]
  exact List.take_of_length_le (by simp [ivC])
theorem index_infos (xs : List IV) (hl : xs.length = 12) {k : Nat} (hk : k < 12) (W : World) : (Instr.index 81 (.agg (isC xs).toArray) (.int .i64 k)).run Try.prog W = .ok (ivV (xs.getD k iz)) W := by
  rw [run_index_arr (P := Try.prog) 81 12 36 3 Try.underlying81 agg_info size_info (isC xs).toArray k hk W, isC_extract xs (by omega)]
  rfl
theorem arrayAt_infos (W : World) (a : Option Addr) (cap : Nat) : (Instr.arrayAt 81 (.slice a 12 cap)).run Try.prog W = .ok (.pointer a) W := by
  unfold Instr.arrayAt
  rw [Sem.run_bind, run_underlying Try.underlying81]
  simp
theorem slice_infos (b : Nat) (W : World) : (Instr.sliceAt 81 (.pointer (some ⟨b, 0, none⟩)) none none none).run Try.prog W = .ok (.slice (some ⟨b, 0, none⟩) 12 12) W := by
  unfold Instr.sliceAt
  simp only [Instr.sureAddr, Sem.run_bind, Sem.run_pure, Result.andThen_ok, run_underlying Try.underlying81, Instr.sliceBounds]
  simp [add0]
def arrOf (xs : List IV) : List IV := if isok xs = true then xs else z12
theorem arrOf_ok {xs : List IV} (h : isok xs = true) : arrOf xs = xs := if_pos h
theorem arrOf_no {xs : List IV} (h : isok xs = false) : arrOf xs = z12 := by unfold arrOf; rw [h]; rfl
theorem arrOf_len (xs : List IV) : (arrOf xs).length = 12 := by
  unfold arrOf
  split
  · rename_i h; exact isok_len h
  · rfl
/-- an array and whether it is what is known of all frames; nothing that was there changes -/
def ArrI (zs : List IV) (b : Bool) (w : World) (e : Ending) (w' : World) : Prop := e = .returned (.tuple #[.agg (isC zs).toArray, .bool b]) ∧ Below w.heap.size w w'

structure IRel (w : World) (xs : List IV) (k : Nat) (wr : World) : Prop where
  bel : Below w.heap.size w wr
  size : w.heap.size < wr.heap.size
  res : wr.there w.heap.size 0 36
  ok : ∀ i, i < k → iok (xs.getD i iz) = true
theorem IRel.start (w : World) (xs : List IV) (t : TypeId) : IRel w xs 0 (w.alloc (.cells (isC z12).toArray t)) :=
  ⟨(Below.refl _ _).alloc (Nat.le_refl _) _, by simp, there_row (heap_alloc_new w _) (by rw [List.size_toArray, isC_36 z12_len]; exact Nat.le_refl _), fun i hi => by omega⟩
theorem IRel.after {w wr w1 : World} {xs : List IV} {k : Nat} (h : IRel w xs k wr) (hb : Below wr.heap.size wr w1) : IRel w xs k w1 :=
  ⟨h.bel.trans (hb.mono (Nat.le_of_lt h.size)), by have := h.size; have := hb.size; omega, there_blocks h.res (hb.block _ h.size), h.ok⟩
theorem IRel.step {w wr : World} {xs : List IV} {k : Nat} (h : IRel w xs k wr) (hk : iok (xs.getD k iz) = true) : IRel w xs (k + 1) wr :=
  ⟨h.bel, h.size, h.res, fun i hi => by
    by_cases hik : i = k
    · subst hik; exact hk
    · exact h.ok i (by omega)⟩
end Go.Proofs.Yticnfekjbknomaa
/- What the program's infosOf answers. -/
namespace Go.Proofs.Yticnfekjbknomaa
open Go.ChangeShapes Go.WideShapes Go.ChangeAt Go.RowKit
set_option linter.unusedVariables false

set_option maxRecDepth 100000 in
set_option maxHeartbeats 1000000 in
theorem infosOf_any (w : World) (v : Value) (xs : List IV) (h : Is w v xs) (hs : ShortI xs) :
    Calls Try.prog 90 #[v] w (ArrI (arrOf xs) (isok xs) w) := by
  obtain ⟨a, ca, rfl, hla, hma, hxa⟩ := h
  unfold maxLen at hma
  obtain ⟨R, HRR⟩ : ∃ R : Ending → World → Prop, Hid (R = ArrI (arrOf xs) (isok xs) w) := ⟨_, Lib.hid rfl⟩
  rw [← HRR.out]
  obtain ⟨Z, hZ⟩ : ∃ Z, Z = (isC z12).toArray := ⟨_, rfl⟩
  have ZM := Lib.hid zero_infos
  have ZS : Hid (Z.size = 36) := Lib.hid (by rw [hZ, List.size_toArray, isC_36 z12_len])
  have ZO : Hid (Z.all (·.oneCell') = true) := Lib.hid (by rw [hZ]; exact isC_all _)
  have ZT := Lib.hid (IRel.start w xs)
  rw [← hZ] at ZM ZT
  have HZ := Lib.hid hZ
  clear hZ
  obtain ⟨n, hN⟩ : ∃ n, n = xs.length := ⟨_, rfl⟩
  rw [← hN] at hla ⊢
  have HN := Lib.hid hN
  have HX := Lib.hid hxa
  have HS := Lib.hid hs
  clear hN hxa hs
  by_cases hn : n = 12
  · subst hn
    have HAT := fun W => arrayAt_infos W a ca
    have HST := Lib.hid (ZT.out 81)
    obtain ⟨B, hB⟩ : ∃ B, B = w.heap.size := ⟨_, rfl⟩
    have HB := Lib.hid hB
    obtain ⟨w0, hw0⟩ : ∃ w0, w0 = w.alloc (.cells Z 81) := ⟨_, rfl⟩
    rw [← hw0] at HST
    go_enter Try.func90, Try.ntmps90
    go_wp2_with ((with_reducible refine alloc_is 81 ?_); refine alloc_arr 81 Z ZM.out ?_)
    rw [← hw0, ← hB]
    clear hw0 hB
    go_loopw [12] (fun i wr => ∃ k : Nat, k ≤ 12 ∧ i = .int .i64 k ∧ Hid (IRel w xs k wr)) (fun i _ => 12 - (intOf i).toNat)
    case atStart => exact ⟨0, Nat.zero_le _, rfl, HST⟩
    case round =>
      obtain ⟨k, hk, rfl, HRL⟩ := hrel
      by_cases hlt : k < 12
      · have hlt' : (k : Int) < 12 := by omega
        have hkx : k < xs.length := by have := HN.out; omega
        obtain ⟨b, o, rfl, hc⟩ := HX.out k hkx
        have HC := Lib.hid (hc.below HRL.out.bel hc.lt)
        obtain ⟨x, hx⟩ : ∃ x, x = xs.getD k iz := ⟨_, rfl⟩
        rw [← hx] at HC
        have HXK := Lib.hid hx
        have HV := Lib.hid (fun w => ivalid1_any w x (by rw [hx]; exact HS.out.at k))
        have HCK := Lib.hid hkx
        clear hc hx hkx
        obtain ⟨c0, c1, c2⟩ := HC.out
        obtain ⟨xk, xg, xr⟩ := x
        obtain ⟨wA, hA⟩ : ∃ wA, wA = wr.alloc (.cells #[.int .i64 xk, .string ⟨xg.toArray⟩, .int .i64 xr] 36) := ⟨_, rfl⟩
        have HRA : Hid (IRel w xs k wA) := Lib.hid (by rw [hA]; exact HRL.out.after ((Below.refl _ _).alloc (Nat.le_refl _) _))
        cases hv : iok ⟨xk, xg, xr⟩ with
        | false =>
          rw [hv] at HV
          have HF : Hid (isok xs = false) := Lib.hid (by
            rw [Bool.eq_false_iff]
            intro hh
            have := isok_at hh HCK.out
            rw [← HXK.out, hv] at this
            cases this)
          clear hv
          go_wp2_with fail
          rw [← hA]
          refine (HV.out wA).mono ?_
          rintro e w1 ⟨rfl, hb1⟩
          have HR1 := Lib.hid (HRA.out.after hb1)
          have HT := Lib.hid HR1.out.res
          have HE : Hid (∀ cs, Below w.heap.size w (w1.setCells B 0 cs)) := Lib.hid (fun cs => Below.setCells (Below.refl _ _) _ (by rw [HB.out]; exact Nat.le_refl _) _ _ _ HR1.out.bel)
          rw [← HB.out] at HT
          clear hA hb1 c0 c1 c2
          go_wp2_with (first | ((with_reducible refine build_is 81 ?_); refine build_arr 81 Z 12 36 3 ZM.out Try.underlying81 size_info ?_) | ((with_reducible refine store_is 81 (.tmp 2) (.tmp 19) ?_); refine store_arr 81 (.tmp 2) (.tmp 19) B 0 Z rfl rfl (by rw [ZS.out]; exact HT.out) (info_infos ZS.out) ZO.out ?_))
          refine bodyPost_ret (results_cell_mid rfl _ _ B 0 Z.toList _ rfl (World.rangeAt_setCells_same _ _ _ _ (by rw [Array.length_toList, ZS.out]; exact HT.out)) Try.underlying81 rfl (info_infos (by rw [Array.length_toList, ZS.out]))) rfl ?_
          rw [HRR.out, HF.out, arrOf_no HF.out]
          exact ⟨by rw [← HZ.out]; simp, HE.out _⟩
        | true =>
          rw [hv] at HV
          have HOK : Hid (iok (xs.getD k iz) = true) := Lib.hid (by rw [← HXK.out]; exact hv)
          clear hv
          go_wp2_with fail
          rw [← hA]
          refine (HV.out wA).mono ?_
          rintro e w1 ⟨rfl, hb1⟩
          have HR1 := Lib.hid ((HRA.out.after hb1).step HOK.out)
          clear hA hb1 c0 c1 c2
          go_wp2_with fail
          go_roundw
          case rel => exact ⟨k + 1, by omega, by go_num, HR1⟩
          case measure => simp [intOf]; omega
      · have e : k = 12 := by omega
        have HM : Hid (isok xs = true) := Lib.hid (isok_iff.2 ⟨fun i hi => HRL.out.ok i (by have := HN.out; omega), HN.out.symm⟩)
        have HT := Lib.hid HRL.out.res
        have HE : Hid (∀ cs, Below w.heap.size w (wr.setCells B 0 cs)) := Lib.hid (fun cs => Below.setCells (Below.refl _ _) _ (by rw [HB.out]; exact Nat.le_refl _) _ _ _ HRL.out.bel)
        rw [← HB.out] at HT
        obtain ⟨b, o, rfl, hc⟩ := HX.out 0 (by have := HN.out; omega)
        have HF : Hid (wr.rangeAt b o (isC xs)) := Lib.hid (fun j u hj => is_cells (fun i hi => by
          obtain ⟨b', o', e', hc'⟩ := HX.out i hi
          cases e'
          exact hc'.below HRL.out.bel hc'.lt) j u hj)
        clear hc
        have HO := Lib.hid (isC_all xs)
        have HL : Hid ((isC xs).length = 36) := Lib.hid (isC_36 HN.out.symm)
        have HLR : Hid (R = ArrI xs true w) := Lib.hid (by rw [HRR.out, HM.out, arrOf_ok HM.out])
        clear HRR
        obtain ⟨C, hC⟩ : ∃ C, C = isC xs := ⟨_, rfl⟩
        rw [← hC] at HF HO HL
        have HCC := Lib.hid hC
        clear hC
        go_wp2_with (first | ((with_reducible refine load_is 81 (.tmp 22) ?_); refine load_arr 81 (.tmp 22) b o C _ rfl HF.out Try.underlying81 rfl (info_infos HL.out) ?_) | ((with_reducible refine store_is 81 (.tmp 2) (.tmp 23) ?_); refine store_arr 81 (.tmp 2) (.tmp 23) B 0 C.toArray rfl rfl (by rw [List.size_toArray, HL.out]; exact HT.out) (info_infos (by rw [List.size_toArray, HL.out])) HO.out ?_))
        refine bodyPost_ret (results_cell_mid rfl _ _ B 0 C _ rfl (World.rangeAt_setCells_same _ _ _ _ (by rw [HL.out]; exact HT.out)) Try.underlying81 rfl (info_infos HL.out)) rfl ?_
        rw [HLR.out]
        exact ⟨by rw [← HCC.out]; rfl, HE.out _⟩
  · have hn' : ((n : Int) != 12) = true := by simp; omega
    have HM : Hid (isok xs = false) := Lib.hid (by
      rw [Bool.eq_false_iff]
      intro hh
      exact hn (HN.out.trans (isok_len hh)))
    have HT : Hid ((w.alloc (.cells Z 81)).there w.heap.size 0 36) := Lib.hid (ZT.out 81).res
    have HE : Hid (Below w.heap.size w ((w.alloc (.cells Z 81)).setCells w.heap.size 0 Z.toList)) := Lib.hid (Below.setCells (Below.refl _ _) _ (Nat.le_refl _) _ _ _ (ZT.out 81).bel)
    go_enter Try.func90, Try.ntmps90
    go_wp2_with (first | ((with_reducible refine alloc_is 81 ?_); refine alloc_arr 81 Z ZM.out ?_) | ((with_reducible refine build_is 81 ?_); refine build_arr 81 Z 12 36 3 ZM.out Try.underlying81 size_info ?_) | ((with_reducible refine store_is 81 (.tmp 2) (.tmp 9) ?_); refine store_arr 81 (.tmp 2) (.tmp 9) w.heap.size 0 Z rfl rfl (by rw [ZS.out]; exact HT.out) (info_infos ZS.out) ZO.out ?_))
    refine bodyPost_ret (results_cell_mid rfl _ _ w.heap.size 0 Z.toList _ rfl (World.rangeAt_setCells_same _ _ _ _ (by rw [Array.length_toList, ZS.out]; exact HT.out)) Try.underlying81 rfl (info_infos (by rw [Array.length_toList, ZS.out]))) rfl ?_
    rw [HRR.out, HM.out, arrOf_no HM.out]
    exact ⟨by rw [← HZ.out]; simp, HE.out⟩
end Go.Proofs.Yticnfekjbknomaa
/- What the program's methods on linked frames and on the array answer. -/
namespace Go.Proofs.Yticnfekjbknomaa
open Go.ChangeShapes Go.WideShapes Go.ChangeAt Go.RowKit
set_option linter.unusedVariables false

theorem tri_of_range {w : World} {b : Nat} {xs : List IV} (h : w.rangeAt b 0 (isC xs)) {i : Nat} (hi : i < xs.length) : Tri w b (i * 3) (xs.getD i iz) := by
  have hc : ∀ j v, j < 3 → (ivC (xs.getD i iz))[j]? = some v → w.cell? ⟨b, i * 3 + j, none⟩ = some v := fun j v hj hv => by
    have := h (i * 3 + j) v (by rw [isC_get xs hi hj]; exact hv)
    rwa [Nat.zero_add] at this
  exact ⟨hc 0 _ (by omega) rfl, hc 1 _ (by omega) rfl, hc 2 _ (by omega) rfl⟩
theorem triW_new (w : World) {xs : List IV} (t : TypeId) {i : Nat} (hi : i < xs.length) : TriW (w.alloc (.cells (isC xs).toArray t)) w.heap.size (i * 3) (xs.getD i iz) :=
  ⟨tri_of_range (by have := range_row (heap_alloc_new w (.cells (isC xs).toArray t)); rwa [List.toList_toArray] at this) hi, fun j hj => by
    have := (there_row (n := xs.length * 3) (heap_alloc_new w (.cells (isC xs).toArray t)) (by rw [List.size_toArray, isC_len]; exact Nat.le_refl _)) (i * 3 + j) (by omega)
    rw [Nat.zero_add] at this
    exact this.2⟩
theorem indexAt_infos (b : Nat) {k : Nat} (hk : k < 12) (W : World) : (Instr.indexAt 81 (.pointer (some ⟨b, 0, none⟩)) (.int .i64 k)).run Try.prog W = .ok (.pointer (some ⟨b, k * 3, none⟩)) W :=
  run_indexAt_arr (P := Try.prog) 81 12 36 3 Try.underlying81 size_info (by omega) b k hk W

/-- a new linked list, and where it begins; nothing that was there changes -/
def NewChain (us : List Nat) (w : World) (e : Ending) (w' : World) : Prop := ∃ p, e = .returned (.pointer p) ∧ Chain w' us p ∧ (∀ a, p = some a → w.heap.size ≤ a.block) ∧ Below w.heap.size w w'
theorem iclone_any (w : World) (b n : Nat) (xs : List IV) (hl : xs.length ≤ 12) (h : Is w (.slice (some ⟨b, 0, none⟩) n n) xs) :
    Calls Try.prog 116 #[.slice (some ⟨b, 0, none⟩) n n] w (NewV xs w) := by
  have HE : ∀ W : World, (binOp .eql 27 (.slice (some ⟨b, 0, none⟩) n n) (.slice none 0 0)).run Try.prog W = .ok (.bool false) W := fun _ => by kernel_rfl
  have H := Lib.hid h
  have HN := Lib.hid hl
  clear h hl
  have HSO := Lib.hid (OwnV.start w)
  have H2 := Lib.hid (H.out.below HSO.out.bel)
  go_enter Try.func116, Try.ntmps116
  go_wp2_with (at_builtin; refine wpList_append_is (.tmp 5) (.tmp 6) w _ [] rfl HSO.out _ xs rfl H2.out nilOkI_some (by simp only [List.length_nil]; have := HN.out; omega) ?_; intro v2 w2 hown2 hnn2 hgrow2)
  rw [List.nil_append] at hown2
  have HO := Lib.hid hown2
  clear hown2 hnn2 hgrow2
  go_wp2
  go_ret
  exact ⟨_, rfl, HO.out.row, HO.out.bel⟩
set_option maxRecDepth 100000 in
set_option maxHeartbeats 1000000 in
theorem ilist_any (w : World) (xs : List IV) (hl : xs.length = 12) : Calls Try.prog 87 #[.agg (isC xs).toArray] w (NewV xs w) := by
  have HB1 : Hid (Below w.heap.size w (w.alloc (.cells (isC xs).toArray 81))) := Lib.hid ((Below.refl _ _).alloc (Nat.le_refl _) _)
  have HI : Hid (Is (w.alloc (.cells (isC xs).toArray 81)) (.slice (some ⟨w.heap.size, 0, none⟩) 12 12) xs) := Lib.hid (by
    rw [← hl]
    refine ⟨_, _, rfl, Nat.le_refl _, by unfold maxLen; omega, fun i hi => ⟨_, 0, rfl, ?_⟩⟩
    rw [Nat.zero_add]
    exact (triW_new w _ hi).at3)
  have HC := Lib.hid (fun w b h => iclone_any w b 12 xs (by omega) h)
  have HSL := slice_infos
  clear hl
  obtain ⟨C, hC⟩ : ∃ C, C = (isC xs).toArray := ⟨_, rfl⟩
  rw [← hC] at HB1 HI ⊢
  clear hC
  obtain ⟨w0, hw0⟩ : ∃ w0, w0 = w.alloc (.cells C 81) := ⟨_, rfl⟩
  rw [← hw0] at HB1 HI
  go_enter Try.func87, Try.ntmps87
  go_wp2_with fail
  rw [← hw0]
  clear hw0
  refine (HC.out w0 _ HI.out).mono ?_
  rintro e w1 ⟨v1, rfl, hr1, hb1⟩
  have HR := Lib.hid (hr1.wide HB1.out.size (Nat.le_refl _))
  have HB2 := Lib.hid (HB1.out.trans (hb1.mono HB1.out.size))
  clear hr1 hb1
  go_wp2_with fail
  go_ret
  exact ⟨_, rfl, HR.out, HB2.out⟩
end Go.Proofs.Yticnfekjbknomaa
