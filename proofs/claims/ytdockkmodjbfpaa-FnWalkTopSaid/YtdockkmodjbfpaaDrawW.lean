/- What the draws of a memory with a frame and an address give; nothing that was there before the call changes. -/
import Derived.Test.YtdockkmodjbfpaaDrawM
import Derived.Test.YtdockkmodjbfpaaSWalk
import Derived.Deep.RegionHeld
namespace Go.Proofs.Ytdockkmodjbfpaa
open Go.ChangeShapes Go.WideShapes Go.ChangeAt Go.RowKit
set_option linter.unusedVariables false

def addrP (f : Int) : Prop := -1 ≤ f ∧ f ≤ 100
theorem address_any (w0 w : World) (B k : Nat) (hR : Rdr w0 w B k) (hk : k ≤ 900000) :
    Calls Try.prog 39 #[.pointer (some ⟨B, 0, none⟩)] w (Drew addrP w0 B (k + 2) w) := by
  go_enter Try.func39, Try.ntmps39
  go_wp2_with fail
  refine (pick_any w0 _ B k _ hR (by omega) (by omega)).mono ?_
  rintro e w1 ⟨m, h0, h1, rfl, hR1, hO1⟩
  by_cases hm : m = 0
  · subst hm
    have hB1 := rdr_lt hR1
    go_wp2_with fail
    refine (pick_any w0 _ B _ _ (rdr_alloc hR1 _) (by omega) (by omega)).mono ?_
    rintro e w2 ⟨m2, h20, h21, rfl, hR2, hO2⟩
    have hc : ∀ o, w2.cell? ⟨w1.heap.size, o, none⟩ = (w1.alloc (.cells #[.int .i64 (-1), .int .i64 64, .int .i64 100] 3)).cell? ⟨w1.heap.size, o, none⟩ := fun o => hO2.cell (by omega)
    have hg := gtrans hO1.grown (gtrans (galloc _ _ _) hO2.grown)
    have hmm : m2 = 0 ∨ m2 = 1 ∨ m2 = 2 := by omega
    rcases hmm with rfl | rfl | rfl
    · have hc0 : w2.cell? ⟨w1.heap.size, 0, none⟩ = some (.int .i64 (-1)) := (hc 0).trans (new_cell rfl)
      clear hc
      go_wp2_with fail
      go_ret
      exact drew_mk (by unfold addrP; omega) hR2 (by omega) hg
    · have hc1 : w2.cell? ⟨w1.heap.size, 1, none⟩ = some (.int .i64 64) := (hc 1).trans (new_cell rfl)
      clear hc
      go_wp2_with fail
      go_ret
      exact drew_mk (by unfold addrP; omega) hR2 (by omega) hg
    · have hc2 : w2.cell? ⟨w1.heap.size, 2, none⟩ = some (.int .i64 100) := (hc 2).trans (new_cell rfl)
      clear hc
      go_wp2_with fail
      go_ret
      exact drew_mk (by unfold addrP; omega) hR2 (by omega) hg
  · have hm' : (m == 0) = false := by simpa using hm
    go_wp2_with fail
    refine (pick_any w0 _ B _ _ hR1 (by omega) (by omega)).mono ?_
    rintro e w2 ⟨m2, h20, h21, rfl, hR2, hO2⟩
    go_wp2_with fail
    go_ret
    exact drew_mk (by unfold addrP; omega) hR2 (by omega) (gtrans hO1.grown hO2.grown)

theorem drawWalkTables_any (W : World) (a : Option Addr) (len cap : Nat) (zs : List Int) (hr : Row .u8 W a len cap zs) :
    Calls Try.prog 18 #[.slice a len cap] W (DrewM1 frameP W) := by
  go_enter Try.func18, Try.ntmps18
  go_wp2_with fail
  refine (open_any W a len cap zs hr).mono ?_
  clear hr
  rintro e w1 ⟨rfl, hR1⟩
  have hlt := rdr_lt hR1
  go_wp2_with fail
  refine (mem_any W _ _ _ hR1 (by omega)).mono ?_
  rintro e w2 ⟨v, xss, rfl, hm, hs1, hs2, hR2, hg2⟩
  have HS : Hid (Small xss) := Lib.hid ⟨hs1, hs2⟩
  have HM2 := Lib.hid hm
  clear hs1 hs2 hR1 hm hg2
  go_wp2_with fail
  refine (frame_any W _ _ _ hR2 (by omega)).mono ?_
  rintro e w3 ⟨f, hf, rfl, hR3, hg3⟩
  have HM3 := Lib.hid (HM2.out.grown hg3 hlt (Nat.le_refl _))
  clear hg3 hR2
  go_wp2_with fail
  go_ret2
  exact drewM1_mk hf HM3.out HS.out hR3
theorem drawWalkFrames_any (W : World) (a : Option Addr) (len cap : Nat) (zs : List Int) (hr : Row .u8 W a len cap zs) :
    Calls Try.prog 25 #[.slice a len cap] W (DrewM1 frameP W) := by
  have HC := Lib.hid (drawWalkTables_any W a len cap zs hr)
  clear hr
  go_enter Try.func25, Try.ntmps25
  go_wp2_with fail
  refine HC.out.mono ?_
  rintro e w1 ⟨v, xss, f, hf, rfl, hm, hs, hb⟩
  have HE : Hid (DrewM1 frameP W (.returned (.tuple #[v, .int .i64 f])) w1) := Lib.hid ⟨v, xss, f, hf, rfl, hm, hs, hb⟩
  clear hm hs hb
  go_wp2_with fail
  go_ret2
  exact HE.out

/-- a word of a valid memory, and what becomes of the memory where another is stored -/
theorem MatW.spot {w : World} {B0 B1 : Nat} {v : Value} {xss : List (List Int)} (h : MatW w B0 B1 v xss) (hm : memOk xss = true) {i j : Nat} (hi : i < 12) (hj : j < 4) :
    ∃ b o c g p d, v = .slice (some ⟨b, o, none⟩) 12 c ∧ B0 ≤ b ∧ b < B1 ∧ w.cell? ⟨b, o + i, none⟩ = some (.slice (some ⟨g, p, none⟩) 4 d) ∧ B0 ≤ g ∧ g < B1 ∧ b ≠ g ∧ w.cell? ⟨g, p + j, none⟩ = some (.int .i64 ((xss.getD i []).getD j 0)) ∧ w.frozen? ⟨g, p + j, none⟩ = false ∧
      ∀ (w' : World), (∀ q, B0 ≤ q → q < B1 → w'.heap[q]? = w.heap[q]?) → ∀ x : Int, MatW (w'.setCell ⟨g, p + j, none⟩ (.int .i64 x)) B0 B1 v (mput xss i j x) := by
  obtain ⟨a, cap, A, C, rfl, h1, h2, h3⟩ := h
  have hl := mem_len hm
  have hr := mem_row hm hi
  obtain ⟨b, o, rfl, hb0, hb1, hc, _⟩ := h3.top i (by omega)
  obtain ⟨g, p, hA, hg0, hg1, hgc, hgf, hne⟩ := h3.row i (by omega) j (by omega)
  simp only [hr] at hc
  rw [hA] at hc
  refine ⟨b, o, cap, g, p, _, by rw [hl], hb0, hb1, hc, hg0, hg1, hne b o rfl, hgc, hgf, fun w' e x => ⟨_, cap, A, C, by rw [mput_len], by rw [mput_len]; exact h1, h2, ?_⟩⟩
  exact ((h3.of_blocks e).store (by omega) (by omega) hA x).congr (mput_len _ _ _ _) (fun k _ => mput_row _ _ _ _ _) (fun k _ m _ => mput_get _ _ _ _ _ _ (by omega) (by omega))
theorem small_mput {xss : List (List Int)} {i j : Nat} {x : Int} (h : Small xss) : Small (mput xss i j x) :=
  ⟨by rw [mput_len]; exact h.1, fun k hk => by rw [mput_row]; rw [mput_len] at hk; exact h.2 k hk⟩
theorem l1Put_any (w : World) (f : Int) (b : Bool) (h0 : 0 ≤ f) (h1 : f < 12) :
    Calls Try.prog 43 #[.int .i64 f, .bool b] w fun e w' => e = .returned (.int .i64 (bif b then 4 * f + 3 else 4 * f + 1)) ∧ w = w' := by
  cases b
  all_goals
    go_enter Try.func43, Try.ntmps43
    go_wp2
    go_ret
    exact ⟨by simp, rfl⟩
/-- a memory, a frame and an address have been drawn -/
def wkP (f t : Int) : Prop := (-1 ≤ f ∧ f ≤ 100) ∧ -1 ≤ t ∧ t ≤ 100
theorem mput_ok3 {xss : List (List Int)} {i j : Nat} {x : Int} (h : memOk xss = true) (hi : i < 12) (hj : j < 4) (h0 : 0 ≤ x) (h1 : x ≤ 9999) : memOk (mput xss i j x) = true := by
  have hl := mem_len h
  have hw : ∀ k, k < 12 → wordsOk ((mput xss i j x).getD k []) = true := fun k hk => by
    unfold wordsOk
    refine decide_eq_true ⟨fun y hy => ?_, by rw [mput_row]; exact mem_row h hk⟩
    obtain ⟨m, hm, rfl⟩ := List.getElem_of_mem hy
    have hm4 : m < 4 := by rw [mput_row, mem_row h hk] at hm; exact hm
    rw [← getD_lt (d := 0) hm, mput_get _ _ _ _ _ _ (by omega) (by rw [mem_row h hi]; exact hj)]
    by_cases hh : k = i ∧ m = j
    · rw [if_pos hh]; exact ⟨h0, h1⟩
    · rw [if_neg hh]; exact mem_word h hk hm4
  unfold memOk
  refine decide_eq_true ⟨fun ys hys => ?_, by rw [mput_len]; exact hl⟩
  obtain ⟨k, hk, rfl⟩ := List.getElem_of_mem hys
  have := hw k (by rw [mput_len] at hk; omega)
  rwa [getD_lt hk] at this
theorem put_bounds {m : Nat} (hm : m < 12) (b : Bool) : 0 ≤ (bif b then 4 * (m : Int) + 3 else 4 * (m : Int) + 1) ∧ (bif b then 4 * (m : Int) + 3 else 4 * (m : Int) + 1) ≤ 9999 := by
  cases b <;> simp <;> omega
theorem Only.blocks {B B0 B1 : Nat} {w w' : World} (h : Only B w w') (hB : B < B0) : ∀ q, B0 ≤ q → q < B1 → w'.heap[q]? = w.heap[q]? := fun q h0 _ => h.2.2.2.2 q (by omega)

set_option maxHeartbeats 1000000 in
theorem drawWalk_any (W : World) (a : Option Addr) (len cap : Nat) (zs : List Int) (hr : Row .u8 W a len cap zs) :
    Calls Try.prog 12 #[.slice a len cap] W (DrewM2 wkP W) := by
  go_enter Try.func12, Try.ntmps12
  go_wp2_with fail
  refine (open_any W a len cap zs hr).mono ?_
  clear hr
  rintro e w1 ⟨rfl, hR1⟩
  have hlt := rdr_lt hR1
  have HWB : Hid (W.heap.size ≤ w1.heap.size) := Lib.hid (rdr_below hR1).size
  go_wp2_with fail
  refine (mem_any W _ _ _ hR1 (by omega)).mono ?_
  rintro e w2 ⟨v, xss, rfl, hm, hs1, hs2, hR2, hg2⟩
  have HS : Hid (Small xss) := Lib.hid ⟨hs1, hs2⟩
  have HM2 := Lib.hid hm
  clear hs1 hs2 hR1 hm hg2
  go_wp2_with fail
  refine (frame_any W _ _ _ hR2 (by omega)).mono ?_
  rintro e w3 ⟨f, hf, rfl, hR3, hg3⟩
  have HM3 := Lib.hid (HM2.out.grown hg3 hlt (Nat.le_refl _))
  have Z3 : w2.heap.size ≤ w3.heap.size := hg3.size
  clear hg3 hR2 HM2
  go_wp2_with fail
  refine (address_any W _ _ _ hR3 (by omega)).mono ?_
  rintro e w4 ⟨t, ht, rfl, hR4, hg4⟩
  have HM4 := Lib.hid (HM3.out.grown hg4 hlt Z3)
  have Z4 : w2.heap.size ≤ w4.heap.size := Nat.le_trans Z3 hg4.size
  have hP : wkP f t := ⟨hf, ht⟩
  have HF := Lib.hid hP
  clear hg4 hR3 HM3 hf ht hP
  go_wp2_with fail
  refine (pick_any W _ _ _ _ hR4 (by omega) (by omega)).mono ?_
  rintro e w5 ⟨m5, h50, h51, rfl, hR5, hO5⟩
  have HM5 := Lib.hid (HM4.out.grown hO5.grown hlt Z4)
  have Z5 : w2.heap.size ≤ w5.heap.size := by rw [hO5.2.2.2.1]; exact Z4
  clear hO5 hR4 HM4
  by_cases hm5 : m5 = 0
  · subst hm5
    have HE := Lib.hid (drewM2_mk HF.out HM5.out HS.out hR5)
    clear hR5
    go_wp2_with fail
    go_ret3
    exact HE.out
  have hp5 : decide (0 < m5) = true := by simp; omega
  have hp5' : 0 < m5 := by omega
  have HV := Lib.hid (valid_any w5 v xss HM5.out.rows)
  obtain ⟨bm, hbm⟩ : ∃ bm, bm = memOk xss := ⟨_, rfl⟩
  rw [← hbm] at HV
  have HBM := Lib.hid hbm
  clear hbm hm5
  go_wp2_with fail
  refine HV.out.mono ?_
  rintro e w' ⟨rfl, rfl⟩
  cases bm with
  | false =>
    have HE := Lib.hid (drewM2_mk HF.out HM5.out HS.out hR5)
    clear hR5
    go_wp2_with fail
    go_ret3
    exact HE.out
  | true =>
  by_cases hf12 : ¬ (0 ≤ f ∧ f < 12)
  · have HE := Lib.hid (drewM2_mk HF.out HM5.out HS.out hR5)
    clear hR5
    go_wp2_with fail
    refine (l1Frame_no _ _ hf12).mono ?_
    rintro e w' ⟨rfl, rfl⟩
    clear hf12
    go_wp2_with fail
    go_ret3
    exact HE.out
  replace hf12 := Decidable.not_not.1 hf12
  go_wp2_with fail
  refine (l1Frame_yes _ _ hf12).mono ?_
  rintro e w' ⟨rfl, rfl⟩
  by_cases ht64 : ¬ (0 ≤ t ∧ t < 64)
  · have HE := Lib.hid (drewM2_mk HF.out HM5.out HS.out hR5)
    clear hR5
    go_wp2_with fail
    refine (l1Address_no _ _ ht64).mono ?_
    rintro e w' ⟨rfl, rfl⟩
    clear ht64
    go_wp2_with fail
    go_ret3
    exact HE.out
  replace ht64 := Decidable.not_not.1 ht64
  go_wp2_with fail
  refine (l1Address_yes _ _ ht64).mono ?_
  rintro e w' ⟨rfl, rfl⟩
  go_wp2_with fail
  refine (pick_any W _ _ _ _ hR5 (by omega) (by omega)).mono ?_
  rintro e w6 ⟨m6, h60, h61, rfl, hR6, hO6⟩
  have HM6 := Lib.hid (HM5.out.grown hO6.grown hlt Z5)
  have Z6 : w2.heap.size ≤ w6.heap.size := by rw [hO6.2.2.2.1]; exact Z5
  clear hO6 hR5 HM5
  obtain ⟨hf0, hf1⟩ := hf12
  obtain ⟨ht0, ht1⟩ := ht64
  obtain ⟨f, rfl⟩ := Int.eq_ofNat_of_zero_le hf0
  obtain ⟨m6, rfl⟩ := Int.eq_ofNat_of_zero_le h60
  obtain ⟨i, hi⟩ := Int.eq_ofNat_of_zero_le (show 0 ≤ t / 16 by omega)
  obtain ⟨j, hj⟩ := Int.eq_ofNat_of_zero_le (show 0 ≤ t / 4 % 4 by omega)
  have hi4 : (i : Int) < 4 := by omega
  have hj4 : (j : Int) < 4 := by omega
  have HMEM : Hid (memOk xss = true) := Lib.hid HBM.out.symm
  obtain ⟨b, o, c, g, p, d, rfl, hb0, hb1, hc, hg0, hg1, hbg, hx, hfz, hput⟩ := HM6.out.spot HMEM.out (i := f) (j := i) (by omega) (by omega)
  have hbW : b ≠ W.heap.size := by omega
  have hgW : g ≠ W.heap.size := by omega
  have hgp : (g = b) = False := by simp; omega
  go_wp2_with fail
  refine wp_region_held_drew (S := fun w' => w'.cell? ⟨b, o + f, none⟩ = some (.slice (some ⟨g, p, none⟩) 4 d)) (by kernel_rfl) hc (fun hHeld => ?_)
  refine wpAnyH_take (i := 0) (oi := { dst := some 35, op := .move (.tmp 6), type := _, pos := _, after := _, guard := none }) (v := .slice (some ⟨b, o, none⟩) 12 c) rfl (by kernel_rfl) (by kernel_rfl) (by kernel_rfl) (fun _ _ _ h => h) (Or.inl ⟨by rfl, fun wh hSw => ?_⟩) hHeld ?_
  · (dsimp only at hSw; go_simp)
  simp only [Act.put, List.setIfInBounds_toArray, List.set_cons_zero, List.set_cons_succ]
  refine wpAnyH_take (i := 1) (oi := { dst := some 36, op := .move (.tmp 7), type := _, pos := _, after := _, guard := none }) (v := .int .i64 f) rfl (by kernel_rfl) (by kernel_rfl) (by kernel_rfl) (fun _ _ _ h => h) (Or.inl ⟨by rfl, fun wh hSw => ?_⟩) hHeld ?_
  · (dsimp only at hSw; go_simp)
  simp only [Act.put, List.setIfInBounds_toArray, List.set_cons_zero, List.set_cons_succ]
  refine wpAnyH_take (i := 2) (oi := { dst := some 37, op := .indexAddr 23 (.tmp 35) (.tmp 36), type := _, pos := _, after := _, guard := none }) (v := .pointer (some ⟨b, o + f, none⟩)) rfl (by kernel_rfl) (by kernel_rfl) (by kernel_rfl) (fun _ _ _ h => h) (Or.inl ⟨by rfl, fun wh hSw => ?_⟩) hHeld ?_
  · (dsimp only at hSw; go_simp)
  simp only [Act.put, List.setIfInBounds_toArray, List.set_cons_zero, List.set_cons_succ]
  refine wpAnyH_take (i := 3) (oi := { dst := some 38, op := .load 34 (.tmp 37), type := _, pos := _, after := _, guard := none }) (v := .slice (some ⟨g, p, none⟩) 4 d) rfl (by kernel_rfl) (by kernel_rfl) (by kernel_rfl) (fun _ _ _ h => h) (Or.inl ⟨by rfl, fun wh hSw => ?_⟩) hHeld ?_
  · (dsimp only at hSw; go_simp)
  simp only [Act.put, List.setIfInBounds_toArray, List.set_cons_zero, List.set_cons_succ]
  refine wpAnyH_take (i := 4) (oi := { dst := some 39, op := .move (.tmp 8), type := _, pos := _, after := _, guard := none }) (v := .int .i64 t) rfl (by kernel_rfl) (by kernel_rfl) (by kernel_rfl) (fun _ _ _ h => h) (Or.inl ⟨by rfl, fun wh hSw => ?_⟩) hHeld ?_
  · (dsimp only at hSw; go_simp)
  simp only [Act.put, List.setIfInBounds_toArray, List.set_cons_zero, List.set_cons_succ]
  refine wpAnyH_take (i := 5) (oi := { dst := some 40, op := .binOp .quo 3 (.tmp 39) (.const (.int .i64 16)) 3, type := _, pos := _, after := _, guard := none }) (v := .int .i64 i) rfl (by kernel_rfl) (by kernel_rfl) (by kernel_rfl) (fun _ _ _ h => h) (Or.inl ⟨by rfl, fun wh hSw => ?_⟩) hHeld ?_
  · (dsimp only at hSw; go_simp; first | done | (rw [Int.tdiv_eq_ediv_of_nonneg ht0, hi]; done) | (rw [Int.tdiv_eq_ediv_of_nonneg ht0, hi]; simp [IntKind.wrap, IntKind.bits, IntKind.signed]; done) | (rw [Int.tdiv_eq_ediv_of_nonneg ht0, hi]; simp [IntKind.wrap, IntKind.bits, IntKind.signed]; omega))
  simp only [Act.put, List.setIfInBounds_toArray, List.set_cons_zero, List.set_cons_succ]
  refine wpAnyH_take (i := 6) (oi := { dst := some 41, op := .move (.tmp 9), type := _, pos := _, after := _, guard := none }) (v := .int .i64 m6) rfl (by kernel_rfl) (by kernel_rfl) (by kernel_rfl) (fun _ _ _ h => h) (Or.inl ⟨by rfl, fun wh hSw => ?_⟩) hHeld ?_
  · (dsimp only at hSw; go_simp)
  simp only [Act.put, List.setIfInBounds_toArray, List.set_cons_zero, List.set_cons_succ]
  refine wpAnyH_take (i := 7) (oi := { dst := some 42, op := .move (.tmp 5), type := _, pos := _, after := _, guard := none }) (v := .pointer (some ⟨W.heap.size, 0, none⟩)) rfl (by kernel_rfl) (by kernel_rfl) (by kernel_rfl) (fun _ _ _ h => h) (Or.inl ⟨by rfl, fun wh hSw => ?_⟩) hHeld ?_
  · (dsimp only at hSw; go_simp)
  simp only [Act.put, List.setIfInBounds_toArray, List.set_cons_zero, List.set_cons_succ]
  refine wpAnyH_ready (rs := [8]) (by kernel_rfl) (by simp) ?_
  refine AllReadyH.cons (o := { dst := some 43, op := .call { callee := .value (.func 40), args := #[.tmp 42, .const (.int .i64 3)], argTypes := #[50, 3] }, type := _, pos := _, after := _, guard := none }) rfl (fun K hK => ?_) AllReadyH.nil
  go_simp
  refine (pick_any W _ _ _ _ (rdr_drew hR6) (by omega) (by omega)).mono ?_
  rintro e w7 ⟨m7, h70, h71, rfl, hR7, hO7⟩
  refine hK.out _ _ ?_ (fun hHeld => ?_)
  · exact (hO7.cell hbW).trans hc
  clear hK K
  try simp only [Act.put, List.setIfInBounds_toArray, List.set_cons_zero, List.set_cons_succ]
  refine wpAnyH_take (i := 9) (oi := { dst := some 44, op := .binOp .gtr 3 (.tmp 43) (.const (.int .i64 0)) 3, type := _, pos := _, after := _, guard := none }) (v := .bool (decide (0 < m7))) rfl (by kernel_rfl) (by kernel_rfl) (by kernel_rfl) (fun _ _ _ h => h) (Or.inl ⟨by rfl, fun wh hSw => ?_⟩) hHeld ?_
  · (dsimp only at hSw; go_simp)
  simp only [Act.put, List.setIfInBounds_toArray, List.set_cons_zero, List.set_cons_succ]
  have hx7 : w7.cell? ⟨g, p + i, none⟩ = some (.int .i64 ((xss.getD f []).getD i 0)) := (hO7.cell hgW).trans hx
  have hfz7 : w7.frozen? ⟨g, p + i, none⟩ = false := (World.frozen?_of_block (w := w6.drew) (hO7.2.2.2.2 g hgW)).trans hfz
  obtain ⟨x, hxx⟩ : ∃ x, x = (bif decide (0 < m7) then 4 * (m6 : Int) + 3 else 4 * (m6 : Int) + 1) := ⟨_, rfl⟩
  have HPX := Lib.hid (fun w => l1Put_any w (m6 : Int) (decide (0 < m7)) (by omega) h61)
  have hxb := put_bounds (m := m6) (by omega) (decide (0 < m7))
  rw [← hxx] at HPX hxb
  clear hxx
  refine wpAnyH_ready (rs := [10]) (by kernel_rfl) (by simp) ?_
  refine AllReadyH.cons (o := { dst := some 45, op := .call { callee := .value (.func 43), args := #[.tmp 41, .tmp 44], argTypes := #[3, 4] }, type := _, pos := _, after := _, guard := none }) rfl (fun K hK => ?_) AllReadyH.nil
  go_simp
  refine (HPX.out _).mono ?_
  rintro e w' ⟨rfl, rfl⟩
  refine hK.out _ _ ?_ (fun hHeld => ?_)
  · exact hHeld
  clear hK K
  try simp only [Act.put, List.setIfInBounds_toArray, List.set_cons_zero, List.set_cons_succ]
  refine wpAnyH_take (i := 11) (oi := { dst := some 46, op := .indexAddr 34 (.tmp 38) (.tmp 40), type := _, pos := _, after := _, guard := none }) (v := .pointer (some ⟨g, p + i, none⟩)) rfl (by kernel_rfl) (by kernel_rfl) (by kernel_rfl) (fun _ _ _ h => h) (Or.inl ⟨by rfl, fun wh hSw => ?_⟩) hHeld ?_
  · (dsimp only at hSw; go_simp)
  simp only [Act.put, List.setIfInBounds_toArray, List.set_cons_zero, List.set_cons_succ]
  refine wpAnyH_ready (rs := [12]) (by kernel_rfl) (by simp) ?_
  refine AllReadyH.cons (o := { dst := none, op := .store 3 (.tmp 46) (.tmp 45), type := _, pos := _, after := _, guard := none }) rfl (fun K hK => ?_) AllReadyH.nil
  go_simp
  refine hK.out _ _ ?_ (fun hHeld => ?_)
  · exact (cell_set_other (.inl hbg)).trans hHeld
  clear hK K
  try simp only [Act.put, List.setIfInBounds_toArray, List.set_cons_zero, List.set_cons_succ]
  refine wpAnyH_done (by kernel_rfl) ?_ _
  have HM7 := Lib.hid (hput w7 (fun q h0 h1 => (hO7.2.2.2.2 q (by omega))) x)
  have HR7 := Lib.hid (rdr_store hR7 (p := p + i) hgW (by omega) (.int .i64 x))
  have HMEM7 := Lib.hid (mput_ok3 (x := x) HMEM.out (i := f) (j := i) (by omega) (by omega) hxb.1 hxb.2)
  have HS7 := Lib.hid (small_mput (i := f) (j := i) (x := x) HS.out)
  have Z7 : w2.heap.size ≤ (w7.setCell ⟨g, p + i, none⟩ (.int .i64 x)).heap.size := by
    have := hO7.2.2.2.1
    simp [World.setCell]
    simp at this
    omega
  obtain ⟨w8, hw8⟩ : ∃ w8, w8 = w7.setCell ⟨g, p + i, none⟩ (.int .i64 x) := ⟨_, rfl⟩
  rw [← hw8] at HM7 HR7 Z7 ⊢
  obtain ⟨xs1, hxs1⟩ : ∃ xs1, xs1 = mput xss f i x := ⟨_, rfl⟩
  rw [← hxs1] at HM7 HMEM7 HS7
  clear hw8 hxs1 hHeld HS HMEM HM6 hput hx7 hfz7 hc hx hfz hO7 hR7 hxb HBM HV hR6
  obtain ⟨b', o', c', g2, p2, d2, e0, hb20, hb21, hc2, hg20, hg21, hbg2, hx2, hfz2, hput2⟩ := HM7.out.spot HMEM7.out (i := m6) (j := j) (by omega) (by omega)
  injection e0 with e0 _ e3
  injection e0 with e0
  injection e0 with e1 e2
  subst e1
  subst e2
  subst e3
  have hg2W : g2 ≠ W.heap.size := by omega
  have hgp2 : (g2 = b) = False := by simp; omega
  have ht4 : 0 ≤ t / 4 := by omega
  go_wp2_with fail
  refine wp_region_held_drew (S := fun w' => w'.cell? ⟨b, o + m6, none⟩ = some (.slice (some ⟨g2, p2, none⟩) 4 d2)) (by kernel_rfl) hc2 (fun hHeld => ?_)
  refine wpAnyH_take (i := 0) (oi := { dst := some 47, op := .move (.tmp 6), type := _, pos := _, after := _, guard := none }) (v := .slice (some ⟨b, o, none⟩) 12 c) rfl (by kernel_rfl) (by kernel_rfl) (by kernel_rfl) (fun _ _ _ h => h) (Or.inl ⟨by rfl, fun wh hSw => ?_⟩) hHeld ?_
  · (dsimp only at hSw; go_simp)
  simp only [Act.put, List.setIfInBounds_toArray, List.set_cons_zero, List.set_cons_succ]
  refine wpAnyH_take (i := 1) (oi := { dst := some 48, op := .move (.tmp 9), type := _, pos := _, after := _, guard := none }) (v := .int .i64 m6) rfl (by kernel_rfl) (by kernel_rfl) (by kernel_rfl) (fun _ _ _ h => h) (Or.inl ⟨by rfl, fun wh hSw => ?_⟩) hHeld ?_
  · (dsimp only at hSw; go_simp)
  simp only [Act.put, List.setIfInBounds_toArray, List.set_cons_zero, List.set_cons_succ]
  refine wpAnyH_take (i := 2) (oi := { dst := some 49, op := .indexAddr 23 (.tmp 47) (.tmp 48), type := _, pos := _, after := _, guard := none }) (v := .pointer (some ⟨b, o + m6, none⟩)) rfl (by kernel_rfl) (by kernel_rfl) (by kernel_rfl) (fun _ _ _ h => h) (Or.inl ⟨by rfl, fun wh hSw => ?_⟩) hHeld ?_
  · (dsimp only at hSw; go_simp)
  simp only [Act.put, List.setIfInBounds_toArray, List.set_cons_zero, List.set_cons_succ]
  refine wpAnyH_take (i := 3) (oi := { dst := some 50, op := .load 34 (.tmp 49), type := _, pos := _, after := _, guard := none }) (v := .slice (some ⟨g2, p2, none⟩) 4 d2) rfl (by kernel_rfl) (by kernel_rfl) (by kernel_rfl) (fun _ _ _ h => h) (Or.inl ⟨by rfl, fun wh hSw => ?_⟩) hHeld ?_
  · (dsimp only at hSw; go_simp)
  simp only [Act.put, List.setIfInBounds_toArray, List.set_cons_zero, List.set_cons_succ]
  refine wpAnyH_take (i := 4) (oi := { dst := some 51, op := .move (.tmp 8), type := _, pos := _, after := _, guard := none }) (v := .int .i64 t) rfl (by kernel_rfl) (by kernel_rfl) (by kernel_rfl) (fun _ _ _ h => h) (Or.inl ⟨by rfl, fun wh hSw => ?_⟩) hHeld ?_
  · (dsimp only at hSw; go_simp)
  simp only [Act.put, List.setIfInBounds_toArray, List.set_cons_zero, List.set_cons_succ]
  refine wpAnyH_take (i := 5) (oi := { dst := some 52, op := .binOp .quo 3 (.tmp 51) (.const (.int .i64 4)) 3, type := _, pos := _, after := _, guard := none }) (v := .int .i64 (t / 4)) rfl (by kernel_rfl) (by kernel_rfl) (by kernel_rfl) (fun _ _ _ h => h) (Or.inl ⟨by rfl, fun wh hSw => ?_⟩) hHeld ?_
  · (dsimp only at hSw; go_simp; first | done | (rw [Int.tdiv_eq_ediv_of_nonneg ht0]; done) | (rw [Int.tdiv_eq_ediv_of_nonneg ht0]; simp [IntKind.wrap, IntKind.bits, IntKind.signed]; done) | (rw [Int.tdiv_eq_ediv_of_nonneg ht0]; simp [IntKind.wrap, IntKind.bits, IntKind.signed]; omega))
  simp only [Act.put, List.setIfInBounds_toArray, List.set_cons_zero, List.set_cons_succ]
  refine wpAnyH_take (i := 6) (oi := { dst := some 53, op := .binOp .rem 3 (.tmp 52) (.const (.int .i64 4)) 3, type := _, pos := _, after := _, guard := none }) (v := .int .i64 j) rfl (by kernel_rfl) (by kernel_rfl) (by kernel_rfl) (fun _ _ _ h => h) (Or.inl ⟨by rfl, fun wh hSw => ?_⟩) hHeld ?_
  · (dsimp only at hSw; go_simp; first | done | (rw [Int.tmod_eq_emod_of_nonneg ht4, hj]; done) | (rw [Int.tmod_eq_emod_of_nonneg ht4, hj]; simp [IntKind.wrap, IntKind.bits, IntKind.signed]; done) | (rw [Int.tmod_eq_emod_of_nonneg ht4, hj]; simp [IntKind.wrap, IntKind.bits, IntKind.signed]; omega))
  simp only [Act.put, List.setIfInBounds_toArray, List.set_cons_zero, List.set_cons_succ]
  refine wpAnyH_take (i := 7) (oi := { dst := some 54, op := .move (.tmp 5), type := _, pos := _, after := _, guard := none }) (v := .pointer (some ⟨W.heap.size, 0, none⟩)) rfl (by kernel_rfl) (by kernel_rfl) (by kernel_rfl) (fun _ _ _ h => h) (Or.inl ⟨by rfl, fun wh hSw => ?_⟩) hHeld ?_
  · (dsimp only at hSw; go_simp)
  simp only [Act.put, List.setIfInBounds_toArray, List.set_cons_zero, List.set_cons_succ]
  refine wpAnyH_take (i := 9) (oi := { dst := some 56, op := .move (.tmp 5), type := _, pos := _, after := _, guard := none }) (v := .pointer (some ⟨W.heap.size, 0, none⟩)) rfl (by kernel_rfl) (by kernel_rfl) (by kernel_rfl) (fun _ _ _ h => h) (Or.inl ⟨by rfl, fun wh hSw => ?_⟩) hHeld ?_
  · (dsimp only at hSw; go_simp)
  simp only [Act.put, List.setIfInBounds_toArray, List.set_cons_zero, List.set_cons_succ]
  refine wpAnyH_ready (rs := [8]) (by kernel_rfl) (by simp) ?_
  refine AllReadyH.cons (o := { dst := some 55, op := .call { callee := .value (.func 40), args := #[.tmp 54, .const (.int .i64 12)], argTypes := #[50, 3] }, type := _, pos := _, after := _, guard := none }) rfl (fun K hK => ?_) AllReadyH.nil
  go_simp
  refine (pick_any W _ _ _ _ (rdr_drew HR7.out) (by omega) (by omega)).mono ?_
  rintro e w9 ⟨m9, h90, h91, rfl, hR9, hO9⟩
  refine hK.out _ _ ?_ (fun hHeld => ?_)
  · exact (hO9.cell hbW).trans hc2
  clear hK K
  try simp only [Act.put, List.setIfInBounds_toArray, List.set_cons_zero, List.set_cons_succ]
  refine wpAnyH_ready (rs := [10]) (by kernel_rfl) (by simp) ?_
  refine AllReadyH.cons (o := { dst := some 57, op := .call { callee := .value (.func 40), args := #[.tmp 56, .const (.int .i64 3)], argTypes := #[50, 3] }, type := _, pos := _, after := _, guard := none }) rfl (fun K hK => ?_) AllReadyH.nil
  go_simp
  refine (pick_any W _ _ _ _ hR9 (by omega) (by omega)).mono ?_
  rintro e wT ⟨m10, hT0, hT1, rfl, hRT, hOT⟩
  refine hK.out _ _ ?_ (fun hHeld => ?_)
  · exact (hOT.cell hbW).trans hHeld
  clear hK K
  try simp only [Act.put, List.setIfInBounds_toArray, List.set_cons_zero, List.set_cons_succ]
  refine wpAnyH_take (i := 11) (oi := { dst := some 58, op := .binOp .gtr 3 (.tmp 57) (.const (.int .i64 0)) 3, type := _, pos := _, after := _, guard := none }) (v := .bool (decide (0 < m10))) rfl (by kernel_rfl) (by kernel_rfl) (by kernel_rfl) (fun _ _ _ h => h) (Or.inl ⟨by rfl, fun wh hSw => ?_⟩) hHeld ?_
  · (dsimp only at hSw; go_simp)
  simp only [Act.put, List.setIfInBounds_toArray, List.set_cons_zero, List.set_cons_succ]
  have hxT : wT.cell? ⟨g2, p2 + j, none⟩ = some (.int .i64 ((xs1.getD m6 []).getD j 0)) := (hOT.cell hg2W).trans ((hO9.cell hg2W).trans hx2)
  have hfzT : wT.frozen? ⟨g2, p2 + j, none⟩ = false := (World.frozen?_of_block (w := w9) (hOT.2.2.2.2 g2 hg2W)).trans ((World.frozen?_of_block (w := w8.drew) (hO9.2.2.2.2 g2 hg2W)).trans hfz2)
  obtain ⟨m9, rfl⟩ := Int.eq_ofNat_of_zero_le h90
  obtain ⟨y, hyy⟩ : ∃ y, y = (bif decide (0 < m10) then 4 * (m9 : Int) + 3 else 4 * (m9 : Int) + 1) := ⟨_, rfl⟩
  have HPY := Lib.hid (fun w => l1Put_any w (m9 : Int) (decide (0 < m10)) (by omega) h91)
  rw [← hyy] at HPY
  clear hyy
  refine wpAnyH_ready (rs := [12]) (by kernel_rfl) (by simp) ?_
  refine AllReadyH.cons (o := { dst := some 59, op := .call { callee := .value (.func 43), args := #[.tmp 55, .tmp 58], argTypes := #[3, 4] }, type := _, pos := _, after := _, guard := none }) rfl (fun K hK => ?_) AllReadyH.nil
  go_simp
  refine (HPY.out _).mono ?_
  rintro e w' ⟨rfl, rfl⟩
  refine hK.out _ _ ?_ (fun hHeld => ?_)
  · exact hHeld
  clear hK K
  try simp only [Act.put, List.setIfInBounds_toArray, List.set_cons_zero, List.set_cons_succ]
  refine wpAnyH_take (i := 13) (oi := { dst := some 60, op := .indexAddr 34 (.tmp 50) (.tmp 53), type := _, pos := _, after := _, guard := none }) (v := .pointer (some ⟨g2, p2 + j, none⟩)) rfl (by kernel_rfl) (by kernel_rfl) (by kernel_rfl) (fun _ _ _ h => h) (Or.inl ⟨by rfl, fun wh hSw => ?_⟩) hHeld ?_
  · (dsimp only at hSw; go_simp)
  simp only [Act.put, List.setIfInBounds_toArray, List.set_cons_zero, List.set_cons_succ]
  refine wpAnyH_ready (rs := [14]) (by kernel_rfl) (by simp) ?_
  refine AllReadyH.cons (o := { dst := none, op := .store 3 (.tmp 60) (.tmp 59), type := _, pos := _, after := _, guard := none }) rfl (fun K hK => ?_) AllReadyH.nil
  go_simp
  refine hK.out _ _ ?_ (fun hHeld => ?_)
  · exact (cell_set_other (.inl hbg2)).trans hHeld
  clear hK K
  try simp only [Act.put, List.setIfInBounds_toArray, List.set_cons_zero, List.set_cons_succ]
  refine wpAnyH_done (by kernel_rfl) ?_ _
  have HMZ := Lib.hid (hput2 wT (fun q h0 h1 => (hOT.2.2.2.2 q (by omega)).trans (hO9.2.2.2.2 q (by omega))) y)
  have HRZ := Lib.hid (rdr_store hRT (p := p2 + j) hg2W (by omega) (.int .i64 y))
  have HE := Lib.hid (drewM2_mk HF.out HMZ.out (small_mput (i := m6) (j := j) (x := y) HS7.out) HRZ.out)
  clear HMZ HRZ hHeld hxT hfzT hOT hO9 hRT hR9 hput2 hx2 hfz2 hc2
  go_wp2_with fail
  go_ret3
  exact HE.out
end Go.Proofs.Ytdockkmodjbfpaa
