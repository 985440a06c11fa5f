/- Marks that are held are found. -/
import Derived.Test.YtopnomklfkkjfaaIMk
import Derived.Deep.RegionHeld3
namespace Go.Proofs.Ytopnomklfkkjfaa
open Go.ChangeShapes Go.WideShapes Go.ChangeAt Go.RowKit
set_option linter.unusedVariables false

set_option maxHeartbeats 1000000 in
theorem heldInfoS_any (w : World) (a : Option Addr) (n cap : Nat) (h : Is w (.slice a n cap) (mkIs n)) (hn : n ≤ 1048576) :
    Calls Try.prog 31 #[.slice a n cap, .int .i64 1] w fun e w' => e = .returned (.int .i64 ((1 + 3 * n : Nat) : Int)) ∧ Below w.heap.size w w' := by
  have H := Lib.hid h
  clear h
  go_enter Try.func31, Try.ntmps31
  go_wp2
  go_loopw [1, 5] (fun l i wr => ∃ (j : Nat), j ≤ n ∧ i = .int .i64 j ∧ l = .int .i64 ((1 + 3 * j : Nat) : Int) ∧ Hid (Below w.heap.size w wr)) (fun _ i _ => n - (intOf i).toNat)
  case atStart => exact ⟨0, Nat.zero_le _, rfl, rfl, Lib.hid (Below.refl _ _)⟩
  case round =>
    obtain ⟨j, hj, rfl, rfl, HB⟩ := hrel
    by_cases hlt : j < n
    · have hlt' : (j : Int) < (n : Int) := by omega
      have hcell : ∃ g p, a = some ⟨g, p, none⟩ ∧ Tri wr g (p + j * 3) (mkI j) := by
        obtain ⟨a', cap', e, q1, q2, q3⟩ := H.out.below HB.out
        injection e with e1 e2 e3
        subst e1
        obtain ⟨g', p', e, h1⟩ := q3 j (by rw [mkIs_len]; exact hlt)
        rw [mkIs_get hlt] at h1
        exact ⟨_, _, e, h1⟩
      obtain ⟨g, p, rfl, hc⟩ := hcell
      have HT := Lib.hid hc
      have HMK := Lib.hid (fun w => markText_any w (2 + 3 * j) (by omega) (by omega))
      obtain ⟨h0, h1, h2⟩ := hc
      simp only [mkI] at h0 h1 h2
      have HC := Lib.hid (show wr.cell? ⟨g, p + j * 3 + 1, none⟩ = some (.string ⟨(mtext (2 + 3 * j)).toArray⟩) from h1)
      obtain ⟨M, hM⟩ : ∃ M, M = mtext (2 + 3 * j) := ⟨_, rfl⟩
      rw [← hM] at HMK h1 HC
      clear hM
      have HCL := Lib.hid (cell_lt h1)
      clear h1 h2
      go_wp2_with fail
      have z1 : (1 + 3 * (j : Int) + 1) = ((2 + 3 * j : Nat) : Int) := by omega
      rw [z1]
      refine wp_region_held_drew (S := fun w' => w'.cell? ⟨g, p + j * 3 + 1, none⟩ = some (.string ⟨M.toArray⟩)) (by kernel_rfl) HC.out (fun hHeld => ?_)
      refine wpAnyH_take (i := 0) (oi := { dst := some 21, op := .move (.tmp 0), type := _, pos := _, after := _, guard := none }) (v := .slice (some ⟨g, p, none⟩) n cap) rfl (by kernel_rfl) (by kernel_rfl) (by kernel_rfl) (fun _ _ _ h => h) (Or.inl ⟨by rfl, fun wh hSw => ?_⟩) hHeld ?_
      · (dsimp only at hSw; go_simp)
      try simp only [Act.put, List.setIfInBounds_toArray, List.set_cons_zero, List.set_cons_succ]
      refine wpAnyH_take (i := 1) (oi := { dst := some 22, op := .move (.tmp 5), type := _, pos := _, after := _, guard := none }) (v := .int .i64 (j : Int)) rfl (by kernel_rfl) (by kernel_rfl) (by kernel_rfl) (fun _ _ _ h => h) (Or.inl ⟨by rfl, fun wh hSw => ?_⟩) hHeld ?_
      · (dsimp only at hSw; go_simp)
      try simp only [Act.put, List.setIfInBounds_toArray, List.set_cons_zero, List.set_cons_succ]
      refine wpAnyH_take (i := 2) (oi := { dst := some 23, op := .indexAddr 23 (.tmp 21) (.tmp 22), type := _, pos := _, after := _, guard := none }) (v := .pointer (some ⟨g, p + j * 3, none⟩)) rfl (by kernel_rfl) (by kernel_rfl) (by kernel_rfl) (fun _ _ _ h => h) (Or.inl ⟨by rfl, fun wh hSw => ?_⟩) hHeld ?_
      · (dsimp only at hSw; go_simp)
      try simp only [Act.put, List.setIfInBounds_toArray, List.set_cons_zero, List.set_cons_succ]
      refine wpAnyH_take (i := 3) (oi := { dst := some 24, op := .fieldAddr 30 (.tmp 23) 1, type := _, pos := _, after := _, guard := none }) (v := .pointer (some ⟨g, p + j * 3 + 1, none⟩)) rfl (by kernel_rfl) (by kernel_rfl) (by kernel_rfl) (fun _ _ _ h => h) (Or.inl ⟨by rfl, fun wh hSw => ?_⟩) hHeld ?_
      · (dsimp only at hSw; go_simp)
      try simp only [Act.put, List.setIfInBounds_toArray, List.set_cons_zero, List.set_cons_succ]
      refine wpAnyH_take (i := 4) (oi := { dst := some 25, op := .load 9 (.tmp 24), type := _, pos := _, after := _, guard := none }) (v := .string ⟨M.toArray⟩) rfl (by kernel_rfl) (by kernel_rfl) (by kernel_rfl) (fun _ _ _ h => h) (Or.inl ⟨by rfl, fun wh hSw => ?_⟩) hHeld ?_
      · (dsimp only at hSw; go_simp)
      try simp only [Act.put, List.setIfInBounds_toArray, List.set_cons_zero, List.set_cons_succ]
      refine wpAnyH_take (i := 5) (oi := { dst := some 26, op := .move (.tmp 1), type := _, pos := _, after := _, guard := none }) (v := .int .i64 ((2 + 3 * j : Nat) : Int)) rfl (by kernel_rfl) (by kernel_rfl) (by kernel_rfl) (fun _ _ _ h => h) (Or.inl ⟨by rfl, fun wh hSw => ?_⟩) hHeld ?_
      · (dsimp only at hSw; go_simp)
      try simp only [Act.put, List.setIfInBounds_toArray, List.set_cons_zero, List.set_cons_succ]
      refine wpAnyH_ready (rs := [6]) (by kernel_rfl) (by simp) ?_
      refine AllReadyH.cons (o := { dst := some 27, op := .call { callee := .value (.func 49), args := #[.tmp 26], argTypes := #[3] }, type := _, pos := _, after := _, guard := none }) rfl (fun K hK => ?_) AllReadyH.nil
      go_simp
      refine (HMK.out _).mono ?_
      rintro e w1 ⟨rfl, hb1⟩
      replace hb1 : Below wr.heap.size wr w1 := ⟨hb1.os, hb1.tape, hb1.output, hb1.size, hb1.block⟩
      have HBW := Lib.hid hb1
      have HB1 := Lib.hid (HB.out.trans (hb1.mono HB.out.size))
      refine hK.out _ _ ?_ (fun hHeld => ?_)
      · exact (hb1.cell (p := ⟨g, p + j * 3 + 1, none⟩) HCL.out).trans HC.out
      clear hK K
      try simp only [Act.put, List.setIfInBounds_toArray, List.set_cons_zero, List.set_cons_succ]
      refine wpAnyH_take (i := 7) (oi := { dst := some 28, op := .binOp .neq 9 (.tmp 25) (.tmp 27) 9, type := _, pos := _, after := _, guard := none }) (v := .bool false) rfl (by kernel_rfl) (by kernel_rfl) (by kernel_rfl) (fun _ _ _ h => h) (Or.inl ⟨by rfl, fun wh hSw => ?_⟩) hHeld ?_
      · (dsimp only at hSw; go_simp)
      try simp only [Act.put, List.setIfInBounds_toArray, List.set_cons_zero, List.set_cons_succ]
      refine wpAnyH_done (by kernel_rfl) ?_ _
      clear hb1
      obtain ⟨k0, k1, k2⟩ := HT.out.below (w' := w1) (B := wr.heap.size) HBW.out HT.out.lt
      simp only [mkI] at k0 k1 k2
      clear k0 k1
      go_wp2
      go_roundw
      case rel => exact ⟨j + 1, by omega, by go_num, by congr 1; omega, HB1⟩
      case measure => simp [intOf]; omega
    · go_wp2
      go_ret
      have e : j = n := by omega
      subst e
      exact ⟨rfl, HB.out⟩
end Go.Proofs.Ytopnomklfkkjfaa
