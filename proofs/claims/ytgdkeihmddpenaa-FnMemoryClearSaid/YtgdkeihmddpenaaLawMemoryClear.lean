/- The walk of the statement that a cleared frame has zeros, out of contracts of the program and of the reference. -/
import Derived.Test.YtgdkeihmddpenaaDrawM
import Derived.Test.YtgdkeihmddpenaaSame
import Derived.Test.YtgdkeihmddpenaaLawMemoryCopy
import Derived.Deep.RegionHeld
namespace Go.Proofs.Ytgdkeihmddpenaa
open Go.ChangeShapes Go.WideShapes Go.ChangeAt Go.RowKit
set_option linter.unusedVariables false


theorem zeros_new (w : World) : Ints (w.alloc (.cells #[.int .i64 0, .int .i64 0, .int .i64 0, .int .i64 0] 3)) (.slice (some ⟨w.heap.size, 0, none⟩) 4 4) [0, 0, 0, 0] :=
  ⟨_, 4, rfl, Nat.le_refl _, by unfold maxLen; omega, fun i hi => ⟨w.heap.size, 0, rfl, by
    have h4 : i = 0 ∨ i = 1 ∨ i = 2 ∨ i = 3 := by simp at hi; omega
    rcases h4 with rfl | rfl | rfl | rfl <;> exact new_cell rfl⟩⟩
theorem same_new (w : World) (va : Value) (ha : Ints w va [0, 0, 0, 0]) :
    Calls Try.prog 24 #[va, .slice (some ⟨w.heap.size, 0, none⟩) 4 4] (w.alloc (.cells #[.int .i64 0, .int .i64 0, .int .i64 0, .int .i64 0] 3)).drew (Reads (.bool true) (w.alloc (.cells #[.int .i64 0, .int .i64 0, .int .i64 0, .int .i64 0] 3)).drew) := by
  have h := sameInts_any (w.alloc (.cells #[.int .i64 0, .int .i64 0, .int .i64 0, .int .i64 0] 3)).drew va (.slice (some ⟨w.heap.size, 0, none⟩) 4 4) [0, 0, 0, 0] [0, 0, 0, 0]
    (Ints.below (B := 0) ha (((Below.refl _ _).alloc (Nat.le_refl _) _).drew)) (zeros_new w)
  simpa using h
set_option maxHeartbeats 1000000 in
theorem memoryClear_walk (hLy : ∀ (w : World) (v : Value) (xss : List (List Int)) (i : Nat), Rows2 w v xss → memOk xss = true → i < 12 → Calls Try.prog 27 #[v, .int .i64 i] w (NewMem (xss.set i [0, 0, 0, 0]) true w)) (hLn : ∀ (w : World) (v : Value) (xss : List (List Int)) (f : Int), Rows2 w v xss → ¬ (memOk xss = true ∧ 0 ≤ f ∧ f < 12) → Calls Try.prog 27 #[v, .int .i64 f] w (NewMem [] false w)) (hV : ∀ (w : World) (v : Value) (xss : List (List Int)), Rows2 w v xss → Calls Try.prog 25 #[v] w fun e w' => e = .returned (.bool (memOk xss)) ∧ Below w.heap.size w w') (W : World) (a : Option Addr) (len cap : Nat) (zs : List Int) (hr : Row .u8 W a len cap zs) :
    Calls Try.prog 7 #[.slice a len cap] W fun e w' => e = .returned (.bool true) ∧ Below W.heap.size W w' := by
  have HhLy := Lib.hid hLy
  clear hLy
  have HhLn := Lib.hid hLn
  clear hLn
  have HhV := Lib.hid hV
  clear hV
  have hm := row_len hr
  by_cases hL : 1048576 < len
  · have hL1 : (1048576 : Int) < (len : Int) := by omega
    clear hr
    go_enter Try.func7, Try.ntmps7
    go_wp2_with fail
    go_ret
    exact ⟨rfl, Below.refl _ _⟩
  have hL1 : decide ((1048576 : Int) < (len : Int)) = false := by simp; omega
  have hL2 : decide (1048576 < len) = false := by simp; omega
  go_enter Try.func7, Try.ntmps7
  go_wp2_with fail
  refine (drawMemoryClear_any W a len cap zs hr).mono ?_
  clear hr
  rintro e w1 ⟨v, xss, f, hf, rfl, hR1, hS, hb1⟩
  have R1 := Lib.hid hR1
  have B1 := Lib.hid hb1
  have Z1 : W.heap.size ≤ w1.heap.size := hb1.size
  clear hR1 hb1
  by_cases h : memOk xss = true ∧ 0 ≤ f ∧ f < 12
  · obtain ⟨hmem, hf0, hf1⟩ := h
    obtain ⟨i, rfl⟩ : ∃ i : Nat, f = i := ⟨f.toNat, by omega⟩
    have hi : i < 12 := by omega
    have HOK : Hid (memOk (xss.set i [0, 0, 0, 0]) = true) := Lib.hid (set_ok hmem hi rfl (fun q hq => by
      have h4 : q = 0 ∨ q = 1 ∨ q = 2 ∨ q = 3 := by omega
      rcases h4 with rfl | rfl | rfl | rfl <;> simp))
    have HI := Lib.hid (HhLy.out w1 v xss i R1.out hmem hi)
    have HMEM := Lib.hid hmem
    obtain ⟨yss, hy⟩ : ∃ yss, yss = xss.set i [0, 0, 0, 0] := ⟨_, rfl⟩
    rw [← hy] at HI
    have HY := Lib.hid hy
    have HLEN := Lib.hid (mem_len hmem)
    clear hmem hy
    go_wp2_with fail
    refine HI.out.mono ?_
    rintro e w2 ⟨rA, rfl, hm2, hb2⟩
    have R2 := Lib.hid (R1.out.below hb2)
    have B2 := Lib.hid (Below.chg B1.out (Chg.of_below hb2) Z1 (.inr rfl))
    have Z2 : W.heap.size ≤ w2.heap.size := Nat.le_trans Z1 hb2.size
    have M2 := Lib.hid hm2.rows
    clear hb2 B1 hm2 HI
    have HS2 := Lib.hid (sclear_yes w2 v xss i R2.out HMEM.out hi)
    rw [← HY.out] at HS2
    go_wp2_with fail
    refine HS2.out.mono ?_
    rintro e w3 ⟨rB, rfl, hm3, hb3⟩
    have B3 := Lib.hid (Below.chg B2.out (Chg.of_below hb3) Z2 (.inr rfl))
    have Z3 : W.heap.size ≤ w3.heap.size := Nat.le_trans Z2 hb3.size
    have M3 := Lib.hid hm3.rows
    have M23 := Lib.hid (M2.out.below hb3)
    have R3 := Lib.hid (R2.out.below hb3)
    clear hb3 B2 hm3 HS2 M2 R2
    go_wp2_with fail
    refine (same_c w3 rA rB yss M23.out M3.out).mono ?_
    rintro e w4 ⟨rfl, C4⟩
    have T4 : Two W v rA xss yss w4 := ⟨Below.chg B3.out C4 Z3 (.inr rfl), rows_chg0 C4 R3.out, rows_chg0 C4 M23.out⟩
    clear B3 C4 M3 M23 R3
    have HT4 := Lib.hid T4
    clear T4
    rw [← HY.out] at HOK
    go_wp2_with fail
    go_loopw [9] (fun q wr => ∃ k : Nat, k ≤ 12 ∧ q = .int .i64 k ∧ Two W v rA xss yss wr) (fun q _ => 12 - (intOf q).toNat)
    case atStart => exact ⟨0, by omega, rfl, HT4.out⟩
    case round =>
      obtain ⟨k, hk, rfl, hT⟩ := hrel
      have HTT := Lib.hid hT
      by_cases hlt : k < 12
      · have hk12 := hlt
        have hlt' : (k : Int) < 12 := by omega
        by_cases hkj : k = i
        · obtain ⟨b1, o1, c1, v1, rfl, hc1, hi1⟩ := hT.two.row (by rw [HY.out, List.length_set]; exact HLEN.out) hk12
          rw [HY.out, set_get (by have := HLEN.out; omega), if_pos hkj] at hi1
          have HC := Lib.hid (same_new wr v1 hi1)
          have hbs := cell_lt hc1
          have hbne : (b1 = wr.heap.size) = False := by simp; omega
          have hself1 : ((k : Int) != (i : Int)) = false := by rw [hkj]; simp
          have hself2 : ((k : Int) == (i : Int)) = true := by rw [hkj]; simp
          have hself3 : (k != i) = false := by rw [hkj]; simp
          have hself4 : (k == i) = true := by rw [hkj]; simp
          clear hkj
          clear hi1 hT
          go_wp2_with fail
          refine wp_region_held_drew (S := fun w' => w'.cell? ⟨b1, o1 + k, none⟩ = some v1) (by kernel_rfl) hc1 (fun hHeld => ?_)
          refine wpAnyH_take (i := 0) (oi := { dst := some 55, op := .move (.tmp 9), type := _, pos := _, after := _, guard := none }) (v := .int .i64 k) rfl (by kernel_rfl) (by kernel_rfl) (by kernel_rfl) (fun _ _ _ h => h) (Or.inl ⟨by rfl, fun wh hSw => ?_⟩) hHeld ?_
          · (dsimp only at hSw; go_simp)
          simp only [Act.put, List.setIfInBounds_toArray, List.set_cons_zero, List.set_cons_succ]
          refine wpAnyH_take (i := 1) (oi := { dst := some 56, op := .move (.tmp 4), type := _, pos := _, after := _, guard := none }) (v := .int .i64 i) rfl (by kernel_rfl) (by kernel_rfl) (by kernel_rfl) (fun _ _ _ h => h) (Or.inl ⟨by rfl, fun wh hSw => ?_⟩) hHeld ?_
          · (dsimp only at hSw; go_simp)
          simp only [Act.put, List.setIfInBounds_toArray, List.set_cons_zero, List.set_cons_succ]
          refine wpAnyH_take (i := 2) (oi := { dst := some 57, op := .binOp .eql 3 (.tmp 55) (.tmp 56) 3, type := _, pos := _, after := _, guard := none }) (v := .bool true) rfl (by kernel_rfl) (by kernel_rfl) (by kernel_rfl) (fun _ _ _ h => h) (Or.inl ⟨by rfl, fun wh hSw => ?_⟩) hHeld ?_
          · (dsimp only at hSw; go_simp)
          simp only [Act.put, List.setIfInBounds_toArray, List.set_cons_zero, List.set_cons_succ]
          refine wpAnyH_take (i := 3) (oi := { dst := some 58, op := .move (.tmp 57), type := _, pos := _, after := _, guard := none }) (v := .bool true) rfl (by kernel_rfl) (by kernel_rfl) (by kernel_rfl) (fun _ _ _ h => h) (Or.inl ⟨by rfl, fun wh hSw => ?_⟩) hHeld ?_
          · (dsimp only at hSw; go_simp)
          simp only [Act.put, List.setIfInBounds_toArray, List.set_cons_zero, List.set_cons_succ]
          refine wpAnyH_take (i := 4) (oi := { dst := some 59, op := .move (.tmp 5), type := _, pos := _, after := _, guard := some (3, true) }) (v := .slice (some ⟨b1, o1, none⟩) 12 c1) rfl (by kernel_rfl) (by kernel_rfl) (by kernel_rfl) (fun _ _ _ h => h) (Or.inl ⟨by rfl, fun wh hSw => ?_⟩) hHeld ?_
          · (dsimp only at hSw; go_simp)
          simp only [Act.put, List.setIfInBounds_toArray, List.set_cons_zero, List.set_cons_succ]
          refine wpAnyH_take (i := 5) (oi := { dst := some 60, op := .move (.tmp 9), type := _, pos := _, after := _, guard := some (3, true) }) (v := .int .i64 k) rfl (by kernel_rfl) (by kernel_rfl) (by kernel_rfl) (fun _ _ _ h => h) (Or.inl ⟨by rfl, fun wh hSw => ?_⟩) hHeld ?_
          · (dsimp only at hSw; go_simp)
          simp only [Act.put, List.setIfInBounds_toArray, List.set_cons_zero, List.set_cons_succ]
          refine wpAnyH_take (i := 6) (oi := { dst := some 61, op := .indexAddr 23 (.tmp 59) (.tmp 60), type := _, pos := _, after := _, guard := some (3, true) }) (v := .pointer (some ⟨b1, o1 + k, none⟩)) rfl (by kernel_rfl) (by kernel_rfl) (by kernel_rfl) (fun _ _ _ h => h) (Or.inl ⟨by rfl, fun wh hSw => ?_⟩) hHeld ?_
          · (dsimp only at hSw; go_simp)
          simp only [Act.put, List.setIfInBounds_toArray, List.set_cons_zero, List.set_cons_succ]
          refine wpAnyH_take (i := 7) (oi := { dst := some 62, op := .load 28 (.tmp 61), type := _, pos := _, after := _, guard := some (3, true) }) (v := v1) rfl (by kernel_rfl) (by kernel_rfl) (by kernel_rfl) (fun _ _ _ h => h) (Or.inl ⟨by rfl, fun wh hSw => ?_⟩) hHeld ?_
          · (dsimp only at hSw; go_simp)
          simp only [Act.put, List.setIfInBounds_toArray, List.set_cons_zero, List.set_cons_succ]
          refine wpAnyH_ready (rs := [8]) (by kernel_rfl) (by simp) ?_
          refine AllReadyH.cons (o := { dst := some 63, op := .buildSlice 28 4 #[(0, .const (.int .i64 0)), (1, .const (.int .i64 0)), (2, .const (.int .i64 0)), (3, .const (.int .i64 0))], type := _, pos := _, after := _, guard := some (3, true) }) rfl (fun K hK => ?_) AllReadyH.nil
          go_simp
          refine hK.out _ _ ?_ (fun hHeld => ?_)
          · exact (World.cell?_alloc_past _ _ _ hbs).trans hc1
          clear hK K
          try simp only [Act.put, List.setIfInBounds_toArray, List.set_cons_zero, List.set_cons_succ]
          refine wpAnyH_ready (rs := [9]) (by kernel_rfl) (by simp) ?_
          refine AllReadyH.cons (o := { dst := some 64, op := .call { callee := .value (.func 24), args := #[.tmp 62, .tmp 63], argTypes := #[28, 28] }, type := _, pos := _, after := _, guard := some (3, true) }) rfl (fun K hK => ?_) AllReadyH.nil
          go_simp
          refine HC.out.mono ?_
          rintro e w5 ⟨rfl, n5, hw5⟩
          have HW5 := Lib.hid hw5
          have HW5c : Hid (w5.cell? ⟨b1, o1 + k, none⟩ = some v1) := Lib.hid (by rw [hw5]; exact (World.cell?_alloc_past _ _ _ hbs).trans hc1)
          clear hw5
          try go_simp
          refine hK.out _ _ ?_ (fun hHeld => ?_)
          · exact HW5c.out
          clear hK K
          try simp only [Act.put, List.setIfInBounds_toArray, List.set_cons_zero, List.set_cons_succ]
          refine wpAnyH_take (i := 10) (oi := { dst := some 65, op := .unOp .not 4 (.tmp 64), type := _, pos := _, after := _, guard := some (3, true) }) (v := .bool false) rfl (by kernel_rfl) (by kernel_rfl) (by kernel_rfl) (fun _ _ _ h => h) (Or.inl ⟨by rfl, fun wh hSw => ?_⟩) hHeld ?_
          · (dsimp only at hSw; go_simp)
          simp only [Act.put, List.setIfInBounds_toArray, List.set_cons_zero, List.set_cons_succ]
          refine wpAnyH_take (i := 11) (oi := { dst := some 66, op := .pick (.tmp 58) (.tmp 65) (.const (.bool false)), type := _, pos := _, after := _, guard := none }) (v := .bool false) rfl (by kernel_rfl) (by kernel_rfl) (by kernel_rfl) (fun _ _ _ h => h) (Or.inl ⟨by rfl, fun wh hSw => ?_⟩) hHeld ?_
          · (dsimp only at hSw; go_simp)
          simp only [Act.put, List.setIfInBounds_toArray, List.set_cons_zero, List.set_cons_succ]
          refine wpAnyH_take (i := 12) (oi := { dst := some 67, op := .move (.tmp 66), type := _, pos := _, after := _, guard := none }) (v := .bool false) rfl (by kernel_rfl) (by kernel_rfl) (by kernel_rfl) (fun _ _ _ h => h) (Or.inl ⟨by rfl, fun wh hSw => ?_⟩) hHeld ?_
          · (dsimp only at hSw; go_simp)
          simp only [Act.put, List.setIfInBounds_toArray, List.set_cons_zero, List.set_cons_succ]
          refine wpAnyH_take (i := 13) (oi := { dst := some 68, op := .move (.tmp 9), type := _, pos := _, after := _, guard := some (12, false) }) (v := .int .i64 k) rfl (by kernel_rfl) (by kernel_rfl) (by kernel_rfl) (fun _ _ _ h => h) (Or.inl ⟨by rfl, fun wh hSw => ?_⟩) hHeld ?_
          · (dsimp only at hSw; go_simp)
          simp only [Act.put, List.setIfInBounds_toArray, List.set_cons_zero, List.set_cons_succ]
          refine wpAnyH_take (i := 14) (oi := { dst := some 69, op := .move (.tmp 4), type := _, pos := _, after := _, guard := some (12, false) }) (v := .int .i64 i) rfl (by kernel_rfl) (by kernel_rfl) (by kernel_rfl) (fun _ _ _ h => h) (Or.inl ⟨by rfl, fun wh hSw => ?_⟩) hHeld ?_
          · (dsimp only at hSw; go_simp)
          simp only [Act.put, List.setIfInBounds_toArray, List.set_cons_zero, List.set_cons_succ]
          refine wpAnyH_take (i := 15) (oi := { dst := some 70, op := .binOp .neq 3 (.tmp 68) (.tmp 69) 3, type := _, pos := _, after := _, guard := some (12, false) }) (v := .bool false) rfl (by kernel_rfl) (by kernel_rfl) (by kernel_rfl) (fun _ _ _ h => h) (Or.inl ⟨by rfl, fun wh hSw => ?_⟩) hHeld ?_
          · (dsimp only at hSw; go_simp)
          simp only [Act.put, List.setIfInBounds_toArray, List.set_cons_zero, List.set_cons_succ]
          refine wpAnyH_take (i := 16) (oi := { dst := some 71, op := .move (.tmp 70), type := _, pos := _, after := _, guard := some (12, false) }) (v := .bool false) rfl (by kernel_rfl) (by kernel_rfl) (by kernel_rfl) (fun _ _ _ h => h) (Or.inl ⟨by rfl, fun wh hSw => ?_⟩) hHeld ?_
          · (dsimp only at hSw; go_simp)
          simp only [Act.put, List.setIfInBounds_toArray, List.set_cons_zero, List.set_cons_succ]
          refine wpAnyH_take (i := 17) (oi := { dst := some 72, op := .move (.tmp 5), type := _, pos := _, after := _, guard := some (16, true) }) (v := undef) rfl (by kernel_rfl) (by kernel_rfl) (by kernel_rfl) (fun _ _ _ h => h) (Or.inr ⟨by rfl, rfl⟩) hHeld ?_
          simp only [Act.put, List.setIfInBounds_toArray, List.set_cons_zero, List.set_cons_succ]
          refine wpAnyH_take (i := 18) (oi := { dst := some 73, op := .move (.tmp 9), type := _, pos := _, after := _, guard := some (16, true) }) (v := undef) rfl (by kernel_rfl) (by kernel_rfl) (by kernel_rfl) (fun _ _ _ h => h) (Or.inr ⟨by rfl, rfl⟩) hHeld ?_
          simp only [Act.put, List.setIfInBounds_toArray, List.set_cons_zero, List.set_cons_succ]
          refine wpAnyH_take (i := 19) (oi := { dst := some 74, op := .indexAddr 23 (.tmp 72) (.tmp 73), type := _, pos := _, after := _, guard := some (16, true) }) (v := undef) rfl (by kernel_rfl) (by kernel_rfl) (by kernel_rfl) (fun _ _ _ h => h) (Or.inr ⟨by rfl, rfl⟩) hHeld ?_
          simp only [Act.put, List.setIfInBounds_toArray, List.set_cons_zero, List.set_cons_succ]
          refine wpAnyH_take (i := 20) (oi := { dst := some 75, op := .load 28 (.tmp 74), type := _, pos := _, after := _, guard := some (16, true) }) (v := undef) rfl (by kernel_rfl) (by kernel_rfl) (by kernel_rfl) (fun _ _ _ h => h) (Or.inr ⟨by rfl, rfl⟩) hHeld ?_
          simp only [Act.put, List.setIfInBounds_toArray, List.set_cons_zero, List.set_cons_succ]
          refine wpAnyH_take (i := 21) (oi := { dst := some 76, op := .move (.tmp 3), type := _, pos := _, after := _, guard := some (16, true) }) (v := undef) rfl (by kernel_rfl) (by kernel_rfl) (by kernel_rfl) (fun _ _ _ h => h) (Or.inr ⟨by rfl, rfl⟩) hHeld ?_
          simp only [Act.put, List.setIfInBounds_toArray, List.set_cons_zero, List.set_cons_succ]
          refine wpAnyH_take (i := 22) (oi := { dst := some 77, op := .move (.tmp 9), type := _, pos := _, after := _, guard := some (16, true) }) (v := undef) rfl (by kernel_rfl) (by kernel_rfl) (by kernel_rfl) (fun _ _ _ h => h) (Or.inr ⟨by rfl, rfl⟩) hHeld ?_
          simp only [Act.put, List.setIfInBounds_toArray, List.set_cons_zero, List.set_cons_succ]
          refine wpAnyH_take (i := 23) (oi := { dst := some 78, op := .indexAddr 23 (.tmp 76) (.tmp 77), type := _, pos := _, after := _, guard := some (16, true) }) (v := undef) rfl (by kernel_rfl) (by kernel_rfl) (by kernel_rfl) (fun _ _ _ h => h) (Or.inr ⟨by rfl, rfl⟩) hHeld ?_
          simp only [Act.put, List.setIfInBounds_toArray, List.set_cons_zero, List.set_cons_succ]
          refine wpAnyH_take (i := 24) (oi := { dst := some 79, op := .load 28 (.tmp 78), type := _, pos := _, after := _, guard := some (16, true) }) (v := undef) rfl (by kernel_rfl) (by kernel_rfl) (by kernel_rfl) (fun _ _ _ h => h) (Or.inr ⟨by rfl, rfl⟩) hHeld ?_
          simp only [Act.put, List.setIfInBounds_toArray, List.set_cons_zero, List.set_cons_succ]
          refine wpAnyH_take (i := 25) (oi := { dst := some 80, op := .call { callee := .value (.func 24), args := #[.tmp 75, .tmp 79], argTypes := #[28, 28] }, type := _, pos := _, after := _, guard := some (16, true) }) (v := undef) rfl (by kernel_rfl) (by kernel_rfl) (by kernel_rfl) (fun _ _ _ h => h) (Or.inr ⟨by rfl, rfl⟩) hHeld ?_
          simp only [Act.put, List.setIfInBounds_toArray, List.set_cons_zero, List.set_cons_succ]
          refine wpAnyH_take (i := 26) (oi := { dst := some 81, op := .unOp .not 4 (.tmp 80), type := _, pos := _, after := _, guard := some (16, true) }) (v := undef) rfl (by kernel_rfl) (by kernel_rfl) (by kernel_rfl) (fun _ _ _ h => h) (Or.inr ⟨by rfl, rfl⟩) hHeld ?_
          simp only [Act.put, List.setIfInBounds_toArray, List.set_cons_zero, List.set_cons_succ]
          refine wpAnyH_take (i := 27) (oi := { dst := some 82, op := .pick (.tmp 71) (.tmp 81) (.const (.bool false)), type := _, pos := _, after := _, guard := some (12, false) }) (v := .bool false) rfl (by kernel_rfl) (by kernel_rfl) (by kernel_rfl) (fun _ _ _ h => h) (Or.inl ⟨by rfl, fun wh hSw => ?_⟩) hHeld ?_
          · (dsimp only at hSw; go_simp)
          simp only [Act.put, List.setIfInBounds_toArray, List.set_cons_zero, List.set_cons_succ]
          refine wpAnyH_take (i := 28) (oi := { dst := some 83, op := .pick (.tmp 67) (.const (.bool true)) (.tmp 82), type := _, pos := _, after := _, guard := none }) (v := .bool false) rfl (by kernel_rfl) (by kernel_rfl) (by kernel_rfl) (fun _ _ _ h => h) (Or.inl ⟨by rfl, fun wh hSw => ?_⟩) hHeld ?_
          · (dsimp only at hSw; go_simp)
          simp only [Act.put, List.setIfInBounds_toArray, List.set_cons_zero, List.set_cons_succ]
          refine wpAnyH_done (by kernel_rfl) ?_ _
          have HT6 := Lib.hid ((HTT.out.go (((Below.refl _ _).alloc (Nat.le_refl _) (.cells #[.int .i64 0, .int .i64 0, .int .i64 0, .int .i64 0] 3)).drew)).drewN n5)
          rw [← HW5.out] at HT6
          clear hc1
          go_wp2_with fail
          go_roundw
          case rel => exact ⟨k + 1, by omega, by go_num, HT6.out⟩
          case measure => simp [intOf]; omega
        · have e1 : (k == i) = false := by simpa using hkj
          have e2 : ((k : Int) == (i : Int)) = false := by simp; omega
          have e3 : (k != i) = true := by simpa using hkj
          have e4 : ((k : Int) != (i : Int)) = true := by simp; omega
          obtain ⟨b1, o1, c1, v1, rfl, hc1, hi1⟩ := hT.two.row (by rw [HY.out, List.length_set]; exact HLEN.out) hk12
          obtain ⟨b2, o2, c2, v2, rfl, hc2, hi2⟩ := hT.one.row HLEN.out (i := k) hk12
          have HC := Lib.hid (fun n => same_q wr v1 v2 _ _ (by rw [HY.out, set_get (by have := HLEN.out; omega)]; exact (if_neg hkj)) hi1 hi2 n)
          clear hi1 hi2 hT
          go_wp2_with fail
          go_quiet ((go_at_call 24; exact reads_at (HC.out _)))
          clear hc1 hc2
          go_wp2_with fail
          go_roundw
          case rel => exact ⟨k + 1, by omega, by go_num, HTT.out.drewN _⟩
          case measure => simp [intOf]; omega
      · have hge : decide ((k : Int) < 12) = false := by simp; omega
        have HVV := Lib.hid (HhV.out wr rA yss HTT.out.two)
        rw [HOK.out] at HVV
        clear hT
        go_wp2_with fail
        refine HVV.out.mono ?_
        rintro e w6 ⟨rfl, hb6⟩
        have HT6 := Lib.hid (HTT.out.go hb6)
        clear hb6
        go_wp2_with fail
        go_ret
        exact ⟨rfl, HT6.out.old⟩
  · have HI := Lib.hid (HhLn.out w1 v xss f R1.out h)
    have HN := Lib.hid h
    clear h
    go_wp2_with fail
    refine HI.out.mono ?_
    rintro e w2 ⟨rA, rfl, hm2, hb2⟩
    have R2 := Lib.hid (R1.out.below hb2)
    have B2 := Lib.hid (Below.chg B1.out (Chg.of_below hb2) Z1 (.inr rfl))
    have Z2 : W.heap.size ≤ w2.heap.size := Nat.le_trans Z1 hb2.size
    have M2 := Lib.hid hm2.rows
    clear hb2 B1 hm2 HI
    have HS2 := Lib.hid (sclear_no w2 v xss f R2.out HN.out)
    go_wp2_with fail
    refine HS2.out.mono ?_
    rintro e w3 ⟨rB, rfl, hm3, hb3⟩
    have B3 := Lib.hid (Below.chg B2.out (Chg.of_below hb3) Z2 (.inr rfl))
    have Z3 : W.heap.size ≤ w3.heap.size := Nat.le_trans Z2 hb3.size
    have M3 := Lib.hid hm3.rows
    have M23 := Lib.hid (M2.out.below hb3)
    clear hb3 B2 hm3 HS2
    go_wp2_with fail
    refine (same_c w3 rA rB [] M23.out M3.out).mono ?_
    rintro e w4 ⟨rfl, C4⟩
    have B4 := Lib.hid (Below.chg B3.out C4 Z3 (.inr rfl))
    have Q4 := Lib.hid (same_after C4 M23.out M3.out)
    clear B3 C4
    go_wp2_with fail
    refine Q4.out.mono ?_
    rintro e w5 ⟨rfl, C5⟩
    have B5 := Lib.hid (Below.chg B4.out C5 (by have := B4.out.size; omega) (.inr rfl))
    clear B4 C5
    go_wp2_with fail
    go_ret
    exact ⟨rfl, B5.out⟩
end Go.Proofs.Ytgdkeihmddpenaa
