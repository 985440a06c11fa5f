/- What the proofs stand on, part 2. -/
import Derived.Test.YthfdkenidfnmgaaRows
import Derived.Test.YthfdkenidfnmgaaX1
set_option linter.unusedSimpArgs false
set_option linter.unusedVariables false
namespace Go.Proofs.Ythfdkenidfnmgaa
open Go.ChangeShapes Go.WideShapes Go.ChangeAt Go.RowKit
set_option linter.unusedVariables false
set_option maxRecDepth 100000
theorem sRightsValid_any (w : World) (v : Value) (xs : List Bs) (h : Strs w v xs) (hs : Short xs) :
    Calls Try.prog 15 #[v] w (Reads (.bool (rvs xs)) w) := by
  obtain ⟨a, ca, rfl, hla, hma, hxa⟩ := h
  unfold maxLen at hma
  obtain ⟨n, hN⟩ : ∃ n, n = xs.length := ⟨_, rfl⟩
  rw [← hN] at hla hxa ⊢
  have HN := Lib.hid hN
  have HS := Lib.hid hs
  have HX := Lib.hid hxa
  clear hN hs hxa
  go_enter Try.func15, Try.ntmps15
  go_wp2
  go_loopw [3] (fun i wr => ∃ k d : Nat, k ≤ n ∧ i = .int .i64 k ∧ Hid (rokTo xs k) ∧ wr = w.drewN d) (fun i _ => n - (intOf i).toNat)
  case atStart => exact ⟨0, 0, Nat.zero_le _, rfl, Lib.hid (fun j hj => by omega), rfl⟩
  case round =>
    obtain ⟨k, d, hk, rfl, HT, rfl⟩ := hrel
    by_cases hlt : k < n
    · have hlt' : (k : Int) < (n : Int) := by omega
      have hkx : k < xs.length := by rw [← HN.out]; exact hlt
      obtain ⟨b, o, rfl, hc⟩ := HX.out k hlt
      have HV := Lib.hid (fun w => sRightValid_any w (xs.getD k []) (HS.out.at k))
      have HB1 := Lib.hid (fun h => rok_bad1 hkx h)
      have HB2 := Lib.hid (fun h0 h => rok_bad2 hkx h0 h)
      have HO := Lib.hid (fun h1 h2 => rokTo_succ HT.out h1 h2)
      generalize xs.getD k [] = x at hc HV HB1 HB2 HO
      clear hkx
      cases hv : rv x with
      | false =>
        have HR := Lib.hid (HB1.out hv)
        rw [hv] at HV
        clear hv
        go_wp2_with fail
        refine wp_region_held_drew (S := fun w' => w'.cell? ⟨b, o + k, none⟩ = some (.string ⟨x.toArray⟩)) (by kernel_rfl) hc (fun hHeld => ?_)
        refine wpAnyH_take (i := 0) (oi := { dst := some 10, op := .move (.tmp 0), type := _, pos := _, after := _, guard := none }) (v := .slice (some ⟨b, o, none⟩) n ca) rfl (by kernel_rfl) (by kernel_rfl) (by kernel_rfl) (fun _ _ _ h => h) (Or.inl ⟨by rfl, fun wh hSw => ?_⟩) hHeld ?_
        · (dsimp only at hSw; go_simp)
        try simp only [Act.put, List.setIfInBounds_toArray, List.set_cons_zero, List.set_cons_succ]
        refine wpAnyH_take (i := 1) (oi := { dst := some 11, op := .move (.tmp 3), type := _, pos := _, after := _, guard := none }) (v := .int .i64 (k : Int)) rfl (by kernel_rfl) (by kernel_rfl) (by kernel_rfl) (fun _ _ _ h => h) (Or.inl ⟨by rfl, fun wh hSw => ?_⟩) hHeld ?_
        · (dsimp only at hSw; go_simp)
        try simp only [Act.put, List.setIfInBounds_toArray, List.set_cons_zero, List.set_cons_succ]
        refine wpAnyH_take (i := 2) (oi := { dst := some 12, op := .indexAddr 38 (.tmp 10) (.tmp 11), type := _, pos := _, after := _, guard := none }) (v := .pointer (some ⟨b, o + k, none⟩)) rfl (by kernel_rfl) (by kernel_rfl) (by kernel_rfl) (fun _ _ _ h => h) (Or.inl ⟨by rfl, fun wh hSw => ?_⟩) hHeld ?_
        · (dsimp only at hSw; go_simp)
        try simp only [Act.put, List.setIfInBounds_toArray, List.set_cons_zero, List.set_cons_succ]
        refine wpAnyH_take (i := 3) (oi := { dst := some 13, op := .load 9 (.tmp 12), type := _, pos := _, after := _, guard := none }) (v := .string ⟨x.toArray⟩) rfl (by kernel_rfl) (by kernel_rfl) (by kernel_rfl) (fun _ _ _ h => h) (Or.inl ⟨by rfl, fun wh hSw => ?_⟩) hHeld ?_
        · (dsimp only at hSw; go_simp)
        try simp only [Act.put, List.setIfInBounds_toArray, List.set_cons_zero, List.set_cons_succ]
        refine wpAnyH_ready (rs := [4]) (by kernel_rfl) (by simp) ?_
        refine AllReadyH.cons (o := { dst := some 14, op := .call { callee := .value (.func 33), args := #[.tmp 13], argTypes := #[9] }, type := _, pos := _, after := _, guard := none }) rfl (fun K hK => ?_) AllReadyH.nil
        go_simp
        refine (HV.out _).mono ?_
        rintro e w' ⟨rfl, rfl⟩
        refine hK.out _ _ ?_ (fun hHeld => ?_)
        · exact hHeld
        clear hK K
        try simp only [Act.put, List.setIfInBounds_toArray, List.set_cons_zero, List.set_cons_succ]
        refine wpAnyH_take (i := 5) (oi := { dst := some 15, op := .unOp .not 4 (.tmp 14), type := _, pos := _, after := _, guard := none }) (v := .bool true) rfl (by kernel_rfl) (by kernel_rfl) (by kernel_rfl) (fun _ _ _ h => h) (Or.inl ⟨by rfl, fun wh hSw => ?_⟩) hHeld ?_
        · (dsimp only at hSw; go_simp)
        try simp only [Act.put, List.setIfInBounds_toArray, List.set_cons_zero, List.set_cons_succ]
        refine wpAnyH_take (i := 6) (oi := { dst := some 16, op := .move (.tmp 15), type := _, pos := _, after := _, guard := none }) (v := .bool true) rfl (by kernel_rfl) (by kernel_rfl) (by kernel_rfl) (fun _ _ _ h => h) (Or.inl ⟨by rfl, fun wh hSw => ?_⟩) hHeld ?_
        · (dsimp only at hSw; go_simp)
        try simp only [Act.put, List.setIfInBounds_toArray, List.set_cons_zero, List.set_cons_succ]
        refine wpAnyH_take (i := 7) (oi := { dst := some 17, op := .move (.tmp 3), type := _, pos := _, after := _, guard := some (6, false) }) (v := undef) rfl (by kernel_rfl) (by kernel_rfl) (by kernel_rfl) (fun _ _ _ h => h) (Or.inr ⟨by rfl, rfl⟩) hHeld ?_
        try simp only [Act.put, List.setIfInBounds_toArray, List.set_cons_zero, List.set_cons_succ]
        refine wpAnyH_take (i := 8) (oi := { dst := some 18, op := .binOp .gtr 3 (.tmp 17) (.const (.int .i64 0)) 3, type := _, pos := _, after := _, guard := some (6, false) }) (v := undef) rfl (by kernel_rfl) (by kernel_rfl) (by kernel_rfl) (fun _ _ _ h => h) (Or.inr ⟨by rfl, rfl⟩) hHeld ?_
        try simp only [Act.put, List.setIfInBounds_toArray, List.set_cons_zero, List.set_cons_succ]
        refine wpAnyH_take (i := 9) (oi := { dst := some 19, op := .move (.tmp 18), type := _, pos := _, after := _, guard := some (6, false) }) (v := undef) rfl (by kernel_rfl) (by kernel_rfl) (by kernel_rfl) (fun _ _ _ h => h) (Or.inr ⟨by rfl, rfl⟩) hHeld ?_
        try simp only [Act.put, List.setIfInBounds_toArray, List.set_cons_zero, List.set_cons_succ]
        refine wpAnyH_take (i := 10) (oi := { dst := some 20, op := .move (.tmp 0), type := _, pos := _, after := _, guard := some (9, true) }) (v := undef) rfl (by kernel_rfl) (by kernel_rfl) (by kernel_rfl) (fun _ _ _ h => h) (Or.inr ⟨by rfl, rfl⟩) hHeld ?_
        try simp only [Act.put, List.setIfInBounds_toArray, List.set_cons_zero, List.set_cons_succ]
        refine wpAnyH_take (i := 11) (oi := { dst := some 21, op := .move (.tmp 3), type := _, pos := _, after := _, guard := some (9, true) }) (v := undef) rfl (by kernel_rfl) (by kernel_rfl) (by kernel_rfl) (fun _ _ _ h => h) (Or.inr ⟨by rfl, rfl⟩) hHeld ?_
        try simp only [Act.put, List.setIfInBounds_toArray, List.set_cons_zero, List.set_cons_succ]
        refine wpAnyH_take (i := 12) (oi := { dst := some 22, op := .binOp .sub 3 (.tmp 21) (.const (.int .i64 1)) 3, type := _, pos := _, after := _, guard := some (9, true) }) (v := undef) rfl (by kernel_rfl) (by kernel_rfl) (by kernel_rfl) (fun _ _ _ h => h) (Or.inr ⟨by rfl, rfl⟩) hHeld ?_
        try simp only [Act.put, List.setIfInBounds_toArray, List.set_cons_zero, List.set_cons_succ]
        refine wpAnyH_take (i := 13) (oi := { dst := some 23, op := .indexAddr 38 (.tmp 20) (.tmp 22), type := _, pos := _, after := _, guard := some (9, true) }) (v := undef) rfl (by kernel_rfl) (by kernel_rfl) (by kernel_rfl) (fun _ _ _ h => h) (Or.inr ⟨by rfl, rfl⟩) hHeld ?_
        try simp only [Act.put, List.setIfInBounds_toArray, List.set_cons_zero, List.set_cons_succ]
        refine wpAnyH_take (i := 14) (oi := { dst := some 24, op := .load 9 (.tmp 23), type := _, pos := _, after := _, guard := some (9, true) }) (v := undef) rfl (by kernel_rfl) (by kernel_rfl) (by kernel_rfl) (fun _ _ _ h => h) (Or.inr ⟨by rfl, rfl⟩) hHeld ?_
        try simp only [Act.put, List.setIfInBounds_toArray, List.set_cons_zero, List.set_cons_succ]
        refine wpAnyH_take (i := 15) (oi := { dst := some 25, op := .move (.tmp 0), type := _, pos := _, after := _, guard := some (9, true) }) (v := undef) rfl (by kernel_rfl) (by kernel_rfl) (by kernel_rfl) (fun _ _ _ h => h) (Or.inr ⟨by rfl, rfl⟩) hHeld ?_
        try simp only [Act.put, List.setIfInBounds_toArray, List.set_cons_zero, List.set_cons_succ]
        refine wpAnyH_take (i := 16) (oi := { dst := some 26, op := .move (.tmp 3), type := _, pos := _, after := _, guard := some (9, true) }) (v := undef) rfl (by kernel_rfl) (by kernel_rfl) (by kernel_rfl) (fun _ _ _ h => h) (Or.inr ⟨by rfl, rfl⟩) hHeld ?_
        try simp only [Act.put, List.setIfInBounds_toArray, List.set_cons_zero, List.set_cons_succ]
        refine wpAnyH_take (i := 17) (oi := { dst := some 27, op := .indexAddr 38 (.tmp 25) (.tmp 26), type := _, pos := _, after := _, guard := some (9, true) }) (v := undef) rfl (by kernel_rfl) (by kernel_rfl) (by kernel_rfl) (fun _ _ _ h => h) (Or.inr ⟨by rfl, rfl⟩) hHeld ?_
        try simp only [Act.put, List.setIfInBounds_toArray, List.set_cons_zero, List.set_cons_succ]
        refine wpAnyH_take (i := 18) (oi := { dst := some 28, op := .load 9 (.tmp 27), type := _, pos := _, after := _, guard := some (9, true) }) (v := undef) rfl (by kernel_rfl) (by kernel_rfl) (by kernel_rfl) (fun _ _ _ h => h) (Or.inr ⟨by rfl, rfl⟩) hHeld ?_
        try simp only [Act.put, List.setIfInBounds_toArray, List.set_cons_zero, List.set_cons_succ]
        refine wpAnyH_take (i := 19) (oi := { dst := some 29, op := .binOp .geq 9 (.tmp 24) (.tmp 28) 9, type := _, pos := _, after := _, guard := some (9, true) }) (v := undef) rfl (by kernel_rfl) (by kernel_rfl) (by kernel_rfl) (fun _ _ _ h => h) (Or.inr ⟨by rfl, rfl⟩) hHeld ?_
        try simp only [Act.put, List.setIfInBounds_toArray, List.set_cons_zero, List.set_cons_succ]
        refine wpAnyH_take (i := 20) (oi := { dst := some 30, op := .pick (.tmp 19) (.tmp 29) (.const (.bool false)), type := _, pos := _, after := _, guard := some (6, false) }) (v := undef) rfl (by kernel_rfl) (by kernel_rfl) (by kernel_rfl) (fun _ _ _ h => h) (Or.inr ⟨by rfl, rfl⟩) hHeld ?_
        try simp only [Act.put, List.setIfInBounds_toArray, List.set_cons_zero, List.set_cons_succ]
        refine wpAnyH_take (i := 21) (oi := { dst := some 31, op := .pick (.tmp 16) (.const (.bool true)) (.tmp 30), type := _, pos := _, after := _, guard := none }) (v := .bool true) rfl (by kernel_rfl) (by kernel_rfl) (by kernel_rfl) (fun _ _ _ h => h) (Or.inl ⟨by rfl, fun wh hSw => ?_⟩) hHeld ?_
        · (dsimp only at hSw; go_simp)
        try simp only [Act.put, List.setIfInBounds_toArray, List.set_cons_zero, List.set_cons_succ]
        refine wpAnyH_done (by kernel_rfl) ?_ _
        go_wp2
        go_ret
        exact reads_mk HR.out.symm
      | true =>
        have HW := Lib.hid hv
        rw [hv] at HV
        clear hv
        rcases Nat.eq_zero_or_pos k with h0 | hpos
        · have hgt : ¬ (0 : Int) < (k : Int) := by omega
          have hgt2 : ¬ 0 < k := by omega
          have HO2 := Lib.hid (HO.out HW.out (fun h => absurd h hgt2))
          clear h0
          go_wp2_with fail
          refine wp_region_held_drew (S := fun w' => w'.cell? ⟨b, o + k, none⟩ = some (.string ⟨x.toArray⟩)) (by kernel_rfl) hc (fun hHeld => ?_)
          refine wpAnyH_take (i := 0) (oi := { dst := some 10, op := .move (.tmp 0), type := _, pos := _, after := _, guard := none }) (v := .slice (some ⟨b, o, none⟩) n ca) rfl (by kernel_rfl) (by kernel_rfl) (by kernel_rfl) (fun _ _ _ h => h) (Or.inl ⟨by rfl, fun wh hSw => ?_⟩) hHeld ?_
          · (dsimp only at hSw; go_simp)
          try simp only [Act.put, List.setIfInBounds_toArray, List.set_cons_zero, List.set_cons_succ]
          refine wpAnyH_take (i := 1) (oi := { dst := some 11, op := .move (.tmp 3), type := _, pos := _, after := _, guard := none }) (v := .int .i64 (k : Int)) rfl (by kernel_rfl) (by kernel_rfl) (by kernel_rfl) (fun _ _ _ h => h) (Or.inl ⟨by rfl, fun wh hSw => ?_⟩) hHeld ?_
          · (dsimp only at hSw; go_simp)
          try simp only [Act.put, List.setIfInBounds_toArray, List.set_cons_zero, List.set_cons_succ]
          refine wpAnyH_take (i := 2) (oi := { dst := some 12, op := .indexAddr 38 (.tmp 10) (.tmp 11), type := _, pos := _, after := _, guard := none }) (v := .pointer (some ⟨b, o + k, none⟩)) rfl (by kernel_rfl) (by kernel_rfl) (by kernel_rfl) (fun _ _ _ h => h) (Or.inl ⟨by rfl, fun wh hSw => ?_⟩) hHeld ?_
          · (dsimp only at hSw; go_simp)
          try simp only [Act.put, List.setIfInBounds_toArray, List.set_cons_zero, List.set_cons_succ]
          refine wpAnyH_take (i := 3) (oi := { dst := some 13, op := .load 9 (.tmp 12), type := _, pos := _, after := _, guard := none }) (v := .string ⟨x.toArray⟩) rfl (by kernel_rfl) (by kernel_rfl) (by kernel_rfl) (fun _ _ _ h => h) (Or.inl ⟨by rfl, fun wh hSw => ?_⟩) hHeld ?_
          · (dsimp only at hSw; go_simp)
          try simp only [Act.put, List.setIfInBounds_toArray, List.set_cons_zero, List.set_cons_succ]
          refine wpAnyH_ready (rs := [4]) (by kernel_rfl) (by simp) ?_
          refine AllReadyH.cons (o := { dst := some 14, op := .call { callee := .value (.func 33), args := #[.tmp 13], argTypes := #[9] }, type := _, pos := _, after := _, guard := none }) rfl (fun K hK => ?_) AllReadyH.nil
          go_simp
          refine (HV.out _).mono ?_
          rintro e w' ⟨rfl, rfl⟩
          refine hK.out _ _ ?_ (fun hHeld => ?_)
          · exact hHeld
          clear hK K
          try simp only [Act.put, List.setIfInBounds_toArray, List.set_cons_zero, List.set_cons_succ]
          refine wpAnyH_take (i := 5) (oi := { dst := some 15, op := .unOp .not 4 (.tmp 14), type := _, pos := _, after := _, guard := none }) (v := .bool false) rfl (by kernel_rfl) (by kernel_rfl) (by kernel_rfl) (fun _ _ _ h => h) (Or.inl ⟨by rfl, fun wh hSw => ?_⟩) hHeld ?_
          · (dsimp only at hSw; go_simp)
          try simp only [Act.put, List.setIfInBounds_toArray, List.set_cons_zero, List.set_cons_succ]
          refine wpAnyH_take (i := 6) (oi := { dst := some 16, op := .move (.tmp 15), type := _, pos := _, after := _, guard := none }) (v := .bool false) rfl (by kernel_rfl) (by kernel_rfl) (by kernel_rfl) (fun _ _ _ h => h) (Or.inl ⟨by rfl, fun wh hSw => ?_⟩) hHeld ?_
          · (dsimp only at hSw; go_simp)
          try simp only [Act.put, List.setIfInBounds_toArray, List.set_cons_zero, List.set_cons_succ]
          refine wpAnyH_take (i := 7) (oi := { dst := some 17, op := .move (.tmp 3), type := _, pos := _, after := _, guard := some (6, false) }) (v := .int .i64 (k : Int)) rfl (by kernel_rfl) (by kernel_rfl) (by kernel_rfl) (fun _ _ _ h => h) (Or.inl ⟨by rfl, fun wh hSw => ?_⟩) hHeld ?_
          · (dsimp only at hSw; go_simp)
          try simp only [Act.put, List.setIfInBounds_toArray, List.set_cons_zero, List.set_cons_succ]
          refine wpAnyH_take (i := 8) (oi := { dst := some 18, op := .binOp .gtr 3 (.tmp 17) (.const (.int .i64 0)) 3, type := _, pos := _, after := _, guard := some (6, false) }) (v := .bool false) rfl (by kernel_rfl) (by kernel_rfl) (by kernel_rfl) (fun _ _ _ h => h) (Or.inl ⟨by rfl, fun wh hSw => ?_⟩) hHeld ?_
          · (dsimp only at hSw; go_simp)
          try simp only [Act.put, List.setIfInBounds_toArray, List.set_cons_zero, List.set_cons_succ]
          refine wpAnyH_take (i := 9) (oi := { dst := some 19, op := .move (.tmp 18), type := _, pos := _, after := _, guard := some (6, false) }) (v := .bool false) rfl (by kernel_rfl) (by kernel_rfl) (by kernel_rfl) (fun _ _ _ h => h) (Or.inl ⟨by rfl, fun wh hSw => ?_⟩) hHeld ?_
          · (dsimp only at hSw; go_simp)
          try simp only [Act.put, List.setIfInBounds_toArray, List.set_cons_zero, List.set_cons_succ]
          refine wpAnyH_take (i := 10) (oi := { dst := some 20, op := .move (.tmp 0), type := _, pos := _, after := _, guard := some (9, true) }) (v := undef) rfl (by kernel_rfl) (by kernel_rfl) (by kernel_rfl) (fun _ _ _ h => h) (Or.inr ⟨by rfl, rfl⟩) hHeld ?_
          try simp only [Act.put, List.setIfInBounds_toArray, List.set_cons_zero, List.set_cons_succ]
          refine wpAnyH_take (i := 11) (oi := { dst := some 21, op := .move (.tmp 3), type := _, pos := _, after := _, guard := some (9, true) }) (v := undef) rfl (by kernel_rfl) (by kernel_rfl) (by kernel_rfl) (fun _ _ _ h => h) (Or.inr ⟨by rfl, rfl⟩) hHeld ?_
          try simp only [Act.put, List.setIfInBounds_toArray, List.set_cons_zero, List.set_cons_succ]
          refine wpAnyH_take (i := 12) (oi := { dst := some 22, op := .binOp .sub 3 (.tmp 21) (.const (.int .i64 1)) 3, type := _, pos := _, after := _, guard := some (9, true) }) (v := undef) rfl (by kernel_rfl) (by kernel_rfl) (by kernel_rfl) (fun _ _ _ h => h) (Or.inr ⟨by rfl, rfl⟩) hHeld ?_
          try simp only [Act.put, List.setIfInBounds_toArray, List.set_cons_zero, List.set_cons_succ]
          refine wpAnyH_take (i := 13) (oi := { dst := some 23, op := .indexAddr 38 (.tmp 20) (.tmp 22), type := _, pos := _, after := _, guard := some (9, true) }) (v := undef) rfl (by kernel_rfl) (by kernel_rfl) (by kernel_rfl) (fun _ _ _ h => h) (Or.inr ⟨by rfl, rfl⟩) hHeld ?_
          try simp only [Act.put, List.setIfInBounds_toArray, List.set_cons_zero, List.set_cons_succ]
          refine wpAnyH_take (i := 14) (oi := { dst := some 24, op := .load 9 (.tmp 23), type := _, pos := _, after := _, guard := some (9, true) }) (v := undef) rfl (by kernel_rfl) (by kernel_rfl) (by kernel_rfl) (fun _ _ _ h => h) (Or.inr ⟨by rfl, rfl⟩) hHeld ?_
          try simp only [Act.put, List.setIfInBounds_toArray, List.set_cons_zero, List.set_cons_succ]
          refine wpAnyH_take (i := 15) (oi := { dst := some 25, op := .move (.tmp 0), type := _, pos := _, after := _, guard := some (9, true) }) (v := undef) rfl (by kernel_rfl) (by kernel_rfl) (by kernel_rfl) (fun _ _ _ h => h) (Or.inr ⟨by rfl, rfl⟩) hHeld ?_
          try simp only [Act.put, List.setIfInBounds_toArray, List.set_cons_zero, List.set_cons_succ]
          refine wpAnyH_take (i := 16) (oi := { dst := some 26, op := .move (.tmp 3), type := _, pos := _, after := _, guard := some (9, true) }) (v := undef) rfl (by kernel_rfl) (by kernel_rfl) (by kernel_rfl) (fun _ _ _ h => h) (Or.inr ⟨by rfl, rfl⟩) hHeld ?_
          try simp only [Act.put, List.setIfInBounds_toArray, List.set_cons_zero, List.set_cons_succ]
          refine wpAnyH_take (i := 17) (oi := { dst := some 27, op := .indexAddr 38 (.tmp 25) (.tmp 26), type := _, pos := _, after := _, guard := some (9, true) }) (v := undef) rfl (by kernel_rfl) (by kernel_rfl) (by kernel_rfl) (fun _ _ _ h => h) (Or.inr ⟨by rfl, rfl⟩) hHeld ?_
          try simp only [Act.put, List.setIfInBounds_toArray, List.set_cons_zero, List.set_cons_succ]
          refine wpAnyH_take (i := 18) (oi := { dst := some 28, op := .load 9 (.tmp 27), type := _, pos := _, after := _, guard := some (9, true) }) (v := undef) rfl (by kernel_rfl) (by kernel_rfl) (by kernel_rfl) (fun _ _ _ h => h) (Or.inr ⟨by rfl, rfl⟩) hHeld ?_
          try simp only [Act.put, List.setIfInBounds_toArray, List.set_cons_zero, List.set_cons_succ]
          refine wpAnyH_take (i := 19) (oi := { dst := some 29, op := .binOp .geq 9 (.tmp 24) (.tmp 28) 9, type := _, pos := _, after := _, guard := some (9, true) }) (v := undef) rfl (by kernel_rfl) (by kernel_rfl) (by kernel_rfl) (fun _ _ _ h => h) (Or.inr ⟨by rfl, rfl⟩) hHeld ?_
          try simp only [Act.put, List.setIfInBounds_toArray, List.set_cons_zero, List.set_cons_succ]
          refine wpAnyH_take (i := 20) (oi := { dst := some 30, op := .pick (.tmp 19) (.tmp 29) (.const (.bool false)), type := _, pos := _, after := _, guard := some (6, false) }) (v := .bool false) rfl (by kernel_rfl) (by kernel_rfl) (by kernel_rfl) (fun _ _ _ h => h) (Or.inl ⟨by rfl, fun wh hSw => ?_⟩) hHeld ?_
          · (dsimp only at hSw; go_simp)
          try simp only [Act.put, List.setIfInBounds_toArray, List.set_cons_zero, List.set_cons_succ]
          refine wpAnyH_take (i := 21) (oi := { dst := some 31, op := .pick (.tmp 16) (.const (.bool true)) (.tmp 30), type := _, pos := _, after := _, guard := none }) (v := .bool false) rfl (by kernel_rfl) (by kernel_rfl) (by kernel_rfl) (fun _ _ _ h => h) (Or.inl ⟨by rfl, fun wh hSw => ?_⟩) hHeld ?_
          · (dsimp only at hSw; go_simp)
          try simp only [Act.put, List.setIfInBounds_toArray, List.set_cons_zero, List.set_cons_succ]
          refine wpAnyH_done (by kernel_rfl) ?_ _
          go_wp2
          go_roundw
          case rel => exact ⟨k + 1, _, by omega, by go_num, HO2, rfl⟩
          case measure => simp [intOf]; omega
        · have hgt : (0 : Int) < (k : Int) := by omega
          obtain ⟨q, hq⟩ : ∃ q : Nat, (k : Int) - 1 = (q : Int) := ⟨k - 1, by omega⟩
          have hqk : k - 1 = q := by omega
          have hq0 : (q : Int) < (n : Int) := by omega
          obtain ⟨b2, o2, e2, hc2⟩ := HX.out q (by omega)
          cases e2
          rw [hqk] at HB2 HO
          generalize xs.getD q [] = y at hc2 HB2 HO
          clear hqk
          cases hbl : bl y x with
          | false =>
            have HR := Lib.hid (HB2.out hpos hbl)
            have hle : (Op.bytesLess y x) = false := hbl
            clear hbl
            go_wp2_with fail
            refine wp_region_held_drew (S := fun w' => w'.cell? ⟨b, o + k, none⟩ = some (.string ⟨x.toArray⟩) ∧ w'.cell? ⟨b, o + q, none⟩ = some (.string ⟨y.toArray⟩)) (by kernel_rfl) ⟨hc, hc2⟩ (fun hHeld => ?_)
            refine wpAnyH_take (i := 0) (oi := { dst := some 10, op := .move (.tmp 0), type := _, pos := _, after := _, guard := none }) (v := .slice (some ⟨b, o, none⟩) n ca) rfl (by kernel_rfl) (by kernel_rfl) (by kernel_rfl) (fun _ _ _ h => h) (Or.inl ⟨by rfl, fun wh hSw => ?_⟩) hHeld ?_
            · (dsimp only at hSw; go_simp)
            try simp only [Act.put, List.setIfInBounds_toArray, List.set_cons_zero, List.set_cons_succ]
            refine wpAnyH_take (i := 1) (oi := { dst := some 11, op := .move (.tmp 3), type := _, pos := _, after := _, guard := none }) (v := .int .i64 (k : Int)) rfl (by kernel_rfl) (by kernel_rfl) (by kernel_rfl) (fun _ _ _ h => h) (Or.inl ⟨by rfl, fun wh hSw => ?_⟩) hHeld ?_
            · (dsimp only at hSw; go_simp)
            try simp only [Act.put, List.setIfInBounds_toArray, List.set_cons_zero, List.set_cons_succ]
            refine wpAnyH_take (i := 2) (oi := { dst := some 12, op := .indexAddr 38 (.tmp 10) (.tmp 11), type := _, pos := _, after := _, guard := none }) (v := .pointer (some ⟨b, o + k, none⟩)) rfl (by kernel_rfl) (by kernel_rfl) (by kernel_rfl) (fun _ _ _ h => h) (Or.inl ⟨by rfl, fun wh hSw => ?_⟩) hHeld ?_
            · (dsimp only at hSw; go_simp)
            try simp only [Act.put, List.setIfInBounds_toArray, List.set_cons_zero, List.set_cons_succ]
            refine wpAnyH_take (i := 3) (oi := { dst := some 13, op := .load 9 (.tmp 12), type := _, pos := _, after := _, guard := none }) (v := .string ⟨x.toArray⟩) rfl (by kernel_rfl) (by kernel_rfl) (by kernel_rfl) (fun _ _ _ h => h) (Or.inl ⟨by rfl, fun wh hSw => ?_⟩) hHeld ?_
            · (dsimp only at hSw; go_simp)
            try simp only [Act.put, List.setIfInBounds_toArray, List.set_cons_zero, List.set_cons_succ]
            refine wpAnyH_ready (rs := [4]) (by kernel_rfl) (by simp) ?_
            refine AllReadyH.cons (o := { dst := some 14, op := .call { callee := .value (.func 33), args := #[.tmp 13], argTypes := #[9] }, type := _, pos := _, after := _, guard := none }) rfl (fun K hK => ?_) AllReadyH.nil
            go_simp
            refine (HV.out _).mono ?_
            rintro e w' ⟨rfl, rfl⟩
            refine hK.out _ _ ?_ (fun hHeld => ?_)
            · exact hHeld
            clear hK K
            try simp only [Act.put, List.setIfInBounds_toArray, List.set_cons_zero, List.set_cons_succ]
            refine wpAnyH_take (i := 5) (oi := { dst := some 15, op := .unOp .not 4 (.tmp 14), type := _, pos := _, after := _, guard := none }) (v := .bool false) rfl (by kernel_rfl) (by kernel_rfl) (by kernel_rfl) (fun _ _ _ h => h) (Or.inl ⟨by rfl, fun wh hSw => ?_⟩) hHeld ?_
            · (dsimp only at hSw; go_simp)
            try simp only [Act.put, List.setIfInBounds_toArray, List.set_cons_zero, List.set_cons_succ]
            refine wpAnyH_take (i := 6) (oi := { dst := some 16, op := .move (.tmp 15), type := _, pos := _, after := _, guard := none }) (v := .bool false) rfl (by kernel_rfl) (by kernel_rfl) (by kernel_rfl) (fun _ _ _ h => h) (Or.inl ⟨by rfl, fun wh hSw => ?_⟩) hHeld ?_
            · (dsimp only at hSw; go_simp)
            try simp only [Act.put, List.setIfInBounds_toArray, List.set_cons_zero, List.set_cons_succ]
            refine wpAnyH_take (i := 7) (oi := { dst := some 17, op := .move (.tmp 3), type := _, pos := _, after := _, guard := some (6, false) }) (v := .int .i64 (k : Int)) rfl (by kernel_rfl) (by kernel_rfl) (by kernel_rfl) (fun _ _ _ h => h) (Or.inl ⟨by rfl, fun wh hSw => ?_⟩) hHeld ?_
            · (dsimp only at hSw; go_simp)
            try simp only [Act.put, List.setIfInBounds_toArray, List.set_cons_zero, List.set_cons_succ]
            refine wpAnyH_take (i := 8) (oi := { dst := some 18, op := .binOp .gtr 3 (.tmp 17) (.const (.int .i64 0)) 3, type := _, pos := _, after := _, guard := some (6, false) }) (v := .bool true) rfl (by kernel_rfl) (by kernel_rfl) (by kernel_rfl) (fun _ _ _ h => h) (Or.inl ⟨by rfl, fun wh hSw => ?_⟩) hHeld ?_
            · (dsimp only at hSw; go_simp)
            try simp only [Act.put, List.setIfInBounds_toArray, List.set_cons_zero, List.set_cons_succ]
            refine wpAnyH_take (i := 9) (oi := { dst := some 19, op := .move (.tmp 18), type := _, pos := _, after := _, guard := some (6, false) }) (v := .bool true) rfl (by kernel_rfl) (by kernel_rfl) (by kernel_rfl) (fun _ _ _ h => h) (Or.inl ⟨by rfl, fun wh hSw => ?_⟩) hHeld ?_
            · (dsimp only at hSw; go_simp)
            try simp only [Act.put, List.setIfInBounds_toArray, List.set_cons_zero, List.set_cons_succ]
            refine wpAnyH_take (i := 10) (oi := { dst := some 20, op := .move (.tmp 0), type := _, pos := _, after := _, guard := some (9, true) }) (v := .slice (some ⟨b, o, none⟩) n ca) rfl (by kernel_rfl) (by kernel_rfl) (by kernel_rfl) (fun _ _ _ h => h) (Or.inl ⟨by rfl, fun wh hSw => ?_⟩) hHeld ?_
            · (dsimp only at hSw; go_simp)
            try simp only [Act.put, List.setIfInBounds_toArray, List.set_cons_zero, List.set_cons_succ]
            refine wpAnyH_take (i := 11) (oi := { dst := some 21, op := .move (.tmp 3), type := _, pos := _, after := _, guard := some (9, true) }) (v := .int .i64 (k : Int)) rfl (by kernel_rfl) (by kernel_rfl) (by kernel_rfl) (fun _ _ _ h => h) (Or.inl ⟨by rfl, fun wh hSw => ?_⟩) hHeld ?_
            · (dsimp only at hSw; go_simp)
            try simp only [Act.put, List.setIfInBounds_toArray, List.set_cons_zero, List.set_cons_succ]
            refine wpAnyH_take (i := 12) (oi := { dst := some 22, op := .binOp .sub 3 (.tmp 21) (.const (.int .i64 1)) 3, type := _, pos := _, after := _, guard := some (9, true) }) (v := .int .i64 (q : Int)) rfl (by kernel_rfl) (by kernel_rfl) (by kernel_rfl) (fun _ _ _ h => h) (Or.inl ⟨by rfl, fun wh hSw => ?_⟩) hHeld ?_
            · (dsimp only at hSw; go_simp; rw [IntKind.wrap_i64]; omega)
            try simp only [Act.put, List.setIfInBounds_toArray, List.set_cons_zero, List.set_cons_succ]
            refine wpAnyH_take (i := 13) (oi := { dst := some 23, op := .indexAddr 38 (.tmp 20) (.tmp 22), type := _, pos := _, after := _, guard := some (9, true) }) (v := .pointer (some ⟨b, o + q, none⟩)) rfl (by kernel_rfl) (by kernel_rfl) (by kernel_rfl) (fun _ _ _ h => h) (Or.inl ⟨by rfl, fun wh hSw => ?_⟩) hHeld ?_
            · (dsimp only at hSw; go_simp)
            try simp only [Act.put, List.setIfInBounds_toArray, List.set_cons_zero, List.set_cons_succ]
            refine wpAnyH_take (i := 14) (oi := { dst := some 24, op := .load 9 (.tmp 23), type := _, pos := _, after := _, guard := some (9, true) }) (v := .string ⟨y.toArray⟩) rfl (by kernel_rfl) (by kernel_rfl) (by kernel_rfl) (fun _ _ _ h => h) (Or.inl ⟨by rfl, fun wh hSw => ?_⟩) hHeld ?_
            · (dsimp only at hSw; go_simp)
            try simp only [Act.put, List.setIfInBounds_toArray, List.set_cons_zero, List.set_cons_succ]
            refine wpAnyH_take (i := 15) (oi := { dst := some 25, op := .move (.tmp 0), type := _, pos := _, after := _, guard := some (9, true) }) (v := .slice (some ⟨b, o, none⟩) n ca) rfl (by kernel_rfl) (by kernel_rfl) (by kernel_rfl) (fun _ _ _ h => h) (Or.inl ⟨by rfl, fun wh hSw => ?_⟩) hHeld ?_
            · (dsimp only at hSw; go_simp)
            try simp only [Act.put, List.setIfInBounds_toArray, List.set_cons_zero, List.set_cons_succ]
            refine wpAnyH_take (i := 16) (oi := { dst := some 26, op := .move (.tmp 3), type := _, pos := _, after := _, guard := some (9, true) }) (v := .int .i64 (k : Int)) rfl (by kernel_rfl) (by kernel_rfl) (by kernel_rfl) (fun _ _ _ h => h) (Or.inl ⟨by rfl, fun wh hSw => ?_⟩) hHeld ?_
            · (dsimp only at hSw; go_simp)
            try simp only [Act.put, List.setIfInBounds_toArray, List.set_cons_zero, List.set_cons_succ]
            refine wpAnyH_take (i := 17) (oi := { dst := some 27, op := .indexAddr 38 (.tmp 25) (.tmp 26), type := _, pos := _, after := _, guard := some (9, true) }) (v := .pointer (some ⟨b, o + k, none⟩)) rfl (by kernel_rfl) (by kernel_rfl) (by kernel_rfl) (fun _ _ _ h => h) (Or.inl ⟨by rfl, fun wh hSw => ?_⟩) hHeld ?_
            · (dsimp only at hSw; go_simp)
            try simp only [Act.put, List.setIfInBounds_toArray, List.set_cons_zero, List.set_cons_succ]
            refine wpAnyH_take (i := 18) (oi := { dst := some 28, op := .load 9 (.tmp 27), type := _, pos := _, after := _, guard := some (9, true) }) (v := .string ⟨x.toArray⟩) rfl (by kernel_rfl) (by kernel_rfl) (by kernel_rfl) (fun _ _ _ h => h) (Or.inl ⟨by rfl, fun wh hSw => ?_⟩) hHeld ?_
            · (dsimp only at hSw; go_simp)
            try simp only [Act.put, List.setIfInBounds_toArray, List.set_cons_zero, List.set_cons_succ]
            refine wpAnyH_take (i := 19) (oi := { dst := some 29, op := .binOp .geq 9 (.tmp 24) (.tmp 28) 9, type := _, pos := _, after := _, guard := some (9, true) }) (v := .bool true) rfl (by kernel_rfl) (by kernel_rfl) (by kernel_rfl) (fun _ _ _ h => h) (Or.inl ⟨by rfl, fun wh hSw => ?_⟩) hHeld ?_
            · (dsimp only at hSw; go_simp)
            try simp only [Act.put, List.setIfInBounds_toArray, List.set_cons_zero, List.set_cons_succ]
            refine wpAnyH_take (i := 20) (oi := { dst := some 30, op := .pick (.tmp 19) (.tmp 29) (.const (.bool false)), type := _, pos := _, after := _, guard := some (6, false) }) (v := .bool true) rfl (by kernel_rfl) (by kernel_rfl) (by kernel_rfl) (fun _ _ _ h => h) (Or.inl ⟨by rfl, fun wh hSw => ?_⟩) hHeld ?_
            · (dsimp only at hSw; go_simp)
            try simp only [Act.put, List.setIfInBounds_toArray, List.set_cons_zero, List.set_cons_succ]
            refine wpAnyH_take (i := 21) (oi := { dst := some 31, op := .pick (.tmp 16) (.const (.bool true)) (.tmp 30), type := _, pos := _, after := _, guard := none }) (v := .bool true) rfl (by kernel_rfl) (by kernel_rfl) (by kernel_rfl) (fun _ _ _ h => h) (Or.inl ⟨by rfl, fun wh hSw => ?_⟩) hHeld ?_
            · (dsimp only at hSw; go_simp)
            try simp only [Act.put, List.setIfInBounds_toArray, List.set_cons_zero, List.set_cons_succ]
            refine wpAnyH_done (by kernel_rfl) ?_ _
            go_wp2
            go_ret
            exact reads_mk HR.out.symm
          | true =>
            have HO2 := Lib.hid (HO.out HW.out (fun _ => hbl))
            have hle : (Op.bytesLess y x) = true := hbl
            clear hbl
            go_wp2_with fail
            refine wp_region_held_drew (S := fun w' => w'.cell? ⟨b, o + k, none⟩ = some (.string ⟨x.toArray⟩) ∧ w'.cell? ⟨b, o + q, none⟩ = some (.string ⟨y.toArray⟩)) (by kernel_rfl) ⟨hc, hc2⟩ (fun hHeld => ?_)
            refine wpAnyH_take (i := 0) (oi := { dst := some 10, op := .move (.tmp 0), type := _, pos := _, after := _, guard := none }) (v := .slice (some ⟨b, o, none⟩) n ca) rfl (by kernel_rfl) (by kernel_rfl) (by kernel_rfl) (fun _ _ _ h => h) (Or.inl ⟨by rfl, fun wh hSw => ?_⟩) hHeld ?_
            · (dsimp only at hSw; go_simp)
            try simp only [Act.put, List.setIfInBounds_toArray, List.set_cons_zero, List.set_cons_succ]
            refine wpAnyH_take (i := 1) (oi := { dst := some 11, op := .move (.tmp 3), type := _, pos := _, after := _, guard := none }) (v := .int .i64 (k : Int)) rfl (by kernel_rfl) (by kernel_rfl) (by kernel_rfl) (fun _ _ _ h => h) (Or.inl ⟨by rfl, fun wh hSw => ?_⟩) hHeld ?_
            · (dsimp only at hSw; go_simp)
            try simp only [Act.put, List.setIfInBounds_toArray, List.set_cons_zero, List.set_cons_succ]
            refine wpAnyH_take (i := 2) (oi := { dst := some 12, op := .indexAddr 38 (.tmp 10) (.tmp 11), type := _, pos := _, after := _, guard := none }) (v := .pointer (some ⟨b, o + k, none⟩)) rfl (by kernel_rfl) (by kernel_rfl) (by kernel_rfl) (fun _ _ _ h => h) (Or.inl ⟨by rfl, fun wh hSw => ?_⟩) hHeld ?_
            · (dsimp only at hSw; go_simp)
            try simp only [Act.put, List.setIfInBounds_toArray, List.set_cons_zero, List.set_cons_succ]
            refine wpAnyH_take (i := 3) (oi := { dst := some 13, op := .load 9 (.tmp 12), type := _, pos := _, after := _, guard := none }) (v := .string ⟨x.toArray⟩) rfl (by kernel_rfl) (by kernel_rfl) (by kernel_rfl) (fun _ _ _ h => h) (Or.inl ⟨by rfl, fun wh hSw => ?_⟩) hHeld ?_
            · (dsimp only at hSw; go_simp)
            try simp only [Act.put, List.setIfInBounds_toArray, List.set_cons_zero, List.set_cons_succ]
            refine wpAnyH_ready (rs := [4]) (by kernel_rfl) (by simp) ?_
            refine AllReadyH.cons (o := { dst := some 14, op := .call { callee := .value (.func 33), args := #[.tmp 13], argTypes := #[9] }, type := _, pos := _, after := _, guard := none }) rfl (fun K hK => ?_) AllReadyH.nil
            go_simp
            refine (HV.out _).mono ?_
            rintro e w' ⟨rfl, rfl⟩
            refine hK.out _ _ ?_ (fun hHeld => ?_)
            · exact hHeld
            clear hK K
            try simp only [Act.put, List.setIfInBounds_toArray, List.set_cons_zero, List.set_cons_succ]
            refine wpAnyH_take (i := 5) (oi := { dst := some 15, op := .unOp .not 4 (.tmp 14), type := _, pos := _, after := _, guard := none }) (v := .bool false) rfl (by kernel_rfl) (by kernel_rfl) (by kernel_rfl) (fun _ _ _ h => h) (Or.inl ⟨by rfl, fun wh hSw => ?_⟩) hHeld ?_
            · (dsimp only at hSw; go_simp)
            try simp only [Act.put, List.setIfInBounds_toArray, List.set_cons_zero, List.set_cons_succ]
            refine wpAnyH_take (i := 6) (oi := { dst := some 16, op := .move (.tmp 15), type := _, pos := _, after := _, guard := none }) (v := .bool false) rfl (by kernel_rfl) (by kernel_rfl) (by kernel_rfl) (fun _ _ _ h => h) (Or.inl ⟨by rfl, fun wh hSw => ?_⟩) hHeld ?_
            · (dsimp only at hSw; go_simp)
            try simp only [Act.put, List.setIfInBounds_toArray, List.set_cons_zero, List.set_cons_succ]
            refine wpAnyH_take (i := 7) (oi := { dst := some 17, op := .move (.tmp 3), type := _, pos := _, after := _, guard := some (6, false) }) (v := .int .i64 (k : Int)) rfl (by kernel_rfl) (by kernel_rfl) (by kernel_rfl) (fun _ _ _ h => h) (Or.inl ⟨by rfl, fun wh hSw => ?_⟩) hHeld ?_
            · (dsimp only at hSw; go_simp)
            try simp only [Act.put, List.setIfInBounds_toArray, List.set_cons_zero, List.set_cons_succ]
            refine wpAnyH_take (i := 8) (oi := { dst := some 18, op := .binOp .gtr 3 (.tmp 17) (.const (.int .i64 0)) 3, type := _, pos := _, after := _, guard := some (6, false) }) (v := .bool true) rfl (by kernel_rfl) (by kernel_rfl) (by kernel_rfl) (fun _ _ _ h => h) (Or.inl ⟨by rfl, fun wh hSw => ?_⟩) hHeld ?_
            · (dsimp only at hSw; go_simp)
            try simp only [Act.put, List.setIfInBounds_toArray, List.set_cons_zero, List.set_cons_succ]
            refine wpAnyH_take (i := 9) (oi := { dst := some 19, op := .move (.tmp 18), type := _, pos := _, after := _, guard := some (6, false) }) (v := .bool true) rfl (by kernel_rfl) (by kernel_rfl) (by kernel_rfl) (fun _ _ _ h => h) (Or.inl ⟨by rfl, fun wh hSw => ?_⟩) hHeld ?_
            · (dsimp only at hSw; go_simp)
            try simp only [Act.put, List.setIfInBounds_toArray, List.set_cons_zero, List.set_cons_succ]
            refine wpAnyH_take (i := 10) (oi := { dst := some 20, op := .move (.tmp 0), type := _, pos := _, after := _, guard := some (9, true) }) (v := .slice (some ⟨b, o, none⟩) n ca) rfl (by kernel_rfl) (by kernel_rfl) (by kernel_rfl) (fun _ _ _ h => h) (Or.inl ⟨by rfl, fun wh hSw => ?_⟩) hHeld ?_
            · (dsimp only at hSw; go_simp)
            try simp only [Act.put, List.setIfInBounds_toArray, List.set_cons_zero, List.set_cons_succ]
            refine wpAnyH_take (i := 11) (oi := { dst := some 21, op := .move (.tmp 3), type := _, pos := _, after := _, guard := some (9, true) }) (v := .int .i64 (k : Int)) rfl (by kernel_rfl) (by kernel_rfl) (by kernel_rfl) (fun _ _ _ h => h) (Or.inl ⟨by rfl, fun wh hSw => ?_⟩) hHeld ?_
            · (dsimp only at hSw; go_simp)
            try simp only [Act.put, List.setIfInBounds_toArray, List.set_cons_zero, List.set_cons_succ]
            refine wpAnyH_take (i := 12) (oi := { dst := some 22, op := .binOp .sub 3 (.tmp 21) (.const (.int .i64 1)) 3, type := _, pos := _, after := _, guard := some (9, true) }) (v := .int .i64 (q : Int)) rfl (by kernel_rfl) (by kernel_rfl) (by kernel_rfl) (fun _ _ _ h => h) (Or.inl ⟨by rfl, fun wh hSw => ?_⟩) hHeld ?_
            · (dsimp only at hSw; go_simp; rw [IntKind.wrap_i64]; omega)
            try simp only [Act.put, List.setIfInBounds_toArray, List.set_cons_zero, List.set_cons_succ]
            refine wpAnyH_take (i := 13) (oi := { dst := some 23, op := .indexAddr 38 (.tmp 20) (.tmp 22), type := _, pos := _, after := _, guard := some (9, true) }) (v := .pointer (some ⟨b, o + q, none⟩)) rfl (by kernel_rfl) (by kernel_rfl) (by kernel_rfl) (fun _ _ _ h => h) (Or.inl ⟨by rfl, fun wh hSw => ?_⟩) hHeld ?_
            · (dsimp only at hSw; go_simp)
            try simp only [Act.put, List.setIfInBounds_toArray, List.set_cons_zero, List.set_cons_succ]
            refine wpAnyH_take (i := 14) (oi := { dst := some 24, op := .load 9 (.tmp 23), type := _, pos := _, after := _, guard := some (9, true) }) (v := .string ⟨y.toArray⟩) rfl (by kernel_rfl) (by kernel_rfl) (by kernel_rfl) (fun _ _ _ h => h) (Or.inl ⟨by rfl, fun wh hSw => ?_⟩) hHeld ?_
            · (dsimp only at hSw; go_simp)
            try simp only [Act.put, List.setIfInBounds_toArray, List.set_cons_zero, List.set_cons_succ]
            refine wpAnyH_take (i := 15) (oi := { dst := some 25, op := .move (.tmp 0), type := _, pos := _, after := _, guard := some (9, true) }) (v := .slice (some ⟨b, o, none⟩) n ca) rfl (by kernel_rfl) (by kernel_rfl) (by kernel_rfl) (fun _ _ _ h => h) (Or.inl ⟨by rfl, fun wh hSw => ?_⟩) hHeld ?_
            · (dsimp only at hSw; go_simp)
            try simp only [Act.put, List.setIfInBounds_toArray, List.set_cons_zero, List.set_cons_succ]
            refine wpAnyH_take (i := 16) (oi := { dst := some 26, op := .move (.tmp 3), type := _, pos := _, after := _, guard := some (9, true) }) (v := .int .i64 (k : Int)) rfl (by kernel_rfl) (by kernel_rfl) (by kernel_rfl) (fun _ _ _ h => h) (Or.inl ⟨by rfl, fun wh hSw => ?_⟩) hHeld ?_
            · (dsimp only at hSw; go_simp)
            try simp only [Act.put, List.setIfInBounds_toArray, List.set_cons_zero, List.set_cons_succ]
            refine wpAnyH_take (i := 17) (oi := { dst := some 27, op := .indexAddr 38 (.tmp 25) (.tmp 26), type := _, pos := _, after := _, guard := some (9, true) }) (v := .pointer (some ⟨b, o + k, none⟩)) rfl (by kernel_rfl) (by kernel_rfl) (by kernel_rfl) (fun _ _ _ h => h) (Or.inl ⟨by rfl, fun wh hSw => ?_⟩) hHeld ?_
            · (dsimp only at hSw; go_simp)
            try simp only [Act.put, List.setIfInBounds_toArray, List.set_cons_zero, List.set_cons_succ]
            refine wpAnyH_take (i := 18) (oi := { dst := some 28, op := .load 9 (.tmp 27), type := _, pos := _, after := _, guard := some (9, true) }) (v := .string ⟨x.toArray⟩) rfl (by kernel_rfl) (by kernel_rfl) (by kernel_rfl) (fun _ _ _ h => h) (Or.inl ⟨by rfl, fun wh hSw => ?_⟩) hHeld ?_
            · (dsimp only at hSw; go_simp)
            try simp only [Act.put, List.setIfInBounds_toArray, List.set_cons_zero, List.set_cons_succ]
            refine wpAnyH_take (i := 19) (oi := { dst := some 29, op := .binOp .geq 9 (.tmp 24) (.tmp 28) 9, type := _, pos := _, after := _, guard := some (9, true) }) (v := .bool false) rfl (by kernel_rfl) (by kernel_rfl) (by kernel_rfl) (fun _ _ _ h => h) (Or.inl ⟨by rfl, fun wh hSw => ?_⟩) hHeld ?_
            · (dsimp only at hSw; go_simp)
            try simp only [Act.put, List.setIfInBounds_toArray, List.set_cons_zero, List.set_cons_succ]
            refine wpAnyH_take (i := 20) (oi := { dst := some 30, op := .pick (.tmp 19) (.tmp 29) (.const (.bool false)), type := _, pos := _, after := _, guard := some (6, false) }) (v := .bool false) rfl (by kernel_rfl) (by kernel_rfl) (by kernel_rfl) (fun _ _ _ h => h) (Or.inl ⟨by rfl, fun wh hSw => ?_⟩) hHeld ?_
            · (dsimp only at hSw; go_simp)
            try simp only [Act.put, List.setIfInBounds_toArray, List.set_cons_zero, List.set_cons_succ]
            refine wpAnyH_take (i := 21) (oi := { dst := some 31, op := .pick (.tmp 16) (.const (.bool true)) (.tmp 30), type := _, pos := _, after := _, guard := none }) (v := .bool false) rfl (by kernel_rfl) (by kernel_rfl) (by kernel_rfl) (fun _ _ _ h => h) (Or.inl ⟨by rfl, fun wh hSw => ?_⟩) hHeld ?_
            · (dsimp only at hSw; go_simp)
            try simp only [Act.put, List.setIfInBounds_toArray, List.set_cons_zero, List.set_cons_succ]
            refine wpAnyH_done (by kernel_rfl) ?_ _
            go_wp2
            go_roundw
            case rel => exact ⟨k + 1, _, by omega, by go_num, HO2, rfl⟩
            case measure => simp [intOf]; omega
    · go_wp2
      go_ret
      have e : k = n := by omega
      refine reads_mk ?_
      rw [rvs, rokTo_all HT.out (by rw [e]; exact HN.out), ← HN.out, Bool.true_and, decide_eq_decide]
      omega
end Go.Proofs.Ythfdkenidfnmgaa
namespace Go.Proofs.Ythfdkenidfnmgaa
open Go.ChangeShapes Go.WideShapes Go.ChangeAt Go.RowKit
set_option linter.unusedVariables false
set_option maxRecDepth 100000
theorem OwnS.alloc {w w' : World} {v : Value} {ys : List Bs} (h : OwnS w v ys w') (o : Obj) : OwnS w v ys (w'.alloc o) := ⟨h.own.alloc _, h.bel.alloc h.bel.size o⟩
theorem Strs.grown {w w' : World} {v : Value} {xs : List Bs} {row : Option Nat} (h : Strs w v xs) (hg : w.grownBy w' row) (hne : ∀ b o n c, v = .slice (some ⟨b, o, none⟩) n c → row ≠ some b) : Strs w' v xs := by
  obtain ⟨a, cap, rfl, h1, h2, h3⟩ := h
  refine ⟨a, cap, rfl, h1, h2, fun i hi => ?_⟩
  obtain ⟨b, o, rfl, hc⟩ := h3 i hi
  exact ⟨b, o, rfl, (World.cell?_of_block (hg.block b (cell_lt hc) (fun e => hne b o _ _ rfl e.symm))).trans hc⟩
theorem Strs.take {w : World} {b o n c : Nat} {xs : List Bs} (h : Strs w (.slice (some ⟨b, o, none⟩) n c) xs) {k : Nat} (hk : k ≤ xs.length) : Strs w (.slice (some ⟨b, o, none⟩) k c) (xs.take k) := by
  obtain ⟨a', cap, e, h1, h2, h3⟩ := h
  injection e with e1 e2 e3
  subst e1; subst e3
  refine ⟨_, c, by rw [List.length_take, Nat.min_eq_left hk], by rw [List.length_take]; omega, h2, fun i hi => ?_⟩
  rw [List.length_take] at hi
  obtain ⟨b', o', e, hc⟩ := h3 i (by omega)
  cases e
  refine ⟨b, o, rfl, ?_⟩
  rw [hc, getD_lt (show i < xs.length by omega), getD_lt (show i < (xs.take k).length by rw [List.length_take]; omega), List.getElem_take]
theorem Strs.drop {w : World} {b o n c : Nat} {xs : List Bs} (h : Strs w (.slice (some ⟨b, o, none⟩) n c) xs) {k : Nat} (hk : k ≤ xs.length) : Strs w (.slice (some ⟨b, o + k, none⟩) (n - k) (c - k)) (xs.drop k) := by
  obtain ⟨a', cap, e, h1, h2, h3⟩ := h
  injection e with e1 e2 e3
  subst e1; subst e3
  refine ⟨_, c - k, by rw [List.length_drop, e2], by rw [List.length_drop]; omega, by omega, fun i hi => ?_⟩
  rw [List.length_drop] at hi
  obtain ⟨b', o', e, hc⟩ := h3 (k + i) (by omega)
  cases e
  refine ⟨b, o + k, rfl, ?_⟩
  rw [Nat.add_assoc, hc, getD_lt (show k + i < xs.length by omega), getD_lt (show i < (xs.drop k).length by rw [List.length_drop]; omega), List.getElem_drop]
end Go.Proofs.Ythfdkenidfnmgaa
namespace Go.Proofs.Ythfdkenidfnmgaa
open Go.ChangeShapes Go.WideShapes Go.ChangeAt Go.RowKit
set_option linter.unusedVariables false
set_option maxRecDepth 100000
theorem OwnV.drew {w w' : World} {v : Value} {ys : List IV} (h : OwnV w v ys w') : OwnV w v ys w'.drew := ⟨h.own, h.bel.drew⟩
theorem IsW.place {w : World} {B0 B1 : Nat} {v : Value} {xs : List IV} {k : Nat} (h : IsW w B0 B1 v xs) (hk : k < xs.length) : ∃ g p cap, v = .slice (some ⟨g, p, none⟩) xs.length cap ∧ B0 ≤ g ∧ g < B1 ∧ TriW w g (p + k * 3) (xs.getD k iz) := by
  obtain ⟨a, cap, rfl, h1, h2, h3⟩ := h
  obtain ⟨g, p, rfl, hg0, hg1, ht⟩ := h3 k hk
  exact ⟨g, p, cap, rfl, hg0, hg1, ht⟩
end Go.Proofs.Ythfdkenidfnmgaa
namespace Go.Proofs.Ythfdkenidfnmgaa
open Go.ChangeShapes Go.WideShapes Go.ChangeAt Go.RowKit
set_option linter.unusedVariables false
set_option maxRecDepth 100000
theorem os_setCells (b : Nat) : ∀ (vs : List Value) (o : Nat) (w : World), (w.setCells b o vs).os = w.os
  | [], _, _ => rfl
  | v :: r, o, w => by rw [World.setCells, os_setCells b r (o + 1)]; rfl
theorem tape_setCells (b : Nat) : ∀ (vs : List Value) (o : Nat) (w : World), (w.setCells b o vs).tape = w.tape
  | [], _, _ => rfl
  | v :: r, o, w => by rw [World.setCells, tape_setCells b r (o + 1)]; rfl
theorem output_setCells (b : Nat) : ∀ (vs : List Value) (o : Nat) (w : World), (w.setCells b o vs).output = w.output
  | [], _, _ => rfl
  | v :: r, o, w => by rw [World.setCells, output_setCells b r (o + 1)]; rfl
theorem results_one_mid {P : Program} {fn : Func} {p : Tmp} {ty : TypeId} (h : fn.results = #[.cell p ty]) (tmps : Array Value) (w : World) (b o : Nat) (cs : List Value) (d : TypeDesc)
    (hp : tmps.getD p undef = .pointer (some ⟨b, o, none⟩)) (hc : w.rangeAt b o cs) (hu : P.underlying ty = some d) (hd : d.isRow = true) (hi : (P.info? ty).map (·.size) = some cs.length) :
    (results fn tmps).run P w = .ok (.agg cs.toArray) w := by
  have hp' : tmps[p]?.getD undef = .pointer (some ⟨b, o, none⟩) := by simpa using hp
  simp [results, h, hp', asAddr, run_loadVar_mid w b o ty cs d hc hu hd hi]
end Go.Proofs.Ythfdkenidfnmgaa
namespace Go.Proofs.Ythfdkenidfnmgaa
open Go.ChangeShapes Go.WideShapes Go.ChangeAt Go.RowKit
set_option linter.unusedVariables false
set_option linter.unusedSimpArgs false
set_option maxRecDepth 100000
theorem evInfo : (Try.prog.info? 42).map (fun i => (i.zero, i.size, i.bytes)) = some (some (.agg #[.slice none 0 0, .int .i64 0]), 2, 32) := by kernel_rfl
end Go.Proofs.Ythfdkenidfnmgaa
namespace Go.Proofs.Ythfdkenidfnmgaa
open Go.ChangeShapes Go.WideShapes Go.ChangeAt Go.RowKit
set_option linter.unusedVariables false
set_option linter.unusedSimpArgs false
set_option maxRecDepth 100000
def pz : Value × Int := (.slice none 0 0, 0)
def ecC (ps : List (Value × Int)) : List Value := ps.flatMap (fun p => [p.1, .int .i64 p.2])
theorem ecC_app (xs ys : List (Value × Int)) : ecC (xs ++ ys) = ecC xs ++ ecC ys := by simp [ecC]
theorem ecC_len (xs : List (Value × Int)) : (ecC xs).length = xs.length * 2 := by
  induction xs with
  | nil => rfl
  | cons x xs ih => simp only [ecC, List.flatMap_cons, List.length_append] at ih ⊢; rw [ih]; simp; omega
theorem ecC_get (xs : List (Value × Int)) {i j : Nat} (hi : i < xs.length) (hj : j < 2) : (ecC xs)[i * 2 + j]? = [(xs.getD i pz).1, .int .i64 (xs.getD i pz).2][j]? := by
  have e : xs = xs.take i ++ ([xs.getD i pz] ++ xs.drop (i + 1)) := by
    rw [← List.append_assoc, ← take_snoc_getD xs i pz hi, List.take_append_drop]
  have h1 : (ecC (xs.take i)).length = i * 2 := by rw [ecC_len, List.length_take]; omega
  have h2 : ecC xs = ecC (xs.take i) ++ ([(xs.getD i pz).1, .int .i64 (xs.getD i pz).2] ++ ecC (xs.drop (i + 1))) := by
    conv => lhs; rw [e]
    simp [ecC]
  rw [h2, List.getElem?_append_right (by omega), h1, Nat.add_sub_cancel_left, List.getElem?_append_left (by simp; omega)]
theorem own_belowE {w w' : World} {B s : Nat} {e : TypeId} {v : Value} {n : Nat} {x : List Value} (h : w.ownsRow B e s v n x) (hb : Below w.heap.size w w') : w'.ownsRow B e s v n x :=
  h.kept (row := none) ⟨hb.os, hb.tape, hb.output, hb.size, fun k hk _ => hb.block k hk⟩ (by cases v.ownBlock <;> simp)
theorem Strs.keptG {w w' : World} {row : Option Nat} {v : Value} {xs : List Bs} (h : Strs w v xs) (hg : w.grownBy w' row) (hne : ∀ g, v.ownBlock = some g → xs.length ≠ 0 → row ≠ some g) : Strs w' v xs := by
  obtain ⟨a, cap, rfl, h1, h2, h3⟩ := h
  refine ⟨a, cap, rfl, h1, h2, fun i hi => ?_⟩
  obtain ⟨b, o, rfl, hc⟩ := h3 i hi
  exact ⟨b, o, rfl, (World.cell?_of_block (hg.block b (cell_lt hc) (fun e => hne b rfl (by omega) e.symm))).trans hc⟩
structure OwnE (B : Nat) (W : World) (v : Value) (E : List EV) (ps : List (Value × Int)) : Prop where
  own : W.ownsRow B 42 2 v E.length (ecC ps)
  len : ps.length = E.length
  row : ∀ i, i < E.length → (ps.getD i pz).2 = (E.getD i ez).t ∧ Strs W (ps.getD i pz).1 (E.getD i ez).r
  apart : ∀ i, i < E.length → ∀ g, (ps.getD i pz).1.ownBlock = some g → (E.getD i ez).r.length ≠ 0 → g < W.heap.size ∧ v.ownBlock ≠ some g
theorem OwnE.made {W : World} {B b : Nat} (h : W.heap[b]? = some (.cells #[] 42 (0, 0))) (hB : B ≤ b) : OwnE B W (.slice (some ⟨b, 0, none⟩) 0 0) [] [] :=
  ⟨⟨rfl, .inr ⟨b, 0, #[], rfl, hB, h, Nat.le_refl _, Nat.zero_le _, rfl, rfl⟩⟩, rfl, fun i hi => by simp at hi, fun i hi => by simp at hi⟩
theorem OwnE.nil (B : Nat) (W : World) : OwnE B W (.slice none 0 0) [] [] := ⟨World.ownsRow_nil _ _ _ _, rfl, fun i hi => by simp at hi, fun i hi => by simp at hi⟩
theorem OwnE.go {B : Nat} {w w' : World} {v : Value} {E : List EV} {ps : List (Value × Int)} (h : OwnE B w v E ps) (hb : Below w.heap.size w w') : OwnE B w' v E ps :=
  ⟨own_belowE h.own hb, h.len, fun i hi => ⟨(h.row i hi).1, (h.row i hi).2.below hb⟩, fun i hi g hg hz => ⟨Nat.lt_of_lt_of_le (h.apart i hi g hg hz).1 hb.size, (h.apart i hi g hg hz).2⟩⟩
theorem OwnE.keptG {B : Nat} {w w' : World} {row : Option Nat} {v : Value} {E : List EV} {ps : List (Value × Int)} (h : OwnE B w v E ps) (hg : w.grownBy w' row) (h1 : v.ownBlock = none ∨ v.ownBlock ≠ row) (h2 : ∀ i, i < E.length → ∀ g, (ps.getD i pz).1.ownBlock = some g → (E.getD i ez).r.length ≠ 0 → row ≠ some g) : OwnE B w' v E ps :=
  ⟨h.own.kept hg h1, h.len, fun i hi => ⟨(h.row i hi).1, (h.row i hi).2.keptG hg (h2 i hi)⟩, fun i hi g e hz => ⟨Nat.lt_of_lt_of_le (h.apart i hi g e hz).1 hg.size, (h.apart i hi g e hz).2⟩⟩
theorem OwnE.es {B : Nat} {w : World} {v : Value} {E : List EV} {ps : List (Value × Int)} (h : OwnE B w v E ps) : Es w v E := by
  rcases h.own.2 with ⟨e, hz⟩ | ⟨g, cap, cur, rfl, hb, hbl, hnc, hcm, hcs, htk⟩
  · exact ⟨none, 0, by rw [e, hz], by omega, Nat.zero_le _, fun i hi => by omega⟩
  · refine ⟨some ⟨g, 0, none⟩, cap, rfl, hnc, hcm, fun i hi => ?_⟩
    have hc : ∀ j v, j < 2 → [(ps.getD i pz).1, Value.int .i64 (ps.getD i pz).2][j]? = some v → w.cell? ⟨g, 0 + (i * 2 + j), none⟩ = some v := fun j v hj hv => by
      have := h.own.cells (g := g) rfl (i * 2 + j) v (by rw [ecC_get ps (by rw [h.len]; exact hi) hj]; exact hv)
      rw [add0] at this
      rwa [Nat.zero_add]
    obtain ⟨h1, h2⟩ := h.row i hi
    refine ⟨g, 0, _, rfl, hc 0 _ (by omega) rfl, ?_, h2⟩
    rw [← h1]
    exact hc 1 _ (by omega) rfl
theorem Strs.oneCell {w : World} {v : Value} {xs : List Bs} (h : Strs w v xs) : v.oneCell' = true := by
  obtain ⟨a, cap, rfl, _⟩ := h
  rfl
theorem getD_snoc_lt {α : Type} {xs : List α} {y d : α} {i : Nat} (h : i < xs.length) : (xs ++ [y]).getD i d = xs.getD i d := by
  rw [getD_lt (by rw [List.length_append]; omega), getD_lt h, List.getElem_append_left h]
theorem getD_snoc_at {α : Type} {xs : List α} {y d : α} {i : Nat} (h : i = xs.length) : (xs ++ [y]).getD i d = y := by
  subst h
  rw [getD_lt (by simp)]
  simp
theorem wp_append_es1 {a : Act} {w : World} {K : Act → World → Prop} {Q : Exit → Act → World → Prop} {dst : Option Nat} {tt : TypeId} {pos : String} {after : Array Edge} {gd : Option (Nat × Bool)} (s x : Operand)
    (B : Nat) (v : Value) (E : List EV) (ps : List (Value × Int)) (hs : a.eval s = v) (hown : OwnE B w v E ps) (hbase : B ≤ w.heap.size) (b : Nat) (u : Value) (y : EV) (hx : a.eval x = .slice (some ⟨b, 0, none⟩) 1 1)
    (h0 : w.cell? ⟨b, 0, none⟩ = some u) (h1 : w.cell? ⟨b, 1, none⟩ = some (.int .i64 y.t)) (hu : Strs w u y.r) (hau : ∀ g, u.ownBlock = some g → y.r.length ≠ 0 → g < w.heap.size ∧ v.ownBlock ≠ some g) (hl : E.length ≤ 1100000)
    (h : ∀ v' w', OwnE B w' v' (E ++ [y]) (ps ++ [(u, y.t)]) → w.grownBy w' v.ownBlock → (v'.ownBlock = v.ownBlock ∨ v'.ownBlock = some w.heap.size) → K (a.put dst v') w') :
    Oper.wp Try.prog { dst := dst, op := .call { callee := .builtin .append, args := #[s, x], argTypes := #[26, 26] }, type := tt, pos := pos, after := after, guard := gd } a w K Q := by
  obtain ⟨i0, hi, hz0, hz1, hz2⟩ := info_parts evInfo
  have hnews : ∀ j z, (ecC [(u, y.t)])[j]? = some z → w.cell? ((⟨b, 0, none⟩ : Addr).add j) = some z := by
    intro j z hj
    have hjl : j < 2 := (List.getElem?_eq_some_iff.1 hj).1
    rw [addN, Nat.zero_add]
    obtain rfl | rfl : j = 0 ∨ j = 1 := by omega
    · cases hj; exact h0
    · cases hj; exact h1
  have hone : ∀ z ∈ ecC [(u, y.t)], z.oneCell' = true := by
    intro z hz
    simp only [ecC, List.flatMap_cons, List.flatMap_nil, List.append_nil, List.mem_cons, List.not_mem_nil, or_false] at hz
    rcases hz with rfl | rfl
    · exact hu.oneCell
    · rfl
  obtain ⟨v', w', hr, g2, g3, g4, g5⟩ := run_append_own_at (P := Try.prog) w B 26 tt 42 i0 (.agg #[.slice none 0 0, .int .i64 0]) 2 32 Try.underlying26 hi hz0 hz1 hz2 rfl (by decide) v E.length _ hown.own ⟨b, 0, none⟩ 1 1 (ecC [(u, y.t)]) (ecC_len _) hnews hone (by unfold maxLen; omega) (by omega) hbase
  have hlen := hown.len
  have hk := h v' w' ⟨by rw [List.length_append, ecC_app]; exact g2, by rw [List.length_append, List.length_append, hlen]; rfl, fun i hi => by
    rw [List.length_append, List.length_singleton] at hi
    by_cases hlt : i < E.length
    · rw [getD_snoc_lt (by omega), getD_snoc_lt hlt]
      exact ⟨(hown.row i hlt).1, (hown.row i hlt).2.keptG g3 (fun g hg hz => (hown.apart i hlt g hg hz).2)⟩
    · rw [getD_snoc_at (by omega), getD_snoc_at (by omega)]
      exact ⟨rfl, hu.keptG g3 (fun g hg hz => (hau g hg hz).2)⟩, fun i hi g hg hz => by
    rw [List.length_append, List.length_singleton] at hi
    have hh : g < w.heap.size ∧ v.ownBlock ≠ some g := by
      by_cases hlt : i < E.length
      · rw [getD_snoc_lt (by omega)] at hg
        rw [getD_snoc_lt hlt] at hz
        exact hown.apart i hlt g hg hz
      · rw [getD_snoc_at (by omega)] at hg
        rw [getD_snoc_at (by omega)] at hz
        exact hau g hg hz
    refine ⟨Nat.lt_of_lt_of_le hh.1 g3.size, fun e => ?_⟩
    rcases g5 with g5 | g5
    · exact hh.2 (g5 ▸ e)
    · rw [g5] at e
      injection e with e
      omega⟩ g3 g5
  unfold Oper.wp execOp
  simp only [resolve, invoke, builtin, Sem.run_bind, Sem.run_pure, Result.andThen_ok, List.map_toArray, List.map_cons, List.map_nil, hs, hx, hr]
  exact hk
theorem wpList_append_es1 {ops : Array Oper} {rest : List Oper} {a : Act} {w : World} {Q : Exit → Act → World → Prop} {dst : Option Nat} {tt : TypeId} {pos : String} {after : Array Edge} (s x : Operand)
    (B : Nat) (v : Value) (E : List EV) (ps : List (Value × Int)) (hs : a.eval s = v) (hown : OwnE B w v E ps) (hbase : B ≤ w.heap.size) (b : Nat) (u : Value) (y : EV) (hx : a.eval x = .slice (some ⟨b, 0, none⟩) 1 1)
    (h0 : w.cell? ⟨b, 0, none⟩ = some u) (h1 : w.cell? ⟨b, 1, none⟩ = some (.int .i64 y.t)) (hu : Strs w u y.r) (hau : ∀ g, u.ownBlock = some g → y.r.length ≠ 0 → g < w.heap.size ∧ v.ownBlock ≠ some g) (hl : E.length ≤ 1100000)
    (h : ∀ v' w', OwnE B w' v' (E ++ [y]) (ps ++ [(u, y.t)]) → w.grownBy w' v.ownBlock → (v'.ownBlock = v.ownBlock ∨ v'.ownBlock = some w.heap.size) → wpList Try.prog ops Q rest (a.put dst v') w') :
    wpList Try.prog ops Q ({ dst := dst, op := .call { callee := .builtin .append, args := #[s, x], argTypes := #[26, 26] }, type := tt, pos := pos, after := after, guard := none } :: rest) a w :=
  wpList_plain rfl fun K hK => wp_append_es1 s x B v E ps hs hown hbase b u y hx h0 h1 hu hau hl (fun v' w' h1 h2 h3 => hK _ _ (h v' w' h1 h2 h3))
end Go.Proofs.Ythfdkenidfnmgaa
namespace Go.Proofs.Ythfdkenidfnmgaa
open Go.ChangeShapes Go.WideShapes Go.ChangeAt Go.RowKit
set_option linter.unusedVariables false
set_option maxRecDepth 100000
def IntsW (w : World) (B0 B1 : Nat) (v : Value) (xs : List Int) : Prop :=
  ∃ (a : Option Addr) (cap : Nat), v = .slice a xs.length cap ∧ xs.length ≤ cap ∧ cap ≤ maxLen ∧
    ∀ i, i < xs.length → ∃ g p, a = some ⟨g, p, none⟩ ∧ B0 ≤ g ∧ g < B1 ∧ w.cell? ⟨g, p + i, none⟩ = some (.int .i64 (xs.getD i 0)) ∧ w.frozen? ⟨g, p + i, none⟩ = false
theorem IntsW.chg {lo hi B0 B1 : Nat} {w w' : World} {v : Value} {xs : List Int} (h : IntsW w B0 B1 v xs) (c : Chg lo hi w w') (hB : B1 ≤ w.heap.size) (hh : B1 ≤ lo ∨ hi ≤ B0) : IntsW w' B0 B1 v xs := by
  obtain ⟨a, cap, rfl, h1, h2, h3⟩ := h
  refine ⟨a, cap, rfl, h1, h2, fun i hi => ?_⟩
  obtain ⟨g, p, e, hg0, hg1, hc, hf⟩ := h3 i hi
  have hb := c.block g (by omega) (by omega)
  exact ⟨g, p, e, hg0, hg1, (World.cell?_of_block hb).trans hc, (World.frozen?_of_block hb).trans hf⟩
theorem IntsW.of_own {w w' : World} {v : Value} {ys : List Int} (h : OwnI w v ys w') : IntsW w' w.heap.size w'.heap.size v ys := by
  rcases h.own.2 with ⟨e, _⟩ | ⟨g, cap, cur, rfl, hb, hbl, hnc, hcm, hcs, htk⟩
  · exact absurd e h.nn
  · refine ⟨some ⟨g, 0, none⟩, cap, rfl, hnc, hcm, fun i hi => ⟨g, 0, rfl, hb, (Array.getElem?_eq_some_iff.1 hbl).1, ?_, ?_⟩⟩
    · have := h.own.cells (g := g) rfl i (.int .i64 (ys.getD i 0)) (by rw [getD_lt hi]; simp)
      rw [add0] at this
      rw [Nat.zero_add]; exact this
    · simp [World.frozen?, hbl]
def mk1 (n : Nat) : List Int := (List.range n).map (fun i : Nat => 1 + (i : Int))
theorem mk1_len (n : Nat) : (mk1 n).length = n := by simp [mk1]
theorem mk1_get {n i : Nat} (h : i < n) : (mk1 n).getD i 0 = 1 + i := by
  rw [getD_lt (by rw [mk1_len]; exact h)]
  simp [mk1]
theorem IntsW.marked {w w' : World} {B0 B1 : Nat} {a : Option Addr} {n cap : Nat} {xs : List Int} (h : IntsW w B0 B1 (.slice a n cap) xs) (hn : n = xs.length) (hm : Marked a n 1 w w') : IntsW w' B0 B1 (.slice a n cap) (mk1 n) ∧ Kept B0 B1 w w' := by
  obtain ⟨a', cap', e, h1, h2, h3⟩ := h
  injection e with e1 e2 e3
  subst e1
  subst e3
  rw [← hn] at h1 h3
  refine ⟨⟨a, cap, by rw [mk1_len], by rw [mk1_len]; exact h1, h2, fun i hi => ?_⟩, ⟨hm.os, hm.tape, hm.output, hm.size, fun b hb => hm.block b (fun p => ?_)⟩⟩
  · rw [mk1_len] at hi
    obtain ⟨g, p, e, hg0, hg1, _, hf⟩ := h3 i hi
    exact ⟨g, p, e, hg0, hg1, by rw [hm.inside g p e i hi, mk1_get hi], (hm.frozen _).trans hf⟩
  · by_cases h0 : n = 0
    · exact .inl h0
    · refine .inr (fun e => ?_)
      obtain ⟨g, q, e', hg0, hg1, _⟩ := h3 0 (by omega)
      rw [e] at e'
      injection e' with e'
      injection e' with e' _
      omega
end Go.Proofs.Ythfdkenidfnmgaa
namespace Go.Proofs.Ythfdkenidfnmgaa
open Go.ChangeShapes Go.WideShapes Go.ChangeAt Go.RowKit
set_option linter.unusedVariables false
set_option maxRecDepth 100000
theorem IntsW.set {w : World} {B0 B1 : Nat} {v : Value} {xs : List Int} (h : IntsW w B0 B1 v xs) {j : Nat} (hj : j < xs.length) (x : Int) :
    ∃ g p c, v = .slice (some ⟨g, p, none⟩) xs.length c ∧ B0 ≤ g ∧ g < B1 ∧ w.cell? ⟨g, p + j, none⟩ = some (.int .i64 (xs.getD j 0)) ∧ w.frozen? ⟨g, p + j, none⟩ = false ∧ IntsW (w.setCell ⟨g, p + j, none⟩ (.int .i64 x)) B0 B1 v (xs.set j x) := by
  obtain ⟨a, cap, rfl, h1, h2, h3⟩ := h
  obtain ⟨g, p, rfl, hg0, hg1, hc, hf⟩ := h3 j hj
  refine ⟨g, p, cap, rfl, hg0, hg1, hc, hf, _, cap, by rw [List.length_set], by rw [List.length_set]; exact h1, h2, fun i hi => ?_⟩
  rw [List.length_set] at hi
  obtain ⟨g', p', e, _, _, hc', hf'⟩ := h3 i hi
  cases e
  refine ⟨g, p, rfl, hg0, hg1, ?_, (frozen_set _).trans hf'⟩
  by_cases hij : i = j
  · subst hij
    rw [getD_lt (by rw [List.length_set]; exact hi), List.getElem_set_self]
    exact cell_set_same hc'
  · rw [getD_lt (by rw [List.length_set]; exact hi), List.getElem_set_ne (by omega), ← getD_lt (d := 0) hi]
    exact (cell_set_other (.inr (by omega))).trans hc'
end Go.Proofs.Ythfdkenidfnmgaa
namespace Go.Proofs.Ythfdkenidfnmgaa
open Go.ChangeShapes Go.WideShapes Go.ChangeAt Go.RowKit
set_option linter.unusedVariables false
set_option linter.unusedSimpArgs false
set_option maxRecDepth 100000
structure KP (w W : World) (vm vi ve vc : Value) : Prop where
  bel : Below w.heap.size w W
  sz : w.heap.size < W.heap.size
  c0 : W.cell? ⟨w.heap.size, 0, none⟩ = some vm
  c1 : W.cell? ⟨w.heap.size, 1, none⟩ = some vi
  c2 : W.cell? ⟨w.heap.size, 2, none⟩ = some ve
  c3 : W.cell? ⟨w.heap.size, 3, none⟩ = some vc
theorem KP.start (w : World) (vm vi ve vc : Value) (t : TypeId) : KP w (w.alloc (.cells #[vm, vi, ve, vc] t)) vm vi ve vc :=
  ⟨(Below.refl _ _).alloc (Nat.le_refl _) _, by simp, new_cell rfl, new_cell rfl, new_cell rfl, new_cell rfl⟩
theorem KP.go {w W W' : World} {vm vi ve vc : Value} (h : KP w W vm vi ve vc) (hb : Below W.heap.size W W') : KP w W' vm vi ve vc :=
  ⟨h.bel.trans (hb.mono h.bel.size), Nat.lt_of_lt_of_le h.sz hb.size, (hb.cell (p := ⟨w.heap.size, 0, none⟩) h.sz).trans h.c0, (hb.cell (p := ⟨w.heap.size, 1, none⟩) h.sz).trans h.c1, (hb.cell (p := ⟨w.heap.size, 2, none⟩) h.sz).trans h.c2, (hb.cell (p := ⟨w.heap.size, 3, none⟩) h.sz).trans h.c3⟩
theorem KP.cells {w W : World} {vm vi ve vc : Value} (h : KP w W vm vi ve vc) : W.cell? ⟨w.heap.size, 0, none⟩ = some vm ∧ W.cell? ⟨w.heap.size, 1, none⟩ = some vi ∧ W.cell? ⟨w.heap.size, 2, none⟩ = some ve ∧ W.cell? ⟨w.heap.size, 3, none⟩ = some vc := ⟨h.c0, h.c1, h.c2, h.c3⟩
theorem KP.drew {w W : World} {vm vi ve vc : Value} (h : KP w W vm vi ve vc) : KP w W.drew vm vi ve vc := h.go (Below.refl _ _).drew
theorem KP.alloc {w W : World} {vm vi ve vc : Value} (h : KP w W vm vi ve vc) (o : Obj) : KP w (W.alloc o) vm vi ve vc := h.go ((Below.refl _ _).alloc (Nat.le_refl _) o)
end Go.Proofs.Ythfdkenidfnmgaa
namespace Go.Proofs.Ythfdkenidfnmgaa
open Go.ChangeShapes Go.WideShapes Go.ChangeAt Go.RowKit
set_option linter.unusedVariables false
set_option linter.unusedSimpArgs false
set_option maxRecDepth 100000
def Short3 (es : List EV) : Prop := ∀ x ∈ es, Short x.r
theorem Short3.at {es : List EV} (h : Short3 es) (i : Nat) : Short (es.getD i ez).r := by
  by_cases hi : i < es.length
  · rw [getD_lt hi]; exact h _ (List.getElem_mem hi)
  · rw [List.getD, List.getElem?_eq_none (Nat.le_of_not_lt hi)]; exact fun x hx => by cases hx
end Go.Proofs.Ythfdkenidfnmgaa
namespace Go.Proofs.Ythfdkenidfnmgaa
open Go.ChangeShapes Go.WideShapes Go.ChangeAt Go.RowKit
set_option linter.unusedVariables false
set_option maxRecDepth 100000
theorem Four.drew {w : World} {b o : Nat} {x : CV} (h : Four w b o x) : Four w.drew b o x := ⟨h.c0, h.c1, h.c2, h.c3⟩
end Go.Proofs.Ythfdkenidfnmgaa
namespace Go.Proofs.Ythfdkenidfnmgaa
open Go.ChangeShapes Go.WideShapes Go.ChangeAt Go.RowKit
set_option linter.unusedVariables false
set_option maxRecDepth 100000
def rlist (A : Nat → CV) (f c : Nat) : List CV := (List.range c).map (fun i => A ((f + i) % 4))
def upd (A : Nat → CV) (k : Nat) (x : CV) (j : Nat) : CV := if j = k then x else A j
theorem rlist_len (A : Nat → CV) (f c : Nat) : (rlist A f c).length = c := by simp [rlist]
theorem rlist_snoc (A : Nat → CV) (f c : Nat) : rlist A f (c + 1) = rlist A f c ++ [A ((f + c) % 4)] := by
  unfold rlist
  rw [List.range_succ, List.map_append]
  rfl
end Go.Proofs.Ythfdkenidfnmgaa
namespace Go.Proofs.Ythfdkenidfnmgaa
open Go.ChangeShapes Go.WideShapes Go.ChangeAt Go.RowKit
set_option linter.unusedVariables false
set_option maxRecDepth 100000
def ringC (A : Nat → CV) (f c : Nat) : List Value := cvC (A 0) ++ cvC (A 1) ++ cvC (A 2) ++ cvC (A 3) ++ [.int .i64 (f : Int), .int .i64 (c : Int)]
theorem ringC_len (A : Nat → CV) (f c : Nat) : (ringC A f c).length = 18 := rfl
theorem ringC_one (A : Nat → CV) (f c : Nat) : (ringC A f c).toArray.all (·.oneCell') = true := by simp [ringC, cvC, Value.oneCell']
abbrev ringV (A : Nat → CV) (f c : Nat) : Value := .agg (ringC A f c).toArray
structure Ring (w : World) (b : Nat) (A : Nat → CV) (f c : Nat) : Prop where
  at4 : ∀ i, i < 4 → FourW w b (i * 4) (A i)
  cf : w.cell? ⟨b, 16, none⟩ = some (.int .i64 (f : Int))
  cc : w.cell? ⟨b, 17, none⟩ = some (.int .i64 (c : Int))
  ff : w.frozen? ⟨b, 16, none⟩ = false
  fc : w.frozen? ⟨b, 17, none⟩ = false
theorem Ring.range {w : World} {b : Nat} {A : Nat → CV} {f c : Nat} (h : Ring w b A f c) : w.rangeAt b 0 (ringC A f c) := by
  obtain ⟨h4, hf, hc, _, _⟩ := h
  have q : ∀ i, i < 4 → w.rangeAt b (i * 4) (cvC (A i)) := fun i hi j v hv => by
    have hj : j < 4 := (List.getElem?_eq_some_iff.1 hv).1
    have hx := (h4 i hi).at4
    obtain rfl | rfl | rfl | rfl : j = 0 ∨ j = 1 ∨ j = 2 ∨ j = 3 := by omega
    · cases hv; exact hx.c0
    · cases hv; exact hx.c1
    · cases hv; exact hx.c2
    · cases hv; exact hx.c3
  have q2 : w.rangeAt b 16 [.int .i64 (f : Int), .int .i64 (c : Int)] := fun j v hv => by
    have hj : j < 2 := (List.getElem?_eq_some_iff.1 hv).1
    obtain rfl | rfl : j = 0 ∨ j = 1 := by omega
    · cases hv; exact hf
    · cases hv; exact hc
  exact range_append (range_append (range_append (range_append (q 0 (by omega)) (q 1 (by omega)) rfl) (q 2 (by omega)) rfl) (q 3 (by omega)) rfl) q2 rfl
theorem Ring.there {w : World} {b : Nat} {A : Nat → CV} {f c : Nat} (h : Ring w b A f c) : w.there b 0 18 := fun j hj => by
  rw [Nat.zero_add]
  by_cases h1 : j < 16
  · have := (h.at4 (j / 4) (by omega)).there (j % 4) (by omega)
    rwa [show j / 4 * 4 + j % 4 = j by omega] at this
  · obtain rfl | rfl : j = 16 ∨ j = 17 := by omega
    · exact ⟨by rw [h.cf]; rfl, h.ff⟩
    · exact ⟨by rw [h.cc]; rfl, h.fc⟩
theorem Ring.block {w w' : World} {b : Nat} {A : Nat → CV} {f c : Nat} (h : Ring w b A f c) (e : w'.heap[b]? = w.heap[b]?) : Ring w' b A f c :=
  ⟨fun i hi => (h.at4 i hi).block e, (World.cell?_of_block e).trans h.cf, (World.cell?_of_block e).trans h.cc, (World.frozen?_of_block e).trans h.ff, (World.frozen?_of_block e).trans h.fc⟩
theorem Ring.drew {w : World} {b : Nat} {A : Nat → CV} {f c : Nat} (h : Ring w b A f c) : Ring w.drew b A f c := ⟨fun i hi => ⟨⟨(h.at4 i hi).at4.c0, (h.at4 i hi).at4.c1, (h.at4 i hi).at4.c2, (h.at4 i hi).at4.c3⟩, (h.at4 i hi).fr⟩, h.cf, h.cc, h.ff, h.fc⟩
theorem Ring.of_range {w : World} {b : Nat} {A : Nat → CV} {f c : Nat} (h : w.rangeAt b 0 (ringC A f c)) (ht : w.there b 0 18) : Ring w b A f c := by
  have q : ∀ j, j < 18 → w.frozen? ⟨b, j, none⟩ = false := fun j hj => by have := (ht j hj).2; rwa [Nat.zero_add] at this
  have r : ∀ j v, (ringC A f c)[j]? = some v → w.cell? ⟨b, j, none⟩ = some v := fun j v hv => by have := h j v hv; rwa [Nat.zero_add] at this
  refine ⟨fun i hi => ⟨?_, fun j hj => q _ (by omega)⟩, r 16 _ rfl, r 17 _ rfl, q 16 (by omega), q 17 (by omega)⟩
  obtain rfl | rfl | rfl | rfl : i = 0 ∨ i = 1 ∨ i = 2 ∨ i = 3 := by omega
  · exact ⟨r 0 _ rfl, r 1 _ rfl, r 2 _ rfl, r 3 _ rfl⟩
  · exact ⟨r 4 _ rfl, r 5 _ rfl, r 6 _ rfl, r 7 _ rfl⟩
  · exact ⟨r 8 _ rfl, r 9 _ rfl, r 10 _ rfl, r 11 _ rfl⟩
  · exact ⟨r 12 _ rfl, r 13 _ rfl, r 14 _ rfl, r 15 _ rfl⟩
theorem Ring.boxed (w : World) (A : Nat → CV) (f c : Nat) (t : TypeId) : Ring (w.alloc (.cells (ringC A f c).toArray t)) w.heap.size A f c :=
  Ring.of_range (range_row (heap_alloc_new w _)) (there_row (heap_alloc_new w _) (by simp [ringC, cvC]))
theorem Ring.stored {w : World} {b : Nat} {A : Nat → CV} {f c : Nat} (h : w.there b 0 18) : Ring (w.setCells b 0 (ringC A f c)) b A f c :=
  Ring.of_range (World.rangeAt_setCells_same w b 0 (ringC A f c) h) (fun j hj => by
    have h2 := World.rangeAt_setCells_same w b 0 (ringC A f c) h j ((ringC A f c)[j]) (List.getElem?_eq_getElem (by rw [ringC_len]; exact hj))
    rw [h2, World.frozen?_setCells]
    exact ⟨rfl, (h j hj).2⟩)
theorem Ring.lt {w : World} {b : Nat} {A : Nat → CV} {f c : Nat} (h : Ring w b A f c) : b < w.heap.size := block_lt_of_cell h.cf
def A0 : Nat → CV := fun _ => c0
set_option maxRecDepth 100000 in
theorem slot_any (w : World) (A : Nat → CV) (f c : Nat) (k : Nat) (hf : f < 4) (hk : k ≤ 4) :
    Calls Try.prog 51 #[ringV A f c, .int .i64 (k : Int)] w fun e w' => e = .returned (.int .i64 (((f + k) % 4 : Nat) : Int)) ∧ Below w.heap.size w w' := by
  obtain ⟨R, hR⟩ : ∃ R, R = ringC A f c := ⟨_, rfl⟩
  have hRng := Ring.boxed w A f c 64
  have hcf := hRng.cf
  have HB := Lib.hid ((Below.refl w.heap.size w).alloc (Nat.le_refl _) (.cells (ringC A f c).toArray 64))
  unfold ringV
  rw [← hR] at hcf HB ⊢
  clear hR hRng
  go_enter Try.func51, Try.ntmps51
  go_wp2_with ((with_reducible refine box_is _ (.tmp 0) ?_); refine box_arr _ (.tmp 0) R.toArray rfl ?_)
  go_ret
  refine ⟨?_, HB.out⟩
  have e : (((f + k) % 4 : Nat) : Int) = ((f : Int) + (k : Int)) % 4 := by omega
  rw [e]
  rfl
end Go.Proofs.Ythfdkenidfnmgaa
namespace Go.Proofs.Ythfdkenidfnmgaa
open Go.ChangeShapes Go.WideShapes Go.ChangeAt Go.RowKit
set_option linter.unusedVariables false
set_option maxRecDepth 100000
theorem ring_info {L : List Value} (h : L.length = 18) : (Try.prog.info? 64).map (·.size) = some L.length := by rw [h]; kernel_rfl
end Go.Proofs.Ythfdkenidfnmgaa
namespace Go.Proofs.Ythfdkenidfnmgaa
open Go.ChangeShapes Go.WideShapes Go.ChangeAt Go.RowKit
set_option linter.unusedVariables false
set_option maxRecDepth 100000
theorem OwnC.made {w w' : World} {n : Nat} (h : w'.ownsRow w.heap.size 61 4 (.slice (some ⟨w.heap.size, 0, none⟩) 0 n) 0 []) (hg : w.grownBy w' none) : OwnC w (.slice (some ⟨w.heap.size, 0, none⟩) 0 n) [] w' :=
  ⟨h, (Below.refl _ _).grown hg (Nat.le_refl _) (fun k e => by cases e), fun h => by cases h⟩
theorem OwnC.later {w w1 w2 : World} {v : Value} {ys : List CV} (h : OwnC w v ys w1) (hb : Below w1.heap.size w1 w2) : OwnC w v ys w2 :=
  ⟨by
    refine ⟨h.own.1, ?_⟩
    rcases h.own.2 with hn | ⟨g, cap, cur, e, hg, hbl, rest⟩
    · exact .inl hn
    · exact .inr ⟨g, cap, cur, e, hg, (hb.block _ (Array.getElem?_eq_some_iff.1 hbl).1).trans hbl, rest⟩, h.bel.trans (hb.mono h.bel.size), h.nn⟩
set_option maxRecDepth 100000 in
set_option maxHeartbeats 1000000 in
theorem ringList_any (w : World) (A : Nat → CV) (f c : Nat) (hf : f < 4) (hc : c ≤ 4) :
    Calls Try.prog 38 #[ringV A f c] w (NewC (rlist A f c) w) := by
  obtain ⟨i0, hi, hz0, hz1, hz2⟩ := info_parts cvInfo
  have HI := Lib.hid hi
  have HZ0 := Lib.hid hz0
  have HZ1 := Lib.hid hz1
  have HZ2 := Lib.hid hz2
  clear hi hz0 hz1 hz2
  obtain ⟨R, HR⟩ : ∃ R, Hid (R = rlist A f c) := ⟨_, Lib.hid rfl⟩
  rw [← HR.out]
  have HSL := Lib.hid (fun w k hk => slot_any w A f c k hf hk)
  have HSN := Lib.hid (fun k => rlist_snoc A f k)
  have HLN := Lib.hid (fun k => rlist_len A f k)
  unfold ringV at HSL ⊢
  obtain ⟨L, hL⟩ : ∃ L, L = ringC A f c := ⟨_, rfl⟩
  have HLL : Hid (L.length = 18) := Lib.hid (by rw [hL]; rfl)
  have hL17 : L[17]? = some (.int .i64 (c : Int)) := by rw [hL]; rfl
  have HRG0 : Hid (Ring (w.alloc (.cells L.toArray 64)) w.heap.size A f c) := Lib.hid (by rw [hL]; exact Ring.boxed w A f c _)
  rw [← hL] at HSL ⊢
  have HL := Lib.hid hL
  clear hL
  go_enter Try.func38, Try.ntmps38
  go_wp2_with (first | ((with_reducible refine box_is _ (.tmp 0) ?_); refine box_arr _ (.tmp 0) L.toArray rfl ?_) | (at_make; refine wpList_make_own _ rfl (.const (.int .i64 0)) (.tmp 6) 27 rfl (w.heap.size + 1) 61 i0 (.agg #[.int .i64 0, .int .i64 0, .int .i64 0, .bool false]) 4 Try.underlying27 HI.out HZ0.out HZ1.out .i64 .i64 _ c rfl rfl rfl (by rw [HZ2.out]; omega) (by unfold maxLen; omega) (by simp) ?_; intro wm hown hgrow; have hcm : wm.cell? ⟨w.heap.size, 17, none⟩ = some (.int .i64 (c : Int)) := (World.cell?_of_block (hgrow.block _ (by simp) (by simp))).trans HRG0.out.cc) | fail)
  obtain ⟨X, hX⟩ : ∃ X, w.heap.size = X := ⟨_, rfl⟩
  obtain ⟨w0, hw0⟩ : ∃ w0, w.alloc (.cells L.toArray 64) = w0 := ⟨_, rfl⟩
  have hX1 : w0.heap.size = X + 1 := by rw [← hw0, ← hX]; simp
  have HRG : Hid (Ring w0 X A f c) := Lib.hid (by rw [← hw0, ← hX]; exact HRG0.out)
  have HBW : Hid (Below X w w0) := Lib.hid (by rw [← hw0, ← hX]; exact (Below.refl _ _).alloc (Nat.le_refl _) _)
  simp only [hX, hw0] at hown hgrow ⊢
  simp only [hX1] at hown ⊢
  have HST : Hid (OwnC w0 (.slice (some ⟨X + 1, 0, none⟩) 0 c) [] wm) := Lib.hid (by
    have h := @OwnC.made w0 wm c
    rw [hX1] at h
    exact h hown hgrow)
  have HXX := Lib.hid hX1
  have HXW := Lib.hid hX
  clear hown hgrow hX1 hX hw0 HRG0 hcm
  go_loopw [3, 10] (fun u i wr => ∃ k : Nat, k ≤ c ∧ i = .int .i64 k ∧ OwnC w0 u (rlist A f k) wr) (fun _ i _ => c - (intOf i).toNat)
  case atStart => exact ⟨0, Nat.zero_le _, rfl, HST.out⟩
  case round =>
    obtain ⟨k, hk, rfl, hrel⟩ := hrel
    have HREL := Lib.hid hrel
    clear hrel
    have HRGR : Hid (Ring wr X A f c) := Lib.hid (HRG.out.block (HREL.out.bel.block _ HRG.out.lt))
    have HRR := Lib.hid HRGR.out.range
    have HXR : Hid (X < wr.heap.size) := Lib.hid HRGR.out.lt
    by_cases hlt : k < c
    · have hlt' : (k : Int) < (c : Int) := by omega
      go_wp2_with (first | ((with_reducible refine load_is 64 (.tmp 1) ?_); refine load_arr 64 (.tmp 1) X 0 L _ rfl (by rw [HL.out]; exact HRR.out) Try.underlying64 rfl (ring_info HLL.out) ?_) | fail)
      refine (HSL.out _ k (by omega)).mono ?_
      rintro en w1 ⟨rfl, hb1⟩
      obtain ⟨s, hs⟩ : ∃ s, s = (f + k) % 4 := ⟨_, rfl⟩
      have hs4 : (s : Int) < 4 := by omega
      have hs4n : s < 4 := by omega
      obtain ⟨x, hx⟩ : ∃ x, x = A s := ⟨_, rfl⟩
      have HX : Hid (rlist A f (k + 1) = rlist A f k ++ [x]) := Lib.hid (by rw [HSN.out, hx, hs])
      have hf4 := ((HRGR.out.at4 s hs4n).block (hb1.block _ HXR.out)).at4
      rw [← hx] at hf4
      obtain ⟨g0, g1, g2, g3⟩ := hf4
      rw [← hs]
      have HOWN1 : Hid (OwnC w0 u3 (rlist A f k) w1) := Lib.hid (HREL.out.later hb1)
      clear hs hx hb1
      go_wp2_with (first | (at_builtin; refine wpList_append_own _ rfl (.tmp 13) (.tmp 20) 27 rfl w0.heap.size 61 i0 (.agg #[.int .i64 0, .int .i64 0, .int .i64 0, .bool false]) 4 32 Try.underlying27 HI.out HZ0.out HZ1.out HZ2.out rfl (by decide) _ _ _ rfl (HOWN1.out.own.alloc _) ⟨w1.heap.size, 0, none⟩ 1 1 (cvC x) rfl rfl (cell_four_new _ _ _) (by intro u hu; simp [cvC] at hu; rcases hu with rfl | rfl | rfl | rfl <;> rfl) (by rw [HLN.out]; unfold maxLen; omega) (by rw [HLN.out]; omega) (by have := HOWN1.out.bel.size; simp; omega) ?_; intro v2 w2 hown2 hgrow2 hnn2) | fail)
      have HR2 : Hid (OwnC w0 v2 (rlist A f (k + 1)) w2) := Lib.hid (by
        rw [HX.out]
        exact HOWN1.out.grow (zs := [x]) rfl (by rw [show csC [x] = cvC x from by simp [csC]]; exact hown2) hgrow2 (fun e => (hnn2.1 e).1))
      clear hown2 hgrow2 hnn2
      go_wp2
      go_roundw
      case rel => exact ⟨k + 1, by omega, by go_num, HR2.out⟩
      case measure => simp [intOf]; omega
    · have ek : k = c := by omega
      subst ek
      go_wp2
      go_ret
      refine ⟨_, rfl, ?_⟩
      rw [HR.out]
      exact HREL.out.from (by rw [HXW.out]; exact HBW.out)
end Go.Proofs.Ythfdkenidfnmgaa
namespace Go.Proofs.Ythfdkenidfnmgaa
open Go.ChangeShapes Go.WideShapes Go.ChangeAt Go.RowKit
set_option linter.unusedVariables false
set_option maxRecDepth 100000
set_option linter.unusedSimpArgs false
theorem Chg.trans {lo hi : Nat} {a b c : World} (h : Chg lo hi a b) (k : Chg lo hi b c) : Chg lo hi a c :=
  ⟨k.os.trans h.os, k.tape.trans h.tape, k.output.trans h.output, Nat.le_trans h.size k.size, fun i hi hb => (k.block i (Nat.lt_of_lt_of_le hi h.size) hb).trans (h.block i hi hb)⟩
theorem cell_setCells_apart {w : World} {b o j : Nat} {vs : List Value} {v : Value} (h : w.cell? ⟨b, j, none⟩ = some v) (ha : j < o ∨ o + vs.length ≤ j) : (w.setCells b o vs).cell? ⟨b, j, none⟩ = some v := by
  have hr : w.rangeAt b j [v] := fun i u hu => by
    have hi : i < 1 := (List.getElem?_eq_some_iff.1 hu).1
    obtain rfl : i = 0 := by omega
    cases hu
    exact h
  exact World.rangeAt_setCells_apart hr b o vs (.inr (by simp; omega)) 0 _ rfl
theorem Ring.put {w : World} {b : Nat} {A : Nat → CV} {f c k : Nat} {x : CV} (h : Ring w b A f c) (hk : k < 4) : Ring (w.setCells b (k * 4) (cvC x)) b (upd A k x) f c := by
  refine ⟨fun i hi => ?_, cell_setCells_apart h.cf (by simp [cvC]; omega), cell_setCells_apart h.cc (by simp [cvC]; omega), ?_, ?_⟩
  · unfold upd
    by_cases hik : i = k
    · rw [if_pos hik, hik]
      exact FourW.stored (h.at4 k hk).there
    · rw [if_neg hik]
      exact (h.at4 i hi).apart (by simp [cvC]; omega)
  · rw [World.frozen?_setCells]; exact h.ff
  · rw [World.frozen?_setCells]; exact h.fc
end Go.Proofs.Ythfdkenidfnmgaa
namespace Go.Proofs.Ythfdkenidfnmgaa
open Go.ChangeShapes Go.WideShapes Go.ChangeAt Go.RowKit
set_option linter.unusedVariables false
set_option maxRecDepth 100000
theorem iv_list_ext {xs ys : List IV} (hl : xs.length = ys.length) (h : ∀ i, i < xs.length → xs.getD i iz = ys.getD i iz) : xs = ys := by
  refine List.ext_getElem hl (fun i h1 h2 => ?_)
  have := h i h1
  rwa [getD_lt h1, getD_lt h2] at this
theorem set_getD_iv {xs : List IV} {k i : Nat} {x : IV} (hk : k < xs.length) : (xs.set k x).getD i iz = if i = k then x else xs.getD i iz := by
  by_cases h : i = k
  · subst h
    rw [if_pos rfl, getD_lt (by rw [List.length_set]; exact hk), List.getElem_set_self]
  · rw [if_neg h]
    by_cases hi : i < xs.length
    · rw [getD_lt (by rw [List.length_set]; exact hi), getD_lt hi, List.getElem_set_ne (by omega)]
    · simp [List.getD, List.getElem?_eq_none (Nat.le_of_not_lt hi), List.getElem?_eq_none (show (xs.set k x).length ≤ i by rw [List.length_set]; omega)]
end Go.Proofs.Ythfdkenidfnmgaa
namespace Go.Proofs.Ythfdkenidfnmgaa
open Go.ChangeShapes Go.WideShapes Go.ChangeAt Go.RowKit
set_option linter.unusedVariables false
set_option maxRecDepth 100000
theorem markStringK_any (k0 : Nat) (hk0 : 1 ≤ k0) (hkm : k0 ≤ 3200000) (w : World) (B0 B1 : Nat) (a : Option Addr) (n cap : Nat) (xs : List Bs) (h : StrsW w B0 B1 (.slice a n cap) xs) (hB : B1 ≤ w.heap.size) (hN : n = xs.length) (hn : k0 + n ≤ 3200000) :
    Calls Try.prog 24 #[.slice a n cap, .int .i64 k0] w fun e w' => e = .returned (.int .i64 ((k0 + n : Nat) : Int)) ∧ Chg B0 B1 w w' := by
  have H := Lib.hid h
  have HN := Lib.hid hN
  have HB := Lib.hid hB
  clear h hN hB
  go_enter Try.func24, Try.ntmps24
  go_wp2
  go_loopw [1, 5] (fun l i wr => ∃ (j : Nat) (ys : List Bs), j ≤ n ∧ i = .int .i64 j ∧ l = .int .i64 ((k0 + j : Nat) : Int) ∧ Hid (ys.length = n) ∧ Hid (StrsW wr B0 B1 (.slice a n cap) ys) ∧ Hid (Chg B0 B1 w wr)) (fun _ i _ => n - (intOf i).toNat)
  case atStart => exact ⟨0, xs, Nat.zero_le _, rfl, rfl, Lib.hid HN.out.symm, H, Lib.hid ⟨rfl, rfl, rfl, Nat.le_refl _, fun _ _ _ => rfl⟩⟩
  case round =>
    obtain ⟨j, ys, hj, rfl, rfl, HL, HS, HC⟩ := hrel
    by_cases hlt : j < n
    · have hlt' : (j : Int) < (n : Int) := by omega
      have hs0 := HS.out
      obtain ⟨a', cap', e, q1, q2, q3⟩ := hs0
      injection e with e1 e2 e3
      subst e1
      obtain ⟨g, p, rfl, hg0, hg1, -, -⟩ := q3 j (by omega)
      clear q1 q2 q3 e2 e3
      have HG := Lib.hid (And.intro hg0 hg1)
      clear hg0 hg1
      go_wp2_with fail
      refine (markText_any wr (k0 + j) (by omega) (by omega)).mono ?_
      rintro e w1 ⟨rfl, hb1⟩
      have HS1 := Lib.hid (HS.out.below hb1 (Nat.le_trans HB.out HC.out.size))
      have HC1 := Lib.hid (chg_below HC.out hb1)
      clear hb1
      have hcell : ∃ u, w1.cell? ⟨g, p + j, none⟩ = some u ∧ w1.frozen? ⟨g, p + j, none⟩ = false := by
        obtain ⟨a', cap', e, q1, q2, q3⟩ := HS1.out
        injection e with e1 e2 e3
        subst e1
        obtain ⟨g', p', e, _, _, h1, h2⟩ := q3 j (by omega)
        cases e
        exact ⟨_, h1, h2⟩
      obtain ⟨u, hc, hf⟩ := hcell
      go_wp2
      go_roundw
      case rel =>
        refine ⟨j + 1, ys.set j (mtext (k0 + j)), by omega, by go_num, by go_num, Lib.hid (by rw [List.length_set]; exact HL.out), Lib.hid (HS1.out.put rfl hlt _), Lib.hid (chg_set HC1.out HG.out.1 HG.out.2)⟩
      case measure => simp [intOf]; omega
    · go_wp2
      go_ret
      have e : j = n := by omega
      subst e
      exact ⟨rfl, HC.out⟩
end Go.Proofs.Ythfdkenidfnmgaa
namespace Go.Proofs.Ythfdkenidfnmgaa
open Go.ChangeShapes Go.WideShapes Go.ChangeAt Go.RowKit
set_option linter.unusedVariables false
set_option maxRecDepth 100000
abbrev IRV : Prop := ∀ (w : World) (s : Bs), s.length ≤ 2000000 → Calls Try.prog 47 #[.string ⟨s.toArray⟩] w (BRes (rv s) w)
end Go.Proofs.Ythfdkenidfnmgaa
namespace Go.Proofs.Ythfdkenidfnmgaa
open Go.ChangeShapes Go.WideShapes Go.ChangeAt Go.RowKit Go.Maps
set_option linter.unusedVariables false
set_option maxRecDepth 100000
def pairT {H : Type} (s : Bs) : Lit × DataW H := (.string s, .lit (.bool true))
def SetIs {H : Type} (D : DataW H) (xs : List Bs) : Prop := ∃ es, D = .map es ∧ es.Perm (xs.map pairT) ∧ xs.Nodup
variable {H : Type} {D : DataW H} {xs ys : List Bs}
theorem SetIs.none : SetIs (.map [] : DataW H) [] := ⟨[], rfl, List.Perm.nil, List.nodup_nil⟩
theorem SetIs.size (h : SetIs D xs) : Maps.size D = xs.length := by
  obtain ⟨es, rfl, hp, _⟩ := h
  rw [Maps.size_eq, hp.length_eq, List.length_map]
theorem SetIs.entry {es : List (Lit × DataW H)} (hp : es.Perm (xs.map pairT)) {p : Lit × DataW H} (hm : p ∈ es) : ∃ t ∈ xs, p = pairT t := by
  obtain ⟨t, ht, e⟩ := List.mem_map.1 (hp.mem_iff.1 hm)
  exact ⟨t, ht, e.symm⟩
theorem perm_str (h : SetIs D xs) : (strKeys D).Perm xs := by
  obtain ⟨es, rfl, hp, _⟩ := h
  have := hp.map (fun p => strOf p.1)
  rw [List.map_map] at this
  refine this.trans ?_
  rw [show ((fun p : Lit × DataW H => strOf p.1) ∘ pairT) = id from rfl, List.map_id]
theorem SetIs.put (h : SetIs D xs) {s : Bs} (hn : s ∉ xs) : SetIs (D.put (.string s) (.lit (.bool true))) (s :: xs) := by
  obtain ⟨es, rfl, hp, hd⟩ := h
  refine ⟨_, rfl, ?_, List.nodup_cons.2 ⟨hn, hd⟩⟩
  have hf : es.filter (fun p => !p.1.sameKey (.string s)) = es := by
    refine List.filter_eq_self.2 (fun p hm => ?_)
    obtain ⟨t, ht, rfl⟩ := SetIs.entry hp hm
    show (!(t == s)) = true
    have : t ≠ s := fun e => hn (e ▸ ht)
    simpa using this
  rw [hf, List.map_cons]
  exact (insert_perm _ _).trans (hp.cons _)
theorem SetIs.again (h : SetIs D xs) {s : Bs} (hn : s ∈ xs) : SetIs (D.put (.string s) (.lit (.bool true))) xs := by
  obtain ⟨es, rfl, hp, hd⟩ := h
  refine ⟨_, rfl, ?_, hd⟩
  have h1 : (es.filter (fun p => !p.1.sameKey (.string s))).Perm ((xs.map pairT).filter (fun p => !p.1.sameKey (.string s))) := hp.filter _
  have h2 : (xs.map (pairT (H := H))).filter (fun p => !p.1.sameKey (.string s)) = (xs.erase s).map pairT := by
    rw [List.filter_map, hd.erase_eq_filter]
    rfl
  rw [h2] at h1
  refine ((insert_perm _ _).trans (h1.cons _)).trans ?_
  have h3 := ((List.perm_cons_erase hn).map (pairT (H := H))).symm
  rw [List.map_cons] at h3
  exact h3
theorem SetIs.perm (h : SetIs D xs) (hp : xs.Perm ys) : SetIs D ys := by
  obtain ⟨es, rfl, h1, h2⟩ := h
  exact ⟨es, rfl, h1.trans (hp.map _), hp.nodup_iff.1 h2⟩
theorem le_iff_bl {a b : Bs} : a ≤ b ↔ bl b a = false := by
  unfold bl
  rw [bytesLess_eq, decide_eq_false_iff_not]
  exact (List.not_lt).symm
theorem SetIs.sorted (h : SetIs D xs) (ha : Asc xs) {ss : List Bs} (hp : ss.Perm (strKeys D)) : ss.mergeSort (fun x y => decide (x ≤ y)) = xs := by
  have hp2 : (ss.mergeSort (fun x y => decide (x ≤ y))).Perm xs := (List.mergeSort_perm ss _).trans (hp.trans (perm_str h))
  have hs : (ss.mergeSort (fun x y => decide (x ≤ y))).Pairwise (fun a b => decide (a ≤ b) = true) := by
    refine List.pairwise_mergeSort (fun a b c h1 h2 => ?_) (fun a b => ?_) ss
    · simp only [decide_eq_true_eq] at h1 h2 ⊢
      exact List.le_trans h1 h2
    · rcases List.le_total a b with h | h
      · simp [h]
      · simp [h]
  refine asc_ext ?_ ha (fun z => hp2.mem_iff)
  have hnd : (ss.mergeSort (fun x y => decide (x ≤ y))).Nodup := hp2.nodup_iff.2 (asc_nodup ha)
  unfold Asc
  refine (List.Pairwise.and hs hnd).imp (fun {a b} hab => ?_)
  obtain ⟨h1, h2⟩ := hab
  have h1 : bl b a = false := le_iff_bl.1 (of_decide_eq_true h1)
  cases hb : bl a b with
  | true => rfl
  | false => exact absurd (bl_tri hb h1) h2
end Go.Proofs.Ythfdkenidfnmgaa
namespace Go.Proofs.Ythfdkenidfnmgaa
open Go.ChangeShapes Go.WideShapes Go.ChangeAt Go.RowKit Go.Maps
set_option linter.unusedVariables false
set_option maxRecDepth 100000
theorem keyS : Keyed Try.prog 9 := string_keyed Try.underlying9
def SetAt (w : World) (b : Nat) (xs : List Bs) : Prop := ∃ n D, n ≤ 1000 ∧ w.ownsMap (H := Unit) Try.prog 9 (plainElem Try.prog 4) b n D ∧ SetIs D xs
theorem SetAt.kept {w w' : World} {b : Nat} {xs : List Bs} {row : Option Nat} (h : SetAt w b xs) (hg : w.grownBy w' row) (hne : some b ≠ row) : SetAt w' b xs := by
  obtain ⟨n, D, hn, ho, hs⟩ := h
  exact ⟨n, D, hn, ho.kept hg hne, hs⟩
theorem SetAt.below {w w' : World} {b : Nat} {xs : List Bs} (h : SetAt w b xs) (hb : Below w.heap.size w w') : SetAt w' b xs :=
  h.kept (row := none) ⟨hb.os, hb.tape, hb.output, hb.size, fun i hi _ => hb.block i hi⟩ (by simp)
theorem SetAt.lt {w : World} {b : Nat} {xs : List Bs} (h : SetAt w b xs) : b < w.heap.size := by
  obtain ⟨n, D, hn, ho, hs⟩ := h
  exact ho.lt
theorem SetAt.perm {w : World} {b : Nat} {xs ys : List Bs} (h : SetAt w b xs) (hp : xs.Perm ys) : SetAt w b ys := by
  obtain ⟨n, D, hn, ho, hs⟩ := h
  exact ⟨n, D, hn, ho, hs.perm hp⟩
end Go.Proofs.Ythfdkenidfnmgaa
namespace Go.Proofs.Ythfdkenidfnmgaa
open Go.ChangeShapes Go.WideShapes Go.ChangeAt Go.RowKit Go.Maps
set_option linter.unusedVariables false
set_option maxRecDepth 100000
theorem conv_bytes (w : World) (s : Bs) : ∃ cap wA, (convert 9 94 (.string ⟨s.toArray⟩)).run Try.prog w = .ok (.slice (some ⟨w.heap.size, 0, none⟩) s.length cap) wA ∧
    Below w.heap.size w wA ∧ ∀ j (hj : j < s.length), wA.cell? ⟨w.heap.size, j, none⟩ = some (.int .u8 (s[j].toNat : Int)) := by
  refine ⟨_, _, run_bytes_of_string w _ _ _ _ Try.underlying9 Try.underlying94 Try.underlying5, ?_, fun j hj => ?_⟩
  · have := (Below.refl w.heap.size w).drew.alloc (Nat.le_refl _) (.cells (bytesRow ⟨s.toArray⟩ (grownCap w s.length 0 5)) 5 ((bytesRow ⟨s.toArray⟩ (grownCap w s.length 0 5)).size, (bytesRow ⟨s.toArray⟩ (grownCap w s.length 0 5)).size + 1))
    exact this
  · have h1 := World.cell?_alloc_mark w.drew (bytesRow ⟨s.toArray⟩ (grownCap w s.length 0 5)) 5 ((bytesRow ⟨s.toArray⟩ (grownCap w s.length 0 5)).size, (bytesRow ⟨s.toArray⟩ (grownCap w s.length 0 5)).size + 1) j
    refine h1.trans ?_
    rw [bytesRow_at ⟨s.toArray⟩ _ j (by simpa using hj)]
    rfl
theorem irv_any : IRV := by
  intro w s hs
  have hsl : (s.length : Int) ≤ 2000000 := by omega
  by_cases h4 : 4 < s.length
  · have h4' : (4 : Int) < (s.length : Int) := by omega
    have HR : Hid (rv s = false) := Lib.hid (by rw [Bool.eq_false_iff]; intro h; have := rv_len h; omega)
    rw [HR.out]
    go_enter Try.func47, Try.ntmps47
    go_wp2_with fail
    go_ret
    exact ⟨rfl, Below.refl _ _⟩
  have h4' : ¬ (4 : Int) < (s.length : Int) := by omega
  obtain ⟨cap, wA, hcv, hbA, hcA⟩ := conv_bytes w s
  have HRV := Lib.hid (fun h => okTo_all (s := s) (k := s.length) h rfl)
  have HCA := Lib.hid hcA
  have HBA := Lib.hid hbA
  clear hcA hbA
  go_enter Try.func47, Try.ntmps47
  go_wp2
  go_loop [11] (fun i => ∃ k : Nat, k ≤ s.length ∧ i = .int .i64 k ∧ Hid (okTo s k)) (fun i => s.length - (intOf i).toNat)
  case atStart => exact ⟨0, Nat.zero_le _, rfl, Lib.hid (fun b hb => by simp at hb)⟩
  case round =>
    obtain ⟨k, hk, rfl, HT⟩ := hrel
    by_cases hks : k < s.length
    · have hlt' : (k : Int) < (s.length : Int) := by omega
      have HB := Lib.hid (@lok_iff s[k])
      have hcell := HCA.out k hks
      obtain ⟨x, hx⟩ : ∃ x, x = s[k].toNat := ⟨_, rfl⟩
      rw [← hx] at hcell HB
      clear hx
      have HR := Lib.hid (fun h => rv_bad hks h)
      have HO := Lib.hid (fun h => okTo_succ HT.out hks h)
      by_cases h1 : x < 97
      · have h1' : (x : Int) < 97 := by omega
        go_wp2
        go_ret
        exact ⟨by rw [HR.out (by rw [Bool.eq_false_iff]; intro h; have := HB.out.1 h; omega)]; rfl, HBA.out⟩
      · by_cases h2 : 99 < x
        · have h1' : ¬ (x : Int) < 97 := by omega
          have h2' : (99 : Int) < (x : Int) := by omega
          go_wp2
          go_ret
          exact ⟨by rw [HR.out (by rw [Bool.eq_false_iff]; intro h; have := HB.out.1 h; omega)]; rfl, HBA.out⟩
        · have h1' : ¬ (x : Int) < 97 := by omega
          have h2' : ¬ (99 : Int) < (x : Int) := by omega
          go_wp2
          go_round
          case rel => exact ⟨k + 1, by omega, by go_num, Lib.hid (HO.out (HB.out.2 ⟨by omega, by omega⟩))⟩
          case measure => simp [intOf]; omega
    · go_wp2
      go_ret
      have e : k = s.length := by omega
      refine ⟨?_, HBA.out⟩
      rw [HRV.out (by rw [← e]; exact HT.out), decide_eq_true (by omega)]
      rfl
theorem short_max {x : Bs} (h : x.length ≤ 2000000) : x.length ≤ maxLen := by unfold maxLen; omega
end Go.Proofs.Ythfdkenidfnmgaa
namespace Go.Proofs.Ythfdkenidfnmgaa
open Go.ChangeShapes Go.WideShapes Go.ChangeAt Go.RowKit
set_option linter.unusedVariables false
set_option maxRecDepth 100000
def z12 : List IV := List.replicate 12 iz
theorem info_infos {n : Nat} (h : n = 36) : (Try.prog.info? 59).map (·.size) = some n := by subst h; kernel_rfl
theorem isC_36 {xs : List IV} (h : xs.length = 12) : (isC xs).length = 36 := by rw [isC_len, h]
theorem slice_infos (b : Nat) (W : World) : (Instr.sliceAt 59 (.pointer (some ⟨b, 0, none⟩)) none none none).run Try.prog W = .ok (.slice (some ⟨b, 0, none⟩) 12 12) W := by
  unfold Instr.sliceAt
  simp only [Instr.sureAddr, Sem.run_bind, Sem.run_pure, Result.andThen_ok, run_underlying Try.underlying59, Instr.sliceBounds]
  simp [add0]
end Go.Proofs.Ythfdkenidfnmgaa
namespace Go.Proofs.Ythfdkenidfnmgaa
open Go.ChangeShapes Go.WideShapes Go.ChangeAt Go.RowKit
set_option linter.unusedVariables false
set_option maxRecDepth 100000
theorem tri_of_range {w : World} {b : Nat} {xs : List IV} (h : w.rangeAt b 0 (isC xs)) {i : Nat} (hi : i < xs.length) : Tri w b (i * 3) (xs.getD i iz) := by
  have hc : ∀ j v, j < 3 → (ivC (xs.getD i iz))[j]? = some v → w.cell? ⟨b, i * 3 + j, none⟩ = some v := fun j v hj hv => by
    have := h (i * 3 + j) v (by rw [isC_get xs hi hj]; exact hv)
    rwa [Nat.zero_add] at this
  exact ⟨hc 0 _ (by omega) rfl, hc 1 _ (by omega) rfl, hc 2 _ (by omega) rfl⟩
theorem triW_new (w : World) {xs : List IV} (t : TypeId) {i : Nat} (hi : i < xs.length) : TriW (w.alloc (.cells (isC xs).toArray t)) w.heap.size (i * 3) (xs.getD i iz) :=
  ⟨tri_of_range (by have := range_row (heap_alloc_new w (.cells (isC xs).toArray t)); rwa [List.toList_toArray] at this) hi, fun j hj => by
    have := (there_row (n := xs.length * 3) (heap_alloc_new w (.cells (isC xs).toArray t)) (by rw [List.size_toArray, isC_len]; exact Nat.le_refl _)) (i * 3 + j) (by omega)
    rw [Nat.zero_add] at this
    exact this.2⟩
theorem iclone_any (w : World) (b n : Nat) (xs : List IV) (hl : xs.length ≤ 12) (h : Is w (.slice (some ⟨b, 0, none⟩) n n) xs) :
    Calls Try.prog 49 #[.slice (some ⟨b, 0, none⟩) n n] w (NewV xs w) := by
  have HE : ∀ W : World, (binOp .eql 25 (.slice (some ⟨b, 0, none⟩) n n) (.slice none 0 0)).run Try.prog W = .ok (.bool false) W := fun _ => by kernel_rfl
  have H := Lib.hid h
  have HN := Lib.hid hl
  clear h hl
  have HSO := Lib.hid (OwnV.start w)
  have H2 := Lib.hid (H.out.below HSO.out.bel)
  go_enter Try.func49, Try.ntmps49
  go_wp2_with (at_builtin; refine wpList_append_is (.tmp 5) (.tmp 6) w _ [] rfl HSO.out _ xs rfl H2.out nilOkI_some (by simp only [List.length_nil]; have := HN.out; omega) ?_; intro v2 w2 hown2 hnn2 hgrow2)
  rw [List.nil_append] at hown2
  have HO := Lib.hid hown2
  clear hown2 hnn2 hgrow2
  go_wp2
  go_ret
  exact ⟨_, rfl, HO.out.row, HO.out.bel⟩
set_option maxRecDepth 100000 in
set_option maxHeartbeats 1000000 in
theorem ilist_any (w : World) (xs : List IV) (hl : xs.length = 12) : Calls Try.prog 36 #[.agg (isC xs).toArray] w (NewV xs w) := by
  have HB1 : Hid (Below w.heap.size w (w.alloc (.cells (isC xs).toArray 59))) := Lib.hid ((Below.refl _ _).alloc (Nat.le_refl _) _)
  have HI : Hid (Is (w.alloc (.cells (isC xs).toArray 59)) (.slice (some ⟨w.heap.size, 0, none⟩) 12 12) xs) := Lib.hid (by
    rw [← hl]
    refine ⟨_, _, rfl, Nat.le_refl _, by unfold maxLen; omega, fun i hi => ⟨_, 0, rfl, ?_⟩⟩
    rw [Nat.zero_add]
    exact (triW_new w _ hi).at3)
  have HC := Lib.hid (fun w b h => iclone_any w b 12 xs (by omega) h)
  have HSL := slice_infos
  clear hl
  obtain ⟨C, hC⟩ : ∃ C, C = (isC xs).toArray := ⟨_, rfl⟩
  rw [← hC] at HB1 HI ⊢
  clear hC
  obtain ⟨w0, hw0⟩ : ∃ w0, w0 = w.alloc (.cells C 59) := ⟨_, rfl⟩
  rw [← hw0] at HB1 HI
  go_enter Try.func36, Try.ntmps36
  go_wp2_with fail
  rw [← hw0]
  clear hw0
  refine (HC.out w0 _ HI.out).mono ?_
  rintro e w1 ⟨v1, rfl, hr1, hb1⟩
  have HR := Lib.hid (hr1.wide HB1.out.size (Nat.le_refl _))
  have HB2 := Lib.hid (HB1.out.trans (hb1.mono HB1.out.size))
  clear hr1 hb1
  go_wp2_with fail
  go_ret
  exact ⟨_, rfl, HR.out, HB2.out⟩
end Go.Proofs.Ythfdkenidfnmgaa
namespace Go.Proofs.Ythfdkenidfnmgaa
open Go.ChangeShapes Go.WideShapes Go.ChangeAt Go.RowKit
set_option linter.unusedVariables false
set_option maxRecDepth 100000
theorem load_run {P : Program} {W : World} (ty : TypeId) (b o : Nat) (cs : List Value) (d : TypeDesc) (hc : W.rangeAt b o cs) (hu : P.underlying ty = some d) (hd : d.isRow = true) (hi : (P.info? ty).map (·.size) = some cs.length) :
    (do let l ← Instr.loadAt ty (.pointer (some ⟨b, o, none⟩)); pure (Next.value l) : Sem Next).run P W = .ok (.value (.agg cs.toArray)) W := by
  simp only [Instr.loadAt, Instr.sureAddr, Sem.run_bind, Sem.run_pure, Result.andThen_ok, run_loadVar_mid W b o ty cs d hc hu hd hi]
end Go.Proofs.Ythfdkenidfnmgaa
namespace Go.Proofs.Ythfdkenidfnmgaa
open Go.ChangeShapes Go.WideShapes Go.ChangeAt Go.RowKit Go.Maps
set_option linter.unusedVariables false
set_option maxRecDepth 100000
theorem keyOf_s (s : Bs) (hs : s.length ≤ maxLen) : keyOf Try.prog 9 (.string ⟨s.toArray⟩) = some (.string s) := by
  have hz : (ByteArray.mk s.toArray).size ≤ maxLen := by simpa [ByteArray.size] using hs
  simp [keyOf, Try.underlying9, mapKey, hz]
theorem SetAt.len {w : World} {b : Nat} {xs : List Bs} (h : SetAt w b xs) (ty : TypeId) : (Builtin.len_ #[45] ty #[.map (some b)]).run Try.prog w = .ok (.int .i64 xs.length) w := by
  obtain ⟨n, D, hn, ho, hsi⟩ := h
  rw [ho.len Try.underlying45 ty, hsi.size]
theorem SetAt.put {w : World} {b : Nat} {xs : List Bs} (h : SetAt w b xs) (hl : xs.length < 900) (s : Bs) (hs : s.length ≤ maxLen) : ∃ w', (Instr.mapUpdate 45 (.map (some b)) (.string ⟨s.toArray⟩) (.bool true)).run Try.prog w = .ok () w' ∧ SetAt w' b (if s ∈ xs then xs else s :: xs) ∧ w.grownBy w' (some b) := by
  obtain ⟨n, D, hn, ho, hsi⟩ := h
  have ho' := ho
  obtain ⟨es, clock, hb, F, hz, hD⟩ := ho
  have hz2 := hsi.size
  have ho2 : w.ownsMap (H := Unit) Try.prog 9 (plainElem Try.prog 4) b xs.length D := ⟨es, clock, hb, F, by
    have : Maps.size D = es.size := by rw [hD]; simp [Maps.size, length_sorted]
    omega, hD⟩
  obtain ⟨w', hrun, how, hg⟩ := ho2.update keyS Try.underlying45 (by unfold maxLen; omega) (keyOf_s s hs) (plainElem_bool Try.underlying4 true)
  refine ⟨w', hrun, ⟨xs.length + 1, _, by omega, how, ?_⟩, hg⟩
  by_cases hm : s ∈ xs
  · rw [if_pos hm]; exact hsi.again hm
  · rw [if_neg hm]; exact hsi.put hm
theorem SetAt.made (w : World) : SetAt (w.alloc (.map #[] 0)) w.heap.size [] := ⟨0, _, Nat.zero_le _, World.ownsMap_made w _ _ _, SetIs.none⟩
theorem getD_take {xs : List Bs} {m j : Nat} (hj : j < m) (hm : m ≤ xs.length) : (xs.take m).getD j [] = xs.getD j [] := by
  rw [getD_lt (by rw [List.length_take]; omega), getD_lt (by omega), List.getElem_take]
theorem rokTo_rok {xs : List Bs} {m : Nat} (h : rokTo xs m) (hm : m ≤ xs.length) : rok (xs.take m) = true := by
  rw [rok_iff]
  intro j hj
  rw [List.length_take] at hj
  have := h j (by omega)
  rw [getD_take (by omega) hm, getD_take (by omega) hm]
  exact this
theorem rokTo_new {xs : List Bs} {k : Nat} (h : rokTo xs (k + 1)) (hk : k < xs.length) : xs.getD k [] ∉ xs.take k := by
  have hn := asc_nodup (rok_asc (rokTo_rok h hk))
  rw [take_snoc_getD xs k [] hk] at hn
  intro hm
  exact (List.nodup_append.1 hn).2.2 _ hm _ (List.mem_singleton.2 rfl) rfl
theorem SetAt.snoc {w : World} {b : Nat} {xs : List Bs} {x : Bs} (h : SetAt w b (if x ∈ xs then xs else x :: xs)) (hn : x ∉ xs) : SetAt w b (xs ++ [x]) := by
  rw [if_neg hn] at h
  exact h.perm (List.perm_append_singleton x xs).symm
theorem take_le_six {xs : List Bs} {k : Nat} (h : k ≤ 6) : (xs.take k).length < 900 := by rw [List.length_take]; omega
def SetOf (xs : List Bs) (w : World) (e : Ending) (w' : World) : Prop :=
  Below w.heap.size w w' ∧ ∃ m, e = .returned (.tuple #[.map m, .bool (rvs xs)]) ∧ (rvs xs = true → ∃ b, m = some b ∧ w.heap.size ≤ b ∧ SetAt w' b xs)
theorem setOf_any (w : World) (v : Value) (xs : List Bs) (h : Strs w v xs) (hs : Short xs) : Calls Try.prog 34 #[v] w (SetOf xs w) := by
  obtain ⟨a, ca, rfl, hla, hma, hxa⟩ := h
  unfold maxLen at hma
  obtain ⟨n, hN⟩ : ∃ n, n = xs.length := ⟨_, rfl⟩
  rw [← hN] at hla hxa ⊢
  have HN := Lib.hid hN
  have HX := Lib.hid hxa
  have HS := Lib.hid hs
  clear hN hxa hs
  by_cases h6 : 6 < n
  · have h6' : (6 : Int) < (n : Int) := by omega
    have HR : Hid (rvs xs = false) := Lib.hid (by rw [Bool.eq_false_iff]; intro h; have := rvs_len h; have := HN.out; omega)
    go_enter Try.func34, Try.ntmps34
    go_wp2_with fail
    go_ret2
    exact ⟨Below.refl _ _, none, by rw [HR.out]; rfl, fun h => by rw [HR.out] at h; cases h⟩
  have h6' : ¬ (6 : Int) < (n : Int) := by omega
  have hmm := @run_makeMap Try.prog
  go_enter Try.func34, Try.ntmps34
  go_wp2
  go_loopw [13] (fun i wr => ∃ k : Nat, k ≤ n ∧ i = .int .i64 k ∧ Hid (rokTo xs k) ∧ Hid (SetAt wr w.heap.size (xs.take k)) ∧ Hid (Below w.heap.size w wr)) (fun i _ => n - (intOf i).toNat)
  case atStart => exact ⟨0, Nat.zero_le _, rfl, Lib.hid (fun j hj => by omega), Lib.hid (SetAt.made w), Lib.hid ((Below.refl _ _).alloc (Nat.le_refl _) _)⟩
  case round =>
    obtain ⟨k, hk, rfl, HT, HA, HB⟩ := hrel
    by_cases hlt : k < n
    · have hlt' : (k : Int) < (n : Int) := by omega
      have hkx : k < xs.length := by rw [← HN.out]; exact hlt
      obtain ⟨b, o, rfl, hc0⟩ := HX.out k hlt
      have hc := (HB.out.cell (p := ⟨b, o + k, none⟩) (cell_lt hc0)).trans hc0
      clear hc0
      have HV := Lib.hid (fun w => irv_any w (xs.getD k []) (HS.out.at k))
      have HB1 := Lib.hid (fun h => rok_bad1 hkx h)
      have HB2 := Lib.hid (fun h0 h => rok_bad2 hkx h0 h)
      have HO := Lib.hid (fun h1 h2 => rokTo_succ HT.out h1 h2)
      have HTK := Lib.hid (take_snoc_getD xs k [] hkx)
      have HNW := Lib.hid (fun h => rokTo_new (xs := xs) (k := k) h hkx)
      have HSX := Lib.hid (short_max (HS.out.at k))
      generalize xs.getD k [] = x at hc HV HB1 HB2 HO HTK HNW HSX
      clear hkx
      cases hv : rv x with
      | false =>
        have HR := Lib.hid (HB1.out hv)
        rw [hv] at HV
        clear hv
        go_wp2_with fail
        refine (HV.out wr).mono ?_
        rintro e w1 ⟨rfl, hb1⟩
        have B1 := Lib.hid (HB.out.trans (hb1.mono HB.out.size))
        clear hb1
        go_wp2
        go_ret2
        exact ⟨B1.out, none, by rw [HR.out]; rfl, fun h => by rw [HR.out] at h; cases h⟩
      | true =>
        have HW := Lib.hid hv
        rw [hv] at HV
        clear hv
        rcases Nat.eq_zero_or_pos k with h0 | hpos
        · have hgt : ¬ (0 : Int) < (k : Int) := by omega
          have hgt2 : ¬ 0 < k := by omega
          have HO2 := Lib.hid (HO.out HW.out (fun h => absurd h hgt2))
          clear h0
          go_wp2_with fail
          refine (HV.out wr).mono ?_
          rintro e w1 ⟨rfl, hb1⟩
          have B1 := Lib.hid (HB.out.trans (hb1.mono HB.out.size))
          have A1 := Lib.hid (HA.out.below hb1)
          clear hb1
          obtain ⟨w2, hrun, hset, hg⟩ := A1.out.put (take_le_six (by omega)) x HSX.out
          have A2 := Lib.hid (hset.snoc (HNW.out HO2.out))
          rw [← HTK.out] at A2
          have B2 := Lib.hid (B1.out.grown hg B1.out.size (fun j hj => by cases hj; exact Nat.le_refl _))
          clear hset hg
          go_wp2
          go_roundw
          case rel => exact ⟨k + 1, by omega, by go_num, HO2, A2, B2⟩
          case measure => simp [intOf]; omega
        · obtain ⟨q, rfl⟩ : ∃ q, k = q + 1 := ⟨k - 1, by omega⟩
          have hgt : (0 : Int) < ((q + 1 : Nat) : Int) := by omega
          simp only [Nat.add_sub_cancel] at HB2 HO
          obtain ⟨b', o', e, hcq⟩ := HX.out q (by omega)
          cases e
          have hcy := (HB.out.cell (p := ⟨b, o + q, none⟩) (cell_lt hcq)).trans hcq
          clear hcq
          generalize xs.getD q [] = y at hcy HB2 HO
          cases hb : bl y x with
          | false =>
            have HR := Lib.hid (HB2.out (Nat.succ_pos _) hb)
            have hbb : Op.bytesLess y x = false := hb
            clear hb
            go_wp2_with fail
            refine (HV.out wr).mono ?_
            rintro e w1 ⟨rfl, hb1⟩
            have B1 := Lib.hid (HB.out.trans (hb1.mono HB.out.size))
            have hc1 := (hb1.cell (p := ⟨b, o + q, none⟩) (cell_lt hcy)).trans hcy
            clear hb1 hcy
            go_wp2_with fail
            go_ret2
            exact ⟨B1.out, none, by rw [HR.out]; rfl, fun h => by rw [HR.out] at h; cases h⟩
          | true =>
            have HO2 := Lib.hid (HO.out HW.out (fun _ => hb))
            have hbb : Op.bytesLess y x = true := hb
            clear hb
            go_wp2_with fail
            refine (HV.out wr).mono ?_
            rintro e w1 ⟨rfl, hb1⟩
            have B1 := Lib.hid (HB.out.trans (hb1.mono HB.out.size))
            have hc1 := (hb1.cell (p := ⟨b, o + q, none⟩) (cell_lt hcy)).trans hcy
            have A1 := Lib.hid (HA.out.below hb1)
            clear hb1 hcy
            obtain ⟨w2, hrun, hset, hg⟩ := A1.out.put (take_le_six (by omega)) x HSX.out
            have A2 := Lib.hid (hset.snoc (HNW.out HO2.out))
            rw [← HTK.out] at A2
            have B2 := Lib.hid (B1.out.grown hg B1.out.size (fun j hj => by cases hj; exact Nat.le_refl _))
            clear hset hg
            go_wp2
            go_roundw
            case rel => exact ⟨q + 1 + 1, by omega, by go_num, HO2, A2, B2⟩
            case measure => simp [intOf]; omega
    · have e : k = n := by omega
      have HR : Hid (rvs xs = true) := Lib.hid (by rw [rvs, rokTo_all HT.out (by rw [e]; exact HN.out), decide_eq_true (by have := HN.out; omega)]; rfl)
      have HA2 := Lib.hid (show SetAt wr w.heap.size xs by have := HA.out; rwa [take_all (by rw [e]; exact HN.out)] at this)
      go_wp2
      go_ret2
      exact ⟨HB.out, _, by rw [HR.out]; rfl, fun _ => ⟨_, rfl, Nat.le_refl _, HA2.out⟩⟩
end Go.Proofs.Ythfdkenidfnmgaa
namespace Go.Proofs.Ythfdkenidfnmgaa
open Go.ChangeShapes Go.WideShapes Go.ChangeAt Go.RowKit
set_option linter.unusedVariables false
set_option maxRecDepth 100000
set_option linter.unusedSimpArgs false
def ek (x : Int) : Int := if goodB x then 1 else if x = 0 then 0 else 2
end Go.Proofs.Ythfdkenidfnmgaa
namespace Go.Proofs.Ythfdkenidfnmgaa
open Go.ChangeShapes Go.WideShapes Go.ChangeAt Go.RowKit
set_option linter.unusedVariables false
set_option maxRecDepth 100000
def rowC (xs : List Int) : Array Value := (xs.map (Value.int .i64)).toArray
end Go.Proofs.Ythfdkenidfnmgaa
namespace Go.Proofs.Ythfdkenidfnmgaa
open Go.ChangeShapes Go.WideShapes Go.ChangeAt Go.RowKit
set_option linter.unusedVariables false
set_option maxRecDepth 100000
def flatL (xss : List (List Int)) : List Value := xss.flatten.map (Value.int .i64)
theorem size_words (w : World) : (sizeOf 53).run Try.prog w = .ok 4 w := Try.sizeOf53 w
theorem agg_words (w : World) : (isAgg 53).run Try.prog w = .ok true w := Try.isAgg53 w
theorem info_mem {n : Nat} (h : n = 48) : (Try.prog.info? 55).map (·.size) = some n := by subst h; kernel_rfl
theorem flat_take_len (xss : List (List Int)) (h : ∀ i, i < xss.length → (xss.getD i []).length = 4) : ∀ k, k ≤ xss.length → (flatL (xss.take k)).length = k * 4
  | 0, _ => by simp [flatL]
  | k + 1, hk => by
    have ih := flat_take_len xss h k (by omega)
    rw [take_snoc_getD xss k [] (by omega)]
    simp only [flatL, List.flatten_append, List.map_append, List.length_append] at ih ⊢
    rw [ih]
    have := h k (by omega)
    simp at this ⊢
    omega
theorem flat_len12 {xss : List (List Int)} (hl : xss.length = 12) (h : ∀ i, i < xss.length → (xss.getD i []).length = 4) : (flatL xss).length = 48 := by
  have := flat_take_len xss h 12 (by omega)
  rwa [take_all hl.symm] at this
theorem flat_len {xss : List (List Int)} (hm : memOk xss = true) : (flatL xss).length = 48 := by
  have hl := mem_len hm
  have := flat_take_len xss (fun i hi => mem_row hm (by omega)) 12 (by omega)
  rwa [take_all hl.symm] at this
theorem flat_snoc (xss : List (List Int)) (k : Nat) (xs : List Int) (hk : k < xss.length) (hx : xs = xss.getD k []) : flatL (xss.take (k + 1)) = flatL (xss.take k) ++ xs.map (Value.int .i64) := by
  subst hx
  rw [take_snoc_getD xss k [] hk]
  simp [flatL]
end Go.Proofs.Ythfdkenidfnmgaa
namespace Go.Proofs.Ythfdkenidfnmgaa
open Go.ChangeShapes Go.WideShapes Go.ChangeAt Go.RowKit
set_option linter.unusedVariables false
set_option maxRecDepth 100000
theorem slice_words (b : Nat) (W : World) : (Instr.sliceAt 53 (.pointer (some ⟨b, 0, none⟩)) none none none).run Try.prog W = .ok (.slice (some ⟨b, 0, none⟩) 4 4) W := by
  unfold Instr.sliceAt
  simp only [Instr.sureAddr, Sem.run_bind, Sem.run_pure, Result.andThen_ok, run_underlying Try.underlying53, Instr.sliceBounds]
  simp [add0]
theorem clone4 {W : World} {b : Nat} {xs : List Int} (hl : xs.length = 4) (hc : ∀ j y, (xs.map (Value.int .i64))[j]? = some y → W.cell? ⟨b, j, none⟩ = some y) :
    Calls Try.prog 48 #[.slice (some ⟨b, 0, none⟩) 4 4] W fun e w1 => ∃ v1, e = .returned v1 ∧ w1.ownsRow W.heap.size 3 1 v1 4 (xs.map (.int .i64)) ∧ (W.alloc (.cells #[] 3)).grownBy w1 (some W.heap.size) := by
  obtain ⟨i0, hi, hz0, hz1, hz2⟩ := info_parts intInfo
  have HI := Lib.hid hi
  have HZ0 := Lib.hid hz0
  have HZ1 := Lib.hid hz1
  have HZ2 := Lib.hid hz2
  clear hi hz0 hz1 hz2
  have HE : ∀ W : World, (binOp .eql 77 (.slice (some ⟨b, 0, none⟩) 4 4) (.slice none 0 0)).run Try.prog W = .ok (.bool false) W := fun _ => by kernel_rfl
  have HL := Lib.hid hl
  have HNEWS : Hid (∀ j y, (xs.map (Value.int .i64))[j]? = some y → (W.alloc (.cells #[] 3)).cell? ((⟨b, 0, none⟩ : Addr).add j) = some y) := Lib.hid (fun j y hy => by
    rw [add0]
    have := hc j y hy
    rw [World.cell?_alloc_past _ _ _ (cell_lt this), this])
  clear hc hl
  go_enter Try.func48, Try.ntmps48
  go_wp2_with (at_builtin; refine wpList_append_own _ rfl (.tmp 5) (.tmp 6) 77 rfl W.heap.size 3 i0 (.int .i64 0) 1 8 Try.underlying77 HI.out HZ0.out HZ1.out HZ2.out rfl (by decide) _ _ _ rfl (World.ownsRow_made W #[] 0 (Nat.le_refl _) (Nat.zero_le _) rfl) ⟨b, 0, none⟩ 4 4 (xs.map (.int .i64)) rfl (by rw [List.length_map, HL.out]) HNEWS.out (ints_one xs) (by unfold maxLen; omega) (by omega) (by simp) ?_; intro v1 w1 hown1 hgrow1 _; simp only [Nat.zero_add, List.nil_append] at hown1)
  have HO := Lib.hid hown1
  have HG := Lib.hid hgrow1
  clear hown1 hgrow1
  go_wp2
  go_ret
  exact ⟨_, rfl, HO.out, HG.out⟩
theorem CRel.alloc {w wr : World} {xss : List (List Int)} {k : Nat} {v : Value} {V : Nat → Value} {G : Nat → Nat} (h : CRel w xss k v wr V G) (o : Obj) : CRel w xss k v (wr.alloc o) V G :=
  ⟨h.own.alloc o, fun j hj => ⟨(h.rows j hj).1.alloc o, (h.rows j hj).2⟩, h.inj, h.bel.alloc h.bel.size o⟩
theorem CRel.begin {w wm : World} {xss : List (List Int)} {o : Obj} {v : Value} (hown : wm.ownsRow w.heap.size 77 1 v 0 []) (hg : (w.alloc o).grownBy wm none) : CRel w xss 0 v wm (fun _ => undef) (fun _ => 0) :=
  ⟨hown, fun j hj => by omega, fun i hi => by omega, ((Below.refl _ _).alloc (Nat.le_refl _) o).grown hg (by simp) (fun k hk => by cases hk)⟩
theorem flat_row (xss : List (List Int)) (h : ∀ i, i < xss.length → (xss.getD i []).length = 4) (k : Nat) (hk : k < xss.length) : ((flatL xss).toArray.extract (k * 4) (k * 4 + 4)) = rowC (xss.getD k []) := by
  have h1 := flat_take_len xss h k (by omega)
  have h2 := flat_take_len xss h (k + 1) (by omega)
  have e : flatL xss = flatL (xss.take (k + 1)) ++ flatL (xss.drop (k + 1)) := by
    unfold flatL
    rw [← List.map_append, ← List.flatten_append, List.take_append_drop]
  rw [flat_snoc xss k _ hk rfl] at e h2
  rw [e]
  unfold rowC
  simp only [List.extract_toArray, List.extract_eq_take_drop]
  congr 1
  rw [List.append_assoc, List.drop_append_of_le_length (by omega), List.drop_of_length_le (by omega), List.nil_append]
  rw [List.take_append_of_le_length (by have := h k hk; rw [List.length_map]; omega), List.take_of_length_le (by have := h k hk; rw [List.length_map]; omega)]
set_option maxHeartbeats 1000000 in
theorem lists_any {w : World} {xss : List (List Int)} (hl : xss.length = 12) (hr4 : ∀ i, i < 12 → (xss.getD i []).length = 4) :
    Calls Try.prog 35 #[.agg (flatL xss).toArray] w (ToMat xss w) := by
  rw [← hl] at hr4
  obtain ⟨i1, hj, hy0, hy1, hy2⟩ := info_parts intsInfo
  have HJ := Lib.hid hj
  have HY0 := Lib.hid hy0
  have HY1 := Lib.hid hy1
  have HY2 := Lib.hid hy2
  clear hj hy0 hy1 hy2
  have HN := Lib.hid hl
  have HR4 := Lib.hid hr4
  have HLL := Lib.hid (flat_len12 hl hr4)
  have HIX := Lib.hid (fun k (hk : k < 12) W => (run_index_arr (P := Try.prog) 55 12 53 4 Try.underlying55 agg_words size_words (flatL xss).toArray k hk W).trans (by rw [flat_row xss hr4 k (by omega)]))
  clear hl hr4
  obtain ⟨L, hL⟩ : ∃ L, L = flatL xss := ⟨_, rfl⟩
  rw [← hL] at HIX HLL ⊢
  clear hL
  obtain ⟨R, HRR⟩ : ∃ R : Ending → World → Prop, Hid (R = ToMat xss w) := ⟨_, Lib.hid rfl⟩
  rw [← HRR.out]
  go_enter Try.func35, Try.ntmps35
  go_wp2_with (first
    | ((with_reducible refine box_is 55 (.tmp 0) ?_); refine box_arr 55 (.tmp 0) L.toArray rfl ?_)
    | ((with_reducible refine make_is 24 (.const (.int .i64 0)) (.const (.int .i64 12)) ?_); refine wpList_make_own _ rfl (.const (.int .i64 0)) (.const (.int .i64 12)) 24 rfl w.heap.size 77 i1 (.slice none 0 0) 1 Try.underlying24 HJ.out HY0.out HY1.out .i64 .i64 12 12 rfl rfl rfl (by rw [HY2.out]; omega) (by unfold maxLen; omega) (by simp) ?_; intro wm hown hgrow; have hrng : wm.rangeAt w.heap.size 0 L := range_blocks (range_row (heap_alloc_new w (.cells L.toArray 55))) (hgrow.block _ (by simp) (by simp)))
    | ((with_reducible refine load_is 55 (.tmp 1) ?_); refine load_arr 55 (.tmp 1) w.heap.size 0 L _ rfl hrng Try.underlying55 rfl (info_mem HLL.out) ?_))
  have HS : Hid (CRel w xss 0 (.slice (some ⟨w.heap.size + 1, 0, none⟩) 0 12) wm (fun _ => undef) (fun _ => 0)) := Lib.hid (CRel.begin (by simpa using hown) hgrow)
  clear hown hgrow hrng
  have HSL := slice_words
  go_loopw [3, 8] (fun u i wr => ∃ (k : Nat) (V : Nat → Value) (G : Nat → Nat), k ≤ 12 ∧ i = .int .i64 k ∧ CRel w xss k u wr V G) (fun _ i _ => 12 - (intOf i).toNat)
  case atStart => exact ⟨0, _, _, Nat.zero_le _, rfl, HS.out⟩
  case round =>
    obtain ⟨k, V, G, hk, rfl, hrel⟩ := hrel
    by_cases hlt : k < 12
    · have hlt' : (k : Int) < 12 := by omega
      obtain ⟨xs, hxs⟩ : ∃ xs, xs = xss.getD k [] := ⟨_, rfl⟩
      have h4 := HR4.out k (by have := HN.out; omega)
      have hix := HIX.out k hlt
      rw [← hxs] at h4 hix
      have HXS := Lib.hid hxs
      clear hxs
      obtain ⟨x0, x1, x2, x3, rfl⟩ : ∃ x0 x1 x2 x3, xs = [x0, x1, x2, x3] := by
        match xs, h4 with
        | [x0, x1, x2, x3], _ => exact ⟨x0, x1, x2, x3, rfl⟩
      clear h4
      replace hix : ∀ W : World, (Instr.index 55 (.agg L.toArray) (.int .i64 k)).run Try.prog W = .ok (.agg #[.int .i64 x0, .int .i64 x1, .int .i64 x2, .int .i64 x3]) W := hix
      obtain ⟨w4, hw4⟩ : ∃ w4, w4 = wr.alloc (.cells #[.int .i64 x0, .int .i64 x1, .int .i64 x2, .int .i64 x3] 53) := ⟨_, rfl⟩
      have HREL := Lib.hid (hrel.alloc (.cells #[.int .i64 x0, .int .i64 x1, .int .i64 x2, .int .i64 x3] 53))
      have HC : Hid (Calls Try.prog 48 #[.slice (some ⟨wr.heap.size, 0, none⟩) 4 4] w4 fun e w1 => ∃ v1, e = .returned v1 ∧ w1.ownsRow w4.heap.size 3 1 v1 4 ([x0, x1, x2, x3].map (.int .i64)) ∧ (w4.alloc (.cells #[] 3)).grownBy w1 (some w4.heap.size)) := Lib.hid (clone4 rfl (fun j y hy => by
        rw [hw4, cell_of_row _ _ j _ _ _ (heap_alloc_new wr _), ← hy]
        simp))
      rw [← hw4] at HREL
      clear hrel
      go_wp2_with fail
      rw [← hw4]
      clear hw4
      refine HC.out.mono ?_
      rintro e w1 ⟨v1, rfl, hown1, hgrow1⟩
      obtain ⟨g1, c1, rfl⟩ := own_slice hown1 (by omega)
      have hsz1 := hgrow1.size
      simp at hsz1
      have hszr := HREL.out.bel.size
      have HO1 := Lib.hid hown1
      have HG1 := Lib.hid hgrow1
      clear hown1 hgrow1
      go_wp2_with (at_builtin; refine wpList_append_own _ rfl (.tmp 11) (.tmp 14) 24 rfl w.heap.size 77 i1 (.slice none 0 0) 1 24 Try.underlying24 HJ.out HY0.out HY1.out HY2.out rfl (by decide) _ _ _ rfl (HREL.out.own_mid HG1.out) ⟨w1.heap.size, 0, none⟩ 1 1 [.slice (some ⟨g1, 0, none⟩) 4 c1] rfl rfl (cell_one_new _ _ _) (by intro u hu; simp at hu; subst hu; rfl) (by unfold maxLen; omega) (by omega) (by simp; omega) ?_; intro v2 w2 hown2 hgrow2 _)
      have HREL2 : Hid (∃ V' G', CRel w xss (k + 1) v2 w2 V' G') := Lib.hid (HREL.out.step HXS.out.symm (by simp) HO1.out HG1.out hown2 hgrow2)
      clear hown2 hgrow2
      go_wp2
      go_roundw
      case rel =>
        obtain ⟨V', G', hR⟩ := HREL2.out
        exact ⟨k + 1, V', G', by omega, by go_num, hR⟩
      case measure => simp [intOf]; omega
    · have hge : decide ((k : Int) < 12) = false := by simp; omega
      go_wp2
      have e : k = 12 := by omega
      subst e
      rw [HRR.out]
      exact ⟨_, rfl, hrel.mat HN.out.symm (by omega) (fun j hj => by rw [HR4.out j (by have := HN.out; omega)]; omega), hrel.bel⟩
end Go.Proofs.Ythfdkenidfnmgaa
namespace Go.Proofs.Ythfdkenidfnmgaa
open Go.ChangeShapes Go.WideShapes Go.ChangeAt Go.RowKit Go.Maps
set_option linter.unusedVariables false
set_option maxRecDepth 100000
set_option linter.unusedSimpArgs false
theorem range_left {w : World} {b o : Nat} {l1 l2 : List Value} (h : w.rangeAt b o (l1 ++ l2)) : w.rangeAt b o l1 := fun j v hv => h j v (by
  rw [List.getElem?_append_left (List.getElem?_eq_some_iff.1 hv).1]; exact hv)
theorem range_right {w : World} {b o o2 : Nat} {l1 l2 : List Value} (h : w.rangeAt b o (l1 ++ l2)) (ho : o2 = o + l1.length) : w.rangeAt b o2 l2 := fun j v hv => by
  have := h (l1.length + j) v (by rw [List.getElem?_append_right (by omega)]; rw [show l1.length + j - l1.length = j by omega]; exact hv)
  rw [ho]
  rwa [← Nat.add_assoc] at this
end Go.Proofs.Ythfdkenidfnmgaa
namespace Go.Proofs.Ythfdkenidfnmgaa
open Go.ChangeShapes Go.WideShapes Go.ChangeAt Go.RowKit
set_option linter.unusedVariables false
set_option maxRecDepth 100000
section
theorem foldl_zip (off : Nat) : ∀ (c : List Value) (k : Nat) (p z : List Value), off + k = p.length → c.length ≤ z.length →
    (c.zipIdx k).foldl (fun (cs : Array Value) (x : Value × Nat) => cs.setIfInBounds (off + x.2) x.1) (p ++ z).toArray = (p ++ (c ++ z.drop c.length)).toArray
  | [], k, p, z, _, _ => by simp
  | v :: c, k, p, [], _, h => by simp at h
  | v :: c, k, p, y :: z, hk, h => by
    rw [List.zipIdx_cons, List.foldl_cons]
    have e : (p ++ y :: z).toArray.setIfInBounds (off + k) v = ((p ++ [v]) ++ z).toArray := by
      rw [List.setIfInBounds_toArray, hk]
      congr 1
      simp
    show (c.zipIdx (k + 1)).foldl _ ((p ++ y :: z).toArray.setIfInBounds (off + k) v) = _
    rw [e, foldl_zip off c (k + 1) (p ++ [v]) z (by simp; omega) (by simp at h; omega)]
    simp
theorem fill_step {place : Nat → Option (Nat × Nat)} {i : Nat} {v : Value} {rest : List (Nat × Value)} {p c z : List Value} {s : Nat} (hp : place i = some (p.length, s)) (hv : v.cells = c.toArray) (hs : c.length = s) (hz : c.length ≤ z.length) :
    Instr.fill place (p ++ z).toArray ((i, v) :: rest) = Instr.fill place ((p ++ c) ++ z.drop c.length).toArray rest := by
  have h1 : ¬ (v.cells.size ≠ s ∨ p.length + v.cells.size > (p ++ z).toArray.size) := by
    rw [hv]
    simp only [List.size_toArray, List.length_append]
    omega
  rw [Instr.fill, hp]
  simp only [Bool.or_eq_true, decide_eq_true_eq]
  rw [if_neg (by simpa using h1), hv]
  congr 1
  have := foldl_zip p.length c 0 p z (by omega) hz
  rw [List.append_assoc, ← this]
  simp [Array.zipIdx, List.mapIdx_eq_zipIdx_map]
end
theorem wpList_build_run {P : Program} {ops : Array Oper} {rest : List Oper} {op : Oper} {a : Act} {w : World} {Q : Exit → Act → World → Prop} (hgd : op.guard = none) (t : TypeId) (parts : Array (Nat × Operand)) (ho : op.op = .build t parts)
    (z : Array Value) (hz : ∀ w, (Instr.build t (parts.map fun (i, x) => (i, a.eval x))).run P w = .ok (.agg z) w)
    (h : wpList P ops Q rest (a.put op.dst (.agg z)) w) : wpList P ops Q (op :: rest) a w :=
  wpList_plain hgd fun _ hK => by
    unfold Oper.wp execOp
    simp only [ho, Sem.run_bind, Sem.run_pure, Result.andThen_ok, hz]
    exact hK _ _ h
theorem build_run {P : Program} {ops : Array Oper} {rest : List Oper} {a : Act} {w : World} {Q : Exit → Act → World → Prop} {dst : Option Nat} {tt : TypeId} {pos : String} {after : Array Edge} (t : TypeId) (parts : Array (Nat × Operand))
    (z : Array Value) (hz : ∀ w, (Instr.build t (parts.map fun (i, x) => (i, a.eval x))).run P w = .ok (.agg z) w)
    (h : wpList P ops Q rest (a.put dst (.agg z)) w) : wpList P ops Q ({ dst := dst, op := .build t parts, type := tt, pos := pos, after := after, guard := none } :: rest) a w :=
  wpList_build_run rfl t parts rfl z hz h
theorem build_run0 {P : Program} {ops : Array Oper} {rest : List Oper} {a : Act} {w : World} {Q : Exit → Act → World → Prop} {dst : Option Nat} {tt : TypeId} {pos : String} {after : Array Edge} (t : TypeId)
    (z : Array Value) (hz : ∀ w, (Instr.build t #[]).run P w = .ok (.agg z) w)
    (h : wpList P ops Q rest (a.put dst (.agg z)) w) : wpList P ops Q ({ dst := dst, op := .build t #[], type := tt, pos := pos, after := after, guard := none } :: rest) a w :=
  build_run t _ z (fun w => by
    have e : (#[] : Array (Nat × Operand)).map (fun (i, x) => (i, a.eval x)) = #[] := by simp
    rw [e]; exact hz w) h
def Z84 : List Value := List.replicate 48 (Value.int .i64 0) ++ isC z12
end Go.Proofs.Ythfdkenidfnmgaa
namespace Go.Proofs.Ythfdkenidfnmgaa
open Go.ChangeShapes Go.WideShapes Go.ChangeAt Go.RowKit
set_option linter.unusedVariables false
set_option maxRecDepth 100000
theorem flat_get (xss : List (List Int)) (h : ∀ i, i < xss.length → (xss.getD i []).length = 4) {i j : Nat} (hi : i < xss.length) (hj : j < 4) :
    (flatL xss)[i * 4 + j]? = some (.int .i64 ((xss.getD i []).getD j 0)) := by
  have h1 := flat_take_len xss h i (by omega)
  have h4 := h i hi
  have e : flatL xss = flatL (xss.take i) ++ ((xss.getD i []).map (Value.int .i64) ++ flatL (xss.drop (i + 1))) := by
    rw [← List.append_assoc, ← flat_snoc xss i _ hi rfl]
    unfold flatL
    rw [← List.map_append, ← List.flatten_append, List.take_append_drop]
  rw [e, List.getElem?_append_right (by omega), h1, List.getElem?_append_left (by rw [List.length_map]; omega)]
  have e2 : i * 4 + j - i * 4 = j := by omega
  rw [e2, List.getElem?_map, getD_lt (l := xss.getD i []) (i := j) (by omega), List.getElem?_eq_getElem (by omega)]
  rfl
end Go.Proofs.Ythfdkenidfnmgaa
namespace Go.Proofs.Ythfdkenidfnmgaa
open Go.ChangeShapes Go.WideShapes Go.ChangeAt Go.RowKit Go.Shelf
set_option linter.unusedVariables false
set_option maxRecDepth 100000
attribute [local go_sem] Oper.semAt_some
def finI (l : List (Fin 12)) : List Int := l.map (fun k => (k.val : Int))
end Go.Proofs.Ythfdkenidfnmgaa
namespace Go.Proofs.Ythfdkenidfnmgaa
open Go.ChangeShapes Go.WideShapes Go.ChangeAt Go.RowKit Go.Shelf
set_option linter.unusedVariables false
set_option maxRecDepth 100000
attribute [local go_sem] Oper.semAt_some
def Sorted (S : List (Fin 12) → Prop) (w : World) (e : Ending) (w' : World) : Prop := ∃ xs v, e = .returned v ∧ S xs ∧ xs.length ≤ 1000 ∧ IntsW w' w.heap.size w'.heap.size v ((finI xs).mergeSort fun x y => decide (x ≤ y)) ∧ Below w.heap.size w w'
end Go.Proofs.Ythfdkenidfnmgaa
namespace Go.Proofs.Ythfdkenidfnmgaa
open Go.ChangeShapes Go.WideShapes Go.ChangeAt Go.RowKit Go.Shelf
set_option linter.unusedVariables false
set_option maxRecDepth 100000
theorem heap2 (w : World) (o : Obj) {C : Array Value} {t : TypeId} : ((w.alloc o).alloc (.cells C t)).heap[w.heap.size + 1]? = some (.cells C t (0, 0)) := by
  have := heap_alloc_new (w.alloc o) (.cells C t)
  rwa [World.size_alloc] at this
end Go.Proofs.Ythfdkenidfnmgaa
namespace Go.Proofs.Ythfdkenidfnmgaa
open Go.ChangeShapes Go.WideShapes Go.ChangeAt Go.RowKit
set_option linter.unusedVariables false
set_option maxRecDepth 100000
set_option linter.unusedSimpArgs false
def kept (l : List CV) (p : CV → Bool) : List CV := l.filter (fun y => !p y)
end Go.Proofs.Ythfdkenidfnmgaa
namespace Go.Proofs.Ythfdkenidfnmgaa
open Go.ChangeShapes Go.WideShapes Go.ChangeAt Go.RowKit Go.Maps
set_option linter.unusedVariables false
set_option linter.unusedSimpArgs false
set_option maxRecDepth 100000
def mapC (M : Nat → Option Nat) (T : Nat → Int) : List Value := [.map (M 0), .int .i64 (T 0), .map (M 1), .int .i64 (T 1), .map (M 2), .int .i64 (T 2)]
def kC (xss : List (List Int)) (ys : List IV) (M : Nat → Option Nat) (T : Nat → Int) (R : List Value) : List Value := flatL xss ++ (isC ys ++ (mapC M T ++ R))
theorem mapC_get (M : Nat → Option Nat) (T : Nat → Int) {j : Nat} (hj : j < 3) : (mapC M T)[j * 2]? = some (.map (M j)) ∧ (mapC M T)[j * 2 + 1]? = some (.int .i64 (T j)) := by
  rcases (by omega : j = 0 ∨ j = 1 ∨ j = 2) with rfl | rfl | rfl <;> exact ⟨rfl, rfl⟩
theorem mapC_one (M : Nat → Option Nat) (T : Nat → Int) : ∀ v ∈ mapC M T, v.oneCell' = true := fun v hv => by
  simp only [mapC, List.mem_cons, List.not_mem_nil, or_false] at hv
  rcases hv with rfl | rfl | rfl | rfl | rfl | rfl <;> rfl
structure KL (W : World) (M : List (List Int)) (I : List IV) (E : List EV) (bs : Nat → Nat) (R L : List Value) : Prop where
  m : memOk M = true
  i : isok I = true
  n : E.length = 3
  L : L = kC M I (fun j => some (bs j)) (fun j => (E.getD j ez).t) R
  r : R.length = 18
  ro : R.toArray.all (·.oneCell') = true
  set : ∀ j, j < 3 → SetAt W (bs j) (E.getD j ez).r
theorem KL.below {W W' : World} {M : List (List Int)} {I : List IV} {E : List EV} {bs : Nat → Nat} {R L : List Value} (h : KL W M I E bs R L) (hb : Below W.heap.size W W') : KL W' M I E bs R L :=
  ⟨h.m, h.i, h.n, h.L, h.r, h.ro, fun j hj => (h.set j hj).below hb⟩
theorem KL.len {W : World} {M : List (List Int)} {I : List IV} {E : List EV} {bs : Nat → Nat} {R L : List Value} (h : KL W M I E bs R L) : L.length = 108 := by
  rw [h.L]; unfold kC
  rw [List.length_append, List.length_append, List.length_append, flat_len h.m, isC_36 (isok_len h.i), h.r]; rfl
structure KC (W : World) (X : Nat) (M : List (List Int)) (I : List IV) (E : List EV) (bs : Nat → Nat) (R L : List Value) : Prop where
  l : KL W M I E bs R L
  at0 : W.rangeAt X 0 L
theorem KC.lt {W : World} {X : Nat} {M : List (List Int)} {I : List IV} {E : List EV} {bs : Nat → Nat} {R L : List Value} (h : KC W X M I E bs R L) : X < W.heap.size := by
  have h0 : 0 < L.length := by rw [h.l.len]; omega
  exact block_lt_of_cell (h.at0 0 L[0] (List.getElem?_eq_getElem h0))
theorem KC.below {W W' : World} {X : Nat} {M : List (List Int)} {I : List IV} {E : List EV} {bs : Nat → Nat} {R L : List Value} (h : KC W X M I E bs R L) (hb : Below W.heap.size W W') : KC W' X M I E bs R L :=
  ⟨h.l.below hb, range_blocks h.at0 (hb.block _ h.lt)⟩
theorem KC.drew {W : World} {X : Nat} {M : List (List Int)} {I : List IV} {E : List EV} {bs : Nat → Nat} {R L : List Value} (h : KC W X M I E bs R L) : KC W.drew X M I E bs R L := h.below (Below.refl _ _).drew
theorem KL.box {W : World} {M : List (List Int)} {I : List IV} {E : List EV} {bs : Nat → Nat} {R L : List Value} (h : KL W M I E bs R L) (t : TypeId) : KC (W.alloc (.cells L.toArray t)) W.heap.size M I E bs R L :=
  ⟨h.below ((Below.refl _ _).alloc (Nat.le_refl _) _), range_row (heap_alloc_new W _)⟩
theorem KC.mem {W : World} {X : Nat} {M : List (List Int)} {I : List IV} {E : List EV} {bs : Nat → Nat} {R L : List Value} (h : KC W X M I E bs R L) : W.rangeAt X 0 (flatL M) := by
  have := h.at0
  rw [h.l.L] at this
  exact range_left this
theorem KC.inf {W : World} {X : Nat} {M : List (List Int)} {I : List IV} {E : List EV} {bs : Nat → Nat} {R L : List Value} (h : KC W X M I E bs R L) : W.rangeAt X 48 (isC I) := by
  have := h.at0
  rw [h.l.L] at this
  exact range_left (range_right (o2 := 48) this (by rw [flat_len h.l.m]))
theorem KC.env {W : World} {X : Nat} {M : List (List Int)} {I : List IV} {E : List EV} {bs : Nat → Nat} {R L : List Value} (h : KC W X M I E bs R L) : W.rangeAt X 84 (mapC (fun j => some (bs j)) (fun j => (E.getD j ez).t)) := by
  have := h.at0
  rw [h.l.L] at this
  exact range_left (range_right (o2 := 84) (range_right (o2 := 48) this (by rw [flat_len h.l.m])) (by rw [isC_36 (isok_len h.l.i)]))
theorem KC.ring {W : World} {X : Nat} {M : List (List Int)} {I : List IV} {E : List EV} {bs : Nat → Nat} {R L : List Value} (h : KC W X M I E bs R L) : W.rangeAt X 90 R := by
  have := h.at0
  rw [h.l.L] at this
  exact range_right (o2 := 90) (range_right (o2 := 84) (range_right (o2 := 48) this (by rw [flat_len h.l.m])) (by rw [isC_36 (isok_len h.l.i)])) rfl
theorem KC.root {W : World} {X : Nat} {M : List (List Int)} {I : List IV} {E : List EV} {bs : Nat → Nat} {R L : List Value} (h : KC W X M I E bs R L) {j : Nat} (hj : j < 3) : W.cell? ⟨X, 84 + j * 2 + 1, none⟩ = some (.int .i64 (E.getD j ez).t) := by
  have := h.env _ _ (mapC_get (fun j => some (bs j)) (fun j => (E.getD j ez).t) hj).2
  rwa [← Nat.add_assoc] at this
theorem KC.map {W : World} {X : Nat} {M : List (List Int)} {I : List IV} {E : List EV} {bs : Nat → Nat} {R L : List Value} (h : KC W X M I E bs R L) {j : Nat} (hj : j < 3) : W.cell? ⟨X, 84 + j * 2, none⟩ = some (.map (some (bs j))) :=
  h.env _ _ (mapC_get (fun j => some (bs j)) (fun j => (E.getD j ez).t) hj).1
theorem KC.word {W : World} {X : Nat} {M : List (List Int)} {I : List IV} {E : List EV} {bs : Nat → Nat} {R L : List Value} (h : KC W X M I E bs R L) {f i : Nat} (hf : f < 12) (hi : i < 4) : W.cell? ⟨X, f * 4 + i, none⟩ = some (.int .i64 (wd M f i)) := by
  have := h.mem (f * 4 + i) _ (flat_get M (fun i hi => mem_row h.l.m (by have := mem_len h.l.m; omega)) (by have := mem_len h.l.m; omega) hi)
  rwa [Nat.zero_add] at this
theorem size_env (w : World) : (sizeOf 47).run Try.prog w = .ok 2 w := Try.sizeOf47 w
theorem info_envs {n : Nat} (h : n = 6) : (Try.prog.info? 49).map (·.size) = some n := by subst h; kernel_rfl
end Go.Proofs.Ythfdkenidfnmgaa
namespace Go.Proofs.Ythfdkenidfnmgaa
open Go.ChangeShapes Go.WideShapes Go.ChangeAt Go.RowKit Go.Maps
set_option linter.unusedVariables false
set_option linter.unusedSimpArgs false
set_option maxRecDepth 100000
theorem agg_env (w : World) : (isAgg 47).run Try.prog w = .ok true w := Try.isAgg47 w
end Go.Proofs.Ythfdkenidfnmgaa
namespace Go.Proofs.Ythfdkenidfnmgaa
open Go.ChangeShapes Go.WideShapes Go.ChangeAt Go.RowKit Go.Maps Go.Shelf
set_option linter.unusedVariables false
set_option linter.unusedSimpArgs false
set_option maxRecDepth 100000
theorem KC.row {W : World} {X : Nat} {M : List (List Int)} {I : List IV} {E : List EV} {bs : Nat → Nat} {R L : List Value} (h : KC W X M I E bs R L) {f : Nat} (hf : f < 12) : W.rangeAt X (f * 4) ((M.getD f []).map (Value.int .i64)) := fun j v hv => by
  have hl := mem_row h.l.m hf
  have hj : j < 4 := by
    have := (List.getElem?_eq_some_iff.1 hv).1
    rw [List.length_map] at this
    omega
  rw [h.word hf hj, ← hv, List.getElem?_map, List.getElem?_eq_getElem (by omega)]
  unfold wd
  rw [getD_lt (l := M.getD f []) (by omega)]
  rfl
end Go.Proofs.Ythfdkenidfnmgaa
namespace Go.Proofs.Ythfdkenidfnmgaa
open Go.ChangeShapes Go.WideShapes Go.ChangeAt Go.RowKit Go.Maps
set_option linter.unusedVariables false
set_option linter.unusedSimpArgs false
set_option maxRecDepth 100000
theorem SetAt.ne_there {w : World} {b c n : Nat} {xs : List Bs} (h : SetAt w b xs) (ht : w.there c 0 n) (hn : 0 < n) : b ≠ c := by
  rintro rfl
  obtain ⟨m, D, hm, ho, hs⟩ := h
  obtain ⟨es, clock, hb, F, hz, hD⟩ := ho
  have h1 := (ht 0 hn).1
  unfold World.cell? at h1
  simp [hb] at h1
theorem SetAt.stored {w : World} {b c : Nat} {xs : List Bs} (h : SetAt w b xs) (hne : b ≠ c) (C : List Value) : SetAt (w.setCells c 0 C) b xs := by
  have hb := Below.setCells (Below.refl c w) c (Nat.le_refl _) C 0 w (Below.refl _ _)
  exact h.kept (row := some c) ⟨hb.os, hb.tape, hb.output, hb.size, fun i hi hne => (heap_setCells_other w c C 0 w i (fun e => hne (by rw [e])))⟩ (by intro e; injection e with e; exact hne e)
end Go.Proofs.Ythfdkenidfnmgaa
namespace Go.Proofs.Ythfdkenidfnmgaa
open Go.ChangeShapes Go.WideShapes Go.ChangeAt Go.RowKit Go.Maps Go.Shelf
set_option linter.unusedVariables false
set_option linter.unusedSimpArgs false
set_option maxRecDepth 100000
theorem any_gen {P : Program} {md : Region.Mode} {ops : Array Oper} {Q : Exit → Act → World → Prop} {S : World → Prop} {n : Nat} {l : Array Bool} {a : Act} {w : World}
    (h : ∀ G : Nat → Array Bool → Act → World → Prop, Hid (∀ n l a w, G n l a w = wpAnyH P md ops Q S n l a w) → G n l a w) : wpAnyH P md ops Q S n l a w := h _ (Lib.hid (fun _ _ _ _ => rfl))
theorem there_setCell {w : World} {b n : Nat} (h : w.there b 0 n) (c o : Nat) (v : Value) : (w.setCell ⟨c, o, none⟩ v).there b 0 n := fun j hj => by
  have h2 := World.there_setCells h c o [v]
  exact h2 j hj
section
variable {B W W' : World} {c : Nat → Int} {C : List CV} {L : Option (Nat × Nat)} {U V : Option Nat} {su sv : Bool}
end
end Go.Proofs.Ythfdkenidfnmgaa
namespace Go.Proofs.Ythfdkenidfnmgaa
open Go.ChangeShapes Go.WideShapes Go.ChangeAt Go.RowKit Go.Maps Go.Shelf
set_option linter.unusedVariables false
set_option linter.unusedSimpArgs false
set_option maxRecDepth 100000
def updF {α : Type} (F : Nat → α) (k : Nat) (x : α) (j : Nat) : α := if j = k then x else F j
structure EI (w wr : World) (E : List EV) (k : Nat) (F : Nat → Option Nat) (G : Nat → Int) : Prop where
  bel : Below w.heap.size w wr
  sz : w.heap.size + 1 < wr.heap.size
  res : wr.there w.heap.size 0 6
  env : ∀ j, j < 3 → wr.cell? ⟨w.heap.size + 1, j * 2, none⟩ = some (.map (F j)) ∧ wr.cell? ⟨w.heap.size + 1, j * 2 + 1, none⟩ = some (.int .i64 (G j))
  th : wr.there (w.heap.size + 1) 0 6
  set : ∀ j, j < k → rvs (E.getD j ez).r = true ∧ G j = (E.getD j ez).t ∧ ∃ b, F j = some b ∧ SetAt wr b (E.getD j ez).r
theorem EI.go {w wr w' : World} {E : List EV} {k : Nat} {F : Nat → Option Nat} {G : Nat → Int} (h : EI w wr E k F G) (hb : Below wr.heap.size wr w') : EI w w' E k F G := by
  have hs := h.sz
  refine ⟨h.bel.trans (hb.mono h.bel.size), Nat.lt_of_lt_of_le hs hb.size, there_blocks h.res (hb.block _ (by omega)), fun j hj => ⟨(hb.cell (p := ⟨w.heap.size + 1, j * 2, none⟩) hs).trans (h.env j hj).1, (hb.cell (p := ⟨w.heap.size + 1, j * 2 + 1, none⟩) hs).trans (h.env j hj).2⟩, there_blocks h.th (hb.block _ hs), fun j hj => ?_⟩
  obtain ⟨h1, h2, b, h3, h4⟩ := h.set j hj
  exact ⟨h1, h2, b, h3, h4.below hb⟩
theorem SetAt.setCell {w : World} {b c o : Nat} {xs : List Bs} (h : SetAt w b xs) (hne : b ≠ c) (v : Value) : SetAt (w.setCell ⟨c, o, none⟩ v) b xs := by
  have hb := (Below.refl c w).setCell (p := ⟨c, o, none⟩) (Nat.le_refl _) v
  exact h.kept (row := some c) ⟨hb.os, hb.tape, hb.output, hb.size, fun i hi hn => Below.heap_setCell _ _ _ i (by show i ≠ c; exact fun e => hn (by rw [e]))⟩ (by intro e; injection e with e; exact hne e)
theorem EI.put {w wr : World} {E : List EV} {k : Nat} {F : Nat → Option Nat} {G : Nat → Int} (h : EI w wr E k F G) (hk : k < 3) (b : Nat) (hr : rvs (E.getD k ez).r = true) (hs : SetAt wr b (E.getD k ez).r) :
    EI w ((wr.setCell ⟨w.heap.size + 1, k * 2, none⟩ (.map (some b))).setCell ⟨w.heap.size + 1, k * 2 + 1, none⟩ (.int .i64 (E.getD k ez).t)) E (k + 1) (updF F k (some b)) (updF G k (E.getD k ez).t) := by
  have hsz := h.sz
  have hbel := (h.bel.setCell (p := ⟨w.heap.size + 1, k * 2, none⟩) (by show w.heap.size ≤ w.heap.size + 1; omega) (.map (some b))).setCell (p := ⟨w.heap.size + 1, k * 2 + 1, none⟩) (by show w.heap.size ≤ w.heap.size + 1; omega) (.int .i64 (E.getD k ez).t)
  refine ⟨hbel, by simpa [World.setCell] using hsz, there_setCell (there_setCell h.res _ _ _) _ _ _, fun j hj => ?_, there_setCell (there_setCell h.th _ _ _) _ _ _, fun j hj => ?_⟩
  · unfold updF
    by_cases e : j = k
    · subst e
      rw [if_pos rfl, if_pos rfl]
      refine ⟨(cell_set_other (.inr (by omega))).trans (cell_set_same (h.env j hj).1), cell_set_same ((cell_set_other (.inr (by omega))).trans (h.env j hj).2)⟩
    · rw [if_neg e, if_neg e]
      exact ⟨(cell_set_other (.inr (by omega))).trans ((cell_set_other (.inr (by omega))).trans (h.env j hj).1), (cell_set_other (.inr (by omega))).trans ((cell_set_other (.inr (by omega))).trans (h.env j hj).2)⟩
  · have hset : ∀ {c : Nat} {xs : List Bs}, SetAt wr c xs → SetAt ((wr.setCell ⟨w.heap.size + 1, k * 2, none⟩ (.map (some b))).setCell ⟨w.heap.size + 1, k * 2 + 1, none⟩ (.int .i64 (E.getD k ez).t)) c xs := fun hc => by
      have hne := hc.ne_there h.th (by omega)
      exact (hc.setCell hne _).setCell hne _
    unfold updF
    by_cases e : j = k
    · subst e
      rw [if_pos rfl, if_pos rfl]
      exact ⟨hr, rfl, b, rfl, hset hs⟩
    · rw [if_neg e, if_neg e]
      obtain ⟨h1, h2, c, h3, h4⟩ := h.set j (by omega)
      exact ⟨h1, h2, c, h3, hset h4⟩
theorem EI.range {w wr : World} {E : List EV} {k : Nat} {F : Nat → Option Nat} {G : Nat → Int} (h : EI w wr E k F G) : wr.rangeAt (w.heap.size + 1) 0 (mapC F G) := fun j v hv => by
  have hj : j < 6 := (List.getElem?_eq_some_iff.1 hv).1
  rw [Nat.zero_add]
  have e := fun i hi => h.env i hi
  obtain ⟨a0, a1⟩ := e 0 (by omega)
  obtain ⟨b0, b1⟩ := e 1 (by omega)
  obtain ⟨c0, c1⟩ := e 2 (by omega)
  rcases (by omega : j = 0 ∨ j = 1 ∨ j = 2 ∨ j = 3 ∨ j = 4 ∨ j = 5) with rfl | rfl | rfl | rfl | rfl | rfl <;> (cases hv; first | exact a0 | exact a1 | exact b0 | exact b1 | exact c0 | exact c1)
def envB (E : List EV) : Bool := E.all (fun x => rvs x.r) && decide (E.length = 3)
def EnvR (E : List EV) (w : World) (e : Ending) (w' : World) : Prop :=
  ∃ Y : List Value, e = .returned (.tuple #[.agg Y.toArray, .bool (envB E)]) ∧ Y.length = 6 ∧ Y.toArray.all (·.oneCell') = true ∧ Below w.heap.size w w' ∧
    (envB E = true → ∃ bs : Nat → Nat, Y = mapC (fun j => some (bs j)) (fun j => (E.getD j ez).t) ∧ ∀ j, j < 3 → SetAt w' (bs j) (E.getD j ez).r)
set_option maxHeartbeats 4000000 in
theorem environmentsOf_any (w : World) (v : Value) (E : List EV) (h : Es w v E) (hse : Short3 E) :
    Calls Try.prog 17 #[v] w (EnvR E w) := by
  obtain ⟨a, ca, rfl, h1, h2, h3⟩ := h
  unfold maxLen at h2
  obtain ⟨n, hn⟩ : ∃ n, n = E.length := ⟨_, rfl⟩
  rw [← hn] at h1 h3 ⊢
  have HN := Lib.hid hn
  have HX := Lib.hid h3
  have HSE := Lib.hid hse
  obtain ⟨R, HRR⟩ : ∃ R : Ending → World → Prop, Hid (R = EnvR E w) := ⟨_, Lib.hid rfl⟩
  rw [← HRR.out]
  obtain ⟨Z, hZ⟩ : ∃ Z, Z = mapC (fun _ => none) (fun _ => 0) := ⟨_, rfl⟩
  have HZ : Hid (∀ w, (zeroValue 49).run Try.prog w = .ok (.agg Z.toArray) w) := Lib.hid (fun w => by rw [hZ]; exact Try.zeroValue49 w)
  have HBZ : Hid (∀ w, (Instr.build 49 #[]).run Try.prog w = .ok (.agg Z.toArray) w) := Lib.hid (fun w => by rw [hZ]; exact run_build w _ _ _ (by kernel_rfl))
  have HZL : Hid (Z.length = 6) := Lib.hid (by rw [hZ]; rfl)
  have HZS : Hid (Z.toArray.size = 6) := Lib.hid (by rw [hZ]; rfl)
  have HZO : Hid (Z.toArray.all (·.oneCell') = true) := Lib.hid (by rw [hZ]; exact all_oneCell_toArray (mapC_one _ _))
  obtain ⟨X, hX⟩ : ∃ X, X = w.heap.size := ⟨_, rfl⟩
  obtain ⟨W0, hW0⟩ : ∃ W0, W0 = (w.alloc (.cells Z.toArray 49)).alloc (.cells Z.toArray 49) := ⟨_, rfl⟩
  have HE0 : Hid (EI w W0 E 0 (fun _ => none) (fun _ => 0)) := Lib.hid (by
    have hb1 : W0.heap[w.heap.size + 1]? = some (.cells Z.toArray 49 (0, 0)) := by rw [hW0]; exact heap2 w _
    have hb0 : W0.heap[w.heap.size]? = some (.cells Z.toArray 49 (0, 0)) := by rw [hW0]; exact (Below.heap_alloc _ _ _ (by simp)).trans (heap_alloc_new w _)
    have hr := range_row hb1
    rw [hZ] at hr
    refine ⟨by rw [hW0]; exact ((Below.refl _ _).alloc (Nat.le_refl _) _).alloc (by simp) _, by rw [hW0]; simp, there_row hb0 (by rw [HZS.out]; exact Nat.le_refl _), fun j hj => ?_, there_row hb1 (by rw [HZS.out]; exact Nat.le_refl _), fun j hj => by omega⟩
    have h5 := mapC_get (fun _ => none) (fun _ => 0) hj
    have e1 := hr _ _ h5.1
    have e2 := hr _ _ h5.2
    rw [Nat.zero_add] at e1 e2
    exact ⟨e1, e2⟩)
  have HBAD : Hid (∀ wr, Below w.heap.size w wr → envB E = false → wr.there w.heap.size 0 6 → Below w.heap.size w (wr.setCells X 0 Z) ∧ (wr.setCells X 0 Z).rangeAt X 0 Z ∧ R (.returned (.tuple #[.agg Z.toArray, .bool false])) (wr.setCells X 0 Z)) := Lib.hid (fun wr hb he ht => by
    have hbb : Below w.heap.size w (wr.setCells X 0 Z) := Below.setCells (Below.refl _ _) _ (by omega) _ _ _ hb
    refine ⟨hbb, World.rangeAt_setCells_same _ _ _ _ (by rw [HZL.out, hX]; exact ht), ?_⟩
    rw [HRR.out]
    exact ⟨Z, by rw [he], HZL.out, HZO.out, hbb, fun hh => by rw [he] at hh; cases hh⟩)
  have HXE := Lib.hid hX
  have HW0 := Lib.hid hW0
  clear h3 hn hse hZ hX hW0
  by_cases h3' : n = 3
  · subst h3'
    have HRS : Hid (∀ (W : World) (u : Value) (j : Nat), Strs W u (E.getD j ez).r → Calls Try.prog 34 #[u] W (SetOf (E.getD j ez).r W)) := Lib.hid (fun W u j hu => setOf_any W u _ hu (HSE.out.at j))
    unfold SetOf at HRS
    go_enter Try.func17, Try.ntmps17
    go_wp2_with (first | ((with_reducible refine alloc_is 49 ?_); refine alloc_arr 49 Z.toArray HZ.out ?_) | fail)
    rw [← HXE.out, ← HW0.out]
    go_loopw [15] (fun i wr => ∃ (k : Nat) (F : Nat → Option Nat) (G : Nat → Int), k ≤ 3 ∧ i = .int .i64 k ∧ Hid (EI w wr E k F G)) (fun i _ => 3 - (intOf i).toNat)
    case atStart => exact ⟨0, _, _, Nat.zero_le _, rfl, HE0⟩
    case round =>
      obtain ⟨k, F, G, hk, rfl, HE⟩ := hrel
      by_cases hlt : k < 3
      · have hlt' : (k : Int) < 3 := by omega
        have hk0 : (0 : Int) ≤ (k : Int) := by omega
        obtain ⟨b, o, u, rfl, hc0, hd0, hu⟩ := HX.out k hlt
        have hc := (HE.out.bel.cell (p := ⟨b, o + k * 2, none⟩) (cell_lt hc0)).trans hc0
        have hd := (HE.out.bel.cell (p := ⟨b, o + k * 2 + 1, none⟩) (cell_lt hd0)).trans hd0
        have HU := Lib.hid (hu.below HE.out.bel)
        obtain ⟨ua, uc, hue, -, -, -⟩ := hu
        obtain ⟨ul, hul⟩ : ∃ ul, ul = (E.getD k ez).r.length := ⟨_, rfl⟩
        rw [← hul] at hue
        subst hue
        have HPUT : Hid (∀ W b, EI w W E k F G → rvs (E.getD k ez).r = true → SetAt W b (E.getD k ez).r → EI w ((W.setCell ⟨X + 1, k * 2, none⟩ (.map (some b))).setCell ⟨X + 1, k * 2 + 1, none⟩ (.int .i64 (E.getD k ez).t)) E (k + 1) (updF F k (some b)) (updF G k (E.getD k ez).t)) := Lib.hid (fun W b hh h1 h2 => by rw [HXE.out]; exact hh.put hlt b h1 h2)
        have HNV : Hid (rvs (E.getD k ez).r = false → envB E = false) := Lib.hid (fun hr => by
          unfold envB
          rw [Bool.and_eq_false_iff]
          left
          rw [Bool.eq_false_iff]
          intro hh
          have := List.all_eq_true.1 hh (E.getD k ez) (by rw [getD_lt (by have := HN.out; omega)]; exact List.getElem_mem _)
          rw [hr] at this
          cases this)
        obtain ⟨t, ht⟩ : ∃ t, t = (E.getD k ez).t := ⟨_, rfl⟩
        rw [← ht] at hd HPUT
        have HIX := run_indexAt_arr (P := Try.prog) 49 3 47 2 Try.underlying49 size_env (by omega) (X + 1) k hlt
        obtain ⟨W1, hW1⟩ : ∃ W1, W1 = wr.alloc (.cells #[.slice ua ul uc, .int .i64 t] 42) := ⟨_, rfl⟩
        have HB1 : Hid (Below wr.heap.size wr W1) := Lib.hid (by rw [hW1]; exact (Below.refl _ _).alloc (Nat.le_refl _) _)
        have HS1 := Lib.hid (HRS.out W1 (.slice ua ul uc) k (HU.out.below HB1.out))
        have HC1 : Hid (∀ W, Below W1.heap.size W1 W → W.cell? ⟨wr.heap.size, 1, none⟩ = some (.int .i64 t)) := Lib.hid (fun W hW => (hW.cell (p := ⟨wr.heap.size, 1, none⟩) (by rw [hW1]; simp)).trans (by rw [hW1]; exact new_cell rfl))
        have HC0 : Hid (W1.cell? ⟨wr.heap.size, 0, none⟩ = some (.slice ua ul uc)) := Lib.hid (by rw [hW1]; exact new_cell rfl)
        have HW1 := Lib.hid hW1
        obtain ⟨q, hq⟩ : ∃ q, q = rvs (E.getD k ez).r := ⟨_, rfl⟩
        rw [← hq] at HS1 HPUT HNV
        clear hW1 hc0 hd0 ht hul hq
        go_wp2_with fail
        rw [← HW1.out]
        refine HS1.out.mono ?_
        rintro _ W2 ⟨hb2, mp, rfl, hmp⟩
        have HE2 := Lib.hid ((HE.out.go HB1.out).go hb2)
        have hc1 := HC1.out W2 hb2
        clear hb2
        cases q with
        | false =>
          have HBD := Lib.hid (HBAD.out W2 HE2.out.bel (HNV.out (by trivial)) HE2.out.res)
          have HTH : Hid (W2.there X 0 Z.toArray.size) := Lib.hid (by rw [HXE.out, HZS.out]; exact HE2.out.res)
          clear hmp
          go_wp2_with (first | ((with_reducible refine build_is 49 ?_); refine build_run0 49 Z.toArray HBZ.out ?_) | ((with_reducible refine store_is 49 (.tmp 2) (.tmp 28) ?_); refine store_arr 49 (.tmp 2) (.tmp 28) X 0 Z.toArray rfl rfl HTH.out (info_envs HZS.out) HZO.out ?_) | fail)
          refine bodyPost_ret (results_cell_mid rfl _ _ X 0 Z _ rfl HBD.out.2.1 Try.underlying49 rfl (info_envs HZL.out)) rfl ?_
          exact HBD.out.2.2
        | true =>
          obtain ⟨bm, rfl, _, hset⟩ := hmp rfl
          have HE3 := Lib.hid (HPUT.out W2 bm HE2.out (by trivial) hset)
          obtain ⟨y0, y1⟩ := HE2.out.env k hlt
          have f0 := (HE2.out.th (k * 2) (by omega)).2
          have f1 := (HE2.out.th (k * 2 + 1) (by omega)).2
          rw [Nat.zero_add] at f0 f1
          rw [← HXE.out] at y0 y1 f0 f1
          clear hset hmp
          go_wp2_with fail
          go_roundw
          case rel => exact ⟨k + 1, _, _, by omega, by go_num, HE3⟩
          case measure => simp [intOf]; omega
      · have e : k = 3 := by omega
        rw [e] at HE
        have hge : ¬ (k : Int) < 3 := by omega
        have HYR := Lib.hid HE.out.range
        have HYL : Hid ((mapC F G).length = 6) := Lib.hid rfl
        have HYO : Hid ((mapC F G).toArray.all (·.oneCell') = true) := Lib.hid (all_oneCell_toArray (mapC_one _ _))
        have HFIN : Hid (R (.returned (.tuple #[.agg (mapC F G).toArray, .bool true])) (wr.setCells X 0 (mapC F G)) ∧ (wr.setCells X 0 (mapC F G)).rangeAt X 0 (mapC F G)) := Lib.hid (by
          have hth : wr.there X 0 (mapC F G).length := by rw [HYL.out, HXE.out]; exact HE.out.res
          have hbb : Below w.heap.size w (wr.setCells X 0 (mapC F G)) := Below.setCells (Below.refl _ _) _ (by rw [HXE.out]; exact Nat.le_refl _) _ _ _ HE.out.bel
          have hev : envB E = true := by
            unfold envB
            rw [Bool.and_eq_true, decide_eq_true_eq, List.all_eq_true]
            refine ⟨fun x hx => ?_, HN.out.symm⟩
            obtain ⟨i, hi, rfl⟩ := List.getElem_of_mem hx
            have := (HE.out.set i (by have := HN.out; omega)).1
            rwa [getD_lt hi] at this
          refine ⟨?_, World.rangeAt_setCells_same _ _ _ _ hth⟩
          rw [HRR.out]
          have hs : ∀ j, j < 3 → ∃ b, F j = some b ∧ SetAt wr b (E.getD j ez).r := fun j hj => (HE.out.set j hj).2.2
          obtain ⟨b0, p0, q0⟩ := hs 0 (by omega)
          obtain ⟨b1, p1, q1⟩ := hs 1 (by omega)
          obtain ⟨b2, p2, q2⟩ := hs 2 (by omega)
          have hg : ∀ j, j < 3 → G j = (E.getD j ez).t := fun j hj => (HE.out.set j hj).2.1
          refine ⟨_, by rw [hev], HYL.out, HYO.out, hbb, fun _ => ⟨fun j => if j = 0 then b0 else if j = 1 then b1 else b2, ?_, fun j hj => ?_⟩⟩
          · unfold mapC
            rw [p0, p1, p2, hg 0 (by omega), hg 1 (by omega), hg 2 (by omega)]; rfl
          · have hk : ∀ {b : Nat} {xs : List Bs}, SetAt wr b xs → SetAt (wr.setCells X 0 (mapC F G)) b xs := fun hb => hb.stored (by rw [HXE.out]; exact hb.ne_there HE.out.res (by omega)) _
            rcases (by omega : j = 0 ∨ j = 1 ∨ j = 2) with rfl | rfl | rfl
            · exact hk q0
            · exact hk q1
            · exact hk q2)
        have HTH : Hid (wr.there X 0 (mapC F G).toArray.size) := Lib.hid (by rw [HXE.out]; exact HE.out.res)
        have HYRX : Hid (wr.rangeAt (X + 1) 0 (mapC F G)) := Lib.hid (by rw [HXE.out]; exact HYR.out)
        obtain ⟨Y, hY⟩ : ∃ Y, Y = mapC F G := ⟨_, rfl⟩
        rw [← hY] at HYL HYO HFIN HTH HYRX
        have HYS : Hid (Y.toArray.size = 6) := Lib.hid (by rw [List.size_toArray, HYL.out])
        clear e hlt hY
        go_wp2_with (first | ((with_reducible refine load_is 49 (.tmp 4) ?_); refine load_arr 49 (.tmp 4) (X + 1) 0 Y _ rfl HYRX.out Try.underlying49 rfl (info_envs HYL.out) ?_) | ((with_reducible refine store_is 49 (.tmp 2) (.tmp 36) ?_); refine store_arr 49 (.tmp 2) (.tmp 36) X 0 Y.toArray rfl rfl HTH.out (info_envs HYS.out) HYO.out ?_) | fail)
        refine bodyPost_ret (results_cell_mid rfl _ _ X 0 Y _ rfl HFIN.out.2 Try.underlying49 rfl (info_envs HYL.out)) rfl ?_
        exact HFIN.out.1
  · have hne : ((n : Int) != 3) = true := by simp; omega
    have hne2 : ((n : Int) == 3) = false := by simp; omega
    have HEB : Hid (envB E = false) := Lib.hid (by
      unfold envB
      rw [decide_eq_false (by have := HN.out; omega), Bool.and_false])
    have HBD := Lib.hid (HBAD.out W0 HE0.out.bel HEB.out HE0.out.res)
    have HTH : Hid (W0.there X 0 Z.toArray.size) := Lib.hid (by rw [HXE.out, HZS.out]; exact HE0.out.res)
    clear h3'
    go_enter Try.func17, Try.ntmps17
    go_wp2_with (first | ((with_reducible refine alloc_is 49 ?_); refine alloc_arr 49 Z.toArray HZ.out ?_) | ((with_reducible refine build_is 49 ?_); refine build_run0 49 Z.toArray HBZ.out ?_) | ((with_reducible refine store_is 49 (.tmp 2) (.tmp 12) ?_); rw [← HXE.out, ← HW0.out]; refine store_arr 49 (.tmp 2) (.tmp 12) X 0 Z.toArray rfl rfl HTH.out (info_envs HZS.out) HZO.out ?_) | fail)
    refine bodyPost_ret (results_cell_mid rfl _ _ X 0 Z _ rfl HBD.out.2.1 Try.underlying49 rfl (info_envs HZL.out)) rfl ?_
    exact HBD.out.2.2
end Go.Proofs.Ythfdkenidfnmgaa
namespace Go.Proofs.Ythfdkenidfnmgaa
open Go.ChangeShapes Go.WideShapes Go.ChangeAt Go.RowKit
set_option linter.unusedVariables false
set_option linter.unusedSimpArgs false
set_option maxRecDepth 100000
structure OwnEW (B : Nat) (W : World) (v : Value) (E : List EV) (ps : List (Value × Int)) (lo hi : Nat → Nat) : Prop where
  e : OwnE B W v E ps
  rw : ∀ i, i < E.length → B ≤ lo i ∧ hi i ≤ W.heap.size ∧ StrsW W (lo i) (hi i) (ps.getD i pz).1 (E.getD i ez).r
  rd : ∀ j, j < E.length → ∀ i, i < j → hi i ≤ lo j
  vd : ∀ g, v.ownBlock = some g → ∀ i, i < E.length → g < lo i ∨ hi i ≤ g
theorem OwnEW.start {B : Nat} {W : World} {v : Value} (h : OwnE B W v [] []) : OwnEW B W v [] [] (fun _ => 0) (fun _ => 0) :=
  ⟨h, fun i hi => absurd hi (Nat.not_lt_zero _), fun j hj => absurd hj (Nat.not_lt_zero _), fun g hg i hi => absurd hi (Nat.not_lt_zero _)⟩
theorem OwnEW.go {B : Nat} {w w' : World} {v : Value} {E : List EV} {ps : List (Value × Int)} {lo hi : Nat → Nat} (h : OwnEW B w v E ps lo hi) (hb : Below w.heap.size w w') : OwnEW B w' v E ps lo hi :=
  ⟨h.e.go hb, fun i hi => ⟨(h.rw i hi).1, Nat.le_trans (h.rw i hi).2.1 hb.size, (h.rw i hi).2.2.below hb (h.rw i hi).2.1⟩, h.rd, h.vd⟩
theorem OwnEW.put {B : Nat} {W W' : World} {v v' u : Value} {E : List EV} {ps : List (Value × Int)} {lo hi : Nat → Nat} {y : EV} {l h' : Nat} (h : OwnEW B W v E ps lo hi) (hg : W.grownBy W' v.ownBlock)
    (he : OwnE B W' v' (E ++ [y]) (ps ++ [(u, y.t)])) (g5 : v'.ownBlock = v.ownBlock ∨ v'.ownBlock = some W.heap.size) (hu : StrsW W l h' u y.r) (hl : B ≤ l) (hh : h' ≤ W.heap.size)
    (hd : ∀ i, i < E.length → hi i ≤ l) (hv : ∀ g, v.ownBlock = some g → g < l ∨ h' ≤ g) : OwnEW B W' v' (E ++ [y]) (ps ++ [(u, y.t)]) (updF lo E.length l) (updF hi E.length h') := by
  have hlen := h.e.len
  have hgs := hg.size
  refine ⟨he, fun i hi' => ?_, fun j hj i hi' => ?_, fun g e i hi' => ?_⟩
  · rw [List.length_append, List.length_singleton] at hi'
    unfold updF
    by_cases hlt : i < E.length
    · rw [if_neg (by omega), if_neg (by omega), getD_snoc_lt (by omega), getD_snoc_lt hlt]
      obtain ⟨h1, h2, h3⟩ := h.rw i hlt
      exact ⟨h1, by omega, h3.of_blocks (fun b h0 h4 => hg.block b (by omega) (fun e => by have := h.vd b e.symm i hlt; omega))⟩
    · rw [if_pos (by omega), if_pos (by omega), getD_snoc_at (by omega), getD_snoc_at (by omega)]
      exact ⟨hl, by omega, hu.of_blocks (fun b h0 h4 => hg.block b (by omega) (fun e => by have := hv b e.symm; omega))⟩
  · rw [List.length_append, List.length_singleton] at hj
    unfold updF
    by_cases hlt : j < E.length
    · rw [if_neg (by omega), if_neg (by omega)]
      exact h.rd j hlt i hi'
    · rw [if_neg (by omega), if_pos (by omega)]
      exact hd i (by omega)
  · rw [List.length_append, List.length_singleton] at hi'
    unfold updF
    by_cases hlt : i < E.length
    · rw [if_neg (by omega), if_neg (by omega)]
      rcases g5 with g5 | g5
      · exact h.vd g (g5 ▸ e) i hlt
      · rw [g5] at e
        injection e with e
        have := (h.rw i hlt).2.1
        exact .inr (by omega)
    · rw [if_pos (by omega), if_pos (by omega)]
      rcases g5 with g5 | g5
      · exact hv g (g5 ▸ e)
      · rw [g5] at e
        injection e with e
        exact .inr (by omega)
def sAddr : Value → Option Addr
  | .slice a _ _ => a
  | _ => none
def sCap : Value → Nat
  | .slice _ _ c => c
  | _ => 0
theorem OwnEW.esW {B : Nat} {w : World} {v : Value} {E : List EV} {ps : List (Value × Int)} {lo hi : Nat → Nat} (h : OwnEW B w v E ps lo hi) : EsW w B w.heap.size v E := by
  rcases h.e.own.2 with ⟨e, hz⟩ | ⟨g, cap, cur, rfl, hb, hbl, hnc, hcm, hcs, htk⟩
  · have : E = [] := List.length_eq_zero_iff.1 hz
    subst this
    rw [e]
    exact esW_none
  · have hlt := (Array.getElem?_eq_some_iff.1 hbl).1
    have hform : ∀ j, j < E.length → (ps.getD j pz).1 = .slice (sAddr (ps.getD j pz).1) (E.getD j ez).r.length (sCap (ps.getD j pz).1) ∧ (E.getD j ez).r.length ≤ sCap (ps.getD j pz).1 ∧ sCap (ps.getD j pz).1 ≤ maxLen ∧
        ∀ i, i < (E.getD j ez).r.length → ∃ g p, sAddr (ps.getD j pz).1 = some ⟨g, p, none⟩ ∧ lo j ≤ g ∧ g < hi j ∧ w.cell? ⟨g, p + i, none⟩ = some (.string ⟨((E.getD j ez).r.getD i []).toArray⟩) ∧ w.frozen? ⟨g, p + i, none⟩ = false := fun j hj => by
      obtain ⟨a, c, e, h1, h2, h3⟩ := (h.rw j hj).2.2
      rw [e]
      exact ⟨rfl, h1, h2, h3⟩
    have hc : ∀ i j v, i < E.length → j < 2 → [(ps.getD i pz).1, Value.int .i64 (ps.getD i pz).2][j]? = some v → w.cell? ⟨g, 0 + (i * 2 + j), none⟩ = some v := fun i j v hi hj hv => by
      have := h.e.own.cells (g := g) rfl (i * 2 + j) v (by rw [ecC_get ps (by rw [h.e.len]; exact hi) hj]; exact hv)
      rw [add0] at this
      rwa [Nat.zero_add]
    refine ⟨some ⟨g, 0, none⟩, cap, fun j => sAddr (ps.getD j pz).1, fun j => sCap (ps.getD j pz).1, rfl, hnc, hcm, ⟨fun j hj => ?_, fun j hj i hi' => ?_, fun j hj j' hj' hne h0 h0' g1 p1 g2 p2 e1 e2 => ?_⟩, fun j hj => ?_⟩
    · obtain ⟨f1, f2, f3, _⟩ := hform j hj
      have := hc j 0 _ hj (by omega) rfl
      rw [f1] at this
      exact ⟨g, 0, rfl, hb, hlt, this, f2, f3, frozen_of_row w g _ cur _ hbl⟩
    · obtain ⟨_, _, _, f4⟩ := hform j hj
      obtain ⟨g1, p1, e1, k1, k2, k3, k4⟩ := f4 i hi'
      obtain ⟨r1, r2, _⟩ := h.rw j hj
      refine ⟨g1, p1, e1, by omega, by omega, k3, k4, fun b o eb => ?_⟩
      injection eb with eb
      injection eb with eb _
      have := h.vd g rfl j hj
      omega
    · obtain ⟨_, _, _, f4⟩ := hform j hj
      obtain ⟨_, _, _, f4'⟩ := hform j' hj'
      obtain ⟨a1, q1, m1, k1, k2, _⟩ := f4 0 h0
      obtain ⟨a2, q2, m2, k3, k4, _⟩ := f4' 0 h0'
      have e1' := e1.symm.trans m1
      have e2' := e2.symm.trans m2
      injection e1' with e1'
      injection e1' with e1' _
      injection e2' with e2'
      injection e2' with e2' _
      subst e1' e2'
      rcases Nat.lt_or_gt_of_ne hne with hlt' | hlt'
      · have := h.rd j' hj' j hlt'
        omega
      · have := h.rd j hj j' hlt'
        omega
    · have := hc j 1 _ hj (by omega) rfl
      rw [(h.e.row j hj).1] at this
      exact ⟨g, 0, rfl, hb, hlt, this, frozen_of_row w g _ cur _ hbl⟩
end Go.Proofs.Ythfdkenidfnmgaa
namespace Go.Proofs.Ythfdkenidfnmgaa
open Go.ChangeShapes Go.WideShapes Go.ChangeAt Go.RowKit Go.Maps Go.Shelf
set_option linter.unusedVariables false
set_option linter.unusedSimpArgs false
set_option maxRecDepth 100000
def Z108 : List Value := Z84 ++ (mapC (fun _ => none) (fun _ => 0) ++ ringC A0 0 0)
end Go.Proofs.Ythfdkenidfnmgaa
namespace Go.Proofs.Ythfdkenidfnmgaa
open Go.ChangeShapes Go.WideShapes Go.ChangeAt Go.RowKit
set_option linter.unusedVariables false
set_option linter.unusedSimpArgs false
set_option maxRecDepth 100000
theorem KP.root {w W : World} {vm vi ve vc : Value} {K : KV} (h : KP w W vm vi ve vc) (hk : Ks w vm vi ve vc K) {j : Nat} (hj : j < K.e.length) :
    ∃ be oe ce, ve = .slice (some ⟨be, oe, none⟩) K.e.length ce ∧ ce ≤ maxLen ∧ K.e.length ≤ ce ∧ be < w.heap.size ∧ W.cell? ⟨be, oe + j * 2 + 1, none⟩ = some (.int .i64 (K.e.getD j ez).t) := by
  obtain ⟨a, c, rfl, h1, h2, h3⟩ := hk.e
  obtain ⟨b, o, u, rfl, hc, hd, hu⟩ := h3 j hj
  exact ⟨b, o, c, rfl, h2, h1, cell_lt hd, (h.bel.cell (p := ⟨b, o + j * 2 + 1, none⟩) (cell_lt hd)).trans hd⟩
end Go.Proofs.Ythfdkenidfnmgaa
namespace Go.Proofs.Ythfdkenidfnmgaa
open Go.ChangeShapes Go.WideShapes Go.ChangeAt Go.RowKit Go.Maps Go.Shelf
set_option linter.unusedVariables false
set_option linter.unusedSimpArgs false
set_option maxRecDepth 100000
abbrev ISL : Prop := ∀ (w : World) (b : Nat) (xs : List Bs), SetAt w b xs → rvs xs = true → Calls Try.prog 50 #[.map (some b)] w (NewS xs w)
def NewE (E : List EV) (w : World) (e : Ending) (w' : World) : Prop := ∃ v, e = .returned v ∧ EsW w' w.heap.size w'.heap.size v E ∧ Below w.heap.size w w'
theorem StrsW.own {w : World} {B0 B1 : Nat} {v : Value} {xs : List Bs} (h : StrsW w B0 B1 v xs) : ∀ g, v.ownBlock = some g → xs.length ≠ 0 → B0 ≤ g ∧ g < B1 := by
  obtain ⟨a, c, rfl, h1, h2, h3⟩ := h
  intro g hg hz
  obtain ⟨g', p, rfl, k1, k2, _⟩ := h3 0 (by omega)
  injection hg with hg
  subst hg
  exact ⟨k1, k2⟩
set_option maxHeartbeats 4000000 in
theorem envList_any (hL : ISL) (w : World) (E : List EV) (bs : Nat → Nat) (hE : E.length = 3) (hr : ∀ j, j < 3 → rvs (E.getD j ez).r = true ∧ SetAt w (bs j) (E.getD j ez).r) :
    Calls Try.prog 37 #[.agg (mapC (fun j => some (bs j)) (fun j => (E.getD j ez).t)).toArray] w (NewE E w) := by
  obtain ⟨i0, hi, hz0, hz1, hz2⟩ := info_parts evInfo
  have HI := Lib.hid hi
  have HZ0 := Lib.hid hz0
  have HZ1 := Lib.hid hz1
  have HZ2 := Lib.hid hz2
  have HRR := Lib.hid hr
  have HN := Lib.hid hE
  clear hi hz0 hz1 hz2 hr hE
  have HIX := Lib.hid (fun k (hk : k < 3) W => run_index_arr (P := Try.prog) 49 3 47 2 Try.underlying49 agg_env size_env (mapC (fun j => some (bs j)) (fun j => (E.getD j ez).t)).toArray k hk W)
  obtain ⟨L, hLL⟩ : ∃ L, L = mapC (fun j => some (bs j)) (fun j => (E.getD j ez).t) := ⟨_, rfl⟩
  have HLL : Hid (L.length = 6) := Lib.hid (by rw [hLL]; rfl)
  rw [← hLL] at HIX ⊢
  have HLE := Lib.hid hLL
  clear hLL
  obtain ⟨R, HR0⟩ : ∃ R : Ending → World → Prop, Hid (R = NewE E w) := ⟨_, Lib.hid rfl⟩
  rw [← HR0.out]
  go_enter Try.func37, Try.ntmps37
  go_wp2_with (first
    | ((with_reducible refine box_is 49 (.tmp 0) ?_); refine box_arr 49 (.tmp 0) L.toArray rfl ?_)
    | ((with_reducible refine make_is 26 (.const (.int .i64 0)) (.const (.int .i64 3)) ?_); refine wpList_make_own _ rfl (.const (.int .i64 0)) (.const (.int .i64 3)) 26 rfl w.heap.size 42 i0 (.agg #[.slice none 0 0, .int .i64 0]) 2 Try.underlying26 HI.out HZ0.out HZ1.out .i64 .i64 3 3 rfl rfl rfl (by rw [HZ2.out]; omega) (by unfold maxLen; omega) (by simp) ?_; intro wm hown hgrow; have hrng : wm.rangeAt w.heap.size 0 L := range_blocks (range_row (heap_alloc_new w (.cells L.toArray 49))) (hgrow.block _ (by simp) (by simp)))
    | ((with_reducible refine load_is 49 (.tmp 1) ?_); refine load_arr 49 (.tmp 1) w.heap.size 0 L _ rfl hrng Try.underlying49 rfl (info_envs HLL.out) ?_))
  have HS : Hid (∃ ps lo hi, OwnEW w.heap.size wm (.slice (some ⟨w.heap.size + 1, 0, none⟩) 0 3) (E.take 0) ps lo hi ∧ Below w.heap.size w wm) := Lib.hid (by
    have hown' : wm.ownsRow w.heap.size 42 2 (.slice (some ⟨w.heap.size + 1, 0, none⟩) 0 3) 0 [] := by simpa using hown
    exact ⟨[], _, _, OwnEW.start ⟨hown', rfl, fun i hi => absurd hi (Nat.not_lt_zero _), fun i hi => absurd hi (Nat.not_lt_zero _)⟩, ((Below.refl _ _).alloc (Nat.le_refl _) _).grown hgrow (by simp) (fun k hk => by cases hk)⟩)
  clear hown hgrow hrng
  go_loopw [3, 8] (fun u i wr => ∃ (k : Nat) (ps : List (Value × Int)) (lo hi : Nat → Nat), k ≤ 3 ∧ i = .int .i64 k ∧ Hid (OwnEW w.heap.size wr u (E.take k) ps lo hi ∧ Below w.heap.size w wr)) (fun _ i _ => 3 - (intOf i).toNat)
  case atStart =>
    obtain ⟨ps, lo, hi, h⟩ := HS.out
    exact ⟨0, ps, lo, hi, Nat.zero_le _, rfl, Lib.hid h⟩
  case round =>
    obtain ⟨k, ps, lo, hi, hk, rfl, HO⟩ := hrel
    by_cases hlt : k < 3
    · have hlt' : (k : Int) < 3 := by omega
      obtain ⟨ua, un, uc, rfl⟩ : ∃ a n c, u3 = .slice a n c := by
        obtain ⟨a, c, e, _⟩ := HO.out.1.e.es
        exact ⟨_, _, _, e⟩
      obtain ⟨y, hy⟩ : ∃ y, y = E.getD k ez := ⟨_, rfl⟩
      have hix : ∀ W, (Instr.index 49 (.agg L.toArray) (.int .i64 k)).run Try.prog W = .ok (.agg #[.map (some (bs k)), .int .i64 y.t]) W := fun W => by
        rw [HIX.out k hlt W, HLE.out, hy]
        rcases (by omega : k = 0 ∨ k = 1 ∨ k = 2) with rfl | rfl | rfl <;> rfl
      have HY := Lib.hid hy
      have HTK : Hid ((E.take k).length = k) := Lib.hid (by rw [List.length_take]; have := HN.out; omega)
      obtain ⟨w4, hw4⟩ : ∃ w4, w4 = wr.alloc (.cells #[.map (some (bs k)), .int .i64 y.t] 47) := ⟨_, rfl⟩
      have HB4 : Hid (Below wr.heap.size wr w4) := Lib.hid (by rw [hw4]; exact (Below.refl _ _).alloc (Nat.le_refl _) _)
      have HW4S : Hid (wr.heap.size < w4.heap.size) := Lib.hid (by rw [hw4]; simp)
      have HKC : Hid (∀ Q, Below w4.heap.size w4 Q → Q.cell? ⟨wr.heap.size, 0, none⟩ = some (.map (some (bs k))) ∧ Q.cell? ⟨wr.heap.size, 1, none⟩ = some (.int .i64 y.t)) := Lib.hid (fun Q hQ =>
        ⟨(hQ.cell (p := ⟨wr.heap.size, 0, none⟩) HW4S.out).trans (by rw [hw4]; exact new_cell rfl), (hQ.cell (p := ⟨wr.heap.size, 1, none⟩) HW4S.out).trans (by rw [hw4]; exact new_cell rfl)⟩)
      have HCL : Hid (∀ Q, Below w4.heap.size w4 Q → Calls Try.prog 50 #[.map (some (bs k))] Q (NewS y.r Q)) := Lib.hid (fun Q hQ => by
        rw [HY.out]
        exact hL Q (bs k) _ ((HRR.out k hlt).2.below ((HO.out.2.trans (HB4.out.mono HO.out.2.size)).trans (hQ.mono (by have h1 := HO.out.2.size; have h2 := HB4.out.size; omega)))) (HRR.out k hlt).1)
      unfold NewS at HCL
      have HFR : Hid (∀ (Q : World) (l h' : Nat) (rv : Value), StrsW Q l h' rv y.r → w4.heap.size ≤ l → ∀ {W2 : World}, h' ≤ W2.heap.size → ∀ g, rv.ownBlock = some g → y.r.length ≠ 0 → g < W2.heap.size ∧ (Value.slice ua un uc).ownBlock ≠ some g) := Lib.hid (fun Q l h' rv hs hl W2 hw g hg hz => by
        obtain ⟨h1, h2⟩ := hs.own g hg hz
        have h3 := HB4.out.size
        exact ⟨by omega, fun e => by have := (HO.out.1.e.own.lt g e).2; omega⟩)
      have HW4 := Lib.hid hw4
      clear hw4 hy
      go_wp2_with fail
      rw [← HW4.out]
      try go_wp2_with fail
      refine wp_region_held_drew (S := fun w' => w'.cell? ⟨wr.heap.size, 0, none⟩ = some (.map (some (bs k))) ∧ w'.cell? ⟨wr.heap.size, 1, none⟩ = some (.int .i64 y.t)) (by kernel_rfl) (HKC.out _ (Below.refl _ _).drew) (fun hHeld => ?_)
      refine anyH_gen _ (fun wz hgen => ?_)
      have HBz : Hid (Below w4.heap.size w4 wz) := Lib.hid (by rw [hgen]; exact (Below.refl _ _).drew)
      rw [← hgen] at hHeld
      clear hgen
      refine wpAnyH_take (i := 0) (oi := { dst := some 11, op := .move (.tmp 3), type := _, pos := _, after := _, guard := none }) (v := .slice ua un uc) rfl (by kernel_rfl) (by kernel_rfl) (by kernel_rfl) (fun _ _ _ h => h) (Or.inl ⟨by rfl, fun wh hSw => ?_⟩) hHeld ?_
      · (obtain ⟨k0, k1⟩ := hSw; go_simp)
      try simp only [Act.put, List.setIfInBounds_toArray, List.set_cons_zero, List.set_cons_succ]
      refine wpAnyH_take (i := 1) (oi := { dst := some 12, op := .fieldAddr 47 (.tmp 5) 0, type := _, pos := _, after := _, guard := none }) (v := .pointer (some ⟨wr.heap.size, 0, none⟩)) rfl (by kernel_rfl) (by kernel_rfl) (by kernel_rfl) (fun _ _ _ h => h) (Or.inl ⟨by rfl, fun wh hSw => ?_⟩) hHeld ?_
      · (obtain ⟨k0, k1⟩ := hSw; go_simp)
      try simp only [Act.put, List.setIfInBounds_toArray, List.set_cons_zero, List.set_cons_succ]
      refine wpAnyH_take (i := 2) (oi := { dst := some 13, op := .load 45 (.tmp 12), type := _, pos := _, after := _, guard := none }) (v := .map (some (bs k))) rfl (by kernel_rfl) (by kernel_rfl) (by kernel_rfl) (fun _ _ _ h => h) (Or.inl ⟨by rfl, fun wh hSw => ?_⟩) hHeld ?_
      · (obtain ⟨k0, k1⟩ := hSw; go_simp)
      try simp only [Act.put, List.setIfInBounds_toArray, List.set_cons_zero, List.set_cons_succ]
      refine wpAnyH_take (i := 4) (oi := { dst := some 15, op := .fieldAddr 47 (.tmp 5) 1, type := _, pos := _, after := _, guard := none }) (v := .pointer (some ⟨wr.heap.size, 0 + 1, none⟩)) rfl (by kernel_rfl) (by kernel_rfl) (by kernel_rfl) (fun _ _ _ h => h) (Or.inl ⟨by rfl, fun wh hSw => ?_⟩) hHeld ?_
      · (obtain ⟨k0, k1⟩ := hSw; go_simp)
      try simp only [Act.put, List.setIfInBounds_toArray, List.set_cons_zero, List.set_cons_succ]
      refine wpAnyH_take (i := 5) (oi := { dst := some 16, op := .load 3 (.tmp 15), type := _, pos := _, after := _, guard := none }) (v := .int .i64 y.t) rfl (by kernel_rfl) (by kernel_rfl) (by kernel_rfl) (fun _ _ _ h => h) (Or.inl ⟨by rfl, fun wh hSw => ?_⟩) hHeld ?_
      · (obtain ⟨k0, k1⟩ := hSw; go_simp)
      try simp only [Act.put, List.setIfInBounds_toArray, List.set_cons_zero, List.set_cons_succ]
      refine wpAnyH_ready (rs := [3]) (by kernel_rfl) (by simp) ?_
      refine AllReadyH.cons (o := { dst := some 14, op := .call { callee := .value (.func 50), args := #[.tmp 13], argTypes := #[45] }, type := _, pos := _, after := _, guard := none }) rfl (fun K hK => ?_) AllReadyH.nil
      go_simp
      refine (HCL.out wz HBz.out).mono ?_
      rintro _ W1 ⟨rv, rfl, hs, hb⟩
      obtain ⟨sa, sn, sc, rfl⟩ : ∃ a n c, rv = .slice a n c := by
        obtain ⟨a, c, e, _⟩ := hs
        exact ⟨_, _, _, e⟩
      have HS1 := Lib.hid hs
      have HZ1b := Lib.hid hb
      have HB1 := Lib.hid (HBz.out.trans (hb.mono HBz.out.size))
      clear hs hb
      try go_simp
      refine hK.out _ _ ?_ (fun hHeld => ?_)
      · exact HKC.out _ HB1.out
      clear hK K
      try simp only [Act.put, List.setIfInBounds_toArray, List.set_cons_zero, List.set_cons_succ]
      refine wpAnyH_take (i := 6) (oi := { dst := some 17, op := .build 42 #[(0, .tmp 14), (1, .tmp 16)], type := _, pos := _, after := _, guard := none }) (v := .agg #[.slice sa sn sc, .int .i64 y.t]) rfl (by kernel_rfl) (by kernel_rfl) (by kernel_rfl) (fun _ _ _ h => h) (Or.inl ⟨by rfl, fun wh hSw => ?_⟩) hHeld ?_
      · (obtain ⟨k0, k1⟩ := hSw; go_simp)
      try simp only [Act.put, List.setIfInBounds_toArray, List.set_cons_zero, List.set_cons_succ]
      refine wpAnyH_ready (rs := [7]) (by kernel_rfl) (by simp) ?_
      refine AllReadyH.cons (o := { dst := some 18, op := .buildSlice 26 1 #[(0, .tmp 17)], type := _, pos := _, after := _, guard := none }) rfl (fun K hK => ?_) AllReadyH.nil
      go_simp
      obtain ⟨W2, hW⟩ : ∃ W2, W2 = W1.alloc (.cells #[.slice sa sn sc, .int .i64 y.t] 42) := ⟨_, rfl⟩
      have HC2 : Hid (W2.cell? ⟨W1.heap.size, 0, none⟩ = some (.slice sa sn sc) ∧ W2.cell? ⟨W1.heap.size, 1, none⟩ = some (.int .i64 y.t) ∧ Below W1.heap.size W1 W2) := Lib.hid (by rw [hW]; exact ⟨new_cell rfl, new_cell rfl, (Below.refl _ _).alloc (Nat.le_refl _) _⟩)
      have HB2 := Lib.hid (HB1.out.trans (HC2.out.2.2.mono HB1.out.size))
      have HW := Lib.hid hW
      clear hW
      go_simp
      rw [← HW.out]
      clear HW
      refine hK.out _ _ ?_ (fun hHeld => ?_)
      · exact HKC.out _ HB2.out
      clear hK K
      try simp only [Act.put, List.setIfInBounds_toArray, List.set_cons_zero, List.set_cons_succ]
      refine wpAnyH_ready (rs := [8]) (by kernel_rfl) (by simp) ?_
      refine AllReadyH.cons (o := { dst := some 19, op := .call { callee := .builtin .append, args := #[.tmp 11, .tmp 18], argTypes := #[26, 26] }, type := _, pos := _, after := _, guard := none }) rfl (fun K hK => ?_) AllReadyH.nil
      have HO2 := Lib.hid ((HO.out.1.go HB4.out).go HB2.out)
      refine wp_append_es1 (.tmp 11) (.tmp 18) w.heap.size _ _ ps rfl HO2.out.e (by have h1 := HO.out.2.size; have h2 := HB4.out.size; have h3 := HB2.out.size; omega) _ (.slice sa sn sc) y rfl HC2.out.1 HC2.out.2.1 (HS1.out.below HC2.out.2.2 (Nat.le_refl _)).strs (fun g hg hz => HFR.out _ _ _ _ HS1.out (by have h2 := HBz.out.size; exact h2) HC2.out.2.2.size g hg hz) (by rw [HTK.out]; omega) ?_
      intro v' W3 he hg g5
      obtain ⟨ta, tn, tc, rfl⟩ : ∃ a n c, v' = .slice a n c := by
        obtain ⟨a, c, e, _⟩ := he.es
        exact ⟨_, _, _, e⟩
      have HF : Hid (OwnEW w.heap.size W3 (.slice ta tn tc) (E.take (k + 1)) (ps ++ [(.slice sa sn sc, y.t)]) (updF lo (E.take k).length wz.heap.size) (updF hi (E.take k).length W1.heap.size) ∧ Below w.heap.size w W3) := Lib.hid (by
        have h0 := HO.out.2.size
        have h1 := HB4.out.size
        have h2 := HBz.out.size
        have h3 := HZ1b.out.size
        have h4 := HC2.out.2.2.size
        have hbel : Below w.heap.size w W2 := (HO.out.2.trans (HB4.out.mono h0)).trans (HB2.out.mono (by omega))
        rw [take_snoc_getD E k ez (by have := HN.out; omega), ← HY.out]
        exact ⟨HO2.out.put hg he g5 (HS1.out.below HC2.out.2.2 (Nat.le_refl _)) (by omega) h4 (fun i hi' => by have := (HO.out.1.rw i hi').2.1; omega) (fun g e => .inl (by have := (HO.out.1.e.own.lt g e).2; omega)), hbel.grown hg (by omega) (fun g e => (HO.out.1.e.own.lt g e).1)⟩)
      have HS3 : Hid (W3.cell? ⟨wr.heap.size, 0, none⟩ = some (.map (some (bs k))) ∧ W3.cell? ⟨wr.heap.size, 1, none⟩ = some (.int .i64 y.t)) := Lib.hid (by
        have hne : some wr.heap.size ≠ (Value.slice ua un uc).ownBlock := fun e => Nat.lt_irrefl _ (HO.out.1.e.own.lt _ e.symm).2
        have hlt4 : wr.heap.size < W2.heap.size := by have h1 := HW4S.out; have h3 := HB2.out.size; omega
        have hbk := hg.block _ hlt4 hne
        obtain ⟨k0, k1⟩ := HKC.out _ HB2.out
        exact ⟨(World.cell?_of_block hbk).trans k0, (World.cell?_of_block hbk).trans k1⟩)
      clear he hg g5
      refine hK.out _ _ ?_ (fun hHeld => ?_)
      · exact HS3.out
      clear hK K
      try simp only [Act.put, List.setIfInBounds_toArray, List.set_cons_zero, List.set_cons_succ]
      refine wpAnyH_take (i := 9) (oi := { dst := some 3, op := .assign (.tmp 19), type := _, pos := _, after := _, guard := none }) (v := .slice ta tn tc) rfl (by kernel_rfl) (by kernel_rfl) (by kernel_rfl) (fun _ _ _ h => h) (Or.inl ⟨by rfl, fun wh hSw => ?_⟩) hHeld ?_
      · (obtain ⟨k0, k1⟩ := hSw; go_simp)
      try simp only [Act.put, List.setIfInBounds_toArray, List.set_cons_zero, List.set_cons_succ]
      refine wpAnyH_done (by kernel_rfl) ?_ _
      go_wp2_with fail
      go_roundw
      case rel => exact ⟨k + 1, _, _, _, by omega, by go_num, HF⟩
      case measure => simp [intOf]; omega
    · have e : k = 3 := by omega
      rw [e] at HO
      have hge : ¬ (k : Int) < 3 := by omega
      go_wp2_with fail
      rw [HR0.out]
      have htk : E.take 3 = E := by rw [← HN.out, List.take_length]
      refine ⟨_, rfl, ?_, HO.out.2⟩
      have := HO.out.1.esW
      rwa [htk] at this
end Go.Proofs.Ythfdkenidfnmgaa
namespace Go.Proofs.Ythfdkenidfnmgaa
open Go.Shelf
set_option maxRecDepth 100000
def layKeysT_ren : Go.Shelf.Ren := ⟨fun | 7 => 53 | 10 => 56 | n => n,
  fun | 23 => 45 | 26 => 9 | 3 => 4 | 28 => 97 | 0 => 0 | 27 => 96 | 33 => 78 | 4 => 4 | n => n,
  fun n => n⟩
theorem layKeysT : SlLaysZ.n7 Try.prog layKeysT_ren := {
  mixed := by kernel_rfl,
  f7 := ⟨Try.f53.name, by decide, Try.func53.trans (congrArg some (by kernel_rfl))⟩,
  f10 := ⟨Try.f56.name, by decide, Try.func56.trans (congrArg some (by kernel_rfl))⟩,
  t0 := Try.underlying0,
  a0 := Try.isAgg0,
  z0 := Try.sizeOf0,
  v0 := Try.zeroValue0,
  t4 := Try.underlying4,
  a4 := Try.isAgg4,
  z4 := Try.sizeOf4,
  v4 := Try.zeroValue4,
  t23 := Try.underlying45,
  a23 := Try.isAgg45,
  z23 := Try.sizeOf45,
  v23 := Try.zeroValue45,
  t26 := Try.underlying9,
  a26 := Try.isAgg9,
  z26 := Try.sizeOf9,
  v26 := Try.zeroValue9,
  t27 := Try.underlying96,
  a27 := Try.isAgg96,
  z27 := Try.sizeOf96,
  v27 := Try.zeroValue96,
  t28 := Try.underlying97,
  a28 := Try.isAgg97,
  z28 := Try.sizeOf97,
  v28 := Try.zeroValue97,
  t33 := Try.underlying78,
  a33 := Try.isAgg78,
  z33 := Try.sizeOf78,
  v33 := Try.zeroValue78 }
def laySortedT_ren : Go.Shelf.Ren := ⟨fun | 6 => 52 | 8 => 54 | 9 => 55 | 11 => 57 | 13 => 59 | 12 => 58 | 23 => 69 | 24 => 70 | 14 => 60 | 15 => 61 | 16 => 62 | 17 => 63 | 18 => 64 | 19 => 65 | 20 => 66 | 21 => 67 | 22 => 68 | 25 => 71 | 26 => 72 | 27 => 73 | 28 => 74 | 29 => 75 | 30 => 76 | 31 => 77 | n => n,
  fun | 26 => 9 | 28 => 97 | 24 => 38 | 0 => 0 | 3 => 3 | 37 => 103 | 48 => 114 | 50 => 116 | 4 => 4 | 40 => 106 | 39 => 105 | 45 => 111 | 5 => 5 | 9 => 9 | 51 => 117 | 55 => 121 | 57 => 123 | 58 => 124 | 33 => 78 | n => n,
  fun n => n⟩
theorem laySortedT : SlLaysZ.n6 Try.prog laySortedT_ren := {
  mixed := by kernel_rfl,
  f6 := ⟨Try.f52.name, by decide, Try.func52.trans (congrArg some (by kernel_rfl))⟩,
  f8 := ⟨Try.f54.name, by decide, Try.func54.trans (congrArg some (by kernel_rfl))⟩,
  f11 := ⟨Try.f57.name, by decide, Try.func57.trans (congrArg some (by kernel_rfl))⟩,
  t0 := Try.underlying0,
  a0 := Try.isAgg0,
  z0 := Try.sizeOf0,
  v0 := Try.zeroValue0,
  t24 := Try.underlying38,
  a24 := Try.isAgg38,
  z24 := Try.sizeOf38,
  v24 := Try.zeroValue38,
  t26 := Try.underlying9,
  a26 := Try.isAgg9,
  z26 := Try.sizeOf9,
  v26 := Try.zeroValue9,
  t28 := Try.underlying97,
  a28 := Try.isAgg97,
  z28 := Try.sizeOf97,
  v28 := Try.zeroValue97,
  i26 := by kernel_rfl }
def laySortT_ren : Go.Shelf.Ren := ⟨fun | 6 => 55 | 8 => 59 | 9 => 58 | 19 => 69 | 20 => 70 | 21 => 60 | 22 => 61 | 23 => 62 | 24 => 63 | 25 => 64 | 26 => 65 | 27 => 66 | 28 => 67 | 29 => 68 | 36 => 71 | 31 => 72 | 32 => 73 | 37 => 74 | 38 => 75 | 39 => 76 | 41 => 77 | n => n,
  fun | 27 => 38 | 29 => 9 | 3 => 3 | 32 => 103 | 26 => 38 | 0 => 0 | 44 => 114 | 46 => 116 | 4 => 4 | 36 => 106 | 35 => 105 | 41 => 111 | 5 => 5 | 9 => 9 | 53 => 117 | 57 => 121 | 63 => 123 | 64 => 124 | n => n,
  fun n => n⟩
theorem laySortT : SlLaysM.n6 Try.prog laySortT_ren := {
  mixed := by kernel_rfl,
  f6 := ⟨Try.f55.name, by decide, Try.func55.trans (congrArg some (by kernel_rfl))⟩,
  f8 := Try.func59.trans (congrArg some (by kernel_rfl)),
  f9 := ⟨Try.f58.name, by decide, Try.func58.trans (congrArg some (by kernel_rfl))⟩,
  f19 := Try.func69.trans (congrArg some (by kernel_rfl)),
  f20 := Try.func70.trans (congrArg some (by kernel_rfl)),
  f21 := ⟨Try.f60.name, by decide, Try.func60.trans (congrArg some (by kernel_rfl))⟩,
  f22 := ⟨Try.f61.name, by decide, Try.func61.trans (congrArg some (by kernel_rfl))⟩,
  f23 := ⟨Try.f62.name, by decide, Try.func62.trans (congrArg some (by kernel_rfl))⟩,
  f24 := ⟨Try.f63.name, by decide, Try.func63.trans (congrArg some (by kernel_rfl))⟩,
  f25 := ⟨Try.f64.name, by decide, Try.func64.trans (congrArg some (by kernel_rfl))⟩,
  f26 := ⟨Try.f65.name, by decide, Try.func65.trans (congrArg some (by kernel_rfl))⟩,
  f27 := ⟨Try.f66.name, by decide, Try.func66.trans (congrArg some (by kernel_rfl))⟩,
  f28 := ⟨Try.f67.name, by decide, Try.func67.trans (congrArg some (by kernel_rfl))⟩,
  f29 := ⟨Try.f68.name, by decide, Try.func68.trans (congrArg some (by kernel_rfl))⟩,
  f31 := Try.func72.trans (congrArg some (by kernel_rfl)),
  f32 := Try.func73.trans (congrArg some (by kernel_rfl)),
  f36 := ⟨Try.f71.name, by decide, Try.func71.trans (congrArg some (by kernel_rfl))⟩,
  f37 := ⟨Try.f74.name, by decide, Try.func74.trans (congrArg some (by kernel_rfl))⟩,
  f38 := ⟨Try.f75.name, by decide, Try.func75.trans (congrArg some (by kernel_rfl))⟩,
  f39 := ⟨Try.f76.name, by decide, Try.func76.trans (congrArg some (by kernel_rfl))⟩,
  f41 := ⟨Try.f77.name, by decide, Try.func77.trans (congrArg some (by kernel_rfl))⟩,
  t0 := Try.underlying0,
  a0 := Try.isAgg0,
  z0 := Try.sizeOf0,
  v0 := Try.zeroValue0,
  t3 := Try.underlying3,
  a3 := Try.isAgg3,
  z3 := Try.sizeOf3,
  v3 := Try.zeroValue3,
  t4 := Try.underlying4,
  a4 := Try.isAgg4,
  z4 := Try.sizeOf4,
  v4 := Try.zeroValue4,
  t5 := Try.underlying5,
  a5 := Try.isAgg5,
  z5 := Try.sizeOf5,
  v5 := Try.zeroValue5,
  t9 := Try.underlying9,
  a9 := Try.isAgg9,
  z9 := Try.sizeOf9,
  v9 := Try.zeroValue9,
  t26 := Try.underlying38,
  a26 := Try.isAgg38,
  z26 := Try.sizeOf38,
  v26 := Try.zeroValue38,
  t27 := Try.underlying38,
  a27 := Try.isAgg38,
  z27 := Try.sizeOf38,
  v27 := Try.zeroValue38,
  t29 := Try.underlying9,
  a29 := Try.isAgg9,
  z29 := Try.sizeOf9,
  v29 := Try.zeroValue9,
  t32 := Try.underlying103,
  a32 := Try.isAgg103,
  z32 := Try.sizeOf103,
  v32 := Try.zeroValue103,
  t35 := Try.underlying105,
  a35 := Try.isAgg105,
  z35 := Try.sizeOf105,
  v35 := Try.zeroValue105,
  t36 := Try.underlying106,
  a36 := Try.isAgg106,
  z36 := Try.sizeOf106,
  v36 := Try.zeroValue106,
  t41 := Try.underlying111,
  a41 := Try.isAgg111,
  z41 := Try.sizeOf111,
  v41 := Try.zeroValue111,
  t44 := Try.underlying114,
  a44 := Try.isAgg114,
  z44 := Try.sizeOf114,
  v44 := Try.zeroValue114,
  t46 := Try.underlying116,
  a46 := Try.isAgg116,
  z46 := Try.sizeOf116,
  v46 := Try.zeroValue116,
  t53 := Try.underlying117,
  a53 := Try.isAgg117,
  z53 := Try.sizeOf117,
  v53 := Try.zeroValue117,
  t57 := Try.underlying121,
  a57 := Try.isAgg121,
  z57 := Try.sizeOf121,
  v57 := Try.zeroValue121,
  t63 := Try.underlying123,
  a63 := Try.isAgg123,
  z63 := Try.sizeOf123,
  v63 := Try.zeroValue123,
  t64 := Try.underlying124,
  a64 := Try.isAgg124,
  z64 := Try.sizeOf124,
  v64 := Try.zeroValue124 }
end Go.Proofs.Ythfdkenidfnmgaa
namespace Go.Proofs.Ythfdkenidfnmgaa
open Go.ChangeShapes Go.WideShapes Go.ChangeAt Go.RowKit Go.Maps Go.Sort Go.Shelf
set_option linter.unusedVariables false
set_option linter.unusedSimpArgs false
set_option maxRecDepth 100000
theorem sortsS (m : Nat) : AnyZ.SortsIn Try.prog laySortedT_ren Fence.wide m :=
  ⟨fun blk off cap ss W hH hblk hsz => callsIn_wide.2 (AnyM.slices_Sort_string laySortT blk off cap ss W hH hblk hsz),
   fun p cap W => callsIn_wide.2 (AnyM.slices_Sort_string_none laySortT p cap W)⟩
theorem maps_Keys (mb : Option Nat) (W : World) : CallsIn Fence.wide 5 Try.prog 53 #[.map mb] W fun e w' => e = .returned (.func (.func 56) #[] #[.pointer (some ⟨W.heap.size, 0, none⟩)]) ∧ w' = W.alloc (.cells #[.map mb] 45) :=
  AnyZ.keys_in layKeysT Fence.wide 5 trivial rfl mb W
set_option maxHeartbeats 1000000 in
theorem sorted_Keys {H : Type} (b nn : Nat) (D0 : DataW H) (R : Value → Option (DataW H × List MemPlace)) (w : World) (hown : w.ownsMap Try.prog 9 R b nn D0) (hmax : Maps.size D0 ≤ maxLen) (hbytes : Maps.size D0 * 16 ≤ 140737488355328) :
    CallsIn Fence.wide 5 Try.prog 52 #[.func (.func 56) #[] #[.pointer (some ⟨w.heap.size, 0, none⟩)]] (w.alloc (.cells #[.map (some b)] 45)) fun e w' => ∃ (v : Value) (ss : List (List UInt8)), e = .returned v ∧ ss.Perm (strKeys D0) ∧
      w'.ownsRow (w.alloc (.cells #[.map (some b)] 45)).heap.size 9 1 v ss.length ((ss.mergeSort (fun x y => decide (x ≤ y))).map encStr) ∧ (v = .slice none 0 0 ↔ ss = []) ∧ Below (w.alloc (.cells #[.map (some b)] 45)).heap.size (w.alloc (.cells #[.map (some b)] 45)) w' := by
  have hbl := hown.lt
  have hseq : SeqGives Fence.wide 2 Try.prog 56 #[.pointer (some ⟨w.heap.size, 0, none⟩)] encStr (fun ss => ss.Perm (strKeys D0)) (Maps.size D0) (w.alloc (.cells #[.map (some b)] 45)) :=
    AnyZ.keys_gives (ρ := layKeysT_ren) { layKeysT with } Fence.wide _ trivial rfl (by omega) w.heap.size b nn D0 _ (by simp) (by simp) (by
      obtain ⟨es, clock, hb, Ft, hs, hD⟩ := hown
      exact ⟨es, clock, (Below.heap_alloc _ _ b hbl).trans hb, Ft, hs, hD⟩)
  exact AnyZ.sorted_in laySortedT Fence.wide 5 trivial trivial trivial trivial rfl (by omega) (sortsS _) (enters_of Try.func55 (by kernel_rfl) rfl) 56 #[.pointer (some ⟨w.heap.size, 0, none⟩)] trivial (enters_of Try.func56 (by kernel_rfl) rfl) _ _ hmax hbytes _ hseq
set_option maxHeartbeats 1000000 in
theorem setList_any (w : World) (b : Nat) (xs ys : List Bs) (h : SetAt w b xs) (hp : xs.Perm ys) (ha : Asc ys) (hl : ys.length ≤ 1000) :
    Calls Try.prog 50 #[.map (some b)] w (NewS ys w) := by
  obtain ⟨nn, D0, hnn, hown, hs⟩ := h.perm hp
  have hz := hs.size
  have hmax : Maps.size D0 ≤ maxLen := by unfold maxLen; omega
  have hbytes : Maps.size D0 * 16 ≤ 140737488355328 := by omega
  have HL := Lib.hid (fun ss hp => hs.sorted ha (ss := ss) hp)
  have HP := Lib.hid (perm_str hs)
  have HO := Lib.hid hown
  refine (callsIn_wide (n := 6)).1 ?_
  have hfK : Fence.wide.fn 53 := trivial
  have hfS : Fence.wide.fn 52 := trivial
  clear hs hz
  refine callsIn_of_wp Try.func50 rfl trivial ?_ rfl
  simp only [Try.ntmps50, List.size_toArray, List.length_cons, List.length_nil, Nat.reduceAdd, Nat.reduceSub, Array.replicate_succ, Array.replicate_zero, List.push_toArray, List.append_toArray, List.nil_append, List.cons_append]
  gi_wp2_with (first
    | (gi_at_call 53; refine (maps_Keys _ _).mono ?_; rintro e w' ⟨rfl, rfl⟩)
    | (gi_at_call 52; refine (sorted_Keys b nn D0 _ w HO.out hmax hbytes).mono ?_; rintro e w' ⟨v, ss, rfl, hS, hrow, hnil, hb⟩))
  go_ret
  have e1 := HL.out ss hS
  have e2 : ss.length = ys.length := (hS.trans HP.out).length_eq
  rw [e1, e2] at hrow
  have hb2 : Below w.heap.size w w' := ((Below.refl _ w).alloc (Nat.le_refl _) _).trans (hb.mono (by simp))
  refine ⟨v, rfl, ?_, hb2⟩
  exact StrsW.of_ownsRow (ownsRow_base_a hrow (by simp))
theorem isl_any (w : World) (b : Nat) (xs : List Bs) (h : SetAt w b xs) (hv : rvs xs = true) : Calls Try.prog 50 #[.map (some b)] w (NewS xs w) :=
  setList_any w b xs xs h (List.Perm.refl _) (rvs_asc hv) (by have := (rvs_iff.1 hv).2; omega)
end Go.Proofs.Ythfdkenidfnmgaa
namespace Go.Proofs.Ythfdkenidfnmgaa
open Go.ChangeShapes Go.WideShapes Go.ChangeAt Go.RowKit
set_option linter.unusedVariables false
set_option linter.unusedSimpArgs false
set_option maxRecDepth 100000
theorem chg_refl (lo hi : Nat) (w : World) : Chg lo hi w w := ⟨rfl, rfl, rfl, Nat.le_refl _, fun _ _ _ => rfl⟩
theorem FourW.of_block {w w' : World} {b o : Nat} {x : CV} (h : FourW w b o x) (e : w'.heap[b]? = w.heap[b]?) : FourW w' b o x := h.block e
theorem CsW.chg {lo hi B0 B1 : Nat} {w w' : World} {v : Value} {xs : List CV} (h : CsW w B0 B1 v xs) (c : Chg lo hi w w') (hB : B1 ≤ w.heap.size) (hh : B1 ≤ lo ∨ hi ≤ B0) : CsW w' B0 B1 v xs := by
  obtain ⟨a, cap, rfl, h1, h2, h3⟩ := h
  refine ⟨a, cap, rfl, h1, h2, fun i hi => ?_⟩
  obtain ⟨g, p, e, hg0, hg1, hf⟩ := h3 i hi
  exact ⟨g, p, e, hg0, hg1, hf.block (c.block g (by omega) (by omega))⟩
structure KsW (w : World) (B0 B1 B2 B3 B4 : Nat) (vm vi ve vc : Value) (K : KV) : Prop where
  m : MatW w B0 B1 vm K.m
  i : IsW w B1 B2 vi K.i
  e : EsW w B2 B3 ve K.e
  c : CsW w B3 B4 vc K.c
theorem KsW.ks {w : World} {B0 B1 B2 B3 B4 : Nat} {vm vi ve vc : Value} {K : KV} (h : KsW w B0 B1 B2 B3 B4 vm vi ve vc K) : Ks w vm vi ve vc K :=
  ⟨h.m.rows, h.i.is, h.e.es, h.c.cs⟩
end Go.Proofs.Ythfdkenidfnmgaa
namespace Go.Proofs.Ythfdkenidfnmgaa
open Go.ChangeShapes Go.WideShapes Go.ChangeAt Go.RowKit
set_option linter.unusedVariables false
set_option linter.unusedSimpArgs false
set_option maxRecDepth 100000
structure TFrom (w : World) (B0 B1 : Nat) (a : Option Addr) (n : Nat) (A : Nat → Option Addr) (L C : Nat → Nat) (X : Nat → Nat → Bs) (k : Nat) : Prop where
  top : ∀ j, k ≤ j → j < n → ∃ b o, a = some ⟨b, o, none⟩ ∧ B0 ≤ b ∧ b < B1 ∧ w.cell? ⟨b, o + j * 2, none⟩ = some (.slice (A j) (L j) (C j)) ∧ L j ≤ C j ∧ C j ≤ maxLen
  root : ∀ j, k ≤ j → j < n → ∀ b o, a = some ⟨b, o, none⟩ → ∃ t, w.cell? ⟨b, o + j * 2 + 1, none⟩ = some (.int .i64 t) ∧ w.frozen? ⟨b, o + j * 2 + 1, none⟩ = false
  row : ∀ j, k ≤ j → j < n → ∀ i, i < L j → ∃ g p, A j = some ⟨g, p, none⟩ ∧ B0 ≤ g ∧ g < B1 ∧ w.cell? ⟨g, p + i, none⟩ = some (.string ⟨(X j i).toArray⟩) ∧ w.frozen? ⟨g, p + i, none⟩ = false ∧ ∀ b o, a = some ⟨b, o, none⟩ → g ≠ b
  apart : ∀ j, j < n → ∀ j', j' < n → j ≠ j' → 0 < L j → 0 < L j' → ∀ g p g' p', A j = some ⟨g, p, none⟩ → A j' = some ⟨g', p', none⟩ → g ≠ g'
theorem tfrom_start {w : World} {B0 B1 : Nat} {a : Option Addr} {n : Nat} {A : Nat → Option Addr} {L C : Nat → Nat} {X : Nat → Nat → Bs} {R : Nat → Int} (h : TAt w B0 B1 2 a n A L C X) (hr : RAt w B0 B1 a n R) : TFrom w B0 B1 a n A L C X 0 := by
  refine ⟨fun j _ hj => ?_, fun j _ hj b o e => ?_, fun j _ hj i hi => h.row j hj i hi, h.apart⟩
  · obtain ⟨b, o, e, h1, h2, h3, h4, h5, _⟩ := h.top j hj
    exact ⟨b, o, e, h1, h2, h3, h4, h5⟩
  · obtain ⟨b', o', e', _, _, hc, hf⟩ := hr j hj
    rw [e] at e'
    cases e'
    exact ⟨_, hc, hf⟩
theorem TFrom.rowW {w : World} {B0 B1 : Nat} {a : Option Addr} {n : Nat} {A : Nat → Option Addr} {L C : Nat → Nat} {X : Nat → Nat → Bs} {k : Nat} (h : TFrom w B0 B1 a n A L C X k) (hk : k < n) :
    ∃ lo hi, StrsW w lo hi (.slice (A k) (L k) (C k)) ((List.range (L k)).map (X k)) ∧ hi ≤ B1 ∧ (hi ≤ lo ∨ (B0 ≤ lo ∧ hi = lo + 1 ∧ 0 < L k ∧ ∃ p, A k = some ⟨lo, p, none⟩)) := by
  obtain ⟨b, o, _, _, _, _, hl, hm⟩ := h.top k (Nat.le_refl _) hk
  by_cases h0 : L k = 0
  · refine ⟨0, 0, ⟨A k, C k, by simp, by simpa using hl, hm, fun i hi => ?_⟩, Nat.zero_le _, .inl (Nat.le_refl _)⟩
    simp [h0] at hi
  · obtain ⟨g, p, e, hg0, hg1, _⟩ := h.row k (Nat.le_refl _) hk 0 (by omega)
    refine ⟨g, g + 1, ⟨A k, C k, by simp, by simpa using hl, hm, fun i hi => ?_⟩, by omega, .inr ⟨hg0, rfl, by omega, p, e⟩⟩
    simp at hi
    obtain ⟨g', p', e', _, _, hc, hf, _⟩ := h.row k (Nat.le_refl _) hk i hi
    have ee := e.symm.trans e'
    cases ee
    refine ⟨g, p, e, Nat.le_refl _, by omega, ?_, hf⟩
    rw [hc, getD_lt (by simpa using hi)]
    simp
theorem TFrom.step {w w1 : World} {B0 B1 : Nat} {a : Option Addr} {n : Nat} {A : Nat → Option Addr} {L C : Nat → Nat} {X : Nat → Nat → Bs} {k lo hi : Nat} (h : TFrom w B0 B1 a n A L C X k) (hk : k < n) (hB : B1 ≤ w.heap.size)
    (hc : Chg lo hi w w1) (hlo : hi ≤ lo ∨ (B0 ≤ lo ∧ hi = lo + 1 ∧ 0 < L k ∧ ∃ p, A k = some ⟨lo, p, none⟩)) :
    (∀ b o, a = some ⟨b, o, none⟩ → ∃ t, w1.cell? ⟨b, o + k * 2 + 1, none⟩ = some (.int .i64 t) ∧ w1.frozen? ⟨b, o + k * 2 + 1, none⟩ = false) ∧
    (∀ b o v, a = some ⟨b, o, none⟩ → TFrom (w1.setCell ⟨b, o + k * 2 + 1, none⟩ v) B0 B1 a n A L C X (k + 1)) := by
  have htop : ∀ b o, a = some ⟨b, o, none⟩ → w1.heap[b]? = w.heap[b]? := fun b o e => by
    obtain ⟨b', o', e', h0, h1, _⟩ := h.top k (Nat.le_refl _) hk
    rw [e] at e'
    cases e'
    refine hc.block b (by omega) ?_
    rcases hlo with hlo | ⟨hl0, rfl, hL, p, eA⟩
    · omega
    · obtain ⟨g, p', e2, _, _, _, _, hne⟩ := h.row k (Nat.le_refl _) hk 0 hL
      rw [eA] at e2
      cases e2
      have := hne b o e
      omega
  refine ⟨fun b o e => ?_, fun b o v e => ⟨fun j hj hn => ?_, fun j hj hn b' o' e' => ?_, fun j hj hn i hi => ?_, h.apart⟩⟩
  · obtain ⟨t, h1, h2⟩ := h.root k (Nat.le_refl _) hk b o e
    exact ⟨t, (World.cell?_of_block (htop b o e)).trans h1, (World.frozen?_of_block (htop b o e)).trans h2⟩
  · obtain ⟨b', o', e', h0, h1, h2, h3⟩ := h.top j (by omega) hn
    have ee := e.symm.trans e'
    cases ee
    exact ⟨b, o, e, h0, h1, (cell_set_other (.inr (by omega))).trans ((World.cell?_of_block (htop b o e)).trans h2), h3⟩
  · have ee := e.symm.trans e'
    cases ee
    obtain ⟨t, h1, h2⟩ := h.root j (by omega) hn b o e
    exact ⟨t, (cell_set_other (.inr (by omega))).trans ((World.cell?_of_block (htop b o e)).trans h1), (frozen_set _).trans ((World.frozen?_of_block (htop b o e)).trans h2)⟩
  · obtain ⟨g, p, e1, h0, h1, h2, h3, h4⟩ := h.row j (by omega) hn i hi
    have hb : w1.heap[g]? = w.heap[g]? := by
      refine hc.block g (by omega) ?_
      rcases hlo with hlo | ⟨hl0, rfl, hL, q, eA⟩
      · omega
      · have := h.apart k hk j hn (by omega) hL (by omega) _ _ _ _ eA e1
        omega
    exact ⟨g, p, e1, h0, h1, (cell_set_other (.inl (h4 b o e))).trans ((World.cell?_of_block hb).trans h2), (frozen_set _).trans ((World.frozen?_of_block hb).trans h3), h4⟩
def no (L : Nat → Nat) (k0 : Nat) : Nat → Nat
  | 0 => k0
  | j + 1 => no L k0 j + L j + 1
theorem no_mono (L : Nat → Nat) (k0 : Nat) {i j : Nat} (h : i ≤ j) : no L k0 i ≤ no L k0 j := by
  induction j with
  | zero => obtain rfl : i = 0 := by omega
            exact Nat.le_refl _
  | succ j ih =>
    by_cases e : i = j + 1
    · subst e; exact Nat.le_refl _
    · exact Nat.le_trans (ih (by omega)) (by show no L k0 j ≤ no L k0 j + L j + 1; omega)
theorem no_ge (L : Nat → Nat) (k0 j : Nat) : k0 + j ≤ no L k0 j := by
  induction j with
  | zero => exact Nat.le_refl _
  | succ j ih => show k0 + (j + 1) ≤ no L k0 j + L j + 1; omega
theorem chg_wide {lo hi B0 B1 : Nat} {w w' : World} (h : Chg lo hi w w') (hh : hi ≤ lo ∨ (B0 ≤ lo ∧ hi ≤ B1)) : Chg B0 B1 w w' := ⟨h.os, h.tape, h.output, h.size, fun b hb hx => h.block b hb (by omega)⟩
end Go.Proofs.Ythfdkenidfnmgaa
namespace Go.Proofs.Ythfdkenidfnmgaa
open Go.ChangeShapes Go.WideShapes Go.ChangeAt Go.RowKit
set_option linter.unusedVariables false
set_option linter.unusedSimpArgs false
set_option maxRecDepth 100000
theorem no_tot (es : List EV) (k0 : Nat) : ∀ n, n ≤ es.length → no (fun j => (es.getD j ez).r.length) k0 n ≤ k0 + n + tot3 (es.take n)
  | 0, _ => by simp [no]
  | n + 1, h => by
    have ih := no_tot es k0 n (by omega)
    rw [tot3_snoc es n (by omega)]
    show no _ k0 n + (es.getD n ez).r.length + 1 ≤ _
    omega
theorem IsW.of_blocks {w w' : World} {B0 B1 : Nat} {v : Value} {xs : List IV} (h : IsW w B0 B1 v xs) (e : ∀ b, B0 ≤ b → b < B1 → w'.heap[b]? = w.heap[b]?) : IsW w' B0 B1 v xs := by
  obtain ⟨a, cap, rfl, h1, h2, h3⟩ := h
  refine ⟨a, cap, rfl, h1, h2, fun i hi => ?_⟩
  obtain ⟨g, p, ea, hg0, hg1, hf⟩ := h3 i hi
  exact ⟨g, p, ea, hg0, hg1, hf.block (e g hg0 hg1)⟩
theorem CsW.of_blocks {w w' : World} {B0 B1 : Nat} {v : Value} {xs : List CV} (h : CsW w B0 B1 v xs) (e : ∀ b, B0 ≤ b → b < B1 → w'.heap[b]? = w.heap[b]?) : CsW w' B0 B1 v xs := by
  obtain ⟨a, cap, rfl, h1, h2, h3⟩ := h
  refine ⟨a, cap, rfl, h1, h2, fun i hi => ?_⟩
  obtain ⟨g, p, ea, hg0, hg1, hf⟩ := h3 i hi
  exact ⟨g, p, ea, hg0, hg1, hf.block (e g hg0 hg1)⟩
theorem EsW.of_blocks {w w' : World} {B0 B1 : Nat} {v : Value} {es : List EV} (h : EsW w B0 B1 v es) (e : ∀ b, B0 ≤ b → b < B1 → w'.heap[b]? = w.heap[b]?) : EsW w' B0 B1 v es := by
  obtain ⟨a, cap, A, C, rfl, h1, h2, h3, h4⟩ := h
  exact ⟨a, cap, A, C, rfl, h1, h2, h3.of_blocks e, h4.of_blocks e⟩
theorem KsW.chg {lo hi : Nat} {w w' : World} {B0 B1 B2 B3 B4 : Nat} {vm vi ve vc : Value} {K : KV} (h : KsW w B0 B1 B2 B3 B4 vm vi ve vc K) (c : Chg lo hi w w') (h0 : B0 ≤ B1) (h1 : B1 ≤ B2) (h2 : B2 ≤ B3) (h3 : B3 ≤ B4) (hB : B4 ≤ w.heap.size) (hh : B4 ≤ lo ∨ hi ≤ B0) : KsW w' B0 B1 B2 B3 B4 vm vi ve vc K :=
  ⟨h.m.chg c (by omega) (by omega), h.i.chg c (by omega) (by omega), h.e.chg c (by omega) (by omega), h.c.chg c (by omega) (by omega)⟩
def szK (K : KV) : Nat := (K.m.length + total K.m) + (K.i.length + totalI K.i) + (K.e.length + tot3 K.e) + K.c.length
end Go.Proofs.Ythfdkenidfnmgaa
namespace Go.Proofs.Ythfdkenidfnmgaa
open Go.ChangeShapes Go.WideShapes Go.ChangeAt Go.RowKit
set_option linter.unusedVariables false
set_option linter.unusedSimpArgs false
set_option maxRecDepth 100000
theorem eqKernel_any (w : World) (vm vi ve vc um ui ue uc : Value) (K L : KV) (h : Ks w vm vi ve vc K) (k : Ks w um ui ue uc L) (r : Bool) (hr : r = true ↔ K = L) :
    Calls Try.prog 8 #[kV vm vi ve vc, kV um ui ue uc] w (BRes r w) := by
  obtain ⟨M, I, E, C⟩ := K
  obtain ⟨M', I', E', C'⟩ := L
  have HA : Hid (∀ o1 o2, Below w.heap.size w ((w.alloc o1).alloc o2)) := Lib.hid (fun o1 o2 => ((Below.refl _ _).alloc (Nat.le_refl _) _).alloc (by simp) _)
  obtain ⟨p1, hp1⟩ : ∃ p, p = decide (M = M') := ⟨_, rfl⟩
  obtain ⟨p2, hp2⟩ : ∃ p, p = decide (I = I') := ⟨_, rfl⟩
  obtain ⟨p3, hp3⟩ : ∃ p, p = decide (E = E') := ⟨_, rfl⟩
  obtain ⟨p4, hp4⟩ : ∃ p, p = decide (C = C') := ⟨_, rfl⟩
  have HR : Hid (r = (p1 && p2 && p3 && p4)) := Lib.hid (by
    rw [Bool.eq_iff_iff, hr, hp1, hp2, hp3, hp4]
    simp only [KV.mk.injEq, Bool.and_eq_true, decide_eq_true_eq]
    exact ⟨fun ⟨a, b, c, d⟩ => ⟨⟨⟨a, b⟩, c⟩, d⟩, fun ⟨⟨⟨a, b⟩, c⟩, d⟩ => ⟨a, b, c, d⟩⟩)
  have HM : Hid (∀ W, Below w.heap.size w W → Calls Try.prog 19 #[vm, um] W (fun e w' => e = .returned (.bool p1) ∧ Below W.heap.size W w')) := Lib.hid (fun W hW => by
    rw [hp1]
    exact (eqIntSS_any W vm um M M' (h.m.below hW) (k.m.below hW)).mono fun e w' hh => reads_below hh)
  have HI : Hid (∀ W, Below w.heap.size w W → Calls Try.prog 20 #[vi, ui] W (fun e w' => e = .returned (.bool p2) ∧ Below W.heap.size W w')) := Lib.hid (fun W hW => by
    rw [hp2]
    exact eqInfoS_any W vi ui I I' (h.i.below hW) (k.i.below hW))
  have HE : Hid (∀ W, Below w.heap.size w W → Calls Try.prog 21 #[ve, ue] W (fun e w' => e = .returned (.bool p3) ∧ Below W.heap.size W w')) := Lib.hid (fun W hW => by
    rw [hp3]
    exact eqEnvS_any W ve ue E E' (h.e.below hW) (k.e.below hW))
  have HCC : Hid (∀ W, Below w.heap.size w W → Calls Try.prog 22 #[vc, uc] W (fun e w' => e = .returned (.bool p4) ∧ Below W.heap.size W w')) := Lib.hid (fun W hW => by
    rw [hp4]
    exact eqCachedS_any W vc uc C C' (h.c.below hW) (k.c.below hW))
  have HQ : Hid (∀ t s W', Below (w.heap.size + 1 + 1) ((w.alloc (.cells #[vm, vi, ve, vc] t)).alloc (.cells #[um, ui, ue, uc] s)) W' → (W'.cell? ⟨w.heap.size, 1, none⟩ = some vi ∧ W'.cell? ⟨w.heap.size, 2, none⟩ = some ve ∧ W'.cell? ⟨w.heap.size, 3, none⟩ = some vc) ∧ W'.cell? ⟨w.heap.size + 1, 1, none⟩ = some ui ∧ W'.cell? ⟨w.heap.size + 1, 2, none⟩ = some ue ∧ W'.cell? ⟨w.heap.size + 1, 3, none⟩ = some uc) := Lib.hid (fun t s W' hb => by
    have a : ∀ j v, (#[vm, vi, ve, vc] : Array Value)[j]? = some v → W'.cell? ⟨w.heap.size, j, none⟩ = some v := fun j v hj => (hb.cell (p := ⟨w.heap.size, j, none⟩) (by show w.heap.size < _; omega)).trans (by rw [World.cell?_alloc_past _ _ _ (by simp)]; exact new_cell hj)
    have b : ∀ j v, (#[um, ui, ue, uc] : Array Value)[j]? = some v → W'.cell? ⟨w.heap.size + 1, j, none⟩ = some v := fun j v hj => (hb.cell (p := ⟨w.heap.size + 1, j, none⟩) (by show w.heap.size + 1 < _; omega)).trans (by
      have := new_cell (w := w.alloc (.cells #[vm, vi, ve, vc] t)) (t := s) hj
      rwa [World.size_alloc] at this)
    exact ⟨⟨a 1 _ rfl, a 2 _ rfl, a 3 _ rfl⟩, b 1 _ rfl, b 2 _ rfl, b 3 _ rfl⟩)
  have HS : Hid (∀ o1 o2, ((w.alloc o1).alloc o2).heap.size = w.heap.size + 1 + 1) := Lib.hid (fun o1 o2 => by simp)
  clear h k hr hp1 hp2 hp3 hp4
  go_enter Try.func8, Try.ntmps8
  go_wp2_with fail
  refine (HM.out _ (HA.out _ _)).mono ?_
  rintro e w1 ⟨rfl, hb1⟩
  rw [HS.out] at hb1
  have HB1 : Hid (Below w.heap.size w w1) := Lib.hid ((HA.out _ _).trans (hb1.mono (by omega)))
  have HD1 := Lib.hid hb1
  obtain ⟨⟨q1, q2, q3⟩, s1, s2, s3⟩ := HQ.out _ _ _ hb1
  clear hb1
  cases p1 with
  | false =>
    go_wp2_with fail
    go_ret
    exact ⟨by rw [HR.out]; rfl, HB1.out⟩
  | true =>
    go_wp2_with fail
    refine (HI.out _ HB1.out).mono ?_
    rintro e w2 ⟨rfl, hb2⟩
    have HB2 : Hid (Below w.heap.size w w2) := Lib.hid (HB1.out.trans (hb2.mono HB1.out.size))
    have HD2 := Lib.hid (HD1.out.trans (hb2.mono (by have := HD1.out.size; rw [HS.out] at this; exact this)))
    clear q1 q2 q3 s1 s2 s3 hb2
    obtain ⟨⟨q1, q2, q3⟩, s1, s2, s3⟩ := HQ.out _ _ _ HD2.out
    cases p2 with
    | false =>
      go_wp2_with fail
      go_ret
      exact ⟨by rw [HR.out]; rfl, HB2.out⟩
    | true =>
      go_wp2_with fail
      refine (HE.out _ HB2.out).mono ?_
      rintro e w3 ⟨rfl, hb3⟩
      have HB3 : Hid (Below w.heap.size w w3) := Lib.hid (HB2.out.trans (hb3.mono HB2.out.size))
      have HD3 := Lib.hid (HD2.out.trans (hb3.mono (by have := HD2.out.size; rw [HS.out] at this; exact this)))
      clear q1 q2 q3 s1 s2 s3 hb3
      obtain ⟨⟨q1, q2, q3⟩, s1, s2, s3⟩ := HQ.out _ _ _ HD3.out
      cases p3 with
      | false =>
        go_wp2_with fail
        go_ret
        exact ⟨by rw [HR.out]; rfl, HB3.out⟩
      | true =>
        go_wp2_with fail
        refine (HCC.out _ HB3.out).mono ?_
        rintro e w4 ⟨rfl, hb4⟩
        have HB4 : Hid (Below w.heap.size w w4) := Lib.hid (HB3.out.trans (hb4.mono HB3.out.size))
        clear q1 q2 q3 s1 s2 s3 hb4
        cases p4 with
        | false =>
          go_wp2_with fail
          go_ret
          exact ⟨by rw [HR.out]; rfl, HB4.out⟩
        | true =>
          go_wp2_with fail
          go_ret
          exact ⟨by rw [HR.out]; rfl, HB4.out⟩
end Go.Proofs.Ythfdkenidfnmgaa
namespace Go.Proofs.Ythfdkenidfnmgaa
open Go.ChangeShapes Go.WideShapes Go.ChangeAt Go.RowKit Go.Maps Go.Shelf
set_option linter.unusedVariables false
set_option linter.unusedSimpArgs false
set_option maxRecDepth 100000
structure KB4 (W : World) (Y : Nat) (um ui ue uc : Value) : Prop where
  lt : Y < W.heap.size
  c0 : W.cell? ⟨Y, 0, none⟩ = some um
  c1 : W.cell? ⟨Y, 1, none⟩ = some ui
  c2 : W.cell? ⟨Y, 2, none⟩ = some ue
  c3 : W.cell? ⟨Y, 3, none⟩ = some uc
theorem KB4.new (w : World) (um ui ue uc : Value) (t : TypeId) : KB4 (w.alloc (.cells #[um, ui, ue, uc] t)) w.heap.size um ui ue uc := ⟨by simp, new_cell rfl, new_cell rfl, new_cell rfl, new_cell rfl⟩
theorem KB4.chg {lo hi : Nat} {W W' : World} {Y : Nat} {um ui ue uc : Value} (h : KB4 W Y um ui ue uc) (c : Chg lo hi W W') (hh : Y < lo ∨ hi ≤ Y) : KB4 W' Y um ui ue uc := by
  have e := c.block Y h.lt hh
  exact ⟨Nat.lt_of_lt_of_le h.lt c.size, (World.cell?_of_block e).trans h.c0, (World.cell?_of_block e).trans h.c1, (World.cell?_of_block e).trans h.c2, (World.cell?_of_block e).trans h.c3⟩
theorem KB4.go {W W' : World} {Y : Nat} {um ui ue uc : Value} (h : KB4 W Y um ui ue uc) (hb : Below W.heap.size W W') : KB4 W' Y um ui ue uc := h.chg (Chg.of_below hb) (.inr (Nat.zero_le _))
theorem KB4.cells {W : World} {Y : Nat} {um ui ue uc : Value} (h : KB4 W Y um ui ue uc) : W.cell? ⟨Y, 0, none⟩ = some um ∧ W.cell? ⟨Y, 1, none⟩ = some ui ∧ W.cell? ⟨Y, 2, none⟩ = some ue ∧ W.cell? ⟨Y, 3, none⟩ = some uc := ⟨h.c0, h.c1, h.c2, h.c3⟩
theorem Ks.go {w w' : World} {vm vi ve vc : Value} {K : KV} (h : Ks w vm vi ve vc K) (hb : Below w.heap.size w w') : Ks w' vm vi ve vc K := h.below hb
end Go.Proofs.Ythfdkenidfnmgaa
namespace Go.Proofs.Ythfdkenidfnmgaa
open Go.ChangeShapes Go.WideShapes Go.ChangeAt Go.RowKit
set_option linter.unusedVariables false
set_option linter.unusedSimpArgs false
set_option maxRecDepth 100000
abbrev sl0 : Value := .slice none 0 0
end Go.Proofs.Ythfdkenidfnmgaa
