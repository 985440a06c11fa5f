/- The draw of a list of frames. -/
import Derived.Test.YtijgpimjmphaoaaBDrawL
import Derived.Deep.RegionHeld
namespace Go.Proofs.Ytijgpimjmphaoaa
open Go.ChangeShapes Go.WideShapes Go.ChangeAt Go.RowKit
set_option linter.unusedVariables false

def DrewL (W : World) (e : Ending) (w' : World) : Prop := ∃ v ys, e = .returned v ∧ Ints w' v ys ∧ ys.length ≤ 12 ∧ Below W.heap.size W w'
theorem DrewL.of {W w : World} {k g cap n : Nat} {ys : List Int} (h : OwnL W k g cap ys w) (hl : ys.length ≤ 12) (hn : n = ys.length) : DrewL W (.returned (.slice (some ⟨g, 0, none⟩) n cap)) w := by
  subst hn
  exact ⟨_, ys, rfl, h.ints, hl, rdr_below h.rdr⟩
theorem anyH_gen {P : Program} {md : Region.Mode} {ops : Array Oper} {Q : Exit → Act → World → Prop} {S : World → Prop} {fuel : Nat} {listed : Array Bool} {a : Act} (w : World) (h : ∀ w', w' = w → wpAnyH P md ops Q S fuel listed a w') : wpAnyH P md ops Q S fuel listed a w := h w rfl
set_option maxRecDepth 100000 in
set_option maxHeartbeats 2000000 in
theorem drawBitsOf_any (W : World) (a : Option Addr) (len cap : Nat) (zs : List Int) (hr : Row .u8 W a len cap zs) :
    Calls Try.prog 16 #[.slice a len cap] W (DrewL W) := by
  go_enter Try.func16, Try.ntmps16
  go_wp2_with fail
  refine (open_any W a len cap zs hr).mono ?_
  clear hr
  rintro e w1 ⟨rfl, hR1⟩
  go_wp2_with fail
  refine (set_any W _ _ _ hR1 (by omega)).mono ?_
  rintro e w2 ⟨n, hn, rfl, hR2, hg⟩
  clear hR1 hg hn
  have HL12 := Lib.hid (blist_len n)
  have HC := Lib.hid (bitsList_any w2 n)
  obtain ⟨ys, hys⟩ : ∃ ys, ys = blist n := ⟨_, rfl⟩
  rw [← hys] at HL12 HC
  clear hys
  have HR2 := Lib.hid hR2
  clear hR2
  go_wp2_with fail
  refine HC.out.mono ?_
  rintro e w3 ⟨v, rfl, h3⟩
  obtain ⟨g, c, rfl, hO⟩ := OwnL.of_own HR2.out h3
  have HO := Lib.hid hO
  have hcm := hO.cap
  have hlc := hO.len
  unfold maxLen at hcm
  obtain ⟨m, hm⟩ : ∃ m, m = ys.length := ⟨_, rfl⟩
  rw [← hm] at HL12 hlc ⊢
  have HM := Lib.hid hm
  have h12 := HL12.out
  clear HC HR2 h3 hO hm HL12
  by_cases h0 : m = 0
  · subst h0
    go_wp2_with fail
    go_ret
    exact DrewL.of HO.out (by have := HM.out; omega) HM.out
  by_cases h1 : m = 1
  · subst h1
    go_wp2_with fail
    refine (pick_any W _ _ _ _ HO.out.rdr (by omega) (by omega)).mono ?_
    rintro e w5 ⟨p, hp0, hp1, rfl, hR5, hO5⟩
    have HO5 := Lib.hid (HO.out.only hR5 hO5)
    clear HO hR5 hO5
    by_cases hp : p = 0
    · subst hp
      clear hp0 hp1
      go_wp2_with fail
      obtain ⟨y0, hy0⟩ : ∃ y, y = ys.getD 0 0 := ⟨_, rfl⟩
      have HY0 := Lib.hid hy0
      clear hy0
      refine wp_region_held_drew (S := fun _ => True) (by kernel_rfl) trivial (fun hHeld => ?_)
      refine wpAnyH_take (i := 0) (oi := { dst := some 40, op := .move (.tmp 4), type := _, pos := _, after := _, guard := none }) (v := .slice (some ⟨g, 0, none⟩) 1 c) rfl (by kernel_rfl) (by kernel_rfl) (by kernel_rfl) (fun _ _ _ h => h) (Or.inl ⟨by rfl, fun wh hSw => ?_⟩) hHeld ?_
      · go_simp
      try simp only [Act.put, List.setIfInBounds_toArray, List.set_cons_zero, List.set_cons_succ]
      refine wpAnyH_take (i := 1) (oi := { dst := some 41, op := .move (.tmp 3), type := _, pos := _, after := _, guard := none }) (v := .pointer (some ⟨W.heap.size, 0, none⟩)) rfl (by kernel_rfl) (by kernel_rfl) (by kernel_rfl) (fun _ _ _ h => h) (Or.inl ⟨by rfl, fun wh hSw => ?_⟩) hHeld ?_
      · go_simp
      try simp only [Act.put, List.setIfInBounds_toArray, List.set_cons_zero, List.set_cons_succ]
      refine wpAnyH_take (i := 2) (oi := { dst := some 42, op := .move (.tmp 4), type := _, pos := _, after := _, guard := none }) (v := .slice (some ⟨g, 0, none⟩) 1 c) rfl (by kernel_rfl) (by kernel_rfl) (by kernel_rfl) (fun _ _ _ h => h) (Or.inl ⟨by rfl, fun wh hSw => ?_⟩) hHeld ?_
      · go_simp
      try simp only [Act.put, List.setIfInBounds_toArray, List.set_cons_zero, List.set_cons_succ]
      refine wpAnyH_take (i := 3) (oi := { dst := some 43, op := .call { callee := .builtin .len, args := #[.tmp 42], argTypes := #[23] }, type := _, pos := _, after := _, guard := none }) (v := .int .i64 1) rfl (by kernel_rfl) (by kernel_rfl) (by kernel_rfl) (fun _ _ _ h => h) (Or.inl ⟨by rfl, fun wh hSw => ?_⟩) hHeld ?_
      · go_simp
      try simp only [Act.put, List.setIfInBounds_toArray, List.set_cons_zero, List.set_cons_succ]
      refine wpAnyH_take (i := 5) (oi := { dst := some 45, op := .move (.tmp 4), type := _, pos := _, after := _, guard := none }) (v := .slice (some ⟨g, 0, none⟩) 1 c) rfl (by kernel_rfl) (by kernel_rfl) (by kernel_rfl) (fun _ _ _ h => h) (Or.inl ⟨by rfl, fun wh hSw => ?_⟩) hHeld ?_
      · go_simp
      try simp only [Act.put, List.setIfInBounds_toArray, List.set_cons_zero, List.set_cons_succ]
      refine wpAnyH_take (i := 6) (oi := { dst := some 46, op := .indexAddr 23 (.tmp 45) (.const (.int .i64 0)), type := _, pos := _, after := _, guard := none }) (v := .pointer (some ⟨g, 0, none⟩)) rfl (by kernel_rfl) (by kernel_rfl) (by kernel_rfl) (fun _ _ _ h => h) (Or.inl ⟨by rfl, fun wh hSw => ?_⟩) hHeld ?_
      · go_simp
      try simp only [Act.put, List.setIfInBounds_toArray, List.set_cons_zero, List.set_cons_succ]
      refine wpAnyH_take (i := 9) (oi := { dst := some 49, op := .move (.tmp 3), type := _, pos := _, after := _, guard := none }) (v := .pointer (some ⟨W.heap.size, 0, none⟩)) rfl (by kernel_rfl) (by kernel_rfl) (by kernel_rfl) (fun _ _ _ h => h) (Or.inl ⟨by rfl, fun wh hSw => ?_⟩) hHeld ?_
      · go_simp
      try simp only [Act.put, List.setIfInBounds_toArray, List.set_cons_zero, List.set_cons_succ]
      refine anyH_gen _ (fun X0 hX0 => ?_)
      have HX0 := Lib.hid (show OwnL W _ g c ys X0 by rw [hX0]; exact HO5.out.same (rdr_drewN HO5.out.rdr 1) rfl (Nat.le_refl _))
      clear hX0 HO5
      refine wpAnyH_ready (rs := [4, 7]) (by kernel_rfl) (by simp) ?_
      refine AllReadyH.cons (o := { dst := some 44, op := .call { callee := .value (.func 39), args := #[.tmp 41, .tmp 43], argTypes := #[40, 3] }, type := _, pos := _, after := _, guard := none }) rfl (fun K hK => ?_) (AllReadyH.cons (o := { dst := some 47, op := .load 3 (.tmp 46), type := _, pos := _, after := _, guard := none }) rfl (fun K hK => ?_) AllReadyH.nil)
      · go_simp
        refine (pick_any W _ _ _ _ HX0.out.rdr (by omega) (by omega)).mono ?_
        rintro e X1 ⟨q1, hq10, hq11, rfl, hRX1, hOX1⟩
        have HX1 := Lib.hid (HX0.out.only hRX1 hOX1)
        clear hRX1 hOX1
        try go_simp
        refine hK.out _ _ trivial (fun hHeld => ?_)
        clear hK K
        try simp only [Act.put, List.setIfInBounds_toArray, List.set_cons_zero, List.set_cons_succ]
        refine wpAnyH_ready (rs := [7, 10]) (by kernel_rfl) (by simp) ?_
        refine AllReadyH.cons (o := { dst := some 47, op := .load 3 (.tmp 46), type := _, pos := _, after := _, guard := none }) rfl (fun K hK => ?_) (AllReadyH.cons (o := { dst := some 50, op := .call { callee := .value (.func 39), args := #[.tmp 49, .const (.int .i64 3)], argTypes := #[40, 3] }, type := _, pos := _, after := _, guard := none }) rfl (fun K hK => ?_) AllReadyH.nil)
        · have cy0 := (HX1.out.cells 0 (by have := HM.out; omega)).1
          rw [← HY0.out] at cy0
          go_simp
          clear cy0
          refine hK.out _ _ trivial (fun hHeld => ?_)
          clear hK K
          try simp only [Act.put, List.setIfInBounds_toArray, List.set_cons_zero, List.set_cons_succ]
          refine wpAnyH_ready (rs := [8, 10]) (by kernel_rfl) (by simp) ?_
          refine AllReadyH.cons (o := { dst := some 48, op := .buildSlice 23 3 #[(0, .const (.int .i64 (-1))), (1, .const (.int .i64 12)), (2, .tmp 47)], type := _, pos := _, after := _, guard := none }) rfl (fun K hK => ?_) (AllReadyH.cons (o := { dst := some 50, op := .call { callee := .value (.func 39), args := #[.tmp 49, .const (.int .i64 3)], argTypes := #[40, 3] }, type := _, pos := _, after := _, guard := none }) rfl (fun K hK => ?_) AllReadyH.nil)
          · go_simp
            refine hK.out _ _ trivial (fun hHeld => ?_)
            clear hK K
            try simp only [Act.put, List.setIfInBounds_toArray, List.set_cons_zero, List.set_cons_succ]
            refine anyH_gen _ (fun X2 hX2 => ?_)
            have HX2 := Lib.hid (show OwnL W _ g c ys X2 by rw [hX2]; exact HX1.out.alloc _)
            have HBK := Lib.hid (show W.heap.size < X1.heap.size by have := HX1.out.gB; have := HX1.out.lt; omega)
            have HC := Lib.hid (show X2.cell? ⟨X1.heap.size, 0, none⟩ = some (.int .i64 (-1)) ∧ X2.cell? ⟨X1.heap.size, 1, none⟩ = some (.int .i64 12) ∧ X2.cell? ⟨X1.heap.size, 2, none⟩ = some (.int .i64 y0) by rw [hX2]; exact ⟨new_cell rfl, new_cell rfl, new_cell rfl⟩)
            clear hX2
            refine wpAnyH_ready (rs := [10]) (by kernel_rfl) (by simp) ?_
            refine AllReadyH.cons (o := { dst := some 50, op := .call { callee := .value (.func 39), args := #[.tmp 49, .const (.int .i64 3)], argTypes := #[40, 3] }, type := _, pos := _, after := _, guard := none }) rfl (fun K hK => ?_) AllReadyH.nil
            go_simp
            refine (pick_any W _ _ _ _ HX2.out.rdr (by omega) (by omega)).mono ?_
            rintro e X3 ⟨q2, hq20, hq21, rfl, hRX3, hOX3⟩
            have HX3 := Lib.hid (HX2.out.only hRX3 hOX3)
            have HC3 := Lib.hid (And.intro ((hOX3.cell (b := X1.heap.size) (o := 0) (by have := HBK.out; omega)).trans HC.out.1) (And.intro ((hOX3.cell (b := X1.heap.size) (o := 1) (by have := HBK.out; omega)).trans HC.out.2.1) ((hOX3.cell (b := X1.heap.size) (o := 2) (by have := HBK.out; omega)).trans HC.out.2.2)))
            clear HC
            have HC := HC3
            clear HC3
            clear hRX3 hOX3
            try go_simp
            refine hK.out _ _ trivial (fun hHeld => ?_)
            clear hK K
            try simp only [Act.put, List.setIfInBounds_toArray, List.set_cons_zero, List.set_cons_succ]
            obtain ⟨k1, rfl⟩ := Int.eq_ofNat_of_zero_le hq10
            have hk1 : k1 < ys.length := by have := HM.out; omega
            have hk1m : (k1 : Int) < 1 := by omega
            obtain ⟨ck, fk⟩ := HX3.out.cells k1 hk1
            obtain ⟨l0, l1, l2⟩ := HC.out
            have hq : q2 = 0 ∨ q2 = 1 ∨ q2 = 2 := by omega
            clear hq20 hq21 hq10 hq11
            rcases hq with rfl | rfl | rfl
            · have HZ2 := Lib.hid (HX3.out.set hk1 (-1))
              refine wpAnyH_take (i := 11) (oi := { dst := some 51, op := .indexAddr 23 (.tmp 48) (.tmp 50), type := _, pos := _, after := _, guard := none }) (v := .pointer (some ⟨X1.heap.size, 0, none⟩)) rfl (by kernel_rfl) (by kernel_rfl) (by kernel_rfl) (fun _ _ _ h => h) (Or.inl ⟨by rfl, fun wh hSw => ?_⟩) hHeld ?_
              · go_simp
              try simp only [Act.put, List.setIfInBounds_toArray, List.set_cons_zero, List.set_cons_succ]
              refine wpAnyH_ready (rs := [12]) (by kernel_rfl) (by simp) ?_
              refine AllReadyH.cons (o := { dst := some 52, op := .load 3 (.tmp 51), type := _, pos := _, after := _, guard := none }) rfl (fun K hK => ?_) AllReadyH.nil
              go_simp
              refine hK.out _ _ trivial (fun hHeld => ?_)
              clear hK K
              try simp only [Act.put, List.setIfInBounds_toArray, List.set_cons_zero, List.set_cons_succ]
              refine wpAnyH_take (i := 13) (oi := { dst := some 53, op := .indexAddr 23 (.tmp 40) (.tmp 44), type := _, pos := _, after := _, guard := none }) (v := .pointer (some ⟨g, k1, none⟩)) rfl (by kernel_rfl) (by kernel_rfl) (by kernel_rfl) (fun _ _ _ h => h) (Or.inl ⟨by rfl, fun wh hSw => ?_⟩) hHeld ?_
              · go_simp
              try simp only [Act.put, List.setIfInBounds_toArray, List.set_cons_zero, List.set_cons_succ]
              refine wpAnyH_ready (rs := [14]) (by kernel_rfl) (by simp) ?_
              refine AllReadyH.cons (o := { dst := none, op := .store 3 (.tmp 53) (.tmp 52), type := _, pos := _, after := _, guard := none }) rfl (fun K hK => ?_) AllReadyH.nil
              go_simp
              refine hK.out _ _ trivial (fun hHeld => ?_)
              clear hK K
              try simp only [Act.put]
              refine wpAnyH_done (by kernel_rfl) ?_ _
              go_wp2_with fail
              go_ret
              exact DrewL.of HZ2.out (by rw [List.length_set]; have := HM.out; omega) (by rw [List.length_set]; exact HM.out)
            · have HZ2 := Lib.hid (HX3.out.set hk1 12)
              refine wpAnyH_take (i := 11) (oi := { dst := some 51, op := .indexAddr 23 (.tmp 48) (.tmp 50), type := _, pos := _, after := _, guard := none }) (v := .pointer (some ⟨X1.heap.size, 1, none⟩)) rfl (by kernel_rfl) (by kernel_rfl) (by kernel_rfl) (fun _ _ _ h => h) (Or.inl ⟨by rfl, fun wh hSw => ?_⟩) hHeld ?_
              · go_simp
              try simp only [Act.put, List.setIfInBounds_toArray, List.set_cons_zero, List.set_cons_succ]
              refine wpAnyH_ready (rs := [12]) (by kernel_rfl) (by simp) ?_
              refine AllReadyH.cons (o := { dst := some 52, op := .load 3 (.tmp 51), type := _, pos := _, after := _, guard := none }) rfl (fun K hK => ?_) AllReadyH.nil
              go_simp
              refine hK.out _ _ trivial (fun hHeld => ?_)
              clear hK K
              try simp only [Act.put, List.setIfInBounds_toArray, List.set_cons_zero, List.set_cons_succ]
              refine wpAnyH_take (i := 13) (oi := { dst := some 53, op := .indexAddr 23 (.tmp 40) (.tmp 44), type := _, pos := _, after := _, guard := none }) (v := .pointer (some ⟨g, k1, none⟩)) rfl (by kernel_rfl) (by kernel_rfl) (by kernel_rfl) (fun _ _ _ h => h) (Or.inl ⟨by rfl, fun wh hSw => ?_⟩) hHeld ?_
              · go_simp
              try simp only [Act.put, List.setIfInBounds_toArray, List.set_cons_zero, List.set_cons_succ]
              refine wpAnyH_ready (rs := [14]) (by kernel_rfl) (by simp) ?_
              refine AllReadyH.cons (o := { dst := none, op := .store 3 (.tmp 53) (.tmp 52), type := _, pos := _, after := _, guard := none }) rfl (fun K hK => ?_) AllReadyH.nil
              go_simp
              refine hK.out _ _ trivial (fun hHeld => ?_)
              clear hK K
              try simp only [Act.put]
              refine wpAnyH_done (by kernel_rfl) ?_ _
              go_wp2_with fail
              go_ret
              exact DrewL.of HZ2.out (by rw [List.length_set]; have := HM.out; omega) (by rw [List.length_set]; exact HM.out)
            · have HZ2 := Lib.hid (HX3.out.set hk1 y0)
              refine wpAnyH_take (i := 11) (oi := { dst := some 51, op := .indexAddr 23 (.tmp 48) (.tmp 50), type := _, pos := _, after := _, guard := none }) (v := .pointer (some ⟨X1.heap.size, 2, none⟩)) rfl (by kernel_rfl) (by kernel_rfl) (by kernel_rfl) (fun _ _ _ h => h) (Or.inl ⟨by rfl, fun wh hSw => ?_⟩) hHeld ?_
              · go_simp
              try simp only [Act.put, List.setIfInBounds_toArray, List.set_cons_zero, List.set_cons_succ]
              refine wpAnyH_ready (rs := [12]) (by kernel_rfl) (by simp) ?_
              refine AllReadyH.cons (o := { dst := some 52, op := .load 3 (.tmp 51), type := _, pos := _, after := _, guard := none }) rfl (fun K hK => ?_) AllReadyH.nil
              go_simp
              refine hK.out _ _ trivial (fun hHeld => ?_)
              clear hK K
              try simp only [Act.put, List.setIfInBounds_toArray, List.set_cons_zero, List.set_cons_succ]
              refine wpAnyH_take (i := 13) (oi := { dst := some 53, op := .indexAddr 23 (.tmp 40) (.tmp 44), type := _, pos := _, after := _, guard := none }) (v := .pointer (some ⟨g, k1, none⟩)) rfl (by kernel_rfl) (by kernel_rfl) (by kernel_rfl) (fun _ _ _ h => h) (Or.inl ⟨by rfl, fun wh hSw => ?_⟩) hHeld ?_
              · go_simp
              try simp only [Act.put, List.setIfInBounds_toArray, List.set_cons_zero, List.set_cons_succ]
              refine wpAnyH_ready (rs := [14]) (by kernel_rfl) (by simp) ?_
              refine AllReadyH.cons (o := { dst := none, op := .store 3 (.tmp 53) (.tmp 52), type := _, pos := _, after := _, guard := none }) rfl (fun K hK => ?_) AllReadyH.nil
              go_simp
              refine hK.out _ _ trivial (fun hHeld => ?_)
              clear hK K
              try simp only [Act.put]
              refine wpAnyH_done (by kernel_rfl) ?_ _
              go_wp2_with fail
              go_ret
              exact DrewL.of HZ2.out (by rw [List.length_set]; have := HM.out; omega) (by rw [List.length_set]; exact HM.out)
          · go_simp
            refine (pick_any W _ _ _ _ HX1.out.rdr (by omega) (by omega)).mono ?_
            rintro e X2 ⟨q2, hq20, hq21, rfl, hRX2, hOX2⟩
            have HX2 := Lib.hid (HX1.out.only hRX2 hOX2)
            clear hRX2 hOX2
            try go_simp
            refine hK.out _ _ trivial (fun hHeld => ?_)
            clear hK K
            try simp only [Act.put, List.setIfInBounds_toArray, List.set_cons_zero, List.set_cons_succ]
            refine wpAnyH_ready (rs := [8]) (by kernel_rfl) (by simp) ?_
            refine AllReadyH.cons (o := { dst := some 48, op := .buildSlice 23 3 #[(0, .const (.int .i64 (-1))), (1, .const (.int .i64 12)), (2, .tmp 47)], type := _, pos := _, after := _, guard := none }) rfl (fun K hK => ?_) AllReadyH.nil
            go_simp
            refine hK.out _ _ trivial (fun hHeld => ?_)
            clear hK K
            try simp only [Act.put, List.setIfInBounds_toArray, List.set_cons_zero, List.set_cons_succ]
            refine anyH_gen _ (fun X3 hX3 => ?_)
            have HX3 := Lib.hid (show OwnL W _ g c ys X3 by rw [hX3]; exact HX2.out.alloc _)
            have HBK := Lib.hid (show W.heap.size < X2.heap.size by have := HX2.out.gB; have := HX2.out.lt; omega)
            have HC := Lib.hid (show X3.cell? ⟨X2.heap.size, 0, none⟩ = some (.int .i64 (-1)) ∧ X3.cell? ⟨X2.heap.size, 1, none⟩ = some (.int .i64 12) ∧ X3.cell? ⟨X2.heap.size, 2, none⟩ = some (.int .i64 y0) by rw [hX3]; exact ⟨new_cell rfl, new_cell rfl, new_cell rfl⟩)
            clear hX3
            obtain ⟨k1, rfl⟩ := Int.eq_ofNat_of_zero_le hq10
            have hk1 : k1 < ys.length := by have := HM.out; omega
            have hk1m : (k1 : Int) < 1 := by omega
            obtain ⟨ck, fk⟩ := HX3.out.cells k1 hk1
            obtain ⟨l0, l1, l2⟩ := HC.out
            have hq : q2 = 0 ∨ q2 = 1 ∨ q2 = 2 := by omega
            clear hq20 hq21 hq10 hq11
            rcases hq with rfl | rfl | rfl
            · have HZ2 := Lib.hid (HX3.out.set hk1 (-1))
              refine wpAnyH_take (i := 11) (oi := { dst := some 51, op := .indexAddr 23 (.tmp 48) (.tmp 50), type := _, pos := _, after := _, guard := none }) (v := .pointer (some ⟨X2.heap.size, 0, none⟩)) rfl (by kernel_rfl) (by kernel_rfl) (by kernel_rfl) (fun _ _ _ h => h) (Or.inl ⟨by rfl, fun wh hSw => ?_⟩) hHeld ?_
              · go_simp
              try simp only [Act.put, List.setIfInBounds_toArray, List.set_cons_zero, List.set_cons_succ]
              refine wpAnyH_ready (rs := [12]) (by kernel_rfl) (by simp) ?_
              refine AllReadyH.cons (o := { dst := some 52, op := .load 3 (.tmp 51), type := _, pos := _, after := _, guard := none }) rfl (fun K hK => ?_) AllReadyH.nil
              go_simp
              refine hK.out _ _ trivial (fun hHeld => ?_)
              clear hK K
              try simp only [Act.put, List.setIfInBounds_toArray, List.set_cons_zero, List.set_cons_succ]
              refine wpAnyH_take (i := 13) (oi := { dst := some 53, op := .indexAddr 23 (.tmp 40) (.tmp 44), type := _, pos := _, after := _, guard := none }) (v := .pointer (some ⟨g, k1, none⟩)) rfl (by kernel_rfl) (by kernel_rfl) (by kernel_rfl) (fun _ _ _ h => h) (Or.inl ⟨by rfl, fun wh hSw => ?_⟩) hHeld ?_
              · go_simp
              try simp only [Act.put, List.setIfInBounds_toArray, List.set_cons_zero, List.set_cons_succ]
              refine wpAnyH_ready (rs := [14]) (by kernel_rfl) (by simp) ?_
              refine AllReadyH.cons (o := { dst := none, op := .store 3 (.tmp 53) (.tmp 52), type := _, pos := _, after := _, guard := none }) rfl (fun K hK => ?_) AllReadyH.nil
              go_simp
              refine hK.out _ _ trivial (fun hHeld => ?_)
              clear hK K
              try simp only [Act.put]
              refine wpAnyH_done (by kernel_rfl) ?_ _
              go_wp2_with fail
              go_ret
              exact DrewL.of HZ2.out (by rw [List.length_set]; have := HM.out; omega) (by rw [List.length_set]; exact HM.out)
            · have HZ2 := Lib.hid (HX3.out.set hk1 12)
              refine wpAnyH_take (i := 11) (oi := { dst := some 51, op := .indexAddr 23 (.tmp 48) (.tmp 50), type := _, pos := _, after := _, guard := none }) (v := .pointer (some ⟨X2.heap.size, 1, none⟩)) rfl (by kernel_rfl) (by kernel_rfl) (by kernel_rfl) (fun _ _ _ h => h) (Or.inl ⟨by rfl, fun wh hSw => ?_⟩) hHeld ?_
              · go_simp
              try simp only [Act.put, List.setIfInBounds_toArray, List.set_cons_zero, List.set_cons_succ]
              refine wpAnyH_ready (rs := [12]) (by kernel_rfl) (by simp) ?_
              refine AllReadyH.cons (o := { dst := some 52, op := .load 3 (.tmp 51), type := _, pos := _, after := _, guard := none }) rfl (fun K hK => ?_) AllReadyH.nil
              go_simp
              refine hK.out _ _ trivial (fun hHeld => ?_)
              clear hK K
              try simp only [Act.put, List.setIfInBounds_toArray, List.set_cons_zero, List.set_cons_succ]
              refine wpAnyH_take (i := 13) (oi := { dst := some 53, op := .indexAddr 23 (.tmp 40) (.tmp 44), type := _, pos := _, after := _, guard := none }) (v := .pointer (some ⟨g, k1, none⟩)) rfl (by kernel_rfl) (by kernel_rfl) (by kernel_rfl) (fun _ _ _ h => h) (Or.inl ⟨by rfl, fun wh hSw => ?_⟩) hHeld ?_
              · go_simp
              try simp only [Act.put, List.setIfInBounds_toArray, List.set_cons_zero, List.set_cons_succ]
              refine wpAnyH_ready (rs := [14]) (by kernel_rfl) (by simp) ?_
              refine AllReadyH.cons (o := { dst := none, op := .store 3 (.tmp 53) (.tmp 52), type := _, pos := _, after := _, guard := none }) rfl (fun K hK => ?_) AllReadyH.nil
              go_simp
              refine hK.out _ _ trivial (fun hHeld => ?_)
              clear hK K
              try simp only [Act.put]
              refine wpAnyH_done (by kernel_rfl) ?_ _
              go_wp2_with fail
              go_ret
              exact DrewL.of HZ2.out (by rw [List.length_set]; have := HM.out; omega) (by rw [List.length_set]; exact HM.out)
            · have HZ2 := Lib.hid (HX3.out.set hk1 y0)
              refine wpAnyH_take (i := 11) (oi := { dst := some 51, op := .indexAddr 23 (.tmp 48) (.tmp 50), type := _, pos := _, after := _, guard := none }) (v := .pointer (some ⟨X2.heap.size, 2, none⟩)) rfl (by kernel_rfl) (by kernel_rfl) (by kernel_rfl) (fun _ _ _ h => h) (Or.inl ⟨by rfl, fun wh hSw => ?_⟩) hHeld ?_
              · go_simp
              try simp only [Act.put, List.setIfInBounds_toArray, List.set_cons_zero, List.set_cons_succ]
              refine wpAnyH_ready (rs := [12]) (by kernel_rfl) (by simp) ?_
              refine AllReadyH.cons (o := { dst := some 52, op := .load 3 (.tmp 51), type := _, pos := _, after := _, guard := none }) rfl (fun K hK => ?_) AllReadyH.nil
              go_simp
              refine hK.out _ _ trivial (fun hHeld => ?_)
              clear hK K
              try simp only [Act.put, List.setIfInBounds_toArray, List.set_cons_zero, List.set_cons_succ]
              refine wpAnyH_take (i := 13) (oi := { dst := some 53, op := .indexAddr 23 (.tmp 40) (.tmp 44), type := _, pos := _, after := _, guard := none }) (v := .pointer (some ⟨g, k1, none⟩)) rfl (by kernel_rfl) (by kernel_rfl) (by kernel_rfl) (fun _ _ _ h => h) (Or.inl ⟨by rfl, fun wh hSw => ?_⟩) hHeld ?_
              · go_simp
              try simp only [Act.put, List.setIfInBounds_toArray, List.set_cons_zero, List.set_cons_succ]
              refine wpAnyH_ready (rs := [14]) (by kernel_rfl) (by simp) ?_
              refine AllReadyH.cons (o := { dst := none, op := .store 3 (.tmp 53) (.tmp 52), type := _, pos := _, after := _, guard := none }) rfl (fun K hK => ?_) AllReadyH.nil
              go_simp
              refine hK.out _ _ trivial (fun hHeld => ?_)
              clear hK K
              try simp only [Act.put]
              refine wpAnyH_done (by kernel_rfl) ?_ _
              go_wp2_with fail
              go_ret
              exact DrewL.of HZ2.out (by rw [List.length_set]; have := HM.out; omega) (by rw [List.length_set]; exact HM.out)
        · go_simp
          refine (pick_any W _ _ _ _ HX1.out.rdr (by omega) (by omega)).mono ?_
          rintro e X2 ⟨q2, hq20, hq21, rfl, hRX2, hOX2⟩
          have HX2 := Lib.hid (HX1.out.only hRX2 hOX2)
          clear hRX2 hOX2
          try go_simp
          refine hK.out _ _ trivial (fun hHeld => ?_)
          clear hK K
          try simp only [Act.put, List.setIfInBounds_toArray, List.set_cons_zero, List.set_cons_succ]
          refine wpAnyH_ready (rs := [7]) (by kernel_rfl) (by simp) ?_
          refine AllReadyH.cons (o := { dst := some 47, op := .load 3 (.tmp 46), type := _, pos := _, after := _, guard := none }) rfl (fun K hK => ?_) AllReadyH.nil
          have cy0 := (HX2.out.cells 0 (by have := HM.out; omega)).1
          rw [← HY0.out] at cy0
          go_simp
          clear cy0
          refine hK.out _ _ trivial (fun hHeld => ?_)
          clear hK K
          try simp only [Act.put, List.setIfInBounds_toArray, List.set_cons_zero, List.set_cons_succ]
          refine wpAnyH_ready (rs := [8]) (by kernel_rfl) (by simp) ?_
          refine AllReadyH.cons (o := { dst := some 48, op := .buildSlice 23 3 #[(0, .const (.int .i64 (-1))), (1, .const (.int .i64 12)), (2, .tmp 47)], type := _, pos := _, after := _, guard := none }) rfl (fun K hK => ?_) AllReadyH.nil
          go_simp
          refine hK.out _ _ trivial (fun hHeld => ?_)
          clear hK K
          try simp only [Act.put, List.setIfInBounds_toArray, List.set_cons_zero, List.set_cons_succ]
          refine anyH_gen _ (fun X3 hX3 => ?_)
          have HX3 := Lib.hid (show OwnL W _ g c ys X3 by rw [hX3]; exact HX2.out.alloc _)
          have HBK := Lib.hid (show W.heap.size < X2.heap.size by have := HX2.out.gB; have := HX2.out.lt; omega)
          have HC := Lib.hid (show X3.cell? ⟨X2.heap.size, 0, none⟩ = some (.int .i64 (-1)) ∧ X3.cell? ⟨X2.heap.size, 1, none⟩ = some (.int .i64 12) ∧ X3.cell? ⟨X2.heap.size, 2, none⟩ = some (.int .i64 y0) by rw [hX3]; exact ⟨new_cell rfl, new_cell rfl, new_cell rfl⟩)
          clear hX3
          obtain ⟨k1, rfl⟩ := Int.eq_ofNat_of_zero_le hq10
          have hk1 : k1 < ys.length := by have := HM.out; omega
          have hk1m : (k1 : Int) < 1 := by omega
          obtain ⟨ck, fk⟩ := HX3.out.cells k1 hk1
          obtain ⟨l0, l1, l2⟩ := HC.out
          have hq : q2 = 0 ∨ q2 = 1 ∨ q2 = 2 := by omega
          clear hq20 hq21 hq10 hq11
          rcases hq with rfl | rfl | rfl
          · have HZ2 := Lib.hid (HX3.out.set hk1 (-1))
            refine wpAnyH_take (i := 11) (oi := { dst := some 51, op := .indexAddr 23 (.tmp 48) (.tmp 50), type := _, pos := _, after := _, guard := none }) (v := .pointer (some ⟨X2.heap.size, 0, none⟩)) rfl (by kernel_rfl) (by kernel_rfl) (by kernel_rfl) (fun _ _ _ h => h) (Or.inl ⟨by rfl, fun wh hSw => ?_⟩) hHeld ?_
            · go_simp
            try simp only [Act.put, List.setIfInBounds_toArray, List.set_cons_zero, List.set_cons_succ]
            refine wpAnyH_ready (rs := [12]) (by kernel_rfl) (by simp) ?_
            refine AllReadyH.cons (o := { dst := some 52, op := .load 3 (.tmp 51), type := _, pos := _, after := _, guard := none }) rfl (fun K hK => ?_) AllReadyH.nil
            go_simp
            refine hK.out _ _ trivial (fun hHeld => ?_)
            clear hK K
            try simp only [Act.put, List.setIfInBounds_toArray, List.set_cons_zero, List.set_cons_succ]
            refine wpAnyH_take (i := 13) (oi := { dst := some 53, op := .indexAddr 23 (.tmp 40) (.tmp 44), type := _, pos := _, after := _, guard := none }) (v := .pointer (some ⟨g, k1, none⟩)) rfl (by kernel_rfl) (by kernel_rfl) (by kernel_rfl) (fun _ _ _ h => h) (Or.inl ⟨by rfl, fun wh hSw => ?_⟩) hHeld ?_
            · go_simp
            try simp only [Act.put, List.setIfInBounds_toArray, List.set_cons_zero, List.set_cons_succ]
            refine wpAnyH_ready (rs := [14]) (by kernel_rfl) (by simp) ?_
            refine AllReadyH.cons (o := { dst := none, op := .store 3 (.tmp 53) (.tmp 52), type := _, pos := _, after := _, guard := none }) rfl (fun K hK => ?_) AllReadyH.nil
            go_simp
            refine hK.out _ _ trivial (fun hHeld => ?_)
            clear hK K
            try simp only [Act.put]
            refine wpAnyH_done (by kernel_rfl) ?_ _
            go_wp2_with fail
            go_ret
            exact DrewL.of HZ2.out (by rw [List.length_set]; have := HM.out; omega) (by rw [List.length_set]; exact HM.out)
          · have HZ2 := Lib.hid (HX3.out.set hk1 12)
            refine wpAnyH_take (i := 11) (oi := { dst := some 51, op := .indexAddr 23 (.tmp 48) (.tmp 50), type := _, pos := _, after := _, guard := none }) (v := .pointer (some ⟨X2.heap.size, 1, none⟩)) rfl (by kernel_rfl) (by kernel_rfl) (by kernel_rfl) (fun _ _ _ h => h) (Or.inl ⟨by rfl, fun wh hSw => ?_⟩) hHeld ?_
            · go_simp
            try simp only [Act.put, List.setIfInBounds_toArray, List.set_cons_zero, List.set_cons_succ]
            refine wpAnyH_ready (rs := [12]) (by kernel_rfl) (by simp) ?_
            refine AllReadyH.cons (o := { dst := some 52, op := .load 3 (.tmp 51), type := _, pos := _, after := _, guard := none }) rfl (fun K hK => ?_) AllReadyH.nil
            go_simp
            refine hK.out _ _ trivial (fun hHeld => ?_)
            clear hK K
            try simp only [Act.put, List.setIfInBounds_toArray, List.set_cons_zero, List.set_cons_succ]
            refine wpAnyH_take (i := 13) (oi := { dst := some 53, op := .indexAddr 23 (.tmp 40) (.tmp 44), type := _, pos := _, after := _, guard := none }) (v := .pointer (some ⟨g, k1, none⟩)) rfl (by kernel_rfl) (by kernel_rfl) (by kernel_rfl) (fun _ _ _ h => h) (Or.inl ⟨by rfl, fun wh hSw => ?_⟩) hHeld ?_
            · go_simp
            try simp only [Act.put, List.setIfInBounds_toArray, List.set_cons_zero, List.set_cons_succ]
            refine wpAnyH_ready (rs := [14]) (by kernel_rfl) (by simp) ?_
            refine AllReadyH.cons (o := { dst := none, op := .store 3 (.tmp 53) (.tmp 52), type := _, pos := _, after := _, guard := none }) rfl (fun K hK => ?_) AllReadyH.nil
            go_simp
            refine hK.out _ _ trivial (fun hHeld => ?_)
            clear hK K
            try simp only [Act.put]
            refine wpAnyH_done (by kernel_rfl) ?_ _
            go_wp2_with fail
            go_ret
            exact DrewL.of HZ2.out (by rw [List.length_set]; have := HM.out; omega) (by rw [List.length_set]; exact HM.out)
          · have HZ2 := Lib.hid (HX3.out.set hk1 y0)
            refine wpAnyH_take (i := 11) (oi := { dst := some 51, op := .indexAddr 23 (.tmp 48) (.tmp 50), type := _, pos := _, after := _, guard := none }) (v := .pointer (some ⟨X2.heap.size, 2, none⟩)) rfl (by kernel_rfl) (by kernel_rfl) (by kernel_rfl) (fun _ _ _ h => h) (Or.inl ⟨by rfl, fun wh hSw => ?_⟩) hHeld ?_
            · go_simp
            try simp only [Act.put, List.setIfInBounds_toArray, List.set_cons_zero, List.set_cons_succ]
            refine wpAnyH_ready (rs := [12]) (by kernel_rfl) (by simp) ?_
            refine AllReadyH.cons (o := { dst := some 52, op := .load 3 (.tmp 51), type := _, pos := _, after := _, guard := none }) rfl (fun K hK => ?_) AllReadyH.nil
            go_simp
            refine hK.out _ _ trivial (fun hHeld => ?_)
            clear hK K
            try simp only [Act.put, List.setIfInBounds_toArray, List.set_cons_zero, List.set_cons_succ]
            refine wpAnyH_take (i := 13) (oi := { dst := some 53, op := .indexAddr 23 (.tmp 40) (.tmp 44), type := _, pos := _, after := _, guard := none }) (v := .pointer (some ⟨g, k1, none⟩)) rfl (by kernel_rfl) (by kernel_rfl) (by kernel_rfl) (fun _ _ _ h => h) (Or.inl ⟨by rfl, fun wh hSw => ?_⟩) hHeld ?_
            · go_simp
            try simp only [Act.put, List.setIfInBounds_toArray, List.set_cons_zero, List.set_cons_succ]
            refine wpAnyH_ready (rs := [14]) (by kernel_rfl) (by simp) ?_
            refine AllReadyH.cons (o := { dst := none, op := .store 3 (.tmp 53) (.tmp 52), type := _, pos := _, after := _, guard := none }) rfl (fun K hK => ?_) AllReadyH.nil
            go_simp
            refine hK.out _ _ trivial (fun hHeld => ?_)
            clear hK K
            try simp only [Act.put]
            refine wpAnyH_done (by kernel_rfl) ?_ _
            go_wp2_with fail
            go_ret
            exact DrewL.of HZ2.out (by rw [List.length_set]; have := HM.out; omega) (by rw [List.length_set]; exact HM.out)
      · have cy0 := (HX0.out.cells 0 (by have := HM.out; omega)).1
        rw [← HY0.out] at cy0
        go_simp
        clear cy0
        refine hK.out _ _ trivial (fun hHeld => ?_)
        clear hK K
        try simp only [Act.put, List.setIfInBounds_toArray, List.set_cons_zero, List.set_cons_succ]
        refine wpAnyH_ready (rs := [4, 8]) (by kernel_rfl) (by simp) ?_
        refine AllReadyH.cons (o := { dst := some 44, op := .call { callee := .value (.func 39), args := #[.tmp 41, .tmp 43], argTypes := #[40, 3] }, type := _, pos := _, after := _, guard := none }) rfl (fun K hK => ?_) (AllReadyH.cons (o := { dst := some 48, op := .buildSlice 23 3 #[(0, .const (.int .i64 (-1))), (1, .const (.int .i64 12)), (2, .tmp 47)], type := _, pos := _, after := _, guard := none }) rfl (fun K hK => ?_) AllReadyH.nil)
        · go_simp
          refine (pick_any W _ _ _ _ HX0.out.rdr (by omega) (by omega)).mono ?_
          rintro e X1 ⟨q1, hq10, hq11, rfl, hRX1, hOX1⟩
          have HX1 := Lib.hid (HX0.out.only hRX1 hOX1)
          clear hRX1 hOX1
          try go_simp
          refine hK.out _ _ trivial (fun hHeld => ?_)
          clear hK K
          try simp only [Act.put, List.setIfInBounds_toArray, List.set_cons_zero, List.set_cons_succ]
          refine wpAnyH_ready (rs := [8, 10]) (by kernel_rfl) (by simp) ?_
          refine AllReadyH.cons (o := { dst := some 48, op := .buildSlice 23 3 #[(0, .const (.int .i64 (-1))), (1, .const (.int .i64 12)), (2, .tmp 47)], type := _, pos := _, after := _, guard := none }) rfl (fun K hK => ?_) (AllReadyH.cons (o := { dst := some 50, op := .call { callee := .value (.func 39), args := #[.tmp 49, .const (.int .i64 3)], argTypes := #[40, 3] }, type := _, pos := _, after := _, guard := none }) rfl (fun K hK => ?_) AllReadyH.nil)
          · go_simp
            refine hK.out _ _ trivial (fun hHeld => ?_)
            clear hK K
            try simp only [Act.put, List.setIfInBounds_toArray, List.set_cons_zero, List.set_cons_succ]
            refine anyH_gen _ (fun X2 hX2 => ?_)
            have HX2 := Lib.hid (show OwnL W _ g c ys X2 by rw [hX2]; exact HX1.out.alloc _)
            have HBK := Lib.hid (show W.heap.size < X1.heap.size by have := HX1.out.gB; have := HX1.out.lt; omega)
            have HC := Lib.hid (show X2.cell? ⟨X1.heap.size, 0, none⟩ = some (.int .i64 (-1)) ∧ X2.cell? ⟨X1.heap.size, 1, none⟩ = some (.int .i64 12) ∧ X2.cell? ⟨X1.heap.size, 2, none⟩ = some (.int .i64 y0) by rw [hX2]; exact ⟨new_cell rfl, new_cell rfl, new_cell rfl⟩)
            clear hX2
            refine wpAnyH_ready (rs := [10]) (by kernel_rfl) (by simp) ?_
            refine AllReadyH.cons (o := { dst := some 50, op := .call { callee := .value (.func 39), args := #[.tmp 49, .const (.int .i64 3)], argTypes := #[40, 3] }, type := _, pos := _, after := _, guard := none }) rfl (fun K hK => ?_) AllReadyH.nil
            go_simp
            refine (pick_any W _ _ _ _ HX2.out.rdr (by omega) (by omega)).mono ?_
            rintro e X3 ⟨q2, hq20, hq21, rfl, hRX3, hOX3⟩
            have HX3 := Lib.hid (HX2.out.only hRX3 hOX3)
            have HC3 := Lib.hid (And.intro ((hOX3.cell (b := X1.heap.size) (o := 0) (by have := HBK.out; omega)).trans HC.out.1) (And.intro ((hOX3.cell (b := X1.heap.size) (o := 1) (by have := HBK.out; omega)).trans HC.out.2.1) ((hOX3.cell (b := X1.heap.size) (o := 2) (by have := HBK.out; omega)).trans HC.out.2.2)))
            clear HC
            have HC := HC3
            clear HC3
            clear hRX3 hOX3
            try go_simp
            refine hK.out _ _ trivial (fun hHeld => ?_)
            clear hK K
            try simp only [Act.put, List.setIfInBounds_toArray, List.set_cons_zero, List.set_cons_succ]
            obtain ⟨k1, rfl⟩ := Int.eq_ofNat_of_zero_le hq10
            have hk1 : k1 < ys.length := by have := HM.out; omega
            have hk1m : (k1 : Int) < 1 := by omega
            obtain ⟨ck, fk⟩ := HX3.out.cells k1 hk1
            obtain ⟨l0, l1, l2⟩ := HC.out
            have hq : q2 = 0 ∨ q2 = 1 ∨ q2 = 2 := by omega
            clear hq20 hq21 hq10 hq11
            rcases hq with rfl | rfl | rfl
            · have HZ2 := Lib.hid (HX3.out.set hk1 (-1))
              refine wpAnyH_take (i := 11) (oi := { dst := some 51, op := .indexAddr 23 (.tmp 48) (.tmp 50), type := _, pos := _, after := _, guard := none }) (v := .pointer (some ⟨X1.heap.size, 0, none⟩)) rfl (by kernel_rfl) (by kernel_rfl) (by kernel_rfl) (fun _ _ _ h => h) (Or.inl ⟨by rfl, fun wh hSw => ?_⟩) hHeld ?_
              · go_simp
              try simp only [Act.put, List.setIfInBounds_toArray, List.set_cons_zero, List.set_cons_succ]
              refine wpAnyH_ready (rs := [12]) (by kernel_rfl) (by simp) ?_
              refine AllReadyH.cons (o := { dst := some 52, op := .load 3 (.tmp 51), type := _, pos := _, after := _, guard := none }) rfl (fun K hK => ?_) AllReadyH.nil
              go_simp
              refine hK.out _ _ trivial (fun hHeld => ?_)
              clear hK K
              try simp only [Act.put, List.setIfInBounds_toArray, List.set_cons_zero, List.set_cons_succ]
              refine wpAnyH_take (i := 13) (oi := { dst := some 53, op := .indexAddr 23 (.tmp 40) (.tmp 44), type := _, pos := _, after := _, guard := none }) (v := .pointer (some ⟨g, k1, none⟩)) rfl (by kernel_rfl) (by kernel_rfl) (by kernel_rfl) (fun _ _ _ h => h) (Or.inl ⟨by rfl, fun wh hSw => ?_⟩) hHeld ?_
              · go_simp
              try simp only [Act.put, List.setIfInBounds_toArray, List.set_cons_zero, List.set_cons_succ]
              refine wpAnyH_ready (rs := [14]) (by kernel_rfl) (by simp) ?_
              refine AllReadyH.cons (o := { dst := none, op := .store 3 (.tmp 53) (.tmp 52), type := _, pos := _, after := _, guard := none }) rfl (fun K hK => ?_) AllReadyH.nil
              go_simp
              refine hK.out _ _ trivial (fun hHeld => ?_)
              clear hK K
              try simp only [Act.put]
              refine wpAnyH_done (by kernel_rfl) ?_ _
              go_wp2_with fail
              go_ret
              exact DrewL.of HZ2.out (by rw [List.length_set]; have := HM.out; omega) (by rw [List.length_set]; exact HM.out)
            · have HZ2 := Lib.hid (HX3.out.set hk1 12)
              refine wpAnyH_take (i := 11) (oi := { dst := some 51, op := .indexAddr 23 (.tmp 48) (.tmp 50), type := _, pos := _, after := _, guard := none }) (v := .pointer (some ⟨X1.heap.size, 1, none⟩)) rfl (by kernel_rfl) (by kernel_rfl) (by kernel_rfl) (fun _ _ _ h => h) (Or.inl ⟨by rfl, fun wh hSw => ?_⟩) hHeld ?_
              · go_simp
              try simp only [Act.put, List.setIfInBounds_toArray, List.set_cons_zero, List.set_cons_succ]
              refine wpAnyH_ready (rs := [12]) (by kernel_rfl) (by simp) ?_
              refine AllReadyH.cons (o := { dst := some 52, op := .load 3 (.tmp 51), type := _, pos := _, after := _, guard := none }) rfl (fun K hK => ?_) AllReadyH.nil
              go_simp
              refine hK.out _ _ trivial (fun hHeld => ?_)
              clear hK K
              try simp only [Act.put, List.setIfInBounds_toArray, List.set_cons_zero, List.set_cons_succ]
              refine wpAnyH_take (i := 13) (oi := { dst := some 53, op := .indexAddr 23 (.tmp 40) (.tmp 44), type := _, pos := _, after := _, guard := none }) (v := .pointer (some ⟨g, k1, none⟩)) rfl (by kernel_rfl) (by kernel_rfl) (by kernel_rfl) (fun _ _ _ h => h) (Or.inl ⟨by rfl, fun wh hSw => ?_⟩) hHeld ?_
              · go_simp
              try simp only [Act.put, List.setIfInBounds_toArray, List.set_cons_zero, List.set_cons_succ]
              refine wpAnyH_ready (rs := [14]) (by kernel_rfl) (by simp) ?_
              refine AllReadyH.cons (o := { dst := none, op := .store 3 (.tmp 53) (.tmp 52), type := _, pos := _, after := _, guard := none }) rfl (fun K hK => ?_) AllReadyH.nil
              go_simp
              refine hK.out _ _ trivial (fun hHeld => ?_)
              clear hK K
              try simp only [Act.put]
              refine wpAnyH_done (by kernel_rfl) ?_ _
              go_wp2_with fail
              go_ret
              exact DrewL.of HZ2.out (by rw [List.length_set]; have := HM.out; omega) (by rw [List.length_set]; exact HM.out)
            · have HZ2 := Lib.hid (HX3.out.set hk1 y0)
              refine wpAnyH_take (i := 11) (oi := { dst := some 51, op := .indexAddr 23 (.tmp 48) (.tmp 50), type := _, pos := _, after := _, guard := none }) (v := .pointer (some ⟨X1.heap.size, 2, none⟩)) rfl (by kernel_rfl) (by kernel_rfl) (by kernel_rfl) (fun _ _ _ h => h) (Or.inl ⟨by rfl, fun wh hSw => ?_⟩) hHeld ?_
              · go_simp
              try simp only [Act.put, List.setIfInBounds_toArray, List.set_cons_zero, List.set_cons_succ]
              refine wpAnyH_ready (rs := [12]) (by kernel_rfl) (by simp) ?_
              refine AllReadyH.cons (o := { dst := some 52, op := .load 3 (.tmp 51), type := _, pos := _, after := _, guard := none }) rfl (fun K hK => ?_) AllReadyH.nil
              go_simp
              refine hK.out _ _ trivial (fun hHeld => ?_)
              clear hK K
              try simp only [Act.put, List.setIfInBounds_toArray, List.set_cons_zero, List.set_cons_succ]
              refine wpAnyH_take (i := 13) (oi := { dst := some 53, op := .indexAddr 23 (.tmp 40) (.tmp 44), type := _, pos := _, after := _, guard := none }) (v := .pointer (some ⟨g, k1, none⟩)) rfl (by kernel_rfl) (by kernel_rfl) (by kernel_rfl) (fun _ _ _ h => h) (Or.inl ⟨by rfl, fun wh hSw => ?_⟩) hHeld ?_
              · go_simp
              try simp only [Act.put, List.setIfInBounds_toArray, List.set_cons_zero, List.set_cons_succ]
              refine wpAnyH_ready (rs := [14]) (by kernel_rfl) (by simp) ?_
              refine AllReadyH.cons (o := { dst := none, op := .store 3 (.tmp 53) (.tmp 52), type := _, pos := _, after := _, guard := none }) rfl (fun K hK => ?_) AllReadyH.nil
              go_simp
              refine hK.out _ _ trivial (fun hHeld => ?_)
              clear hK K
              try simp only [Act.put]
              refine wpAnyH_done (by kernel_rfl) ?_ _
              go_wp2_with fail
              go_ret
              exact DrewL.of HZ2.out (by rw [List.length_set]; have := HM.out; omega) (by rw [List.length_set]; exact HM.out)
          · go_simp
            refine (pick_any W _ _ _ _ HX1.out.rdr (by omega) (by omega)).mono ?_
            rintro e X2 ⟨q2, hq20, hq21, rfl, hRX2, hOX2⟩
            have HX2 := Lib.hid (HX1.out.only hRX2 hOX2)
            clear hRX2 hOX2
            try go_simp
            refine hK.out _ _ trivial (fun hHeld => ?_)
            clear hK K
            try simp only [Act.put, List.setIfInBounds_toArray, List.set_cons_zero, List.set_cons_succ]
            refine wpAnyH_ready (rs := [8]) (by kernel_rfl) (by simp) ?_
            refine AllReadyH.cons (o := { dst := some 48, op := .buildSlice 23 3 #[(0, .const (.int .i64 (-1))), (1, .const (.int .i64 12)), (2, .tmp 47)], type := _, pos := _, after := _, guard := none }) rfl (fun K hK => ?_) AllReadyH.nil
            go_simp
            refine hK.out _ _ trivial (fun hHeld => ?_)
            clear hK K
            try simp only [Act.put, List.setIfInBounds_toArray, List.set_cons_zero, List.set_cons_succ]
            refine anyH_gen _ (fun X3 hX3 => ?_)
            have HX3 := Lib.hid (show OwnL W _ g c ys X3 by rw [hX3]; exact HX2.out.alloc _)
            have HBK := Lib.hid (show W.heap.size < X2.heap.size by have := HX2.out.gB; have := HX2.out.lt; omega)
            have HC := Lib.hid (show X3.cell? ⟨X2.heap.size, 0, none⟩ = some (.int .i64 (-1)) ∧ X3.cell? ⟨X2.heap.size, 1, none⟩ = some (.int .i64 12) ∧ X3.cell? ⟨X2.heap.size, 2, none⟩ = some (.int .i64 y0) by rw [hX3]; exact ⟨new_cell rfl, new_cell rfl, new_cell rfl⟩)
            clear hX3
            obtain ⟨k1, rfl⟩ := Int.eq_ofNat_of_zero_le hq10
            have hk1 : k1 < ys.length := by have := HM.out; omega
            have hk1m : (k1 : Int) < 1 := by omega
            obtain ⟨ck, fk⟩ := HX3.out.cells k1 hk1
            obtain ⟨l0, l1, l2⟩ := HC.out
            have hq : q2 = 0 ∨ q2 = 1 ∨ q2 = 2 := by omega
            clear hq20 hq21 hq10 hq11
            rcases hq with rfl | rfl | rfl
            · have HZ2 := Lib.hid (HX3.out.set hk1 (-1))
              refine wpAnyH_take (i := 11) (oi := { dst := some 51, op := .indexAddr 23 (.tmp 48) (.tmp 50), type := _, pos := _, after := _, guard := none }) (v := .pointer (some ⟨X2.heap.size, 0, none⟩)) rfl (by kernel_rfl) (by kernel_rfl) (by kernel_rfl) (fun _ _ _ h => h) (Or.inl ⟨by rfl, fun wh hSw => ?_⟩) hHeld ?_
              · go_simp
              try simp only [Act.put, List.setIfInBounds_toArray, List.set_cons_zero, List.set_cons_succ]
              refine wpAnyH_ready (rs := [12]) (by kernel_rfl) (by simp) ?_
              refine AllReadyH.cons (o := { dst := some 52, op := .load 3 (.tmp 51), type := _, pos := _, after := _, guard := none }) rfl (fun K hK => ?_) AllReadyH.nil
              go_simp
              refine hK.out _ _ trivial (fun hHeld => ?_)
              clear hK K
              try simp only [Act.put, List.setIfInBounds_toArray, List.set_cons_zero, List.set_cons_succ]
              refine wpAnyH_take (i := 13) (oi := { dst := some 53, op := .indexAddr 23 (.tmp 40) (.tmp 44), type := _, pos := _, after := _, guard := none }) (v := .pointer (some ⟨g, k1, none⟩)) rfl (by kernel_rfl) (by kernel_rfl) (by kernel_rfl) (fun _ _ _ h => h) (Or.inl ⟨by rfl, fun wh hSw => ?_⟩) hHeld ?_
              · go_simp
              try simp only [Act.put, List.setIfInBounds_toArray, List.set_cons_zero, List.set_cons_succ]
              refine wpAnyH_ready (rs := [14]) (by kernel_rfl) (by simp) ?_
              refine AllReadyH.cons (o := { dst := none, op := .store 3 (.tmp 53) (.tmp 52), type := _, pos := _, after := _, guard := none }) rfl (fun K hK => ?_) AllReadyH.nil
              go_simp
              refine hK.out _ _ trivial (fun hHeld => ?_)
              clear hK K
              try simp only [Act.put]
              refine wpAnyH_done (by kernel_rfl) ?_ _
              go_wp2_with fail
              go_ret
              exact DrewL.of HZ2.out (by rw [List.length_set]; have := HM.out; omega) (by rw [List.length_set]; exact HM.out)
            · have HZ2 := Lib.hid (HX3.out.set hk1 12)
              refine wpAnyH_take (i := 11) (oi := { dst := some 51, op := .indexAddr 23 (.tmp 48) (.tmp 50), type := _, pos := _, after := _, guard := none }) (v := .pointer (some ⟨X2.heap.size, 1, none⟩)) rfl (by kernel_rfl) (by kernel_rfl) (by kernel_rfl) (fun _ _ _ h => h) (Or.inl ⟨by rfl, fun wh hSw => ?_⟩) hHeld ?_
              · go_simp
              try simp only [Act.put, List.setIfInBounds_toArray, List.set_cons_zero, List.set_cons_succ]
              refine wpAnyH_ready (rs := [12]) (by kernel_rfl) (by simp) ?_
              refine AllReadyH.cons (o := { dst := some 52, op := .load 3 (.tmp 51), type := _, pos := _, after := _, guard := none }) rfl (fun K hK => ?_) AllReadyH.nil
              go_simp
              refine hK.out _ _ trivial (fun hHeld => ?_)
              clear hK K
              try simp only [Act.put, List.setIfInBounds_toArray, List.set_cons_zero, List.set_cons_succ]
              refine wpAnyH_take (i := 13) (oi := { dst := some 53, op := .indexAddr 23 (.tmp 40) (.tmp 44), type := _, pos := _, after := _, guard := none }) (v := .pointer (some ⟨g, k1, none⟩)) rfl (by kernel_rfl) (by kernel_rfl) (by kernel_rfl) (fun _ _ _ h => h) (Or.inl ⟨by rfl, fun wh hSw => ?_⟩) hHeld ?_
              · go_simp
              try simp only [Act.put, List.setIfInBounds_toArray, List.set_cons_zero, List.set_cons_succ]
              refine wpAnyH_ready (rs := [14]) (by kernel_rfl) (by simp) ?_
              refine AllReadyH.cons (o := { dst := none, op := .store 3 (.tmp 53) (.tmp 52), type := _, pos := _, after := _, guard := none }) rfl (fun K hK => ?_) AllReadyH.nil
              go_simp
              refine hK.out _ _ trivial (fun hHeld => ?_)
              clear hK K
              try simp only [Act.put]
              refine wpAnyH_done (by kernel_rfl) ?_ _
              go_wp2_with fail
              go_ret
              exact DrewL.of HZ2.out (by rw [List.length_set]; have := HM.out; omega) (by rw [List.length_set]; exact HM.out)
            · have HZ2 := Lib.hid (HX3.out.set hk1 y0)
              refine wpAnyH_take (i := 11) (oi := { dst := some 51, op := .indexAddr 23 (.tmp 48) (.tmp 50), type := _, pos := _, after := _, guard := none }) (v := .pointer (some ⟨X2.heap.size, 2, none⟩)) rfl (by kernel_rfl) (by kernel_rfl) (by kernel_rfl) (fun _ _ _ h => h) (Or.inl ⟨by rfl, fun wh hSw => ?_⟩) hHeld ?_
              · go_simp
              try simp only [Act.put, List.setIfInBounds_toArray, List.set_cons_zero, List.set_cons_succ]
              refine wpAnyH_ready (rs := [12]) (by kernel_rfl) (by simp) ?_
              refine AllReadyH.cons (o := { dst := some 52, op := .load 3 (.tmp 51), type := _, pos := _, after := _, guard := none }) rfl (fun K hK => ?_) AllReadyH.nil
              go_simp
              refine hK.out _ _ trivial (fun hHeld => ?_)
              clear hK K
              try simp only [Act.put, List.setIfInBounds_toArray, List.set_cons_zero, List.set_cons_succ]
              refine wpAnyH_take (i := 13) (oi := { dst := some 53, op := .indexAddr 23 (.tmp 40) (.tmp 44), type := _, pos := _, after := _, guard := none }) (v := .pointer (some ⟨g, k1, none⟩)) rfl (by kernel_rfl) (by kernel_rfl) (by kernel_rfl) (fun _ _ _ h => h) (Or.inl ⟨by rfl, fun wh hSw => ?_⟩) hHeld ?_
              · go_simp
              try simp only [Act.put, List.setIfInBounds_toArray, List.set_cons_zero, List.set_cons_succ]
              refine wpAnyH_ready (rs := [14]) (by kernel_rfl) (by simp) ?_
              refine AllReadyH.cons (o := { dst := none, op := .store 3 (.tmp 53) (.tmp 52), type := _, pos := _, after := _, guard := none }) rfl (fun K hK => ?_) AllReadyH.nil
              go_simp
              refine hK.out _ _ trivial (fun hHeld => ?_)
              clear hK K
              try simp only [Act.put]
              refine wpAnyH_done (by kernel_rfl) ?_ _
              go_wp2_with fail
              go_ret
              exact DrewL.of HZ2.out (by rw [List.length_set]; have := HM.out; omega) (by rw [List.length_set]; exact HM.out)
        · go_simp
          refine hK.out _ _ trivial (fun hHeld => ?_)
          clear hK K
          try simp only [Act.put, List.setIfInBounds_toArray, List.set_cons_zero, List.set_cons_succ]
          refine anyH_gen _ (fun X1 hX1 => ?_)
          have HX1 := Lib.hid (show OwnL W _ g c ys X1 by rw [hX1]; exact HX0.out.alloc _)
          have HBK := Lib.hid (show W.heap.size < X0.heap.size by have := HX0.out.gB; have := HX0.out.lt; omega)
          have HC := Lib.hid (show X1.cell? ⟨X0.heap.size, 0, none⟩ = some (.int .i64 (-1)) ∧ X1.cell? ⟨X0.heap.size, 1, none⟩ = some (.int .i64 12) ∧ X1.cell? ⟨X0.heap.size, 2, none⟩ = some (.int .i64 y0) by rw [hX1]; exact ⟨new_cell rfl, new_cell rfl, new_cell rfl⟩)
          clear hX1
          refine wpAnyH_ready (rs := [4]) (by kernel_rfl) (by simp) ?_
          refine AllReadyH.cons (o := { dst := some 44, op := .call { callee := .value (.func 39), args := #[.tmp 41, .tmp 43], argTypes := #[40, 3] }, type := _, pos := _, after := _, guard := none }) rfl (fun K hK => ?_) AllReadyH.nil
          go_simp
          refine (pick_any W _ _ _ _ HX1.out.rdr (by omega) (by omega)).mono ?_
          rintro e X2 ⟨q1, hq10, hq11, rfl, hRX2, hOX2⟩
          have HX2 := Lib.hid (HX1.out.only hRX2 hOX2)
          have HC3 := Lib.hid (And.intro ((hOX2.cell (b := X0.heap.size) (o := 0) (by have := HBK.out; omega)).trans HC.out.1) (And.intro ((hOX2.cell (b := X0.heap.size) (o := 1) (by have := HBK.out; omega)).trans HC.out.2.1) ((hOX2.cell (b := X0.heap.size) (o := 2) (by have := HBK.out; omega)).trans HC.out.2.2)))
          clear HC
          have HC := HC3
          clear HC3
          clear hRX2 hOX2
          try go_simp
          refine hK.out _ _ trivial (fun hHeld => ?_)
          clear hK K
          try simp only [Act.put, List.setIfInBounds_toArray, List.set_cons_zero, List.set_cons_succ]
          refine wpAnyH_ready (rs := [10]) (by kernel_rfl) (by simp) ?_
          refine AllReadyH.cons (o := { dst := some 50, op := .call { callee := .value (.func 39), args := #[.tmp 49, .const (.int .i64 3)], argTypes := #[40, 3] }, type := _, pos := _, after := _, guard := none }) rfl (fun K hK => ?_) AllReadyH.nil
          go_simp
          refine (pick_any W _ _ _ _ HX2.out.rdr (by omega) (by omega)).mono ?_
          rintro e X3 ⟨q2, hq20, hq21, rfl, hRX3, hOX3⟩
          have HX3 := Lib.hid (HX2.out.only hRX3 hOX3)
          have HC3 := Lib.hid (And.intro ((hOX3.cell (b := X0.heap.size) (o := 0) (by have := HBK.out; omega)).trans HC.out.1) (And.intro ((hOX3.cell (b := X0.heap.size) (o := 1) (by have := HBK.out; omega)).trans HC.out.2.1) ((hOX3.cell (b := X0.heap.size) (o := 2) (by have := HBK.out; omega)).trans HC.out.2.2)))
          clear HC
          have HC := HC3
          clear HC3
          clear hRX3 hOX3
          try go_simp
          refine hK.out _ _ trivial (fun hHeld => ?_)
          clear hK K
          try simp only [Act.put, List.setIfInBounds_toArray, List.set_cons_zero, List.set_cons_succ]
          obtain ⟨k1, rfl⟩ := Int.eq_ofNat_of_zero_le hq10
          have hk1 : k1 < ys.length := by have := HM.out; omega
          have hk1m : (k1 : Int) < 1 := by omega
          obtain ⟨ck, fk⟩ := HX3.out.cells k1 hk1
          obtain ⟨l0, l1, l2⟩ := HC.out
          have hq : q2 = 0 ∨ q2 = 1 ∨ q2 = 2 := by omega
          clear hq20 hq21 hq10 hq11
          rcases hq with rfl | rfl | rfl
          · have HZ2 := Lib.hid (HX3.out.set hk1 (-1))
            refine wpAnyH_take (i := 11) (oi := { dst := some 51, op := .indexAddr 23 (.tmp 48) (.tmp 50), type := _, pos := _, after := _, guard := none }) (v := .pointer (some ⟨X0.heap.size, 0, none⟩)) rfl (by kernel_rfl) (by kernel_rfl) (by kernel_rfl) (fun _ _ _ h => h) (Or.inl ⟨by rfl, fun wh hSw => ?_⟩) hHeld ?_
            · go_simp
            try simp only [Act.put, List.setIfInBounds_toArray, List.set_cons_zero, List.set_cons_succ]
            refine wpAnyH_ready (rs := [12]) (by kernel_rfl) (by simp) ?_
            refine AllReadyH.cons (o := { dst := some 52, op := .load 3 (.tmp 51), type := _, pos := _, after := _, guard := none }) rfl (fun K hK => ?_) AllReadyH.nil
            go_simp
            refine hK.out _ _ trivial (fun hHeld => ?_)
            clear hK K
            try simp only [Act.put, List.setIfInBounds_toArray, List.set_cons_zero, List.set_cons_succ]
            refine wpAnyH_take (i := 13) (oi := { dst := some 53, op := .indexAddr 23 (.tmp 40) (.tmp 44), type := _, pos := _, after := _, guard := none }) (v := .pointer (some ⟨g, k1, none⟩)) rfl (by kernel_rfl) (by kernel_rfl) (by kernel_rfl) (fun _ _ _ h => h) (Or.inl ⟨by rfl, fun wh hSw => ?_⟩) hHeld ?_
            · go_simp
            try simp only [Act.put, List.setIfInBounds_toArray, List.set_cons_zero, List.set_cons_succ]
            refine wpAnyH_ready (rs := [14]) (by kernel_rfl) (by simp) ?_
            refine AllReadyH.cons (o := { dst := none, op := .store 3 (.tmp 53) (.tmp 52), type := _, pos := _, after := _, guard := none }) rfl (fun K hK => ?_) AllReadyH.nil
            go_simp
            refine hK.out _ _ trivial (fun hHeld => ?_)
            clear hK K
            try simp only [Act.put]
            refine wpAnyH_done (by kernel_rfl) ?_ _
            go_wp2_with fail
            go_ret
            exact DrewL.of HZ2.out (by rw [List.length_set]; have := HM.out; omega) (by rw [List.length_set]; exact HM.out)
          · have HZ2 := Lib.hid (HX3.out.set hk1 12)
            refine wpAnyH_take (i := 11) (oi := { dst := some 51, op := .indexAddr 23 (.tmp 48) (.tmp 50), type := _, pos := _, after := _, guard := none }) (v := .pointer (some ⟨X0.heap.size, 1, none⟩)) rfl (by kernel_rfl) (by kernel_rfl) (by kernel_rfl) (fun _ _ _ h => h) (Or.inl ⟨by rfl, fun wh hSw => ?_⟩) hHeld ?_
            · go_simp
            try simp only [Act.put, List.setIfInBounds_toArray, List.set_cons_zero, List.set_cons_succ]
            refine wpAnyH_ready (rs := [12]) (by kernel_rfl) (by simp) ?_
            refine AllReadyH.cons (o := { dst := some 52, op := .load 3 (.tmp 51), type := _, pos := _, after := _, guard := none }) rfl (fun K hK => ?_) AllReadyH.nil
            go_simp
            refine hK.out _ _ trivial (fun hHeld => ?_)
            clear hK K
            try simp only [Act.put, List.setIfInBounds_toArray, List.set_cons_zero, List.set_cons_succ]
            refine wpAnyH_take (i := 13) (oi := { dst := some 53, op := .indexAddr 23 (.tmp 40) (.tmp 44), type := _, pos := _, after := _, guard := none }) (v := .pointer (some ⟨g, k1, none⟩)) rfl (by kernel_rfl) (by kernel_rfl) (by kernel_rfl) (fun _ _ _ h => h) (Or.inl ⟨by rfl, fun wh hSw => ?_⟩) hHeld ?_
            · go_simp
            try simp only [Act.put, List.setIfInBounds_toArray, List.set_cons_zero, List.set_cons_succ]
            refine wpAnyH_ready (rs := [14]) (by kernel_rfl) (by simp) ?_
            refine AllReadyH.cons (o := { dst := none, op := .store 3 (.tmp 53) (.tmp 52), type := _, pos := _, after := _, guard := none }) rfl (fun K hK => ?_) AllReadyH.nil
            go_simp
            refine hK.out _ _ trivial (fun hHeld => ?_)
            clear hK K
            try simp only [Act.put]
            refine wpAnyH_done (by kernel_rfl) ?_ _
            go_wp2_with fail
            go_ret
            exact DrewL.of HZ2.out (by rw [List.length_set]; have := HM.out; omega) (by rw [List.length_set]; exact HM.out)
          · have HZ2 := Lib.hid (HX3.out.set hk1 y0)
            refine wpAnyH_take (i := 11) (oi := { dst := some 51, op := .indexAddr 23 (.tmp 48) (.tmp 50), type := _, pos := _, after := _, guard := none }) (v := .pointer (some ⟨X0.heap.size, 2, none⟩)) rfl (by kernel_rfl) (by kernel_rfl) (by kernel_rfl) (fun _ _ _ h => h) (Or.inl ⟨by rfl, fun wh hSw => ?_⟩) hHeld ?_
            · go_simp
            try simp only [Act.put, List.setIfInBounds_toArray, List.set_cons_zero, List.set_cons_succ]
            refine wpAnyH_ready (rs := [12]) (by kernel_rfl) (by simp) ?_
            refine AllReadyH.cons (o := { dst := some 52, op := .load 3 (.tmp 51), type := _, pos := _, after := _, guard := none }) rfl (fun K hK => ?_) AllReadyH.nil
            go_simp
            refine hK.out _ _ trivial (fun hHeld => ?_)
            clear hK K
            try simp only [Act.put, List.setIfInBounds_toArray, List.set_cons_zero, List.set_cons_succ]
            refine wpAnyH_take (i := 13) (oi := { dst := some 53, op := .indexAddr 23 (.tmp 40) (.tmp 44), type := _, pos := _, after := _, guard := none }) (v := .pointer (some ⟨g, k1, none⟩)) rfl (by kernel_rfl) (by kernel_rfl) (by kernel_rfl) (fun _ _ _ h => h) (Or.inl ⟨by rfl, fun wh hSw => ?_⟩) hHeld ?_
            · go_simp
            try simp only [Act.put, List.setIfInBounds_toArray, List.set_cons_zero, List.set_cons_succ]
            refine wpAnyH_ready (rs := [14]) (by kernel_rfl) (by simp) ?_
            refine AllReadyH.cons (o := { dst := none, op := .store 3 (.tmp 53) (.tmp 52), type := _, pos := _, after := _, guard := none }) rfl (fun K hK => ?_) AllReadyH.nil
            go_simp
            refine hK.out _ _ trivial (fun hHeld => ?_)
            clear hK K
            try simp only [Act.put]
            refine wpAnyH_done (by kernel_rfl) ?_ _
            go_wp2_with fail
            go_ret
            exact DrewL.of HZ2.out (by rw [List.length_set]; have := HM.out; omega) (by rw [List.length_set]; exact HM.out)
    · have hp' : (p == 0) = false := by simpa using hp
      go_wp2_with fail
      go_ret
      exact DrewL.of HO5.out (by have := HM.out; omega) (by have := HM.out; omega)
  have hd1 : decide ((1 : Int) < (m : Int)) = true := by simp; omega
  go_wp2_with fail
  refine (pick_any W _ _ _ _ HO.out.rdr (by omega) (by omega)).mono ?_
  rintro e w4 ⟨mk, hk0, hk1, rfl, hR4, hO4⟩
  obtain ⟨K, rfl⟩ := Int.eq_ofNat_of_zero_le hk0
  have HO4 := Lib.hid (HO.out.only hR4 hO4)
  have hK : K < m := by omega
  clear HO hR4 hO4
  obtain ⟨c00, f00⟩ := HO4.out.cells 0 (by have := HM.out; omega)
  obtain ⟨cK0, fK0⟩ := HO4.out.cells K (by have := HM.out; omega)
  have HS1 := Lib.hid (HO4.out.set (i := 0) (by have := HM.out; omega) (ys.getD K 0))
  obtain ⟨cK1, fK1⟩ := HS1.out.cells K (by rw [List.length_set]; have := HM.out; omega)
  have HS2 := Lib.hid (HS1.out.set (i := K) (by rw [List.length_set]; have := HM.out; omega) (ys.getD 0 0))
  obtain ⟨x0, hx0⟩ : ∃ x, x = ys.getD 0 0 := ⟨_, rfl⟩
  obtain ⟨xK, hxK⟩ : ∃ x, x = ys.getD K 0 := ⟨_, rfl⟩
  obtain ⟨yK, hyK⟩ : ∃ x, x = (ys.set 0 (ys.getD K 0)).getD K 0 := ⟨_, rfl⟩
  rw [← hyK, ← hxK] at cK1
  rw [← hx0, ← hxK] at HS2
  rw [← hx0] at c00
  rw [← hxK] at cK0 fK1
  clear HS1 hyK hx0
  obtain ⟨zs2, hzs⟩ : ∃ z, z = (ys.set 0 xK).set K x0 := ⟨_, rfl⟩
  have hzl : zs2.length = ys.length := by rw [hzs]; simp
  rw [← hzs] at HS2
  have HZ := Lib.hid hzl
  clear hzs hzl hxK HO4
  go_wp2_with fail
  obtain ⟨wT, hwT⟩ : ∃ w', w' = (w4.setCell ⟨g, 0, none⟩ (.int .i64 xK)).setCell ⟨g, K, none⟩ (.int .i64 x0) := ⟨_, rfl⟩
  rw [← hwT] at HS2 ⊢
  have HMZ : Hid (m = zs2.length) := Lib.hid (by rw [HZ.out, HM.out])
  clear hwT HM
  have HM := HMZ
  clear HMZ hd1 c00 f00 cK0 fK0 cK1 fK1
  refine (pick_any W _ _ _ _ HS2.out.rdr (by omega) (by omega)).mono ?_
  rintro e w5 ⟨p, hp0, hp1, rfl, hR5, hO5⟩
  have HO5 := Lib.hid (HS2.out.only hR5 hO5)
  clear HS2 hR5 hO5
  by_cases hp : p = 0
  · subst hp
    clear hp0 hp1
    go_wp2_with fail
    obtain ⟨y0, hy0⟩ : ∃ y, y = zs2.getD 0 0 := ⟨_, rfl⟩
    have HY0 := Lib.hid hy0
    clear hy0
    refine wp_region_held_drew (S := fun _ => True) (by kernel_rfl) trivial (fun hHeld => ?_)
    refine wpAnyH_take (i := 0) (oi := { dst := some 40, op := .move (.tmp 4), type := _, pos := _, after := _, guard := none }) (v := .slice (some ⟨g, 0, none⟩) m c) rfl (by kernel_rfl) (by kernel_rfl) (by kernel_rfl) (fun _ _ _ h => h) (Or.inl ⟨by rfl, fun wh hSw => ?_⟩) hHeld ?_
    · go_simp
    try simp only [Act.put, List.setIfInBounds_toArray, List.set_cons_zero, List.set_cons_succ]
    refine wpAnyH_take (i := 1) (oi := { dst := some 41, op := .move (.tmp 3), type := _, pos := _, after := _, guard := none }) (v := .pointer (some ⟨W.heap.size, 0, none⟩)) rfl (by kernel_rfl) (by kernel_rfl) (by kernel_rfl) (fun _ _ _ h => h) (Or.inl ⟨by rfl, fun wh hSw => ?_⟩) hHeld ?_
    · go_simp
    try simp only [Act.put, List.setIfInBounds_toArray, List.set_cons_zero, List.set_cons_succ]
    refine wpAnyH_take (i := 2) (oi := { dst := some 42, op := .move (.tmp 4), type := _, pos := _, after := _, guard := none }) (v := .slice (some ⟨g, 0, none⟩) m c) rfl (by kernel_rfl) (by kernel_rfl) (by kernel_rfl) (fun _ _ _ h => h) (Or.inl ⟨by rfl, fun wh hSw => ?_⟩) hHeld ?_
    · go_simp
    try simp only [Act.put, List.setIfInBounds_toArray, List.set_cons_zero, List.set_cons_succ]
    refine wpAnyH_take (i := 3) (oi := { dst := some 43, op := .call { callee := .builtin .len, args := #[.tmp 42], argTypes := #[23] }, type := _, pos := _, after := _, guard := none }) (v := .int .i64 (m : Int)) rfl (by kernel_rfl) (by kernel_rfl) (by kernel_rfl) (fun _ _ _ h => h) (Or.inl ⟨by rfl, fun wh hSw => ?_⟩) hHeld ?_
    · go_simp
    try simp only [Act.put, List.setIfInBounds_toArray, List.set_cons_zero, List.set_cons_succ]
    refine wpAnyH_take (i := 5) (oi := { dst := some 45, op := .move (.tmp 4), type := _, pos := _, after := _, guard := none }) (v := .slice (some ⟨g, 0, none⟩) m c) rfl (by kernel_rfl) (by kernel_rfl) (by kernel_rfl) (fun _ _ _ h => h) (Or.inl ⟨by rfl, fun wh hSw => ?_⟩) hHeld ?_
    · go_simp
    try simp only [Act.put, List.setIfInBounds_toArray, List.set_cons_zero, List.set_cons_succ]
    refine wpAnyH_take (i := 6) (oi := { dst := some 46, op := .indexAddr 23 (.tmp 45) (.const (.int .i64 0)), type := _, pos := _, after := _, guard := none }) (v := .pointer (some ⟨g, 0, none⟩)) rfl (by kernel_rfl) (by kernel_rfl) (by kernel_rfl) (fun _ _ _ h => h) (Or.inl ⟨by rfl, fun wh hSw => ?_⟩) hHeld ?_
    · go_simp
    try simp only [Act.put, List.setIfInBounds_toArray, List.set_cons_zero, List.set_cons_succ]
    refine wpAnyH_take (i := 9) (oi := { dst := some 49, op := .move (.tmp 3), type := _, pos := _, after := _, guard := none }) (v := .pointer (some ⟨W.heap.size, 0, none⟩)) rfl (by kernel_rfl) (by kernel_rfl) (by kernel_rfl) (fun _ _ _ h => h) (Or.inl ⟨by rfl, fun wh hSw => ?_⟩) hHeld ?_
    · go_simp
    try simp only [Act.put, List.setIfInBounds_toArray, List.set_cons_zero, List.set_cons_succ]
    refine anyH_gen _ (fun X0 hX0 => ?_)
    have HX0 := Lib.hid (show OwnL W _ g c zs2 X0 by rw [hX0]; exact HO5.out.same (rdr_drewN HO5.out.rdr 1) rfl (Nat.le_refl _))
    clear hX0 HO5
    refine wpAnyH_ready (rs := [4, 7]) (by kernel_rfl) (by simp) ?_
    refine AllReadyH.cons (o := { dst := some 44, op := .call { callee := .value (.func 39), args := #[.tmp 41, .tmp 43], argTypes := #[40, 3] }, type := _, pos := _, after := _, guard := none }) rfl (fun K hK => ?_) (AllReadyH.cons (o := { dst := some 47, op := .load 3 (.tmp 46), type := _, pos := _, after := _, guard := none }) rfl (fun K hK => ?_) AllReadyH.nil)
    · go_simp
      refine (pick_any W _ _ _ _ HX0.out.rdr (by omega) (by omega)).mono ?_
      rintro e X1 ⟨q1, hq10, hq11, rfl, hRX1, hOX1⟩
      have HX1 := Lib.hid (HX0.out.only hRX1 hOX1)
      clear hRX1 hOX1
      try go_simp
      refine hK.out _ _ trivial (fun hHeld => ?_)
      clear hK K
      try simp only [Act.put, List.setIfInBounds_toArray, List.set_cons_zero, List.set_cons_succ]
      refine wpAnyH_ready (rs := [7, 10]) (by kernel_rfl) (by simp) ?_
      refine AllReadyH.cons (o := { dst := some 47, op := .load 3 (.tmp 46), type := _, pos := _, after := _, guard := none }) rfl (fun K hK => ?_) (AllReadyH.cons (o := { dst := some 50, op := .call { callee := .value (.func 39), args := #[.tmp 49, .const (.int .i64 3)], argTypes := #[40, 3] }, type := _, pos := _, after := _, guard := none }) rfl (fun K hK => ?_) AllReadyH.nil)
      · have cy0 := (HX1.out.cells 0 (by have := HM.out; omega)).1
        rw [← HY0.out] at cy0
        go_simp
        clear cy0
        refine hK.out _ _ trivial (fun hHeld => ?_)
        clear hK K
        try simp only [Act.put, List.setIfInBounds_toArray, List.set_cons_zero, List.set_cons_succ]
        refine wpAnyH_ready (rs := [8, 10]) (by kernel_rfl) (by simp) ?_
        refine AllReadyH.cons (o := { dst := some 48, op := .buildSlice 23 3 #[(0, .const (.int .i64 (-1))), (1, .const (.int .i64 12)), (2, .tmp 47)], type := _, pos := _, after := _, guard := none }) rfl (fun K hK => ?_) (AllReadyH.cons (o := { dst := some 50, op := .call { callee := .value (.func 39), args := #[.tmp 49, .const (.int .i64 3)], argTypes := #[40, 3] }, type := _, pos := _, after := _, guard := none }) rfl (fun K hK => ?_) AllReadyH.nil)
        · go_simp
          refine hK.out _ _ trivial (fun hHeld => ?_)
          clear hK K
          try simp only [Act.put, List.setIfInBounds_toArray, List.set_cons_zero, List.set_cons_succ]
          refine anyH_gen _ (fun X2 hX2 => ?_)
          have HX2 := Lib.hid (show OwnL W _ g c zs2 X2 by rw [hX2]; exact HX1.out.alloc _)
          have HBK := Lib.hid (show W.heap.size < X1.heap.size by have := HX1.out.gB; have := HX1.out.lt; omega)
          have HC := Lib.hid (show X2.cell? ⟨X1.heap.size, 0, none⟩ = some (.int .i64 (-1)) ∧ X2.cell? ⟨X1.heap.size, 1, none⟩ = some (.int .i64 12) ∧ X2.cell? ⟨X1.heap.size, 2, none⟩ = some (.int .i64 y0) by rw [hX2]; exact ⟨new_cell rfl, new_cell rfl, new_cell rfl⟩)
          clear hX2
          refine wpAnyH_ready (rs := [10]) (by kernel_rfl) (by simp) ?_
          refine AllReadyH.cons (o := { dst := some 50, op := .call { callee := .value (.func 39), args := #[.tmp 49, .const (.int .i64 3)], argTypes := #[40, 3] }, type := _, pos := _, after := _, guard := none }) rfl (fun K hK => ?_) AllReadyH.nil
          go_simp
          refine (pick_any W _ _ _ _ HX2.out.rdr (by omega) (by omega)).mono ?_
          rintro e X3 ⟨q2, hq20, hq21, rfl, hRX3, hOX3⟩
          have HX3 := Lib.hid (HX2.out.only hRX3 hOX3)
          have HC3 := Lib.hid (And.intro ((hOX3.cell (b := X1.heap.size) (o := 0) (by have := HBK.out; omega)).trans HC.out.1) (And.intro ((hOX3.cell (b := X1.heap.size) (o := 1) (by have := HBK.out; omega)).trans HC.out.2.1) ((hOX3.cell (b := X1.heap.size) (o := 2) (by have := HBK.out; omega)).trans HC.out.2.2)))
          clear HC
          have HC := HC3
          clear HC3
          clear hRX3 hOX3
          try go_simp
          refine hK.out _ _ trivial (fun hHeld => ?_)
          clear hK K
          try simp only [Act.put, List.setIfInBounds_toArray, List.set_cons_zero, List.set_cons_succ]
          obtain ⟨k1, rfl⟩ := Int.eq_ofNat_of_zero_le hq10
          have hk1 : k1 < zs2.length := by have := HM.out; omega
          have hk1m : (k1 : Int) < (m : Int) := by omega
          obtain ⟨ck, fk⟩ := HX3.out.cells k1 hk1
          obtain ⟨l0, l1, l2⟩ := HC.out
          have hq : q2 = 0 ∨ q2 = 1 ∨ q2 = 2 := by omega
          clear hq20 hq21 hq10 hq11
          rcases hq with rfl | rfl | rfl
          · have HZ2 := Lib.hid (HX3.out.set hk1 (-1))
            refine wpAnyH_take (i := 11) (oi := { dst := some 51, op := .indexAddr 23 (.tmp 48) (.tmp 50), type := _, pos := _, after := _, guard := none }) (v := .pointer (some ⟨X1.heap.size, 0, none⟩)) rfl (by kernel_rfl) (by kernel_rfl) (by kernel_rfl) (fun _ _ _ h => h) (Or.inl ⟨by rfl, fun wh hSw => ?_⟩) hHeld ?_
            · go_simp
            try simp only [Act.put, List.setIfInBounds_toArray, List.set_cons_zero, List.set_cons_succ]
            refine wpAnyH_ready (rs := [12]) (by kernel_rfl) (by simp) ?_
            refine AllReadyH.cons (o := { dst := some 52, op := .load 3 (.tmp 51), type := _, pos := _, after := _, guard := none }) rfl (fun K hK => ?_) AllReadyH.nil
            go_simp
            refine hK.out _ _ trivial (fun hHeld => ?_)
            clear hK K
            try simp only [Act.put, List.setIfInBounds_toArray, List.set_cons_zero, List.set_cons_succ]
            refine wpAnyH_take (i := 13) (oi := { dst := some 53, op := .indexAddr 23 (.tmp 40) (.tmp 44), type := _, pos := _, after := _, guard := none }) (v := .pointer (some ⟨g, k1, none⟩)) rfl (by kernel_rfl) (by kernel_rfl) (by kernel_rfl) (fun _ _ _ h => h) (Or.inl ⟨by rfl, fun wh hSw => ?_⟩) hHeld ?_
            · go_simp
            try simp only [Act.put, List.setIfInBounds_toArray, List.set_cons_zero, List.set_cons_succ]
            refine wpAnyH_ready (rs := [14]) (by kernel_rfl) (by simp) ?_
            refine AllReadyH.cons (o := { dst := none, op := .store 3 (.tmp 53) (.tmp 52), type := _, pos := _, after := _, guard := none }) rfl (fun K hK => ?_) AllReadyH.nil
            go_simp
            refine hK.out _ _ trivial (fun hHeld => ?_)
            clear hK K
            try simp only [Act.put]
            refine wpAnyH_done (by kernel_rfl) ?_ _
            go_wp2_with fail
            go_ret
            exact DrewL.of HZ2.out (by rw [List.length_set]; have := HM.out; omega) (by rw [List.length_set]; exact HM.out)
          · have HZ2 := Lib.hid (HX3.out.set hk1 12)
            refine wpAnyH_take (i := 11) (oi := { dst := some 51, op := .indexAddr 23 (.tmp 48) (.tmp 50), type := _, pos := _, after := _, guard := none }) (v := .pointer (some ⟨X1.heap.size, 1, none⟩)) rfl (by kernel_rfl) (by kernel_rfl) (by kernel_rfl) (fun _ _ _ h => h) (Or.inl ⟨by rfl, fun wh hSw => ?_⟩) hHeld ?_
            · go_simp
            try simp only [Act.put, List.setIfInBounds_toArray, List.set_cons_zero, List.set_cons_succ]
            refine wpAnyH_ready (rs := [12]) (by kernel_rfl) (by simp) ?_
            refine AllReadyH.cons (o := { dst := some 52, op := .load 3 (.tmp 51), type := _, pos := _, after := _, guard := none }) rfl (fun K hK => ?_) AllReadyH.nil
            go_simp
            refine hK.out _ _ trivial (fun hHeld => ?_)
            clear hK K
            try simp only [Act.put, List.setIfInBounds_toArray, List.set_cons_zero, List.set_cons_succ]
            refine wpAnyH_take (i := 13) (oi := { dst := some 53, op := .indexAddr 23 (.tmp 40) (.tmp 44), type := _, pos := _, after := _, guard := none }) (v := .pointer (some ⟨g, k1, none⟩)) rfl (by kernel_rfl) (by kernel_rfl) (by kernel_rfl) (fun _ _ _ h => h) (Or.inl ⟨by rfl, fun wh hSw => ?_⟩) hHeld ?_
            · go_simp
            try simp only [Act.put, List.setIfInBounds_toArray, List.set_cons_zero, List.set_cons_succ]
            refine wpAnyH_ready (rs := [14]) (by kernel_rfl) (by simp) ?_
            refine AllReadyH.cons (o := { dst := none, op := .store 3 (.tmp 53) (.tmp 52), type := _, pos := _, after := _, guard := none }) rfl (fun K hK => ?_) AllReadyH.nil
            go_simp
            refine hK.out _ _ trivial (fun hHeld => ?_)
            clear hK K
            try simp only [Act.put]
            refine wpAnyH_done (by kernel_rfl) ?_ _
            go_wp2_with fail
            go_ret
            exact DrewL.of HZ2.out (by rw [List.length_set]; have := HM.out; omega) (by rw [List.length_set]; exact HM.out)
          · have HZ2 := Lib.hid (HX3.out.set hk1 y0)
            refine wpAnyH_take (i := 11) (oi := { dst := some 51, op := .indexAddr 23 (.tmp 48) (.tmp 50), type := _, pos := _, after := _, guard := none }) (v := .pointer (some ⟨X1.heap.size, 2, none⟩)) rfl (by kernel_rfl) (by kernel_rfl) (by kernel_rfl) (fun _ _ _ h => h) (Or.inl ⟨by rfl, fun wh hSw => ?_⟩) hHeld ?_
            · go_simp
            try simp only [Act.put, List.setIfInBounds_toArray, List.set_cons_zero, List.set_cons_succ]
            refine wpAnyH_ready (rs := [12]) (by kernel_rfl) (by simp) ?_
            refine AllReadyH.cons (o := { dst := some 52, op := .load 3 (.tmp 51), type := _, pos := _, after := _, guard := none }) rfl (fun K hK => ?_) AllReadyH.nil
            go_simp
            refine hK.out _ _ trivial (fun hHeld => ?_)
            clear hK K
            try simp only [Act.put, List.setIfInBounds_toArray, List.set_cons_zero, List.set_cons_succ]
            refine wpAnyH_take (i := 13) (oi := { dst := some 53, op := .indexAddr 23 (.tmp 40) (.tmp 44), type := _, pos := _, after := _, guard := none }) (v := .pointer (some ⟨g, k1, none⟩)) rfl (by kernel_rfl) (by kernel_rfl) (by kernel_rfl) (fun _ _ _ h => h) (Or.inl ⟨by rfl, fun wh hSw => ?_⟩) hHeld ?_
            · go_simp
            try simp only [Act.put, List.setIfInBounds_toArray, List.set_cons_zero, List.set_cons_succ]
            refine wpAnyH_ready (rs := [14]) (by kernel_rfl) (by simp) ?_
            refine AllReadyH.cons (o := { dst := none, op := .store 3 (.tmp 53) (.tmp 52), type := _, pos := _, after := _, guard := none }) rfl (fun K hK => ?_) AllReadyH.nil
            go_simp
            refine hK.out _ _ trivial (fun hHeld => ?_)
            clear hK K
            try simp only [Act.put]
            refine wpAnyH_done (by kernel_rfl) ?_ _
            go_wp2_with fail
            go_ret
            exact DrewL.of HZ2.out (by rw [List.length_set]; have := HM.out; omega) (by rw [List.length_set]; exact HM.out)
        · go_simp
          refine (pick_any W _ _ _ _ HX1.out.rdr (by omega) (by omega)).mono ?_
          rintro e X2 ⟨q2, hq20, hq21, rfl, hRX2, hOX2⟩
          have HX2 := Lib.hid (HX1.out.only hRX2 hOX2)
          clear hRX2 hOX2
          try go_simp
          refine hK.out _ _ trivial (fun hHeld => ?_)
          clear hK K
          try simp only [Act.put, List.setIfInBounds_toArray, List.set_cons_zero, List.set_cons_succ]
          refine wpAnyH_ready (rs := [8]) (by kernel_rfl) (by simp) ?_
          refine AllReadyH.cons (o := { dst := some 48, op := .buildSlice 23 3 #[(0, .const (.int .i64 (-1))), (1, .const (.int .i64 12)), (2, .tmp 47)], type := _, pos := _, after := _, guard := none }) rfl (fun K hK => ?_) AllReadyH.nil
          go_simp
          refine hK.out _ _ trivial (fun hHeld => ?_)
          clear hK K
          try simp only [Act.put, List.setIfInBounds_toArray, List.set_cons_zero, List.set_cons_succ]
          refine anyH_gen _ (fun X3 hX3 => ?_)
          have HX3 := Lib.hid (show OwnL W _ g c zs2 X3 by rw [hX3]; exact HX2.out.alloc _)
          have HBK := Lib.hid (show W.heap.size < X2.heap.size by have := HX2.out.gB; have := HX2.out.lt; omega)
          have HC := Lib.hid (show X3.cell? ⟨X2.heap.size, 0, none⟩ = some (.int .i64 (-1)) ∧ X3.cell? ⟨X2.heap.size, 1, none⟩ = some (.int .i64 12) ∧ X3.cell? ⟨X2.heap.size, 2, none⟩ = some (.int .i64 y0) by rw [hX3]; exact ⟨new_cell rfl, new_cell rfl, new_cell rfl⟩)
          clear hX3
          obtain ⟨k1, rfl⟩ := Int.eq_ofNat_of_zero_le hq10
          have hk1 : k1 < zs2.length := by have := HM.out; omega
          have hk1m : (k1 : Int) < (m : Int) := by omega
          obtain ⟨ck, fk⟩ := HX3.out.cells k1 hk1
          obtain ⟨l0, l1, l2⟩ := HC.out
          have hq : q2 = 0 ∨ q2 = 1 ∨ q2 = 2 := by omega
          clear hq20 hq21 hq10 hq11
          rcases hq with rfl | rfl | rfl
          · have HZ2 := Lib.hid (HX3.out.set hk1 (-1))
            refine wpAnyH_take (i := 11) (oi := { dst := some 51, op := .indexAddr 23 (.tmp 48) (.tmp 50), type := _, pos := _, after := _, guard := none }) (v := .pointer (some ⟨X2.heap.size, 0, none⟩)) rfl (by kernel_rfl) (by kernel_rfl) (by kernel_rfl) (fun _ _ _ h => h) (Or.inl ⟨by rfl, fun wh hSw => ?_⟩) hHeld ?_
            · go_simp
            try simp only [Act.put, List.setIfInBounds_toArray, List.set_cons_zero, List.set_cons_succ]
            refine wpAnyH_ready (rs := [12]) (by kernel_rfl) (by simp) ?_
            refine AllReadyH.cons (o := { dst := some 52, op := .load 3 (.tmp 51), type := _, pos := _, after := _, guard := none }) rfl (fun K hK => ?_) AllReadyH.nil
            go_simp
            refine hK.out _ _ trivial (fun hHeld => ?_)
            clear hK K
            try simp only [Act.put, List.setIfInBounds_toArray, List.set_cons_zero, List.set_cons_succ]
            refine wpAnyH_take (i := 13) (oi := { dst := some 53, op := .indexAddr 23 (.tmp 40) (.tmp 44), type := _, pos := _, after := _, guard := none }) (v := .pointer (some ⟨g, k1, none⟩)) rfl (by kernel_rfl) (by kernel_rfl) (by kernel_rfl) (fun _ _ _ h => h) (Or.inl ⟨by rfl, fun wh hSw => ?_⟩) hHeld ?_
            · go_simp
            try simp only [Act.put, List.setIfInBounds_toArray, List.set_cons_zero, List.set_cons_succ]
            refine wpAnyH_ready (rs := [14]) (by kernel_rfl) (by simp) ?_
            refine AllReadyH.cons (o := { dst := none, op := .store 3 (.tmp 53) (.tmp 52), type := _, pos := _, after := _, guard := none }) rfl (fun K hK => ?_) AllReadyH.nil
            go_simp
            refine hK.out _ _ trivial (fun hHeld => ?_)
            clear hK K
            try simp only [Act.put]
            refine wpAnyH_done (by kernel_rfl) ?_ _
            go_wp2_with fail
            go_ret
            exact DrewL.of HZ2.out (by rw [List.length_set]; have := HM.out; omega) (by rw [List.length_set]; exact HM.out)
          · have HZ2 := Lib.hid (HX3.out.set hk1 12)
            refine wpAnyH_take (i := 11) (oi := { dst := some 51, op := .indexAddr 23 (.tmp 48) (.tmp 50), type := _, pos := _, after := _, guard := none }) (v := .pointer (some ⟨X2.heap.size, 1, none⟩)) rfl (by kernel_rfl) (by kernel_rfl) (by kernel_rfl) (fun _ _ _ h => h) (Or.inl ⟨by rfl, fun wh hSw => ?_⟩) hHeld ?_
            · go_simp
            try simp only [Act.put, List.setIfInBounds_toArray, List.set_cons_zero, List.set_cons_succ]
            refine wpAnyH_ready (rs := [12]) (by kernel_rfl) (by simp) ?_
            refine AllReadyH.cons (o := { dst := some 52, op := .load 3 (.tmp 51), type := _, pos := _, after := _, guard := none }) rfl (fun K hK => ?_) AllReadyH.nil
            go_simp
            refine hK.out _ _ trivial (fun hHeld => ?_)
            clear hK K
            try simp only [Act.put, List.setIfInBounds_toArray, List.set_cons_zero, List.set_cons_succ]
            refine wpAnyH_take (i := 13) (oi := { dst := some 53, op := .indexAddr 23 (.tmp 40) (.tmp 44), type := _, pos := _, after := _, guard := none }) (v := .pointer (some ⟨g, k1, none⟩)) rfl (by kernel_rfl) (by kernel_rfl) (by kernel_rfl) (fun _ _ _ h => h) (Or.inl ⟨by rfl, fun wh hSw => ?_⟩) hHeld ?_
            · go_simp
            try simp only [Act.put, List.setIfInBounds_toArray, List.set_cons_zero, List.set_cons_succ]
            refine wpAnyH_ready (rs := [14]) (by kernel_rfl) (by simp) ?_
            refine AllReadyH.cons (o := { dst := none, op := .store 3 (.tmp 53) (.tmp 52), type := _, pos := _, after := _, guard := none }) rfl (fun K hK => ?_) AllReadyH.nil
            go_simp
            refine hK.out _ _ trivial (fun hHeld => ?_)
            clear hK K
            try simp only [Act.put]
            refine wpAnyH_done (by kernel_rfl) ?_ _
            go_wp2_with fail
            go_ret
            exact DrewL.of HZ2.out (by rw [List.length_set]; have := HM.out; omega) (by rw [List.length_set]; exact HM.out)
          · have HZ2 := Lib.hid (HX3.out.set hk1 y0)
            refine wpAnyH_take (i := 11) (oi := { dst := some 51, op := .indexAddr 23 (.tmp 48) (.tmp 50), type := _, pos := _, after := _, guard := none }) (v := .pointer (some ⟨X2.heap.size, 2, none⟩)) rfl (by kernel_rfl) (by kernel_rfl) (by kernel_rfl) (fun _ _ _ h => h) (Or.inl ⟨by rfl, fun wh hSw => ?_⟩) hHeld ?_
            · go_simp
            try simp only [Act.put, List.setIfInBounds_toArray, List.set_cons_zero, List.set_cons_succ]
            refine wpAnyH_ready (rs := [12]) (by kernel_rfl) (by simp) ?_
            refine AllReadyH.cons (o := { dst := some 52, op := .load 3 (.tmp 51), type := _, pos := _, after := _, guard := none }) rfl (fun K hK => ?_) AllReadyH.nil
            go_simp
            refine hK.out _ _ trivial (fun hHeld => ?_)
            clear hK K
            try simp only [Act.put, List.setIfInBounds_toArray, List.set_cons_zero, List.set_cons_succ]
            refine wpAnyH_take (i := 13) (oi := { dst := some 53, op := .indexAddr 23 (.tmp 40) (.tmp 44), type := _, pos := _, after := _, guard := none }) (v := .pointer (some ⟨g, k1, none⟩)) rfl (by kernel_rfl) (by kernel_rfl) (by kernel_rfl) (fun _ _ _ h => h) (Or.inl ⟨by rfl, fun wh hSw => ?_⟩) hHeld ?_
            · go_simp
            try simp only [Act.put, List.setIfInBounds_toArray, List.set_cons_zero, List.set_cons_succ]
            refine wpAnyH_ready (rs := [14]) (by kernel_rfl) (by simp) ?_
            refine AllReadyH.cons (o := { dst := none, op := .store 3 (.tmp 53) (.tmp 52), type := _, pos := _, after := _, guard := none }) rfl (fun K hK => ?_) AllReadyH.nil
            go_simp
            refine hK.out _ _ trivial (fun hHeld => ?_)
            clear hK K
            try simp only [Act.put]
            refine wpAnyH_done (by kernel_rfl) ?_ _
            go_wp2_with fail
            go_ret
            exact DrewL.of HZ2.out (by rw [List.length_set]; have := HM.out; omega) (by rw [List.length_set]; exact HM.out)
      · go_simp
        refine (pick_any W _ _ _ _ HX1.out.rdr (by omega) (by omega)).mono ?_
        rintro e X2 ⟨q2, hq20, hq21, rfl, hRX2, hOX2⟩
        have HX2 := Lib.hid (HX1.out.only hRX2 hOX2)
        clear hRX2 hOX2
        try go_simp
        refine hK.out _ _ trivial (fun hHeld => ?_)
        clear hK K
        try simp only [Act.put, List.setIfInBounds_toArray, List.set_cons_zero, List.set_cons_succ]
        refine wpAnyH_ready (rs := [7]) (by kernel_rfl) (by simp) ?_
        refine AllReadyH.cons (o := { dst := some 47, op := .load 3 (.tmp 46), type := _, pos := _, after := _, guard := none }) rfl (fun K hK => ?_) AllReadyH.nil
        have cy0 := (HX2.out.cells 0 (by have := HM.out; omega)).1
        rw [← HY0.out] at cy0
        go_simp
        clear cy0
        refine hK.out _ _ trivial (fun hHeld => ?_)
        clear hK K
        try simp only [Act.put, List.setIfInBounds_toArray, List.set_cons_zero, List.set_cons_succ]
        refine wpAnyH_ready (rs := [8]) (by kernel_rfl) (by simp) ?_
        refine AllReadyH.cons (o := { dst := some 48, op := .buildSlice 23 3 #[(0, .const (.int .i64 (-1))), (1, .const (.int .i64 12)), (2, .tmp 47)], type := _, pos := _, after := _, guard := none }) rfl (fun K hK => ?_) AllReadyH.nil
        go_simp
        refine hK.out _ _ trivial (fun hHeld => ?_)
        clear hK K
        try simp only [Act.put, List.setIfInBounds_toArray, List.set_cons_zero, List.set_cons_succ]
        refine anyH_gen _ (fun X3 hX3 => ?_)
        have HX3 := Lib.hid (show OwnL W _ g c zs2 X3 by rw [hX3]; exact HX2.out.alloc _)
        have HBK := Lib.hid (show W.heap.size < X2.heap.size by have := HX2.out.gB; have := HX2.out.lt; omega)
        have HC := Lib.hid (show X3.cell? ⟨X2.heap.size, 0, none⟩ = some (.int .i64 (-1)) ∧ X3.cell? ⟨X2.heap.size, 1, none⟩ = some (.int .i64 12) ∧ X3.cell? ⟨X2.heap.size, 2, none⟩ = some (.int .i64 y0) by rw [hX3]; exact ⟨new_cell rfl, new_cell rfl, new_cell rfl⟩)
        clear hX3
        obtain ⟨k1, rfl⟩ := Int.eq_ofNat_of_zero_le hq10
        have hk1 : k1 < zs2.length := by have := HM.out; omega
        have hk1m : (k1 : Int) < (m : Int) := by omega
        obtain ⟨ck, fk⟩ := HX3.out.cells k1 hk1
        obtain ⟨l0, l1, l2⟩ := HC.out
        have hq : q2 = 0 ∨ q2 = 1 ∨ q2 = 2 := by omega
        clear hq20 hq21 hq10 hq11
        rcases hq with rfl | rfl | rfl
        · have HZ2 := Lib.hid (HX3.out.set hk1 (-1))
          refine wpAnyH_take (i := 11) (oi := { dst := some 51, op := .indexAddr 23 (.tmp 48) (.tmp 50), type := _, pos := _, after := _, guard := none }) (v := .pointer (some ⟨X2.heap.size, 0, none⟩)) rfl (by kernel_rfl) (by kernel_rfl) (by kernel_rfl) (fun _ _ _ h => h) (Or.inl ⟨by rfl, fun wh hSw => ?_⟩) hHeld ?_
          · go_simp
          try simp only [Act.put, List.setIfInBounds_toArray, List.set_cons_zero, List.set_cons_succ]
          refine wpAnyH_ready (rs := [12]) (by kernel_rfl) (by simp) ?_
          refine AllReadyH.cons (o := { dst := some 52, op := .load 3 (.tmp 51), type := _, pos := _, after := _, guard := none }) rfl (fun K hK => ?_) AllReadyH.nil
          go_simp
          refine hK.out _ _ trivial (fun hHeld => ?_)
          clear hK K
          try simp only [Act.put, List.setIfInBounds_toArray, List.set_cons_zero, List.set_cons_succ]
          refine wpAnyH_take (i := 13) (oi := { dst := some 53, op := .indexAddr 23 (.tmp 40) (.tmp 44), type := _, pos := _, after := _, guard := none }) (v := .pointer (some ⟨g, k1, none⟩)) rfl (by kernel_rfl) (by kernel_rfl) (by kernel_rfl) (fun _ _ _ h => h) (Or.inl ⟨by rfl, fun wh hSw => ?_⟩) hHeld ?_
          · go_simp
          try simp only [Act.put, List.setIfInBounds_toArray, List.set_cons_zero, List.set_cons_succ]
          refine wpAnyH_ready (rs := [14]) (by kernel_rfl) (by simp) ?_
          refine AllReadyH.cons (o := { dst := none, op := .store 3 (.tmp 53) (.tmp 52), type := _, pos := _, after := _, guard := none }) rfl (fun K hK => ?_) AllReadyH.nil
          go_simp
          refine hK.out _ _ trivial (fun hHeld => ?_)
          clear hK K
          try simp only [Act.put]
          refine wpAnyH_done (by kernel_rfl) ?_ _
          go_wp2_with fail
          go_ret
          exact DrewL.of HZ2.out (by rw [List.length_set]; have := HM.out; omega) (by rw [List.length_set]; exact HM.out)
        · have HZ2 := Lib.hid (HX3.out.set hk1 12)
          refine wpAnyH_take (i := 11) (oi := { dst := some 51, op := .indexAddr 23 (.tmp 48) (.tmp 50), type := _, pos := _, after := _, guard := none }) (v := .pointer (some ⟨X2.heap.size, 1, none⟩)) rfl (by kernel_rfl) (by kernel_rfl) (by kernel_rfl) (fun _ _ _ h => h) (Or.inl ⟨by rfl, fun wh hSw => ?_⟩) hHeld ?_
          · go_simp
          try simp only [Act.put, List.setIfInBounds_toArray, List.set_cons_zero, List.set_cons_succ]
          refine wpAnyH_ready (rs := [12]) (by kernel_rfl) (by simp) ?_
          refine AllReadyH.cons (o := { dst := some 52, op := .load 3 (.tmp 51), type := _, pos := _, after := _, guard := none }) rfl (fun K hK => ?_) AllReadyH.nil
          go_simp
          refine hK.out _ _ trivial (fun hHeld => ?_)
          clear hK K
          try simp only [Act.put, List.setIfInBounds_toArray, List.set_cons_zero, List.set_cons_succ]
          refine wpAnyH_take (i := 13) (oi := { dst := some 53, op := .indexAddr 23 (.tmp 40) (.tmp 44), type := _, pos := _, after := _, guard := none }) (v := .pointer (some ⟨g, k1, none⟩)) rfl (by kernel_rfl) (by kernel_rfl) (by kernel_rfl) (fun _ _ _ h => h) (Or.inl ⟨by rfl, fun wh hSw => ?_⟩) hHeld ?_
          · go_simp
          try simp only [Act.put, List.setIfInBounds_toArray, List.set_cons_zero, List.set_cons_succ]
          refine wpAnyH_ready (rs := [14]) (by kernel_rfl) (by simp) ?_
          refine AllReadyH.cons (o := { dst := none, op := .store 3 (.tmp 53) (.tmp 52), type := _, pos := _, after := _, guard := none }) rfl (fun K hK => ?_) AllReadyH.nil
          go_simp
          refine hK.out _ _ trivial (fun hHeld => ?_)
          clear hK K
          try simp only [Act.put]
          refine wpAnyH_done (by kernel_rfl) ?_ _
          go_wp2_with fail
          go_ret
          exact DrewL.of HZ2.out (by rw [List.length_set]; have := HM.out; omega) (by rw [List.length_set]; exact HM.out)
        · have HZ2 := Lib.hid (HX3.out.set hk1 y0)
          refine wpAnyH_take (i := 11) (oi := { dst := some 51, op := .indexAddr 23 (.tmp 48) (.tmp 50), type := _, pos := _, after := _, guard := none }) (v := .pointer (some ⟨X2.heap.size, 2, none⟩)) rfl (by kernel_rfl) (by kernel_rfl) (by kernel_rfl) (fun _ _ _ h => h) (Or.inl ⟨by rfl, fun wh hSw => ?_⟩) hHeld ?_
          · go_simp
          try simp only [Act.put, List.setIfInBounds_toArray, List.set_cons_zero, List.set_cons_succ]
          refine wpAnyH_ready (rs := [12]) (by kernel_rfl) (by simp) ?_
          refine AllReadyH.cons (o := { dst := some 52, op := .load 3 (.tmp 51), type := _, pos := _, after := _, guard := none }) rfl (fun K hK => ?_) AllReadyH.nil
          go_simp
          refine hK.out _ _ trivial (fun hHeld => ?_)
          clear hK K
          try simp only [Act.put, List.setIfInBounds_toArray, List.set_cons_zero, List.set_cons_succ]
          refine wpAnyH_take (i := 13) (oi := { dst := some 53, op := .indexAddr 23 (.tmp 40) (.tmp 44), type := _, pos := _, after := _, guard := none }) (v := .pointer (some ⟨g, k1, none⟩)) rfl (by kernel_rfl) (by kernel_rfl) (by kernel_rfl) (fun _ _ _ h => h) (Or.inl ⟨by rfl, fun wh hSw => ?_⟩) hHeld ?_
          · go_simp
          try simp only [Act.put, List.setIfInBounds_toArray, List.set_cons_zero, List.set_cons_succ]
          refine wpAnyH_ready (rs := [14]) (by kernel_rfl) (by simp) ?_
          refine AllReadyH.cons (o := { dst := none, op := .store 3 (.tmp 53) (.tmp 52), type := _, pos := _, after := _, guard := none }) rfl (fun K hK => ?_) AllReadyH.nil
          go_simp
          refine hK.out _ _ trivial (fun hHeld => ?_)
          clear hK K
          try simp only [Act.put]
          refine wpAnyH_done (by kernel_rfl) ?_ _
          go_wp2_with fail
          go_ret
          exact DrewL.of HZ2.out (by rw [List.length_set]; have := HM.out; omega) (by rw [List.length_set]; exact HM.out)
    · have cy0 := (HX0.out.cells 0 (by have := HM.out; omega)).1
      rw [← HY0.out] at cy0
      go_simp
      clear cy0
      refine hK.out _ _ trivial (fun hHeld => ?_)
      clear hK K
      try simp only [Act.put, List.setIfInBounds_toArray, List.set_cons_zero, List.set_cons_succ]
      refine wpAnyH_ready (rs := [4, 8]) (by kernel_rfl) (by simp) ?_
      refine AllReadyH.cons (o := { dst := some 44, op := .call { callee := .value (.func 39), args := #[.tmp 41, .tmp 43], argTypes := #[40, 3] }, type := _, pos := _, after := _, guard := none }) rfl (fun K hK => ?_) (AllReadyH.cons (o := { dst := some 48, op := .buildSlice 23 3 #[(0, .const (.int .i64 (-1))), (1, .const (.int .i64 12)), (2, .tmp 47)], type := _, pos := _, after := _, guard := none }) rfl (fun K hK => ?_) AllReadyH.nil)
      · go_simp
        refine (pick_any W _ _ _ _ HX0.out.rdr (by omega) (by omega)).mono ?_
        rintro e X1 ⟨q1, hq10, hq11, rfl, hRX1, hOX1⟩
        have HX1 := Lib.hid (HX0.out.only hRX1 hOX1)
        clear hRX1 hOX1
        try go_simp
        refine hK.out _ _ trivial (fun hHeld => ?_)
        clear hK K
        try simp only [Act.put, List.setIfInBounds_toArray, List.set_cons_zero, List.set_cons_succ]
        refine wpAnyH_ready (rs := [8, 10]) (by kernel_rfl) (by simp) ?_
        refine AllReadyH.cons (o := { dst := some 48, op := .buildSlice 23 3 #[(0, .const (.int .i64 (-1))), (1, .const (.int .i64 12)), (2, .tmp 47)], type := _, pos := _, after := _, guard := none }) rfl (fun K hK => ?_) (AllReadyH.cons (o := { dst := some 50, op := .call { callee := .value (.func 39), args := #[.tmp 49, .const (.int .i64 3)], argTypes := #[40, 3] }, type := _, pos := _, after := _, guard := none }) rfl (fun K hK => ?_) AllReadyH.nil)
        · go_simp
          refine hK.out _ _ trivial (fun hHeld => ?_)
          clear hK K
          try simp only [Act.put, List.setIfInBounds_toArray, List.set_cons_zero, List.set_cons_succ]
          refine anyH_gen _ (fun X2 hX2 => ?_)
          have HX2 := Lib.hid (show OwnL W _ g c zs2 X2 by rw [hX2]; exact HX1.out.alloc _)
          have HBK := Lib.hid (show W.heap.size < X1.heap.size by have := HX1.out.gB; have := HX1.out.lt; omega)
          have HC := Lib.hid (show X2.cell? ⟨X1.heap.size, 0, none⟩ = some (.int .i64 (-1)) ∧ X2.cell? ⟨X1.heap.size, 1, none⟩ = some (.int .i64 12) ∧ X2.cell? ⟨X1.heap.size, 2, none⟩ = some (.int .i64 y0) by rw [hX2]; exact ⟨new_cell rfl, new_cell rfl, new_cell rfl⟩)
          clear hX2
          refine wpAnyH_ready (rs := [10]) (by kernel_rfl) (by simp) ?_
          refine AllReadyH.cons (o := { dst := some 50, op := .call { callee := .value (.func 39), args := #[.tmp 49, .const (.int .i64 3)], argTypes := #[40, 3] }, type := _, pos := _, after := _, guard := none }) rfl (fun K hK => ?_) AllReadyH.nil
          go_simp
          refine (pick_any W _ _ _ _ HX2.out.rdr (by omega) (by omega)).mono ?_
          rintro e X3 ⟨q2, hq20, hq21, rfl, hRX3, hOX3⟩
          have HX3 := Lib.hid (HX2.out.only hRX3 hOX3)
          have HC3 := Lib.hid (And.intro ((hOX3.cell (b := X1.heap.size) (o := 0) (by have := HBK.out; omega)).trans HC.out.1) (And.intro ((hOX3.cell (b := X1.heap.size) (o := 1) (by have := HBK.out; omega)).trans HC.out.2.1) ((hOX3.cell (b := X1.heap.size) (o := 2) (by have := HBK.out; omega)).trans HC.out.2.2)))
          clear HC
          have HC := HC3
          clear HC3
          clear hRX3 hOX3
          try go_simp
          refine hK.out _ _ trivial (fun hHeld => ?_)
          clear hK K
          try simp only [Act.put, List.setIfInBounds_toArray, List.set_cons_zero, List.set_cons_succ]
          obtain ⟨k1, rfl⟩ := Int.eq_ofNat_of_zero_le hq10
          have hk1 : k1 < zs2.length := by have := HM.out; omega
          have hk1m : (k1 : Int) < (m : Int) := by omega
          obtain ⟨ck, fk⟩ := HX3.out.cells k1 hk1
          obtain ⟨l0, l1, l2⟩ := HC.out
          have hq : q2 = 0 ∨ q2 = 1 ∨ q2 = 2 := by omega
          clear hq20 hq21 hq10 hq11
          rcases hq with rfl | rfl | rfl
          · have HZ2 := Lib.hid (HX3.out.set hk1 (-1))
            refine wpAnyH_take (i := 11) (oi := { dst := some 51, op := .indexAddr 23 (.tmp 48) (.tmp 50), type := _, pos := _, after := _, guard := none }) (v := .pointer (some ⟨X1.heap.size, 0, none⟩)) rfl (by kernel_rfl) (by kernel_rfl) (by kernel_rfl) (fun _ _ _ h => h) (Or.inl ⟨by rfl, fun wh hSw => ?_⟩) hHeld ?_
            · go_simp
            try simp only [Act.put, List.setIfInBounds_toArray, List.set_cons_zero, List.set_cons_succ]
            refine wpAnyH_ready (rs := [12]) (by kernel_rfl) (by simp) ?_
            refine AllReadyH.cons (o := { dst := some 52, op := .load 3 (.tmp 51), type := _, pos := _, after := _, guard := none }) rfl (fun K hK => ?_) AllReadyH.nil
            go_simp
            refine hK.out _ _ trivial (fun hHeld => ?_)
            clear hK K
            try simp only [Act.put, List.setIfInBounds_toArray, List.set_cons_zero, List.set_cons_succ]
            refine wpAnyH_take (i := 13) (oi := { dst := some 53, op := .indexAddr 23 (.tmp 40) (.tmp 44), type := _, pos := _, after := _, guard := none }) (v := .pointer (some ⟨g, k1, none⟩)) rfl (by kernel_rfl) (by kernel_rfl) (by kernel_rfl) (fun _ _ _ h => h) (Or.inl ⟨by rfl, fun wh hSw => ?_⟩) hHeld ?_
            · go_simp
            try simp only [Act.put, List.setIfInBounds_toArray, List.set_cons_zero, List.set_cons_succ]
            refine wpAnyH_ready (rs := [14]) (by kernel_rfl) (by simp) ?_
            refine AllReadyH.cons (o := { dst := none, op := .store 3 (.tmp 53) (.tmp 52), type := _, pos := _, after := _, guard := none }) rfl (fun K hK => ?_) AllReadyH.nil
            go_simp
            refine hK.out _ _ trivial (fun hHeld => ?_)
            clear hK K
            try simp only [Act.put]
            refine wpAnyH_done (by kernel_rfl) ?_ _
            go_wp2_with fail
            go_ret
            exact DrewL.of HZ2.out (by rw [List.length_set]; have := HM.out; omega) (by rw [List.length_set]; exact HM.out)
          · have HZ2 := Lib.hid (HX3.out.set hk1 12)
            refine wpAnyH_take (i := 11) (oi := { dst := some 51, op := .indexAddr 23 (.tmp 48) (.tmp 50), type := _, pos := _, after := _, guard := none }) (v := .pointer (some ⟨X1.heap.size, 1, none⟩)) rfl (by kernel_rfl) (by kernel_rfl) (by kernel_rfl) (fun _ _ _ h => h) (Or.inl ⟨by rfl, fun wh hSw => ?_⟩) hHeld ?_
            · go_simp
            try simp only [Act.put, List.setIfInBounds_toArray, List.set_cons_zero, List.set_cons_succ]
            refine wpAnyH_ready (rs := [12]) (by kernel_rfl) (by simp) ?_
            refine AllReadyH.cons (o := { dst := some 52, op := .load 3 (.tmp 51), type := _, pos := _, after := _, guard := none }) rfl (fun K hK => ?_) AllReadyH.nil
            go_simp
            refine hK.out _ _ trivial (fun hHeld => ?_)
            clear hK K
            try simp only [Act.put, List.setIfInBounds_toArray, List.set_cons_zero, List.set_cons_succ]
            refine wpAnyH_take (i := 13) (oi := { dst := some 53, op := .indexAddr 23 (.tmp 40) (.tmp 44), type := _, pos := _, after := _, guard := none }) (v := .pointer (some ⟨g, k1, none⟩)) rfl (by kernel_rfl) (by kernel_rfl) (by kernel_rfl) (fun _ _ _ h => h) (Or.inl ⟨by rfl, fun wh hSw => ?_⟩) hHeld ?_
            · go_simp
            try simp only [Act.put, List.setIfInBounds_toArray, List.set_cons_zero, List.set_cons_succ]
            refine wpAnyH_ready (rs := [14]) (by kernel_rfl) (by simp) ?_
            refine AllReadyH.cons (o := { dst := none, op := .store 3 (.tmp 53) (.tmp 52), type := _, pos := _, after := _, guard := none }) rfl (fun K hK => ?_) AllReadyH.nil
            go_simp
            refine hK.out _ _ trivial (fun hHeld => ?_)
            clear hK K
            try simp only [Act.put]
            refine wpAnyH_done (by kernel_rfl) ?_ _
            go_wp2_with fail
            go_ret
            exact DrewL.of HZ2.out (by rw [List.length_set]; have := HM.out; omega) (by rw [List.length_set]; exact HM.out)
          · have HZ2 := Lib.hid (HX3.out.set hk1 y0)
            refine wpAnyH_take (i := 11) (oi := { dst := some 51, op := .indexAddr 23 (.tmp 48) (.tmp 50), type := _, pos := _, after := _, guard := none }) (v := .pointer (some ⟨X1.heap.size, 2, none⟩)) rfl (by kernel_rfl) (by kernel_rfl) (by kernel_rfl) (fun _ _ _ h => h) (Or.inl ⟨by rfl, fun wh hSw => ?_⟩) hHeld ?_
            · go_simp
            try simp only [Act.put, List.setIfInBounds_toArray, List.set_cons_zero, List.set_cons_succ]
            refine wpAnyH_ready (rs := [12]) (by kernel_rfl) (by simp) ?_
            refine AllReadyH.cons (o := { dst := some 52, op := .load 3 (.tmp 51), type := _, pos := _, after := _, guard := none }) rfl (fun K hK => ?_) AllReadyH.nil
            go_simp
            refine hK.out _ _ trivial (fun hHeld => ?_)
            clear hK K
            try simp only [Act.put, List.setIfInBounds_toArray, List.set_cons_zero, List.set_cons_succ]
            refine wpAnyH_take (i := 13) (oi := { dst := some 53, op := .indexAddr 23 (.tmp 40) (.tmp 44), type := _, pos := _, after := _, guard := none }) (v := .pointer (some ⟨g, k1, none⟩)) rfl (by kernel_rfl) (by kernel_rfl) (by kernel_rfl) (fun _ _ _ h => h) (Or.inl ⟨by rfl, fun wh hSw => ?_⟩) hHeld ?_
            · go_simp
            try simp only [Act.put, List.setIfInBounds_toArray, List.set_cons_zero, List.set_cons_succ]
            refine wpAnyH_ready (rs := [14]) (by kernel_rfl) (by simp) ?_
            refine AllReadyH.cons (o := { dst := none, op := .store 3 (.tmp 53) (.tmp 52), type := _, pos := _, after := _, guard := none }) rfl (fun K hK => ?_) AllReadyH.nil
            go_simp
            refine hK.out _ _ trivial (fun hHeld => ?_)
            clear hK K
            try simp only [Act.put]
            refine wpAnyH_done (by kernel_rfl) ?_ _
            go_wp2_with fail
            go_ret
            exact DrewL.of HZ2.out (by rw [List.length_set]; have := HM.out; omega) (by rw [List.length_set]; exact HM.out)
        · go_simp
          refine (pick_any W _ _ _ _ HX1.out.rdr (by omega) (by omega)).mono ?_
          rintro e X2 ⟨q2, hq20, hq21, rfl, hRX2, hOX2⟩
          have HX2 := Lib.hid (HX1.out.only hRX2 hOX2)
          clear hRX2 hOX2
          try go_simp
          refine hK.out _ _ trivial (fun hHeld => ?_)
          clear hK K
          try simp only [Act.put, List.setIfInBounds_toArray, List.set_cons_zero, List.set_cons_succ]
          refine wpAnyH_ready (rs := [8]) (by kernel_rfl) (by simp) ?_
          refine AllReadyH.cons (o := { dst := some 48, op := .buildSlice 23 3 #[(0, .const (.int .i64 (-1))), (1, .const (.int .i64 12)), (2, .tmp 47)], type := _, pos := _, after := _, guard := none }) rfl (fun K hK => ?_) AllReadyH.nil
          go_simp
          refine hK.out _ _ trivial (fun hHeld => ?_)
          clear hK K
          try simp only [Act.put, List.setIfInBounds_toArray, List.set_cons_zero, List.set_cons_succ]
          refine anyH_gen _ (fun X3 hX3 => ?_)
          have HX3 := Lib.hid (show OwnL W _ g c zs2 X3 by rw [hX3]; exact HX2.out.alloc _)
          have HBK := Lib.hid (show W.heap.size < X2.heap.size by have := HX2.out.gB; have := HX2.out.lt; omega)
          have HC := Lib.hid (show X3.cell? ⟨X2.heap.size, 0, none⟩ = some (.int .i64 (-1)) ∧ X3.cell? ⟨X2.heap.size, 1, none⟩ = some (.int .i64 12) ∧ X3.cell? ⟨X2.heap.size, 2, none⟩ = some (.int .i64 y0) by rw [hX3]; exact ⟨new_cell rfl, new_cell rfl, new_cell rfl⟩)
          clear hX3
          obtain ⟨k1, rfl⟩ := Int.eq_ofNat_of_zero_le hq10
          have hk1 : k1 < zs2.length := by have := HM.out; omega
          have hk1m : (k1 : Int) < (m : Int) := by omega
          obtain ⟨ck, fk⟩ := HX3.out.cells k1 hk1
          obtain ⟨l0, l1, l2⟩ := HC.out
          have hq : q2 = 0 ∨ q2 = 1 ∨ q2 = 2 := by omega
          clear hq20 hq21 hq10 hq11
          rcases hq with rfl | rfl | rfl
          · have HZ2 := Lib.hid (HX3.out.set hk1 (-1))
            refine wpAnyH_take (i := 11) (oi := { dst := some 51, op := .indexAddr 23 (.tmp 48) (.tmp 50), type := _, pos := _, after := _, guard := none }) (v := .pointer (some ⟨X2.heap.size, 0, none⟩)) rfl (by kernel_rfl) (by kernel_rfl) (by kernel_rfl) (fun _ _ _ h => h) (Or.inl ⟨by rfl, fun wh hSw => ?_⟩) hHeld ?_
            · go_simp
            try simp only [Act.put, List.setIfInBounds_toArray, List.set_cons_zero, List.set_cons_succ]
            refine wpAnyH_ready (rs := [12]) (by kernel_rfl) (by simp) ?_
            refine AllReadyH.cons (o := { dst := some 52, op := .load 3 (.tmp 51), type := _, pos := _, after := _, guard := none }) rfl (fun K hK => ?_) AllReadyH.nil
            go_simp
            refine hK.out _ _ trivial (fun hHeld => ?_)
            clear hK K
            try simp only [Act.put, List.setIfInBounds_toArray, List.set_cons_zero, List.set_cons_succ]
            refine wpAnyH_take (i := 13) (oi := { dst := some 53, op := .indexAddr 23 (.tmp 40) (.tmp 44), type := _, pos := _, after := _, guard := none }) (v := .pointer (some ⟨g, k1, none⟩)) rfl (by kernel_rfl) (by kernel_rfl) (by kernel_rfl) (fun _ _ _ h => h) (Or.inl ⟨by rfl, fun wh hSw => ?_⟩) hHeld ?_
            · go_simp
            try simp only [Act.put, List.setIfInBounds_toArray, List.set_cons_zero, List.set_cons_succ]
            refine wpAnyH_ready (rs := [14]) (by kernel_rfl) (by simp) ?_
            refine AllReadyH.cons (o := { dst := none, op := .store 3 (.tmp 53) (.tmp 52), type := _, pos := _, after := _, guard := none }) rfl (fun K hK => ?_) AllReadyH.nil
            go_simp
            refine hK.out _ _ trivial (fun hHeld => ?_)
            clear hK K
            try simp only [Act.put]
            refine wpAnyH_done (by kernel_rfl) ?_ _
            go_wp2_with fail
            go_ret
            exact DrewL.of HZ2.out (by rw [List.length_set]; have := HM.out; omega) (by rw [List.length_set]; exact HM.out)
          · have HZ2 := Lib.hid (HX3.out.set hk1 12)
            refine wpAnyH_take (i := 11) (oi := { dst := some 51, op := .indexAddr 23 (.tmp 48) (.tmp 50), type := _, pos := _, after := _, guard := none }) (v := .pointer (some ⟨X2.heap.size, 1, none⟩)) rfl (by kernel_rfl) (by kernel_rfl) (by kernel_rfl) (fun _ _ _ h => h) (Or.inl ⟨by rfl, fun wh hSw => ?_⟩) hHeld ?_
            · go_simp
            try simp only [Act.put, List.setIfInBounds_toArray, List.set_cons_zero, List.set_cons_succ]
            refine wpAnyH_ready (rs := [12]) (by kernel_rfl) (by simp) ?_
            refine AllReadyH.cons (o := { dst := some 52, op := .load 3 (.tmp 51), type := _, pos := _, after := _, guard := none }) rfl (fun K hK => ?_) AllReadyH.nil
            go_simp
            refine hK.out _ _ trivial (fun hHeld => ?_)
            clear hK K
            try simp only [Act.put, List.setIfInBounds_toArray, List.set_cons_zero, List.set_cons_succ]
            refine wpAnyH_take (i := 13) (oi := { dst := some 53, op := .indexAddr 23 (.tmp 40) (.tmp 44), type := _, pos := _, after := _, guard := none }) (v := .pointer (some ⟨g, k1, none⟩)) rfl (by kernel_rfl) (by kernel_rfl) (by kernel_rfl) (fun _ _ _ h => h) (Or.inl ⟨by rfl, fun wh hSw => ?_⟩) hHeld ?_
            · go_simp
            try simp only [Act.put, List.setIfInBounds_toArray, List.set_cons_zero, List.set_cons_succ]
            refine wpAnyH_ready (rs := [14]) (by kernel_rfl) (by simp) ?_
            refine AllReadyH.cons (o := { dst := none, op := .store 3 (.tmp 53) (.tmp 52), type := _, pos := _, after := _, guard := none }) rfl (fun K hK => ?_) AllReadyH.nil
            go_simp
            refine hK.out _ _ trivial (fun hHeld => ?_)
            clear hK K
            try simp only [Act.put]
            refine wpAnyH_done (by kernel_rfl) ?_ _
            go_wp2_with fail
            go_ret
            exact DrewL.of HZ2.out (by rw [List.length_set]; have := HM.out; omega) (by rw [List.length_set]; exact HM.out)
          · have HZ2 := Lib.hid (HX3.out.set hk1 y0)
            refine wpAnyH_take (i := 11) (oi := { dst := some 51, op := .indexAddr 23 (.tmp 48) (.tmp 50), type := _, pos := _, after := _, guard := none }) (v := .pointer (some ⟨X2.heap.size, 2, none⟩)) rfl (by kernel_rfl) (by kernel_rfl) (by kernel_rfl) (fun _ _ _ h => h) (Or.inl ⟨by rfl, fun wh hSw => ?_⟩) hHeld ?_
            · go_simp
            try simp only [Act.put, List.setIfInBounds_toArray, List.set_cons_zero, List.set_cons_succ]
            refine wpAnyH_ready (rs := [12]) (by kernel_rfl) (by simp) ?_
            refine AllReadyH.cons (o := { dst := some 52, op := .load 3 (.tmp 51), type := _, pos := _, after := _, guard := none }) rfl (fun K hK => ?_) AllReadyH.nil
            go_simp
            refine hK.out _ _ trivial (fun hHeld => ?_)
            clear hK K
            try simp only [Act.put, List.setIfInBounds_toArray, List.set_cons_zero, List.set_cons_succ]
            refine wpAnyH_take (i := 13) (oi := { dst := some 53, op := .indexAddr 23 (.tmp 40) (.tmp 44), type := _, pos := _, after := _, guard := none }) (v := .pointer (some ⟨g, k1, none⟩)) rfl (by kernel_rfl) (by kernel_rfl) (by kernel_rfl) (fun _ _ _ h => h) (Or.inl ⟨by rfl, fun wh hSw => ?_⟩) hHeld ?_
            · go_simp
            try simp only [Act.put, List.setIfInBounds_toArray, List.set_cons_zero, List.set_cons_succ]
            refine wpAnyH_ready (rs := [14]) (by kernel_rfl) (by simp) ?_
            refine AllReadyH.cons (o := { dst := none, op := .store 3 (.tmp 53) (.tmp 52), type := _, pos := _, after := _, guard := none }) rfl (fun K hK => ?_) AllReadyH.nil
            go_simp
            refine hK.out _ _ trivial (fun hHeld => ?_)
            clear hK K
            try simp only [Act.put]
            refine wpAnyH_done (by kernel_rfl) ?_ _
            go_wp2_with fail
            go_ret
            exact DrewL.of HZ2.out (by rw [List.length_set]; have := HM.out; omega) (by rw [List.length_set]; exact HM.out)
      · go_simp
        refine hK.out _ _ trivial (fun hHeld => ?_)
        clear hK K
        try simp only [Act.put, List.setIfInBounds_toArray, List.set_cons_zero, List.set_cons_succ]
        refine anyH_gen _ (fun X1 hX1 => ?_)
        have HX1 := Lib.hid (show OwnL W _ g c zs2 X1 by rw [hX1]; exact HX0.out.alloc _)
        have HBK := Lib.hid (show W.heap.size < X0.heap.size by have := HX0.out.gB; have := HX0.out.lt; omega)
        have HC := Lib.hid (show X1.cell? ⟨X0.heap.size, 0, none⟩ = some (.int .i64 (-1)) ∧ X1.cell? ⟨X0.heap.size, 1, none⟩ = some (.int .i64 12) ∧ X1.cell? ⟨X0.heap.size, 2, none⟩ = some (.int .i64 y0) by rw [hX1]; exact ⟨new_cell rfl, new_cell rfl, new_cell rfl⟩)
        clear hX1
        refine wpAnyH_ready (rs := [4]) (by kernel_rfl) (by simp) ?_
        refine AllReadyH.cons (o := { dst := some 44, op := .call { callee := .value (.func 39), args := #[.tmp 41, .tmp 43], argTypes := #[40, 3] }, type := _, pos := _, after := _, guard := none }) rfl (fun K hK => ?_) AllReadyH.nil
        go_simp
        refine (pick_any W _ _ _ _ HX1.out.rdr (by omega) (by omega)).mono ?_
        rintro e X2 ⟨q1, hq10, hq11, rfl, hRX2, hOX2⟩
        have HX2 := Lib.hid (HX1.out.only hRX2 hOX2)
        have HC3 := Lib.hid (And.intro ((hOX2.cell (b := X0.heap.size) (o := 0) (by have := HBK.out; omega)).trans HC.out.1) (And.intro ((hOX2.cell (b := X0.heap.size) (o := 1) (by have := HBK.out; omega)).trans HC.out.2.1) ((hOX2.cell (b := X0.heap.size) (o := 2) (by have := HBK.out; omega)).trans HC.out.2.2)))
        clear HC
        have HC := HC3
        clear HC3
        clear hRX2 hOX2
        try go_simp
        refine hK.out _ _ trivial (fun hHeld => ?_)
        clear hK K
        try simp only [Act.put, List.setIfInBounds_toArray, List.set_cons_zero, List.set_cons_succ]
        refine wpAnyH_ready (rs := [10]) (by kernel_rfl) (by simp) ?_
        refine AllReadyH.cons (o := { dst := some 50, op := .call { callee := .value (.func 39), args := #[.tmp 49, .const (.int .i64 3)], argTypes := #[40, 3] }, type := _, pos := _, after := _, guard := none }) rfl (fun K hK => ?_) AllReadyH.nil
        go_simp
        refine (pick_any W _ _ _ _ HX2.out.rdr (by omega) (by omega)).mono ?_
        rintro e X3 ⟨q2, hq20, hq21, rfl, hRX3, hOX3⟩
        have HX3 := Lib.hid (HX2.out.only hRX3 hOX3)
        have HC3 := Lib.hid (And.intro ((hOX3.cell (b := X0.heap.size) (o := 0) (by have := HBK.out; omega)).trans HC.out.1) (And.intro ((hOX3.cell (b := X0.heap.size) (o := 1) (by have := HBK.out; omega)).trans HC.out.2.1) ((hOX3.cell (b := X0.heap.size) (o := 2) (by have := HBK.out; omega)).trans HC.out.2.2)))
        clear HC
        have HC := HC3
        clear HC3
        clear hRX3 hOX3
        try go_simp
        refine hK.out _ _ trivial (fun hHeld => ?_)
        clear hK K
        try simp only [Act.put, List.setIfInBounds_toArray, List.set_cons_zero, List.set_cons_succ]
        obtain ⟨k1, rfl⟩ := Int.eq_ofNat_of_zero_le hq10
        have hk1 : k1 < zs2.length := by have := HM.out; omega
        have hk1m : (k1 : Int) < (m : Int) := by omega
        obtain ⟨ck, fk⟩ := HX3.out.cells k1 hk1
        obtain ⟨l0, l1, l2⟩ := HC.out
        have hq : q2 = 0 ∨ q2 = 1 ∨ q2 = 2 := by omega
        clear hq20 hq21 hq10 hq11
        rcases hq with rfl | rfl | rfl
        · have HZ2 := Lib.hid (HX3.out.set hk1 (-1))
          refine wpAnyH_take (i := 11) (oi := { dst := some 51, op := .indexAddr 23 (.tmp 48) (.tmp 50), type := _, pos := _, after := _, guard := none }) (v := .pointer (some ⟨X0.heap.size, 0, none⟩)) rfl (by kernel_rfl) (by kernel_rfl) (by kernel_rfl) (fun _ _ _ h => h) (Or.inl ⟨by rfl, fun wh hSw => ?_⟩) hHeld ?_
          · go_simp
          try simp only [Act.put, List.setIfInBounds_toArray, List.set_cons_zero, List.set_cons_succ]
          refine wpAnyH_ready (rs := [12]) (by kernel_rfl) (by simp) ?_
          refine AllReadyH.cons (o := { dst := some 52, op := .load 3 (.tmp 51), type := _, pos := _, after := _, guard := none }) rfl (fun K hK => ?_) AllReadyH.nil
          go_simp
          refine hK.out _ _ trivial (fun hHeld => ?_)
          clear hK K
          try simp only [Act.put, List.setIfInBounds_toArray, List.set_cons_zero, List.set_cons_succ]
          refine wpAnyH_take (i := 13) (oi := { dst := some 53, op := .indexAddr 23 (.tmp 40) (.tmp 44), type := _, pos := _, after := _, guard := none }) (v := .pointer (some ⟨g, k1, none⟩)) rfl (by kernel_rfl) (by kernel_rfl) (by kernel_rfl) (fun _ _ _ h => h) (Or.inl ⟨by rfl, fun wh hSw => ?_⟩) hHeld ?_
          · go_simp
          try simp only [Act.put, List.setIfInBounds_toArray, List.set_cons_zero, List.set_cons_succ]
          refine wpAnyH_ready (rs := [14]) (by kernel_rfl) (by simp) ?_
          refine AllReadyH.cons (o := { dst := none, op := .store 3 (.tmp 53) (.tmp 52), type := _, pos := _, after := _, guard := none }) rfl (fun K hK => ?_) AllReadyH.nil
          go_simp
          refine hK.out _ _ trivial (fun hHeld => ?_)
          clear hK K
          try simp only [Act.put]
          refine wpAnyH_done (by kernel_rfl) ?_ _
          go_wp2_with fail
          go_ret
          exact DrewL.of HZ2.out (by rw [List.length_set]; have := HM.out; omega) (by rw [List.length_set]; exact HM.out)
        · have HZ2 := Lib.hid (HX3.out.set hk1 12)
          refine wpAnyH_take (i := 11) (oi := { dst := some 51, op := .indexAddr 23 (.tmp 48) (.tmp 50), type := _, pos := _, after := _, guard := none }) (v := .pointer (some ⟨X0.heap.size, 1, none⟩)) rfl (by kernel_rfl) (by kernel_rfl) (by kernel_rfl) (fun _ _ _ h => h) (Or.inl ⟨by rfl, fun wh hSw => ?_⟩) hHeld ?_
          · go_simp
          try simp only [Act.put, List.setIfInBounds_toArray, List.set_cons_zero, List.set_cons_succ]
          refine wpAnyH_ready (rs := [12]) (by kernel_rfl) (by simp) ?_
          refine AllReadyH.cons (o := { dst := some 52, op := .load 3 (.tmp 51), type := _, pos := _, after := _, guard := none }) rfl (fun K hK => ?_) AllReadyH.nil
          go_simp
          refine hK.out _ _ trivial (fun hHeld => ?_)
          clear hK K
          try simp only [Act.put, List.setIfInBounds_toArray, List.set_cons_zero, List.set_cons_succ]
          refine wpAnyH_take (i := 13) (oi := { dst := some 53, op := .indexAddr 23 (.tmp 40) (.tmp 44), type := _, pos := _, after := _, guard := none }) (v := .pointer (some ⟨g, k1, none⟩)) rfl (by kernel_rfl) (by kernel_rfl) (by kernel_rfl) (fun _ _ _ h => h) (Or.inl ⟨by rfl, fun wh hSw => ?_⟩) hHeld ?_
          · go_simp
          try simp only [Act.put, List.setIfInBounds_toArray, List.set_cons_zero, List.set_cons_succ]
          refine wpAnyH_ready (rs := [14]) (by kernel_rfl) (by simp) ?_
          refine AllReadyH.cons (o := { dst := none, op := .store 3 (.tmp 53) (.tmp 52), type := _, pos := _, after := _, guard := none }) rfl (fun K hK => ?_) AllReadyH.nil
          go_simp
          refine hK.out _ _ trivial (fun hHeld => ?_)
          clear hK K
          try simp only [Act.put]
          refine wpAnyH_done (by kernel_rfl) ?_ _
          go_wp2_with fail
          go_ret
          exact DrewL.of HZ2.out (by rw [List.length_set]; have := HM.out; omega) (by rw [List.length_set]; exact HM.out)
        · have HZ2 := Lib.hid (HX3.out.set hk1 y0)
          refine wpAnyH_take (i := 11) (oi := { dst := some 51, op := .indexAddr 23 (.tmp 48) (.tmp 50), type := _, pos := _, after := _, guard := none }) (v := .pointer (some ⟨X0.heap.size, 2, none⟩)) rfl (by kernel_rfl) (by kernel_rfl) (by kernel_rfl) (fun _ _ _ h => h) (Or.inl ⟨by rfl, fun wh hSw => ?_⟩) hHeld ?_
          · go_simp
          try simp only [Act.put, List.setIfInBounds_toArray, List.set_cons_zero, List.set_cons_succ]
          refine wpAnyH_ready (rs := [12]) (by kernel_rfl) (by simp) ?_
          refine AllReadyH.cons (o := { dst := some 52, op := .load 3 (.tmp 51), type := _, pos := _, after := _, guard := none }) rfl (fun K hK => ?_) AllReadyH.nil
          go_simp
          refine hK.out _ _ trivial (fun hHeld => ?_)
          clear hK K
          try simp only [Act.put, List.setIfInBounds_toArray, List.set_cons_zero, List.set_cons_succ]
          refine wpAnyH_take (i := 13) (oi := { dst := some 53, op := .indexAddr 23 (.tmp 40) (.tmp 44), type := _, pos := _, after := _, guard := none }) (v := .pointer (some ⟨g, k1, none⟩)) rfl (by kernel_rfl) (by kernel_rfl) (by kernel_rfl) (fun _ _ _ h => h) (Or.inl ⟨by rfl, fun wh hSw => ?_⟩) hHeld ?_
          · go_simp
          try simp only [Act.put, List.setIfInBounds_toArray, List.set_cons_zero, List.set_cons_succ]
          refine wpAnyH_ready (rs := [14]) (by kernel_rfl) (by simp) ?_
          refine AllReadyH.cons (o := { dst := none, op := .store 3 (.tmp 53) (.tmp 52), type := _, pos := _, after := _, guard := none }) rfl (fun K hK => ?_) AllReadyH.nil
          go_simp
          refine hK.out _ _ trivial (fun hHeld => ?_)
          clear hK K
          try simp only [Act.put]
          refine wpAnyH_done (by kernel_rfl) ?_ _
          go_wp2_with fail
          go_ret
          exact DrewL.of HZ2.out (by rw [List.length_set]; have := HM.out; omega) (by rw [List.length_set]; exact HM.out)
  · have hp' : (p == 0) = false := by simpa using hp
    go_wp2_with fail
    go_ret
    exact DrewL.of HO5.out (by have := HM.out; omega) (by have := HM.out; omega)
end Go.Proofs.Ytijgpimjmphaoaa
