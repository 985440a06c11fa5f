/- What the proofs stand on, part 15. -/
import Derived.Test.YtaalnjinocicgaaRows
import Derived.Test.YtaalnjinocicgaaW1
import Derived.Test.YtaalnjinocicgaaW2
import Derived.Test.YtaalnjinocicgaaW3
import Derived.Test.YtaalnjinocicgaaW4
import Derived.Test.YtaalnjinocicgaaW5
import Derived.Test.YtaalnjinocicgaaW6
import Derived.Test.YtaalnjinocicgaaW7
import Derived.Test.YtaalnjinocicgaaW8
import Derived.Test.YtaalnjinocicgaaW9
import Derived.Test.YtaalnjinocicgaaW10
import Derived.Test.YtaalnjinocicgaaW11
import Derived.Test.YtaalnjinocicgaaW12
set_option linter.unusedSimpArgs false
set_option linter.unusedVariables false
namespace Go.Proofs.Ytaalnjinocicgaa
open Go.ChangeShapes Go.WideShapes Go.ChangeAt Go.RowKit
set_option linter.unusedVariables false
theorem sameMemory_any (w : World) (va vb : Value) (xs ys : List (List Int)) (ha : Rows2 w va xs) (hb : Rows2 w vb ys) :
    Calls Try.prog 16 #[va, vb] w (Reads (.bool (decide (xs = ys))) w) := by
  obtain ⟨a, ca, rfl, hla, hma, hxa⟩ := ha
  obtain ⟨b, cb, rfl, hlb, hmb, hxb⟩ := hb
  unfold maxLen at hma hmb
  by_cases hl : xs.length = ys.length
  · obtain ⟨n, hn⟩ : ∃ n, n = xs.length := ⟨_, rfl⟩
    have hn2 : ys.length = n := by omega
    rw [← hn] at hla hxa ⊢
    rw [hn2] at hlb hxb ⊢
    have HN := Lib.hid hn
    have HN2 := Lib.hid hn2
    clear hn hn2 hl
    go_enter Try.func16, Try.ntmps16
    go_wp2
    go_loopw [5] (fun i wr => ∃ k d : Nat, k ≤ n ∧ i = .int .i64 k ∧ Hid (xs.take k = ys.take k) ∧ wr = w.drewN d) (fun i _ => n - (intOf i).toNat)
    case atStart => exact ⟨0, 0, Nat.zero_le _, rfl, Lib.hid rfl, rfl⟩
    case round =>
      obtain ⟨k, d, hk, rfl, HT, rfl⟩ := hrel
      by_cases hlt : k < n
      · obtain ⟨ba, oa, ua, rfl, hca, hia⟩ := hxa k hlt
        obtain ⟨bb, ob, ub, rfl, hcb, hib⟩ := hxb k hlt
        generalize hx : xs.getD k [] = x at hia
        generalize hy : ys.getD k [] = y at hib
        have HX := Lib.hid hx
        have HY := Lib.hid hy
        clear hx hy hxa hxb
        have hlt' : (k : Int) < (n : Int) := by omega
        have HA := Lib.hid hia
        have HB := Lib.hid hib
        clear hia hib
        by_cases he : x = y
        · have hd : decide (x = y) = true := decide_eq_true he
          have HE := Lib.hid he
          clear he
          have HC : ∀ m, Calls Try.prog 18 #[ua, ub] (w.drewN m) (Reads (.bool true) (w.drewN m)) := fun m => by
            have := sameInts_any (w.drewN m) ua ub x y HA.out HB.out
            rw [hd] at this
            exact this
          have HC' := Lib.hid HC
          clear HC hd
          go_wp2_with fail
          go_quiet ((go_at_call 18; exact reads_add (HC'.out _)))
          go_wp2
          go_roundw
          case rel => exact ⟨k + 1, _, by omega, by go_num, Lib.hid (take_eq_succ (d := []) (HN.out.symm.trans HN2.out.symm) (by have := HN.out; omega) HT.out (HX.out.trans (HE.out.trans HY.out.symm))), rfl⟩
          case measure => simp [intOf]; omega
        · have hd : decide (x = y) = false := decide_eq_false he
          have HE : Hid (¬ x = y) := Lib.hid he
          clear he
          have HC : ∀ m, Calls Try.prog 18 #[ua, ub] (w.drewN m) (Reads (.bool false) (w.drewN m)) := fun m => by
            have := sameInts_any (w.drewN m) ua ub x y HA.out HB.out
            rw [hd] at this
            exact this
          have HC' := Lib.hid HC
          clear HC hd
          go_wp2_with fail
          go_quiet ((go_at_call 18; exact reads_add (HC'.out _)))
          go_wp2
          go_ret
          exact reads_mk2 (by symm; exact decide_eq_false (ne_of_getD (d := []) (k := k) (fun h => HE.out (HX.out.symm.trans (h.trans HY.out)))))
      · go_wp2
        go_ret
        exact reads_mk (by symm; exact decide_eq_true (eq_of_take (HN.out.symm.trans HN2.out.symm) (by have := HN.out; omega) HT.out))
  · have hne : ((xs.length : Int) != (ys.length : Int)) = true := by simp; omega
    have HL := Lib.hid hl
    clear hl
    go_enter Try.func16, Try.ntmps16
    go_wp2
    go_ret
    exact reads_mk0 (by symm; exact decide_eq_false (fun h => HL.out (by rw [h])))
theorem same_c (w : World) (va vb : Value) (xs : List (List Int)) (ha : Rows2 w va xs) (hb : Rows2 w vb xs) :
    Calls Try.prog 16 #[va, vb] w fun e w' => e = .returned (.bool true) ∧ Chg 0 0 w w' :=
  (sameMemory_any w va vb xs xs ha hb).mono fun e w' ⟨he, n, hn⟩ => ⟨by rw [he]; simp, by rw [hn]; exact Chg.of_drewN w n⟩
end Go.Proofs.Ytaalnjinocicgaa
namespace Go.Proofs.Ytaalnjinocicgaa
open Go.ChangeShapes Go.WideShapes Go.ChangeAt Go.RowKit
set_option linter.unusedVariables false
set_option linter.unusedSimpArgs false
def DrewS1 (W : World) (e : Ending) (w' : World) : Prop := ∃ v xss u ws, e = .returned (.tuple #[v, u]) ∧ Ints w' u ws ∧ (3 ≤ ws.length ∧ ws.length ≤ 4) ∧ DS W v xss w'
theorem mul24 (a b : Nat) (ha : a < 2) (hb : b < 4) : ∃ n : Nat, n < 4 ∧ IntKind.i64.wrap ((a : Int) * (b : Int)) = (n : Int) := by
  obtain rfl | rfl : a = 0 ∨ a = 1 := by omega
  · exact ⟨0, by omega, by rw [IntKind.wrap_i64]; simp⟩
  · exact ⟨b, hb, by rw [IntKind.wrap_i64]; omega⟩
set_option maxRecDepth 100000 in
set_option maxHeartbeats 2000000 in
theorem drawSwapPut_any (W : World) (a : Option Addr) (len cap : Nat) (zs : List Int) (hr : Row .u8 W a len cap zs) :
    Calls Try.prog 13 #[.slice a len cap] W (DrewS1 W) := by
  go_enter Try.func13, Try.ntmps13
  go_wp2_with fail
  refine (open_any W a len cap zs hr).mono ?_
  clear hr
  rintro e w1 ⟨rfl, hR1⟩
  go_wp2_with fail
  refine (swap_any W _ _ _ hR1 (by omega)).mono ?_
  rintro e w2 ⟨v, xss, rfl, hl, h⟩
  have H := Lib.hid h
  have HL := Lib.hid hl
  clear h hR1 hl
  go_wp2_with fail
  refine (pick_any W _ _ _ _ H.out.rdr (by omega) (by omega)).mono ?_
  rintro e w3 ⟨m, h0, h1, rfl, hR3, hO3⟩
  have H3 := Lib.hid (H.out.drew hR3 hO3.grown)
  clear hR3 hO3 H
  by_cases hm : m = 0
  · subst hm
    have HI := Lib.hid (ints_new w3 [1, 2, 3] 3 (by decide))
    have HD := Lib.hid (DS.of (H3.out.keep (w2 := w3.alloc (.cells #[.int .i64 1, .int .i64 2, .int .i64 3] 3)) ((Below.refl _ _).alloc (Nat.le_refl _) _)) HL.out)
    go_wp2_with fail
    go_ret2
    exact ⟨_, xss, _, [1, 2, 3], rfl, HI.out, ⟨by decide, by decide⟩, HD.out⟩
  · have hm' : (m == 0) = false := by simpa using hm
    clear hm
    go_wp2_with fail
    refine wp_region_held_drew (S := fun _ => True) (by kernel_rfl) trivial (fun hHeld => ?_)
    refine anyH_gen _ (fun AZ hgen => ?_)
    have HBZ := Lib.hid (by rw [hgen]; exact (Below.refl _ _).drew : Below w3.heap.size w3 AZ)
    clear hgen
    have HDZ := Lib.hid (H3.out.keep HBZ.out)
    refine wpAnyH_take (i := 0) (oi := { dst := some 15, op := .move (.tmp 5), type := _, pos := _, after := _, guard := none }) (v := v) rfl (by kernel_rfl) (by kernel_rfl) (by kernel_rfl) (fun _ _ _ h => h) (Or.inl ⟨by rfl, fun wh hSw => ?_⟩) hHeld ?_
    · go_simp
    try simp only [Act.put, List.setIfInBounds_toArray, List.set_cons_zero, List.set_cons_succ]
    refine wpAnyH_take (i := 1) (oi := { dst := some 16, op := .move (.tmp 4), type := _, pos := _, after := _, guard := none }) (v := .pointer (some ⟨W.heap.size, 0, none⟩)) rfl (by kernel_rfl) (by kernel_rfl) (by kernel_rfl) (fun _ _ _ h => h) (Or.inl ⟨by rfl, fun wh hSw => ?_⟩) hHeld ?_
    · go_simp
    try simp only [Act.put, List.setIfInBounds_toArray, List.set_cons_zero, List.set_cons_succ]
    refine wpAnyH_take (i := 4) (oi := { dst := some 19, op := .move (.tmp 4), type := _, pos := _, after := _, guard := none }) (v := .pointer (some ⟨W.heap.size, 0, none⟩)) rfl (by kernel_rfl) (by kernel_rfl) (by kernel_rfl) (fun _ _ _ h => h) (Or.inl ⟨by rfl, fun wh hSw => ?_⟩) hHeld ?_
    · go_simp
    try simp only [Act.put, List.setIfInBounds_toArray, List.set_cons_zero, List.set_cons_succ]
    refine wpAnyH_take (i := 6) (oi := { dst := some 21, op := .move (.tmp 4), type := _, pos := _, after := _, guard := none }) (v := .pointer (some ⟨W.heap.size, 0, none⟩)) rfl (by kernel_rfl) (by kernel_rfl) (by kernel_rfl) (fun _ _ _ h => h) (Or.inl ⟨by rfl, fun wh hSw => ?_⟩) hHeld ?_
    · go_simp
    try simp only [Act.put, List.setIfInBounds_toArray, List.set_cons_zero, List.set_cons_succ]
    refine wpAnyH_ready (rs := [2, 3]) (by kernel_rfl) (by simp) ?_
    refine AllReadyH.cons (o := { dst := some 17, op := .call { callee := .value (.func 37), args := #[.tmp 16, .const (.int .i64 9)], argTypes := #[47, 3] }, type := _, pos := _, after := _, guard := none }) rfl (fun K hK => ?_) (AllReadyH.cons (o := { dst := some 18, op := .buildSlice 24 4 #[(0, .const (.int .i64 3)), (1, .const (.int .i64 9999)), (2, .const (.int .i64 10000)), (3, .const (.int .i64 (-1)))], type := _, pos := _, after := _, guard := none }) rfl (fun K hK => ?_) AllReadyH.nil)
    · go_simp
      refine (pick_any W AZ W.heap.size _ _ HDZ.out.rdr (by omega) (by omega)).mono ?_
      rintro e A16 ⟨m18x, h0m18, h1m18, rfl, hR, hO⟩
      obtain ⟨m18, rfl⟩ : ∃ q : Nat, m18x = (q : Int) := ⟨m18x.toNat, by omega⟩
      have m18lt : m18 < 9 := by omega
      have H17 := Lib.hid (HDZ.out.drew hR hO.grown)
      clear hR hO
      refine hK.out _ _ ?_ (fun hHeld => ?_)
      · exact trivial
      clear hK K
      try simp only [Act.put, List.setIfInBounds_toArray, List.set_cons_zero, List.set_cons_succ]
      refine wpAnyH_ready (rs := [3, 5]) (by kernel_rfl) (by simp) ?_
      refine AllReadyH.cons (o := { dst := some 18, op := .buildSlice 24 4 #[(0, .const (.int .i64 3)), (1, .const (.int .i64 9999)), (2, .const (.int .i64 10000)), (3, .const (.int .i64 (-1)))], type := _, pos := _, after := _, guard := none }) rfl (fun K hK => ?_) (AllReadyH.cons (o := { dst := some 20, op := .call { callee := .value (.func 37), args := #[.tmp 19, .const (.int .i64 2)], argTypes := #[47, 3] }, type := _, pos := _, after := _, guard := none }) rfl (fun K hK => ?_) AllReadyH.nil)
      · go_simp
        refine hK.out _ _ ?_ (fun hHeld => ?_)
        · exact trivial
        clear hK K
        try simp only [Act.put, List.setIfInBounds_toArray, List.set_cons_zero, List.set_cons_succ]
        refine anyH_gen _ (fun A19 hgen => ?_)
        have H20 := Lib.hid (show DSw W W.heap.size _ _ _ _ A19 by rw [hgen]; exact H17.out.keep ((Below.refl _ _).alloc (Nat.le_refl _) _))
        have AR21 : Hid (∀ i, i < 4 → ∃ z, A19.cell? ⟨A16.heap.size, i, none⟩ = some (.int .i64 z)) := Lib.hid (fun i hi => by rw [hgen]; obtain rfl | rfl | rfl | rfl : i = 0 ∨ i = 1 ∨ i = 2 ∨ i = 3 := (by omega); all_goals exact ⟨_, new_cell rfl⟩)
        clear hgen
        refine wpAnyH_ready (rs := [5]) (by kernel_rfl) (by simp) ?_
        refine AllReadyH.cons (o := { dst := some 20, op := .call { callee := .value (.func 37), args := #[.tmp 19, .const (.int .i64 2)], argTypes := #[47, 3] }, type := _, pos := _, after := _, guard := none }) rfl (fun K hK => ?_) AllReadyH.nil
        go_simp
        refine (pick_any W A19 W.heap.size _ _ H20.out.rdr (by omega) (by omega)).mono ?_
        rintro e A22 ⟨m24x, h0m24, h1m24, rfl, hR, hO⟩
        obtain ⟨m24, rfl⟩ : ∃ q : Nat, m24x = (q : Int) := ⟨m24x.toNat, by omega⟩
        have m24lt : m24 < 2 := by omega
        have H23 := Lib.hid (H20.out.drew hR hO.grown)
        have AR25 : Hid (∀ i, i < 4 → ∃ z, A22.cell? ⟨A16.heap.size, i, none⟩ = some (.int .i64 z)) := Lib.hid (fun i hi => by obtain ⟨z, hz⟩ := AR21.out i hi; exact ⟨z, (World.cell?_of_block (hO.2.2.2.2 _ (by have h8 := H17.out.B0; have h9 := H17.out.grow.size; show A16.heap.size ≠ W.heap.size; omega))).trans hz⟩)
        clear hR hO
        refine hK.out _ _ ?_ (fun hHeld => ?_)
        · exact trivial
        clear hK K
        try simp only [Act.put, List.setIfInBounds_toArray, List.set_cons_zero, List.set_cons_succ]
        refine wpAnyH_ready (rs := [7]) (by kernel_rfl) (by simp) ?_
        refine AllReadyH.cons (o := { dst := some 22, op := .call { callee := .value (.func 37), args := #[.tmp 21, .const (.int .i64 4)], argTypes := #[47, 3] }, type := _, pos := _, after := _, guard := none }) rfl (fun K hK => ?_) AllReadyH.nil
        go_simp
        refine (pick_any W A22 W.heap.size _ _ H23.out.rdr (by omega) (by omega)).mono ?_
        rintro e A26 ⟨m28x, h0m28, h1m28, rfl, hR, hO⟩
        obtain ⟨m28, rfl⟩ : ∃ q : Nat, m28x = (q : Int) := ⟨m28x.toNat, by omega⟩
        have m28lt : m28 < 4 := by omega
        have H27 := Lib.hid (H23.out.drew hR hO.grown)
        have AR29 : Hid (∀ i, i < 4 → ∃ z, A26.cell? ⟨A16.heap.size, i, none⟩ = some (.int .i64 z)) := Lib.hid (fun i hi => by obtain ⟨z, hz⟩ := AR25.out i hi; exact ⟨z, (World.cell?_of_block (hO.2.2.2.2 _ (by have h8 := H17.out.B0; have h9 := H17.out.grow.size; show A16.heap.size ≠ W.heap.size; omega))).trans hz⟩)
        clear hR hO
        obtain ⟨n9, hn9, hn9w⟩ := mul24 m24 m28 (by omega) (by omega)
        have hn9i : (n9 : Int) < 4 := by omega
        refine hK.out _ _ ?_ (fun hHeld => ?_)
        · exact trivial
        clear hK K
        try simp only [Act.put, List.setIfInBounds_toArray, List.set_cons_zero, List.set_cons_succ]
        refine wpAnyH_take (i := 8) (oi := { dst := some 23, op := .binOp .mul 3 (.tmp 20) (.tmp 22) 3, type := _, pos := _, after := _, guard := none }) (v := .int .i64 (n9 : Int)) rfl (by kernel_rfl) (by kernel_rfl) (by kernel_rfl) (fun _ _ _ h => h) (Or.inl ⟨by rfl, fun wh hSw => ?_⟩) hHeld ?_
        · go_simp
        try simp only [Act.put, List.setIfInBounds_toArray, List.set_cons_zero, List.set_cons_succ]
        refine wpAnyH_take (i := 12) (oi := { dst := some 2, op := .assign (.tmp 15), type := _, pos := _, after := _, guard := none }) (v := v) rfl (by kernel_rfl) (by kernel_rfl) (by kernel_rfl) (fun _ _ _ h => h) (Or.inl ⟨by rfl, fun wh hSw => ?_⟩) hHeld ?_
        · go_simp
        try simp only [Act.put, List.setIfInBounds_toArray, List.set_cons_zero, List.set_cons_succ]
        refine wpAnyH_ready (rs := [9]) (by kernel_rfl) (by simp) ?_
        refine AllReadyH.cons (o := { dst := some 24, op := .indexAddr 24 (.tmp 18) (.tmp 23), type := _, pos := _, after := _, guard := none }) rfl (fun K hK => ?_) AllReadyH.nil
        go_simp
        refine hK.out _ _ ?_ (fun hHeld => ?_)
        · exact trivial
        clear hK K
        try simp only [Act.put, List.setIfInBounds_toArray, List.set_cons_zero, List.set_cons_succ]
        refine wpAnyH_ready (rs := [10]) (by kernel_rfl) (by simp) ?_
        refine AllReadyH.cons (o := { dst := some 25, op := .load 3 (.tmp 24), type := _, pos := _, after := _, guard := none }) rfl (fun K hK => ?_) AllReadyH.nil
        obtain ⟨z30, hzz30⟩ := AR29.out (n9) (by omega)
        go_simp
        refine hK.out _ _ ?_ (fun hHeld => ?_)
        · exact trivial
        clear hK K
        try simp only [Act.put, List.setIfInBounds_toArray, List.set_cons_zero, List.set_cons_succ]
        clear hzz30
        refine wpAnyH_ready (rs := [11]) (by kernel_rfl) (by simp) ?_
        refine AllReadyH.cons (o := { dst := some 26, op := .buildSlice 24 4 #[(0, .tmp 17), (1, .const (.int .i64 1)), (2, .const (.int .i64 2)), (3, .tmp 25)], type := _, pos := _, after := _, guard := none }) rfl (fun K hK => ?_) AllReadyH.nil
        go_simp
        refine hK.out _ _ ?_ (fun hHeld => ?_)
        · exact trivial
        clear hK K
        try simp only [Act.put, List.setIfInBounds_toArray, List.set_cons_zero, List.set_cons_succ]
        refine anyH_gen _ (fun A31 hgen => ?_)
        have H32 := Lib.hid (show DSw W W.heap.size _ _ _ _ A31 by rw [hgen]; exact H27.out.keep ((Below.refl _ _).alloc (Nat.le_refl _) _))
        have HI33 : Hid (Ints A31 (.slice (some ⟨A26.heap.size, 0, none⟩) 4 4) [(m18 : Int), 1, 2, z30]) := Lib.hid (by rw [hgen]; exact ints_new A26 [(m18 : Int), 1, 2, z30] _ (by simp))
        clear hgen
        refine wpAnyH_take (i := 13) (oi := { dst := some 3, op := .assign (.tmp 26), type := _, pos := _, after := _, guard := none }) (v := .slice (some ⟨A26.heap.size, 0, none⟩) 4 4) rfl (by kernel_rfl) (by kernel_rfl) (by kernel_rfl) (fun _ _ _ h => h) (Or.inl ⟨by rfl, fun wh hSw => ?_⟩) hHeld ?_
        · go_simp
        try simp only [Act.put, List.setIfInBounds_toArray, List.set_cons_zero, List.set_cons_succ]
        refine wpAnyH_done (by kernel_rfl) ?_ _
        go_wp2_with fail
        go_ret2
        exact ⟨_, xss, _, [(m18 : Int), 1, 2, z30], rfl, HI33.out, ⟨by simp, by simp⟩, DS.of (H32.out.mono (Nat.le_refl _)) HL.out⟩
      · go_simp
        refine (pick_any W A16 W.heap.size _ _ H17.out.rdr (by omega) (by omega)).mono ?_
        rintro e A34 ⟨m36x, h0m36, h1m36, rfl, hR, hO⟩
        obtain ⟨m36, rfl⟩ : ∃ q : Nat, m36x = (q : Int) := ⟨m36x.toNat, by omega⟩
        have m36lt : m36 < 2 := by omega
        have H35 := Lib.hid (H17.out.drew hR hO.grown)
        clear hR hO
        refine hK.out _ _ ?_ (fun hHeld => ?_)
        · exact trivial
        clear hK K
        try simp only [Act.put, List.setIfInBounds_toArray, List.set_cons_zero, List.set_cons_succ]
        refine wpAnyH_ready (rs := [3, 7]) (by kernel_rfl) (by simp) ?_
        refine AllReadyH.cons (o := { dst := some 18, op := .buildSlice 24 4 #[(0, .const (.int .i64 3)), (1, .const (.int .i64 9999)), (2, .const (.int .i64 10000)), (3, .const (.int .i64 (-1)))], type := _, pos := _, after := _, guard := none }) rfl (fun K hK => ?_) (AllReadyH.cons (o := { dst := some 22, op := .call { callee := .value (.func 37), args := #[.tmp 21, .const (.int .i64 4)], argTypes := #[47, 3] }, type := _, pos := _, after := _, guard := none }) rfl (fun K hK => ?_) AllReadyH.nil)
        · go_simp
          refine hK.out _ _ ?_ (fun hHeld => ?_)
          · exact trivial
          clear hK K
          try simp only [Act.put, List.setIfInBounds_toArray, List.set_cons_zero, List.set_cons_succ]
          refine anyH_gen _ (fun A37 hgen => ?_)
          have H38 := Lib.hid (show DSw W W.heap.size _ _ _ _ A37 by rw [hgen]; exact H35.out.keep ((Below.refl _ _).alloc (Nat.le_refl _) _))
          have AR39 : Hid (∀ i, i < 4 → ∃ z, A37.cell? ⟨A34.heap.size, i, none⟩ = some (.int .i64 z)) := Lib.hid (fun i hi => by rw [hgen]; obtain rfl | rfl | rfl | rfl : i = 0 ∨ i = 1 ∨ i = 2 ∨ i = 3 := (by omega); all_goals exact ⟨_, new_cell rfl⟩)
          clear hgen
          refine wpAnyH_ready (rs := [7]) (by kernel_rfl) (by simp) ?_
          refine AllReadyH.cons (o := { dst := some 22, op := .call { callee := .value (.func 37), args := #[.tmp 21, .const (.int .i64 4)], argTypes := #[47, 3] }, type := _, pos := _, after := _, guard := none }) rfl (fun K hK => ?_) AllReadyH.nil
          go_simp
          refine (pick_any W A37 W.heap.size _ _ H38.out.rdr (by omega) (by omega)).mono ?_
          rintro e A40 ⟨m42x, h0m42, h1m42, rfl, hR, hO⟩
          obtain ⟨m42, rfl⟩ : ∃ q : Nat, m42x = (q : Int) := ⟨m42x.toNat, by omega⟩
          have m42lt : m42 < 4 := by omega
          have H41 := Lib.hid (H38.out.drew hR hO.grown)
          have AR43 : Hid (∀ i, i < 4 → ∃ z, A40.cell? ⟨A34.heap.size, i, none⟩ = some (.int .i64 z)) := Lib.hid (fun i hi => by obtain ⟨z, hz⟩ := AR39.out i hi; exact ⟨z, (World.cell?_of_block (hO.2.2.2.2 _ (by have h8 := H35.out.B0; have h9 := H35.out.grow.size; show A34.heap.size ≠ W.heap.size; omega))).trans hz⟩)
          clear hR hO
          obtain ⟨n9, hn9, hn9w⟩ := mul24 m36 m42 (by omega) (by omega)
          have hn9i : (n9 : Int) < 4 := by omega
          refine hK.out _ _ ?_ (fun hHeld => ?_)
          · exact trivial
          clear hK K
          try simp only [Act.put, List.setIfInBounds_toArray, List.set_cons_zero, List.set_cons_succ]
          refine wpAnyH_take (i := 8) (oi := { dst := some 23, op := .binOp .mul 3 (.tmp 20) (.tmp 22) 3, type := _, pos := _, after := _, guard := none }) (v := .int .i64 (n9 : Int)) rfl (by kernel_rfl) (by kernel_rfl) (by kernel_rfl) (fun _ _ _ h => h) (Or.inl ⟨by rfl, fun wh hSw => ?_⟩) hHeld ?_
          · go_simp
          try simp only [Act.put, List.setIfInBounds_toArray, List.set_cons_zero, List.set_cons_succ]
          refine wpAnyH_take (i := 12) (oi := { dst := some 2, op := .assign (.tmp 15), type := _, pos := _, after := _, guard := none }) (v := v) rfl (by kernel_rfl) (by kernel_rfl) (by kernel_rfl) (fun _ _ _ h => h) (Or.inl ⟨by rfl, fun wh hSw => ?_⟩) hHeld ?_
          · go_simp
          try simp only [Act.put, List.setIfInBounds_toArray, List.set_cons_zero, List.set_cons_succ]
          refine wpAnyH_ready (rs := [9]) (by kernel_rfl) (by simp) ?_
          refine AllReadyH.cons (o := { dst := some 24, op := .indexAddr 24 (.tmp 18) (.tmp 23), type := _, pos := _, after := _, guard := none }) rfl (fun K hK => ?_) AllReadyH.nil
          go_simp
          refine hK.out _ _ ?_ (fun hHeld => ?_)
          · exact trivial
          clear hK K
          try simp only [Act.put, List.setIfInBounds_toArray, List.set_cons_zero, List.set_cons_succ]
          refine wpAnyH_ready (rs := [10]) (by kernel_rfl) (by simp) ?_
          refine AllReadyH.cons (o := { dst := some 25, op := .load 3 (.tmp 24), type := _, pos := _, after := _, guard := none }) rfl (fun K hK => ?_) AllReadyH.nil
          obtain ⟨z44, hzz44⟩ := AR43.out (n9) (by omega)
          go_simp
          refine hK.out _ _ ?_ (fun hHeld => ?_)
          · exact trivial
          clear hK K
          try simp only [Act.put, List.setIfInBounds_toArray, List.set_cons_zero, List.set_cons_succ]
          clear hzz44
          refine wpAnyH_ready (rs := [11]) (by kernel_rfl) (by simp) ?_
          refine AllReadyH.cons (o := { dst := some 26, op := .buildSlice 24 4 #[(0, .tmp 17), (1, .const (.int .i64 1)), (2, .const (.int .i64 2)), (3, .tmp 25)], type := _, pos := _, after := _, guard := none }) rfl (fun K hK => ?_) AllReadyH.nil
          go_simp
          refine hK.out _ _ ?_ (fun hHeld => ?_)
          · exact trivial
          clear hK K
          try simp only [Act.put, List.setIfInBounds_toArray, List.set_cons_zero, List.set_cons_succ]
          refine anyH_gen _ (fun A45 hgen => ?_)
          have H46 := Lib.hid (show DSw W W.heap.size _ _ _ _ A45 by rw [hgen]; exact H41.out.keep ((Below.refl _ _).alloc (Nat.le_refl _) _))
          have HI47 : Hid (Ints A45 (.slice (some ⟨A40.heap.size, 0, none⟩) 4 4) [(m18 : Int), 1, 2, z44]) := Lib.hid (by rw [hgen]; exact ints_new A40 [(m18 : Int), 1, 2, z44] _ (by simp))
          clear hgen
          refine wpAnyH_take (i := 13) (oi := { dst := some 3, op := .assign (.tmp 26), type := _, pos := _, after := _, guard := none }) (v := .slice (some ⟨A40.heap.size, 0, none⟩) 4 4) rfl (by kernel_rfl) (by kernel_rfl) (by kernel_rfl) (fun _ _ _ h => h) (Or.inl ⟨by rfl, fun wh hSw => ?_⟩) hHeld ?_
          · go_simp
          try simp only [Act.put, List.setIfInBounds_toArray, List.set_cons_zero, List.set_cons_succ]
          refine wpAnyH_done (by kernel_rfl) ?_ _
          go_wp2_with fail
          go_ret2
          exact ⟨_, xss, _, [(m18 : Int), 1, 2, z44], rfl, HI47.out, ⟨by simp, by simp⟩, DS.of (H46.out.mono (Nat.le_refl _)) HL.out⟩
        · go_simp
          refine (pick_any W A34 W.heap.size _ _ H35.out.rdr (by omega) (by omega)).mono ?_
          rintro e A48 ⟨m50x, h0m50, h1m50, rfl, hR, hO⟩
          obtain ⟨m50, rfl⟩ : ∃ q : Nat, m50x = (q : Int) := ⟨m50x.toNat, by omega⟩
          have m50lt : m50 < 4 := by omega
          have H49 := Lib.hid (H35.out.drew hR hO.grown)
          clear hR hO
          obtain ⟨n9, hn9, hn9w⟩ := mul24 m36 m50 (by omega) (by omega)
          have hn9i : (n9 : Int) < 4 := by omega
          refine hK.out _ _ ?_ (fun hHeld => ?_)
          · exact trivial
          clear hK K
          try simp only [Act.put, List.setIfInBounds_toArray, List.set_cons_zero, List.set_cons_succ]
          refine wpAnyH_take (i := 8) (oi := { dst := some 23, op := .binOp .mul 3 (.tmp 20) (.tmp 22) 3, type := _, pos := _, after := _, guard := none }) (v := .int .i64 (n9 : Int)) rfl (by kernel_rfl) (by kernel_rfl) (by kernel_rfl) (fun _ _ _ h => h) (Or.inl ⟨by rfl, fun wh hSw => ?_⟩) hHeld ?_
          · go_simp
          try simp only [Act.put, List.setIfInBounds_toArray, List.set_cons_zero, List.set_cons_succ]
          refine wpAnyH_take (i := 12) (oi := { dst := some 2, op := .assign (.tmp 15), type := _, pos := _, after := _, guard := none }) (v := v) rfl (by kernel_rfl) (by kernel_rfl) (by kernel_rfl) (fun _ _ _ h => h) (Or.inl ⟨by rfl, fun wh hSw => ?_⟩) hHeld ?_
          · go_simp
          try simp only [Act.put, List.setIfInBounds_toArray, List.set_cons_zero, List.set_cons_succ]
          refine wpAnyH_ready (rs := [3]) (by kernel_rfl) (by simp) ?_
          refine AllReadyH.cons (o := { dst := some 18, op := .buildSlice 24 4 #[(0, .const (.int .i64 3)), (1, .const (.int .i64 9999)), (2, .const (.int .i64 10000)), (3, .const (.int .i64 (-1)))], type := _, pos := _, after := _, guard := none }) rfl (fun K hK => ?_) AllReadyH.nil
          go_simp
          refine hK.out _ _ ?_ (fun hHeld => ?_)
          · exact trivial
          clear hK K
          try simp only [Act.put, List.setIfInBounds_toArray, List.set_cons_zero, List.set_cons_succ]
          refine anyH_gen _ (fun A51 hgen => ?_)
          have H52 := Lib.hid (show DSw W W.heap.size _ _ _ _ A51 by rw [hgen]; exact H49.out.keep ((Below.refl _ _).alloc (Nat.le_refl _) _))
          have AR53 : Hid (∀ i, i < 4 → ∃ z, A51.cell? ⟨A48.heap.size, i, none⟩ = some (.int .i64 z)) := Lib.hid (fun i hi => by rw [hgen]; obtain rfl | rfl | rfl | rfl : i = 0 ∨ i = 1 ∨ i = 2 ∨ i = 3 := (by omega); all_goals exact ⟨_, new_cell rfl⟩)
          clear hgen
          refine wpAnyH_ready (rs := [9]) (by kernel_rfl) (by simp) ?_
          refine AllReadyH.cons (o := { dst := some 24, op := .indexAddr 24 (.tmp 18) (.tmp 23), type := _, pos := _, after := _, guard := none }) rfl (fun K hK => ?_) AllReadyH.nil
          go_simp
          refine hK.out _ _ ?_ (fun hHeld => ?_)
          · exact trivial
          clear hK K
          try simp only [Act.put, List.setIfInBounds_toArray, List.set_cons_zero, List.set_cons_succ]
          refine wpAnyH_ready (rs := [10]) (by kernel_rfl) (by simp) ?_
          refine AllReadyH.cons (o := { dst := some 25, op := .load 3 (.tmp 24), type := _, pos := _, after := _, guard := none }) rfl (fun K hK => ?_) AllReadyH.nil
          obtain ⟨z54, hzz54⟩ := AR53.out (n9) (by omega)
          go_simp
          refine hK.out _ _ ?_ (fun hHeld => ?_)
          · exact trivial
          clear hK K
          try simp only [Act.put, List.setIfInBounds_toArray, List.set_cons_zero, List.set_cons_succ]
          clear hzz54
          refine wpAnyH_ready (rs := [11]) (by kernel_rfl) (by simp) ?_
          refine AllReadyH.cons (o := { dst := some 26, op := .buildSlice 24 4 #[(0, .tmp 17), (1, .const (.int .i64 1)), (2, .const (.int .i64 2)), (3, .tmp 25)], type := _, pos := _, after := _, guard := none }) rfl (fun K hK => ?_) AllReadyH.nil
          go_simp
          refine hK.out _ _ ?_ (fun hHeld => ?_)
          · exact trivial
          clear hK K
          try simp only [Act.put, List.setIfInBounds_toArray, List.set_cons_zero, List.set_cons_succ]
          refine anyH_gen _ (fun A55 hgen => ?_)
          have H56 := Lib.hid (show DSw W W.heap.size _ _ _ _ A55 by rw [hgen]; exact H52.out.keep ((Below.refl _ _).alloc (Nat.le_refl _) _))
          have HI57 : Hid (Ints A55 (.slice (some ⟨A51.heap.size, 0, none⟩) 4 4) [(m18 : Int), 1, 2, z54]) := Lib.hid (by rw [hgen]; exact ints_new A51 [(m18 : Int), 1, 2, z54] _ (by simp))
          clear hgen
          refine wpAnyH_take (i := 13) (oi := { dst := some 3, op := .assign (.tmp 26), type := _, pos := _, after := _, guard := none }) (v := .slice (some ⟨A51.heap.size, 0, none⟩) 4 4) rfl (by kernel_rfl) (by kernel_rfl) (by kernel_rfl) (fun _ _ _ h => h) (Or.inl ⟨by rfl, fun wh hSw => ?_⟩) hHeld ?_
          · go_simp
          try simp only [Act.put, List.setIfInBounds_toArray, List.set_cons_zero, List.set_cons_succ]
          refine wpAnyH_done (by kernel_rfl) ?_ _
          go_wp2_with fail
          go_ret2
          exact ⟨_, xss, _, [(m18 : Int), 1, 2, z54], rfl, HI57.out, ⟨by simp, by simp⟩, DS.of (H56.out.mono (Nat.le_refl _)) HL.out⟩
    · go_simp
      refine hK.out _ _ ?_ (fun hHeld => ?_)
      · exact trivial
      clear hK K
      try simp only [Act.put, List.setIfInBounds_toArray, List.set_cons_zero, List.set_cons_succ]
      refine anyH_gen _ (fun A58 hgen => ?_)
      have H59 := Lib.hid (show DSw W W.heap.size _ _ _ _ A58 by rw [hgen]; exact HDZ.out.keep ((Below.refl _ _).alloc (Nat.le_refl _) _))
      have AR60 : Hid (∀ i, i < 4 → ∃ z, A58.cell? ⟨AZ.heap.size, i, none⟩ = some (.int .i64 z)) := Lib.hid (fun i hi => by rw [hgen]; obtain rfl | rfl | rfl | rfl : i = 0 ∨ i = 1 ∨ i = 2 ∨ i = 3 := (by omega); all_goals exact ⟨_, new_cell rfl⟩)
      clear hgen
      refine wpAnyH_ready (rs := [2]) (by kernel_rfl) (by simp) ?_
      refine AllReadyH.cons (o := { dst := some 17, op := .call { callee := .value (.func 37), args := #[.tmp 16, .const (.int .i64 9)], argTypes := #[47, 3] }, type := _, pos := _, after := _, guard := none }) rfl (fun K hK => ?_) AllReadyH.nil
      go_simp
      refine (pick_any W A58 W.heap.size _ _ H59.out.rdr (by omega) (by omega)).mono ?_
      rintro e A61 ⟨m63x, h0m63, h1m63, rfl, hR, hO⟩
      obtain ⟨m63, rfl⟩ : ∃ q : Nat, m63x = (q : Int) := ⟨m63x.toNat, by omega⟩
      have m63lt : m63 < 9 := by omega
      have H62 := Lib.hid (H59.out.drew hR hO.grown)
      have AR64 : Hid (∀ i, i < 4 → ∃ z, A61.cell? ⟨AZ.heap.size, i, none⟩ = some (.int .i64 z)) := Lib.hid (fun i hi => by obtain ⟨z, hz⟩ := AR60.out i hi; exact ⟨z, (World.cell?_of_block (hO.2.2.2.2 _ (by have h8 := HDZ.out.B0; have h9 := HDZ.out.grow.size; show AZ.heap.size ≠ W.heap.size; omega))).trans hz⟩)
      clear hR hO
      refine hK.out _ _ ?_ (fun hHeld => ?_)
      · exact trivial
      clear hK K
      try simp only [Act.put, List.setIfInBounds_toArray, List.set_cons_zero, List.set_cons_succ]
      refine wpAnyH_ready (rs := [5]) (by kernel_rfl) (by simp) ?_
      refine AllReadyH.cons (o := { dst := some 20, op := .call { callee := .value (.func 37), args := #[.tmp 19, .const (.int .i64 2)], argTypes := #[47, 3] }, type := _, pos := _, after := _, guard := none }) rfl (fun K hK => ?_) AllReadyH.nil
      go_simp
      refine (pick_any W A61 W.heap.size _ _ H62.out.rdr (by omega) (by omega)).mono ?_
      rintro e A65 ⟨m67x, h0m67, h1m67, rfl, hR, hO⟩
      obtain ⟨m67, rfl⟩ : ∃ q : Nat, m67x = (q : Int) := ⟨m67x.toNat, by omega⟩
      have m67lt : m67 < 2 := by omega
      have H66 := Lib.hid (H62.out.drew hR hO.grown)
      have AR68 : Hid (∀ i, i < 4 → ∃ z, A65.cell? ⟨AZ.heap.size, i, none⟩ = some (.int .i64 z)) := Lib.hid (fun i hi => by obtain ⟨z, hz⟩ := AR64.out i hi; exact ⟨z, (World.cell?_of_block (hO.2.2.2.2 _ (by have h8 := HDZ.out.B0; have h9 := HDZ.out.grow.size; show AZ.heap.size ≠ W.heap.size; omega))).trans hz⟩)
      clear hR hO
      refine hK.out _ _ ?_ (fun hHeld => ?_)
      · exact trivial
      clear hK K
      try simp only [Act.put, List.setIfInBounds_toArray, List.set_cons_zero, List.set_cons_succ]
      refine wpAnyH_ready (rs := [7]) (by kernel_rfl) (by simp) ?_
      refine AllReadyH.cons (o := { dst := some 22, op := .call { callee := .value (.func 37), args := #[.tmp 21, .const (.int .i64 4)], argTypes := #[47, 3] }, type := _, pos := _, after := _, guard := none }) rfl (fun K hK => ?_) AllReadyH.nil
      go_simp
      refine (pick_any W A65 W.heap.size _ _ H66.out.rdr (by omega) (by omega)).mono ?_
      rintro e A69 ⟨m71x, h0m71, h1m71, rfl, hR, hO⟩
      obtain ⟨m71, rfl⟩ : ∃ q : Nat, m71x = (q : Int) := ⟨m71x.toNat, by omega⟩
      have m71lt : m71 < 4 := by omega
      have H70 := Lib.hid (H66.out.drew hR hO.grown)
      have AR72 : Hid (∀ i, i < 4 → ∃ z, A69.cell? ⟨AZ.heap.size, i, none⟩ = some (.int .i64 z)) := Lib.hid (fun i hi => by obtain ⟨z, hz⟩ := AR68.out i hi; exact ⟨z, (World.cell?_of_block (hO.2.2.2.2 _ (by have h8 := HDZ.out.B0; have h9 := HDZ.out.grow.size; show AZ.heap.size ≠ W.heap.size; omega))).trans hz⟩)
      clear hR hO
      obtain ⟨n9, hn9, hn9w⟩ := mul24 m67 m71 (by omega) (by omega)
      have hn9i : (n9 : Int) < 4 := by omega
      refine hK.out _ _ ?_ (fun hHeld => ?_)
      · exact trivial
      clear hK K
      try simp only [Act.put, List.setIfInBounds_toArray, List.set_cons_zero, List.set_cons_succ]
      refine wpAnyH_take (i := 8) (oi := { dst := some 23, op := .binOp .mul 3 (.tmp 20) (.tmp 22) 3, type := _, pos := _, after := _, guard := none }) (v := .int .i64 (n9 : Int)) rfl (by kernel_rfl) (by kernel_rfl) (by kernel_rfl) (fun _ _ _ h => h) (Or.inl ⟨by rfl, fun wh hSw => ?_⟩) hHeld ?_
      · go_simp
      try simp only [Act.put, List.setIfInBounds_toArray, List.set_cons_zero, List.set_cons_succ]
      refine wpAnyH_take (i := 12) (oi := { dst := some 2, op := .assign (.tmp 15), type := _, pos := _, after := _, guard := none }) (v := v) rfl (by kernel_rfl) (by kernel_rfl) (by kernel_rfl) (fun _ _ _ h => h) (Or.inl ⟨by rfl, fun wh hSw => ?_⟩) hHeld ?_
      · go_simp
      try simp only [Act.put, List.setIfInBounds_toArray, List.set_cons_zero, List.set_cons_succ]
      refine wpAnyH_ready (rs := [9]) (by kernel_rfl) (by simp) ?_
      refine AllReadyH.cons (o := { dst := some 24, op := .indexAddr 24 (.tmp 18) (.tmp 23), type := _, pos := _, after := _, guard := none }) rfl (fun K hK => ?_) AllReadyH.nil
      go_simp
      refine hK.out _ _ ?_ (fun hHeld => ?_)
      · exact trivial
      clear hK K
      try simp only [Act.put, List.setIfInBounds_toArray, List.set_cons_zero, List.set_cons_succ]
      refine wpAnyH_ready (rs := [10]) (by kernel_rfl) (by simp) ?_
      refine AllReadyH.cons (o := { dst := some 25, op := .load 3 (.tmp 24), type := _, pos := _, after := _, guard := none }) rfl (fun K hK => ?_) AllReadyH.nil
      obtain ⟨z73, hzz73⟩ := AR72.out (n9) (by omega)
      go_simp
      refine hK.out _ _ ?_ (fun hHeld => ?_)
      · exact trivial
      clear hK K
      try simp only [Act.put, List.setIfInBounds_toArray, List.set_cons_zero, List.set_cons_succ]
      clear hzz73
      refine wpAnyH_ready (rs := [11]) (by kernel_rfl) (by simp) ?_
      refine AllReadyH.cons (o := { dst := some 26, op := .buildSlice 24 4 #[(0, .tmp 17), (1, .const (.int .i64 1)), (2, .const (.int .i64 2)), (3, .tmp 25)], type := _, pos := _, after := _, guard := none }) rfl (fun K hK => ?_) AllReadyH.nil
      go_simp
      refine hK.out _ _ ?_ (fun hHeld => ?_)
      · exact trivial
      clear hK K
      try simp only [Act.put, List.setIfInBounds_toArray, List.set_cons_zero, List.set_cons_succ]
      refine anyH_gen _ (fun A74 hgen => ?_)
      have H75 := Lib.hid (show DSw W W.heap.size _ _ _ _ A74 by rw [hgen]; exact H70.out.keep ((Below.refl _ _).alloc (Nat.le_refl _) _))
      have HI76 : Hid (Ints A74 (.slice (some ⟨A69.heap.size, 0, none⟩) 4 4) [(m63 : Int), 1, 2, z73]) := Lib.hid (by rw [hgen]; exact ints_new A69 [(m63 : Int), 1, 2, z73] _ (by simp))
      clear hgen
      refine wpAnyH_take (i := 13) (oi := { dst := some 3, op := .assign (.tmp 26), type := _, pos := _, after := _, guard := none }) (v := .slice (some ⟨A69.heap.size, 0, none⟩) 4 4) rfl (by kernel_rfl) (by kernel_rfl) (by kernel_rfl) (fun _ _ _ h => h) (Or.inl ⟨by rfl, fun wh hSw => ?_⟩) hHeld ?_
      · go_simp
      try simp only [Act.put, List.setIfInBounds_toArray, List.set_cons_zero, List.set_cons_succ]
      refine wpAnyH_done (by kernel_rfl) ?_ _
      go_wp2_with fail
      go_ret2
      exact ⟨_, xss, _, [(m63 : Int), 1, 2, z73], rfl, HI76.out, ⟨by simp, by simp⟩, DS.of (H75.out.mono (Nat.le_refl _)) HL.out⟩
end Go.Proofs.Ytaalnjinocicgaa
namespace Go.Proofs.Ytaalnjinocicgaa
set_option linter.unusedVariables false
set_option linter.unusedSimpArgs false
theorem set_get_self (xss : Rs) (i : Nat) (h : xss.getD i [] = []) (hi : i < xss.length) (ys : List Int) : (xss.set i ys).set i [] = xss := by
  rw [List.set_set]
  apply List.ext_getElem (by simp)
  intro k h1 h2
  rw [List.getElem_set]
  by_cases hk : i = k
  · subst hk
    rw [if_pos rfl, ← getD_lt (d := []) h2, h]
  · rw [if_neg hk]
structure PutFacts (xss : Rs) (ws : List Int) (yss : Rs) (nn : Int) (i : Nat) : Prop where
  n : nn = i
  lt : i < 16
  len : xss.length = 16
  y : yss = xss.set i ws
  ok : swOk xss = true
  words : wordsOk ws = true
  free : xss.getD i [] = []
  before : ∀ j, j < i → xss.getD j [] ≠ []
  okY : swOk yss = true
  getB : sgetB yss i = true
  get : sget yss i = ws
  drop : sdrop yss i = xss
theorem put_yes {xss : Rs} {ws : List Int} (h : sputB xss ws = true) : ∃ i, PutFacts xss ws (sput xss ws) (sputN xss ws) i := by
  have h0 := h
  unfold sputB at h0
  rw [Bool.and_eq_true, Bool.and_eq_true, decide_eq_true_eq] at h0
  obtain ⟨h1, h2, h3⟩ := h0
  have hl := sw_len h1
  have hy : sput xss ws = xss.set (sidx xss) ws := by rw [sput, if_pos h]
  have hok := swOk_set h1 (row_words h2) (sidx xss)
  have hg : (xss.set (sidx xss) ws).getD (sidx xss) [] = ws := by rw [getD_set, if_pos ⟨rfl, h3⟩]
  have hB : sgetB (xss.set (sidx xss) ws) (sidx xss : Int) = true := by
    unfold sgetB
    rw [hok, inR_iff.2 (by omega), Int.toNat_natCast, hg, words_len h2]
    rfl
  refine ⟨sidx xss, by rw [sputN, if_pos h], by omega, hl, hy, h1, h2, sidx_free h3, fun j hj => sidx_before hj, by rw [hy]; exact hok, by rw [hy]; exact hB, ?_, ?_⟩
  · rw [hy, sget, if_pos hB, Int.toNat_natCast, hg]
  · rw [hy, sdrop, if_pos hB, Int.toNat_natCast]
    exact set_get_self xss _ (sidx_free h3) h3 ws
end Go.Proofs.Ytaalnjinocicgaa
