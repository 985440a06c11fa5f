/- What the proofs stand on, part 26. -/
import Derived.Test.YtaalnjinocicgaaRows
import Derived.Test.YtaalnjinocicgaaW1
import Derived.Test.YtaalnjinocicgaaW2
import Derived.Test.YtaalnjinocicgaaW3
import Derived.Test.YtaalnjinocicgaaW5
import Derived.Test.YtaalnjinocicgaaW6
import Derived.Test.YtaalnjinocicgaaW7
import Derived.Test.YtaalnjinocicgaaW8
import Derived.Test.YtaalnjinocicgaaW9
import Derived.Test.YtaalnjinocicgaaW10
import Derived.Test.YtaalnjinocicgaaW11
import Derived.Test.YtaalnjinocicgaaW12
import Derived.Test.YtaalnjinocicgaaW14
import Derived.Test.YtaalnjinocicgaaW17
import Derived.Test.YtaalnjinocicgaaW20
set_option linter.unusedSimpArgs false
set_option linter.unusedVariables false
namespace Go.Proofs.Ytaalnjinocicgaa
open Go.ChangeShapes Go.WideShapes Go.ChangeAt Go.RowKit
set_option linter.unusedVariables false
set_option linter.unusedSimpArgs false
def DrewS2 (W : World) (e : Ending) (w' : World) : Prop := ∃ v xss f, e = .returned (.tuple #[v, .int .i64 f]) ∧ DS W v xss w'
set_option maxRecDepth 100000 in
set_option maxHeartbeats 2000000 in
theorem drawSwapGet_any (W : World) (a : Option Addr) (len cap : Nat) (zs : List Int) (hr : Row .u8 W a len cap zs) :
    Calls Try.prog 22 #[.slice a len cap] W (DrewS2 W) := by
  go_enter Try.func22, Try.ntmps22
  go_wp2_with fail
  refine (open_any W a len cap zs hr).mono ?_
  clear hr
  rintro e w1 ⟨rfl, hR1⟩
  go_wp2_with fail
  refine (swap_any W _ _ _ hR1 (by omega)).mono ?_
  rintro e w2 ⟨v, xss, rfl, hl, h⟩
  have H := Lib.hid h
  have HL := Lib.hid hl
  clear h hR1 hl
  go_wp2_with fail
  refine (pick_any W _ _ _ _ H.out.rdr (by omega) (by omega)).mono ?_
  rintro e w3 ⟨m, h0, h1, rfl, hR3, hO3⟩
  have H3 := Lib.hid (H.out.drew hR3 hO3.grown)
  clear hR3 hO3 H
  by_cases hm : m = 0
  · subst hm
    go_wp2_with fail
    refine wp_region_held_drew (S := fun _ => True) (by kernel_rfl) trivial (fun hHeld => ?_)
    refine anyH_gen _ (fun AZ hgen => ?_)
    have HBZ := Lib.hid (by rw [hgen]; exact (Below.refl _ _).drew : Below w3.heap.size w3 AZ)
    clear hgen
    have HDZ := Lib.hid (H3.out.keep HBZ.out)
    refine wpAnyH_take (i := 0) (oi := { dst := some 13, op := .move (.tmp 5), type := _, pos := _, after := _, guard := none }) (v := v) rfl (by kernel_rfl) (by kernel_rfl) (by kernel_rfl) (fun _ _ _ h => h) (Or.inl ⟨by rfl, fun wh hSw => ?_⟩) hHeld ?_
    · go_simp
    try simp only [Act.put, List.setIfInBounds_toArray, List.set_cons_zero, List.set_cons_succ]
    refine wpAnyH_take (i := 2) (oi := { dst := some 15, op := .move (.tmp 4), type := _, pos := _, after := _, guard := none }) (v := .pointer (some ⟨W.heap.size, 0, none⟩)) rfl (by kernel_rfl) (by kernel_rfl) (by kernel_rfl) (fun _ _ _ h => h) (Or.inl ⟨by rfl, fun wh hSw => ?_⟩) hHeld ?_
    · go_simp
    try simp only [Act.put, List.setIfInBounds_toArray, List.set_cons_zero, List.set_cons_succ]
    refine wpAnyH_ready (rs := [1, 3]) (by kernel_rfl) (by simp) ?_
    refine AllReadyH.cons (o := { dst := some 14, op := .buildSlice 24 3 #[(0, .const (.int .i64 (-1))), (1, .const (.int .i64 16)), (2, .const (.int .i64 15))], type := _, pos := _, after := _, guard := none }) rfl (fun K hK => ?_) (AllReadyH.cons (o := { dst := some 16, op := .call { callee := .value (.func 37), args := #[.tmp 15, .const (.int .i64 3)], argTypes := #[47, 3] }, type := _, pos := _, after := _, guard := none }) rfl (fun K hK => ?_) AllReadyH.nil)
    · go_simp
      refine hK.out _ _ ?_ (fun hHeld => ?_)
      · exact trivial
      clear hK K
      try simp only [Act.put, List.setIfInBounds_toArray, List.set_cons_zero, List.set_cons_succ]
      refine anyH_gen _ (fun A1 hgen => ?_)
      have H2 := Lib.hid (show DSw W W.heap.size _ _ _ _ A1 by rw [hgen]; exact HDZ.out.keep ((Below.refl _ _).alloc (Nat.le_refl _) _))
      have AR3 : Hid (∀ i, i < 3 → ∃ z, A1.cell? ⟨AZ.heap.size, i, none⟩ = some (.int .i64 z)) := Lib.hid (fun i hi => by rw [hgen]; obtain rfl | rfl | rfl : i = 0 ∨ i = 1 ∨ i = 2 := (by omega); all_goals exact ⟨_, new_cell rfl⟩)
      clear hgen
      refine wpAnyH_ready (rs := [3]) (by kernel_rfl) (by simp) ?_
      refine AllReadyH.cons (o := { dst := some 16, op := .call { callee := .value (.func 37), args := #[.tmp 15, .const (.int .i64 3)], argTypes := #[47, 3] }, type := _, pos := _, after := _, guard := none }) rfl (fun K hK => ?_) AllReadyH.nil
      go_simp
      refine (pick_any W A1 W.heap.size _ _ H2.out.rdr (by omega) (by omega)).mono ?_
      rintro e A4 ⟨m6x, h0m6, h1m6, rfl, hR, hO⟩
      obtain ⟨m6, rfl⟩ : ∃ q : Nat, m6x = (q : Int) := ⟨m6x.toNat, by omega⟩
      have m6lt : m6 < 3 := by omega
      have H5 := Lib.hid (H2.out.drew hR hO.grown)
      have AR7 : Hid (∀ i, i < 3 → ∃ z, A4.cell? ⟨AZ.heap.size, i, none⟩ = some (.int .i64 z)) := Lib.hid (fun i hi => by obtain ⟨z, hz⟩ := AR3.out i hi; exact ⟨z, (World.cell?_of_block (hO.2.2.2.2 _ (by have h8 := HDZ.out.B0; have h9 := HDZ.out.grow.size; show AZ.heap.size ≠ W.heap.size; omega))).trans hz⟩)
      clear hR hO
      refine hK.out _ _ ?_ (fun hHeld => ?_)
      · exact trivial
      clear hK K
      try simp only [Act.put, List.setIfInBounds_toArray, List.set_cons_zero, List.set_cons_succ]
      refine wpAnyH_take (i := 6) (oi := { dst := some 2, op := .assign (.tmp 13), type := _, pos := _, after := _, guard := none }) (v := v) rfl (by kernel_rfl) (by kernel_rfl) (by kernel_rfl) (fun _ _ _ h => h) (Or.inl ⟨by rfl, fun wh hSw => ?_⟩) hHeld ?_
      · go_simp
      try simp only [Act.put, List.setIfInBounds_toArray, List.set_cons_zero, List.set_cons_succ]
      refine wpAnyH_ready (rs := [4]) (by kernel_rfl) (by simp) ?_
      refine AllReadyH.cons (o := { dst := some 17, op := .indexAddr 24 (.tmp 14) (.tmp 16), type := _, pos := _, after := _, guard := none }) rfl (fun K hK => ?_) AllReadyH.nil
      go_simp
      refine hK.out _ _ ?_ (fun hHeld => ?_)
      · exact trivial
      clear hK K
      try simp only [Act.put, List.setIfInBounds_toArray, List.set_cons_zero, List.set_cons_succ]
      refine wpAnyH_ready (rs := [5]) (by kernel_rfl) (by simp) ?_
      refine AllReadyH.cons (o := { dst := some 18, op := .load 3 (.tmp 17), type := _, pos := _, after := _, guard := none }) rfl (fun K hK => ?_) AllReadyH.nil
      obtain ⟨z8, hzz8⟩ := AR7.out (m6) (by omega)
      go_simp
      refine hK.out _ _ ?_ (fun hHeld => ?_)
      · exact trivial
      clear hK K
      try simp only [Act.put, List.setIfInBounds_toArray, List.set_cons_zero, List.set_cons_succ]
      clear hzz8
      refine wpAnyH_take (i := 7) (oi := { dst := some 3, op := .assign (.tmp 18), type := _, pos := _, after := _, guard := none }) (v := .int .i64 z8) rfl (by kernel_rfl) (by kernel_rfl) (by kernel_rfl) (fun _ _ _ h => h) (Or.inl ⟨by rfl, fun wh hSw => ?_⟩) hHeld ?_
      · go_simp
      try simp only [Act.put, List.setIfInBounds_toArray, List.set_cons_zero, List.set_cons_succ]
      refine wpAnyH_done (by kernel_rfl) ?_ _
      go_wp2_with fail
      go_ret2
      exact ⟨_, xss, _, rfl, DS.of (H5.out.mono (Nat.le_refl _)) HL.out⟩
    · go_simp
      refine (pick_any W AZ W.heap.size _ _ HDZ.out.rdr (by omega) (by omega)).mono ?_
      rintro e A9 ⟨m11x, h0m11, h1m11, rfl, hR, hO⟩
      obtain ⟨m11, rfl⟩ : ∃ q : Nat, m11x = (q : Int) := ⟨m11x.toNat, by omega⟩
      have m11lt : m11 < 3 := by omega
      have H10 := Lib.hid (HDZ.out.drew hR hO.grown)
      clear hR hO
      refine hK.out _ _ ?_ (fun hHeld => ?_)
      · exact trivial
      clear hK K
      try simp only [Act.put, List.setIfInBounds_toArray, List.set_cons_zero, List.set_cons_succ]
      refine wpAnyH_take (i := 6) (oi := { dst := some 2, op := .assign (.tmp 13), type := _, pos := _, after := _, guard := none }) (v := v) rfl (by kernel_rfl) (by kernel_rfl) (by kernel_rfl) (fun _ _ _ h => h) (Or.inl ⟨by rfl, fun wh hSw => ?_⟩) hHeld ?_
      · go_simp
      try simp only [Act.put, List.setIfInBounds_toArray, List.set_cons_zero, List.set_cons_succ]
      refine wpAnyH_ready (rs := [1]) (by kernel_rfl) (by simp) ?_
      refine AllReadyH.cons (o := { dst := some 14, op := .buildSlice 24 3 #[(0, .const (.int .i64 (-1))), (1, .const (.int .i64 16)), (2, .const (.int .i64 15))], type := _, pos := _, after := _, guard := none }) rfl (fun K hK => ?_) AllReadyH.nil
      go_simp
      refine hK.out _ _ ?_ (fun hHeld => ?_)
      · exact trivial
      clear hK K
      try simp only [Act.put, List.setIfInBounds_toArray, List.set_cons_zero, List.set_cons_succ]
      refine anyH_gen _ (fun A12 hgen => ?_)
      have H13 := Lib.hid (show DSw W W.heap.size _ _ _ _ A12 by rw [hgen]; exact H10.out.keep ((Below.refl _ _).alloc (Nat.le_refl _) _))
      have AR14 : Hid (∀ i, i < 3 → ∃ z, A12.cell? ⟨A9.heap.size, i, none⟩ = some (.int .i64 z)) := Lib.hid (fun i hi => by rw [hgen]; obtain rfl | rfl | rfl : i = 0 ∨ i = 1 ∨ i = 2 := (by omega); all_goals exact ⟨_, new_cell rfl⟩)
      clear hgen
      refine wpAnyH_ready (rs := [4]) (by kernel_rfl) (by simp) ?_
      refine AllReadyH.cons (o := { dst := some 17, op := .indexAddr 24 (.tmp 14) (.tmp 16), type := _, pos := _, after := _, guard := none }) rfl (fun K hK => ?_) AllReadyH.nil
      go_simp
      refine hK.out _ _ ?_ (fun hHeld => ?_)
      · exact trivial
      clear hK K
      try simp only [Act.put, List.setIfInBounds_toArray, List.set_cons_zero, List.set_cons_succ]
      refine wpAnyH_ready (rs := [5]) (by kernel_rfl) (by simp) ?_
      refine AllReadyH.cons (o := { dst := some 18, op := .load 3 (.tmp 17), type := _, pos := _, after := _, guard := none }) rfl (fun K hK => ?_) AllReadyH.nil
      obtain ⟨z15, hzz15⟩ := AR14.out (m11) (by omega)
      go_simp
      refine hK.out _ _ ?_ (fun hHeld => ?_)
      · exact trivial
      clear hK K
      try simp only [Act.put, List.setIfInBounds_toArray, List.set_cons_zero, List.set_cons_succ]
      clear hzz15
      refine wpAnyH_take (i := 7) (oi := { dst := some 3, op := .assign (.tmp 18), type := _, pos := _, after := _, guard := none }) (v := .int .i64 z15) rfl (by kernel_rfl) (by kernel_rfl) (by kernel_rfl) (fun _ _ _ h => h) (Or.inl ⟨by rfl, fun wh hSw => ?_⟩) hHeld ?_
      · go_simp
      try simp only [Act.put, List.setIfInBounds_toArray, List.set_cons_zero, List.set_cons_succ]
      refine wpAnyH_done (by kernel_rfl) ?_ _
      go_wp2_with fail
      go_ret2
      exact ⟨_, xss, _, rfl, DS.of (H13.out.mono (Nat.le_refl _)) HL.out⟩
  · have hm' : (m == 0) = false := by simpa using hm
    clear hm
    go_wp2_with fail
    refine (pick_any W _ _ _ _ H3.out.rdr (by omega) (by omega)).mono ?_
    rintro e w4 ⟨m2, h20, h21, rfl, hR4, hO4⟩
    have HD := Lib.hid (DS.of (H3.out.drew hR4 hO4.grown) HL.out)
    clear hR4 hO4 H3
    go_wp2_with fail
    go_ret2
    exact ⟨_, xss, m2, rfl, HD.out⟩
end Go.Proofs.Ytaalnjinocicgaa
namespace Go.Proofs.Ytaalnjinocicgaa
open Go.ChangeShapes Go.WideShapes Go.ChangeAt Go.RowKit
set_option linter.unusedVariables false
set_option linter.unusedSimpArgs false
set_option maxRecDepth 100000 in
set_option maxHeartbeats 2000000 in
theorem swapGet_walk (hISV : ISV) (hISP : ISP) (hISG : ISG) (hISD : ISD) (W : World) (a : Option Addr) (len cap : Nat) (zs : List Int) (hr : Row .u8 W a len cap zs) :
    Calls Try.prog 7 #[.slice a len cap] W fun e w' => e = .returned (.bool true) ∧ Below W.heap.size W w' := by
  have HISV := Lib.hid hISV
  have HISP := Lib.hid hISP
  have HISG := Lib.hid hISG
  have HISD := Lib.hid hISD
  clear hISV hISP hISG hISD
  have hm := row_len hr
  by_cases hL : 1048576 < len
  · have hL1 : (1048576 : Int) < (len : Int) := by omega
    clear hr
    go_enter Try.func7, Try.ntmps7
    go_wp2_with fail
    go_ret
    exact ⟨rfl, Below.refl _ _⟩
  have hL1 : decide ((1048576 : Int) < (len : Int)) = false := by simp; omega
  have hL2 : decide (1048576 < len) = false := by simp; omega
  clear hL
  go_enter Try.func7, Try.ntmps7
  go_wp2_with fail
  refine (drawSwapGet_any W a len cap zs hr).mono ?_
  clear hr
  rintro e w1 ⟨v, xss, f, rfl, hd⟩
  have B1 := Lib.hid hd.bel
  have R1 := Lib.hid hd.rows
  clear hd
  have HC := Lib.hid (HISG.out w1 v xss f R1.out)
  have HS := Lib.hid (fun w h => sSwapGet_any w v xss f h)
  have HD := Lib.hid (fun w h => HISD.out w v xss f h)
  have HYES : Hid (sgetB xss f = true → ∃ i, GetFacts xss f (sget xss f) i) := Lib.hid get_yes
  obtain ⟨b, hb⟩ : ∃ b, b = sgetB xss f := ⟨_, rfl⟩
  rw [← hb] at HC HS HYES HD
  clear hb
  generalize sget xss f = ys at HC HS HYES
  have hbb := neB b
  go_wp2_with fail
  refine HC.out.mono ?_
  rintro e w2 ⟨p2, rfl, hm2, hb⟩
  have M2 := Lib.hid hm2.ints
  have R2 := Lib.hid (R1.out.below hb)
  have B2 := Lib.hid (B1.out.trans (hb.mono B1.out.size))
  clear hb hm2 HC R1 B1
  go_wp2_with fail
  refine (HS.out w2 R2.out).mono ?_
  rintro e w3 ⟨p3, rfl, hm3, hb⟩
  have M3 := Lib.hid hm3.ints
  have M23 := Lib.hid (Ints.below (B := 0) M2.out hb)
  have R3 := Lib.hid (R2.out.below hb)
  have B3 := Lib.hid (B2.out.trans (hb.mono B2.out.size))
  clear hb hm3 HS R2 B2 M2
  go_wp2_with fail
  refine (sameI_c w3 p2 p3 ys M23.out M3.out).mono ?_
  rintro e w4 ⟨rfl, C⟩
  have hb : Below w3.heap.size w3 w4 := Below.chg (Below.refl _ _) C (Nat.le_refl _) (.inr rfl)
  have M4 := Lib.hid (Ints.below (B := 0) M3.out hb)
  have M24 := Lib.hid (Ints.below (B := 0) M23.out hb)
  have R4 := Lib.hid (R3.out.below hb)
  have B4 := Lib.hid (B3.out.trans (hb.mono B3.out.size))
  clear hb R3 B3 M3 M23 C
  cases b with
  | false =>
    go_wp2_with fail
    refine (sameI_c w4 p2 p3 ys M24.out M4.out).mono ?_
    rintro e w5 ⟨rfl, C⟩
    have B5 := Lib.hid (B4.out.trans ((Below.chg (Below.refl _ _) C (Nat.le_refl _) (.inr rfl)).mono B4.out.size))
    clear C
    go_wp2_with fail
    go_ret
    exact ⟨rfl, B5.out⟩
  | true =>
    obtain ⟨i, hF⟩ := HYES.out rfl
    have hf := hF.ix
    have HF := Lib.hid hF
    clear hF HYES M4
    subst hf
    have hi16 := HF.out.lt
    go_wp2_with fail
    refine (HD.out w4 R4.out).mono ?_
    rintro e w5 ⟨p5, rfl, hm5, hb⟩
    have P5 := Lib.hid hm5.rows
    have M25 := Lib.hid (Ints.below (B := 0) M24.out hb)
    have R5 := Lib.hid (R4.out.below hb)
    have B5 := Lib.hid (B4.out.trans (hb.mono B4.out.size))
    clear hb hm5 M24 R4 B4 HD
    go_wp2_with fail
    refine (HISG.out w5 p5 _ (i : Int) P5.out).mono ?_
    rintro e w6 ⟨p6, rfl, hm6, hb⟩
    rw [HF.out.no]
    have M26 := Lib.hid (Ints.below (B := 0) M25.out hb)
    have R6 := Lib.hid (R5.out.below hb)
    have B6 := Lib.hid (B5.out.trans (hb.mono B5.out.size))
    clear hb hm6 P5 M25 R5 B5
    obtain ⟨av, cv, rfl, hv1, hv2, hv3⟩ := R6.out
    have HL16 := Lib.hid HF.out.len
    obtain ⟨b, o, z1, rfl, hc1, hu⟩ := hv3 i (by rw [HL16.out]; exact hi16)
    rw [← HF.out.y] at hu
    have HU1 := Lib.hid hu
    rw [HL16.out] at hv1 ⊢
    unfold maxLen at hv2
    clear hv3 hu
    obtain ⟨ay, cy, rfl, hy1, hy2, hy3⟩ := M26.out
    have HY3 := Lib.hid hy3
    have HY4 := Lib.hid HF.out.four
    have HI4 : Hid (∀ w', Below w6.heap.size w6 w' → Ints w' (.slice ay 4 cy) ys) := Lib.hid (fun w' hb => by have := Ints.below (B := 0) M26.out hb; rw [HY4.out] at this; exact this)
    rw [HY4.out] at hy1 ⊢
    unfold maxLen at hy2
    clear hy3
    go_wp2_with fail
    refine (sameI_c w6 _ z1 ys (HI4.out _ (Below.refl _ _)) HU1.out).mono ?_
    rintro e w7 ⟨rfl, C⟩
    have B7 := Lib.hid (B6.out.trans ((Below.chg (Below.refl _ _) C (Nat.le_refl _) (.inr rfl)).mono B6.out.size))
    clear C
    go_wp2_with fail
    go_ret
    exact ⟨rfl, B7.out⟩
end Go.Proofs.Ytaalnjinocicgaa
