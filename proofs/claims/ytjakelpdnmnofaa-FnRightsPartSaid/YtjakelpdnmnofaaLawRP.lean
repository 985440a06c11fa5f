/- The walk of the statement on rights that are missing or twice, out of contracts of the program. -/
import Derived.Test.YtjakelpdnmnofaaLawRM
import Derived.Test.YtjakelpdnmnofaaRSpec2
import Derived.Deep.RegionHeld
namespace Go.Proofs.Ytjakelpdnmnofaa
open Go.ChangeShapes Go.WideShapes Go.ChangeAt Go.RowKit
set_option linter.unusedVariables false

set_option maxHeartbeats 1000000 in
theorem rightsPart_walk (hV : IRVs) (W : World) (a : Option Addr) (len cap : Nat) (zs : List Int) (a1 : Option Addr) (len1 cap1 : Nat) (zs1 : List Int) (hr : Row .u8 W a len cap zs) (hr1 : Row .u8 W a1 len1 cap1 zs1) :
    Calls Try.prog 11 #[.slice a len cap, .slice a1 len1 cap1] W fun e w' => e = .returned (.bool true) ∧ Below W.heap.size W w' := by
  have HVAL := Lib.hid hV
  clear hV
  have hm := row_len hr
  have hm1 := row_len hr1
  clear hr1
  by_cases hL : 1048576 < len
  · have hL1 : (1048576 : Int) < (len : Int) := by omega
    clear hr
    go_enter Try.func11, Try.ntmps11
    go_wp2_with fail
    go_ret
    exact ⟨rfl, Below.refl _ _⟩
  have hL1 : decide ((1048576 : Int) < (len : Int)) = false := by simp; omega
  have hL2 : decide (1048576 < len) = false := by simp; omega
  by_cases hM : 1048576 < len1
  · have hM1 : (1048576 : Int) < (len1 : Int) := by omega
    clear hr
    go_enter Try.func11, Try.ntmps11
    go_wp2_with fail
    go_ret
    exact ⟨rfl, Below.refl _ _⟩
  have hM1 : decide ((1048576 : Int) < (len1 : Int)) = false := by simp; omega
  have hM2 : decide (1048576 < len1) = false := by simp; omega
  go_enter Try.func11, Try.ntmps11
  go_wp2_with fail
  refine (drawRightsValid_any W a len cap zs hr).mono ?_
  clear hr
  rintro e w1 ⟨v, ys, rfl, hd⟩
  have B1 := Lib.hid hd.bel
  have R1 := Lib.hid hd.strs
  have HSH := Lib.hid hd.rng
  obtain ⟨g, c2, hv⟩ := hd.form
  have hl8 : ys.length ≤ 8 := hd.len
  clear hd
  subst hv
  have HC := Lib.hid (HVAL.out w1 _ ys R1.out (shorts HSH.out))
  have HS := Lib.hid (fun w h => sRightsValid_any w (.slice (some ⟨g, 0, none⟩) ys.length c2) ys h (shorts HSH.out))
  have HSHT := Lib.hid (shorts HSH.out)
  obtain ⟨n, hn⟩ : ∃ n, n = ys.length := ⟨_, rfl⟩
  rw [← hn] at HC HS R1 hl8 ⊢
  have HN := Lib.hid hn
  clear hn
  cases h1 : rvs ys with
  | false =>
    rw [h1] at HC HS
    clear h1
    go_wp2_with fail
    refine HC.out.mono ?_
    rintro e w2 ⟨rfl, hb2⟩
    have B2 := Lib.hid (B1.out.trans (hb2.mono B1.out.size))
    have R2 := Lib.hid (R1.out.below hb2)
    clear hb2
    go_wp2_with fail
    refine (HS.out w2 R2.out).mono ?_
    rintro e w3 ⟨rfl, n3, hw3⟩
    have C3 : Below w2.heap.size w2 w3 := by rw [hw3]; exact ⟨rfl, rfl, rfl, Nat.le_refl _, fun _ _ => rfl⟩
    have B3 := Lib.hid (B2.out.trans (C3.mono B2.out.size))
    clear C3 hw3
    go_wp2_with fail
    go_ret
    exact ⟨rfl, B3.out⟩
  | true =>
    have HVS := Lib.hid h1
    rw [h1] at HC HS
    clear h1
    go_wp2_with fail
    refine HC.out.mono ?_
    rintro e w2 ⟨rfl, hb2⟩
    have B2 := Lib.hid (B1.out.trans (hb2.mono B1.out.size))
    have R2 := Lib.hid (R1.out.below hb2)
    clear hb2 B1 R1 HC
    go_wp2_with fail
    refine (HS.out w2 R2.out).mono ?_
    rintro e w3 ⟨rfl, n3, hw3⟩
    have C3 : Below w2.heap.size w2 w3 := by rw [hw3]; exact ⟨rfl, rfl, rfl, Nat.le_refl _, fun _ _ => rfl⟩
    have B3 := Lib.hid (B2.out.trans (C3.mono B2.out.size))
    have R3 := Lib.hid (R2.out.below C3)
    clear C3 hw3 HS B2 R2
    by_cases hn0 : n = 0
    · have hn0' : ((n : Int) == 0) = true := by simp [hn0]
      have HZ := Lib.hid hn0
      clear hn0
      go_wp2_with fail
      go_ret
      exact ⟨rfl, B3.out⟩
    · have hnp : (0 : Int) < (n : Int) := by omega
      have hn0' : ((n : Int) == 0) = false := by simp [hn0]
      have hne : ¬ (n : Int) = 0 := by omega
      obtain ⟨k, hk⟩ : ∃ k, k = len1 % n := ⟨_, rfl⟩
      have hkn : k < n := by rw [hk]; exact Nat.mod_lt _ (by omega)
      have hmod : (len1 : Int).tmod (n : Int) = (k : Int) := by rw [hk]; exact Int.ofNat_tmod ..
      have HK := Lib.hid hk
      clear hk
      have hnc : n ≤ c2 ∧ c2 ≤ 9223372036854775807 := by
        obtain ⟨a', cap', e, h1, h2, _⟩ := R3.out
        injection e with e1 e2 e3
        subst e3
        unfold maxLen at h2
        have := HN.out
        omega
      have hn1 := hnc.1
      have hn2 := hnc.2
      clear hnc
      have hc1 : (k : Int) + 1 ≤ (n : Int) := by omega
      have hc3 : (n : Int) ≤ (c2 : Int) := by omega
      have hc4 : (k : Int) ≤ (c2 : Int) := by omega
      have hc5 : (k : Int) + 1 ≤ (c2 : Int) := by omega
      have hc6 : (c2 : Int) ≤ 9223372036854775807 := by omega
      have hk1 : k + 1 ≤ n := by omega
      have hkn2 : k ≤ n := by omega
      have hck : ¬ c2 = k := by omega
      obtain ⟨q0, hq0⟩ : ∃ q0, q0 = if c2 = k + 1 then 0 else k + 1 := ⟨_, rfl⟩
      have HQ0 := Lib.hid hq0
      have H_A : Hid (∀ wx, Below w3.heap.size w3 wx → Strs wx (.slice (some ⟨g, q0, none⟩) (n - (k + 1)) (c2 - (k + 1))) (ys.drop (k + 1))) := Lib.hid (fun wx hb => by
        by_cases hce : c2 = k + 1
        · exact strs_none (by rw [List.length_drop, ← HN.out]) (by omega) (by omega)
        · rw [hq0, if_neg hce]
          have := (R3.out.drop (k := k + 1) (by rw [← HN.out]; omega)).below hb
          rw [Nat.zero_add] at this
          exact this)
      clear hq0
      go_wp2_with fail
      refine wp_region_held_drew (S := fun _ => True) (by kernel_rfl) trivial (fun hHeld => ?_)
      refine wpAnyH_take (i := 1) (oi := { dst := some 46, op := .move (.tmp 5), type := _, pos := _, after := _, guard := none }) (v := .slice (some ⟨g, 0, none⟩) n c2) rfl (by kernel_rfl) (by kernel_rfl) (by kernel_rfl) (fun _ _ _ h => h) (Or.inl ⟨by rfl, fun wh hSw => ?_⟩) hHeld ?_
      · go_simp
      try simp only [Act.put, List.setIfInBounds_toArray, List.set_cons_zero, List.set_cons_succ]
      refine wpAnyH_take (i := 2) (oi := { dst := some 47, op := .move (.tmp 8), type := _, pos := _, after := _, guard := none }) (v := .int .i64 (k : Int)) rfl (by kernel_rfl) (by kernel_rfl) (by kernel_rfl) (fun _ _ _ h => h) (Or.inl ⟨by rfl, fun wh hSw => ?_⟩) hHeld ?_
      · go_simp
      try simp only [Act.put, List.setIfInBounds_toArray, List.set_cons_zero, List.set_cons_succ]
      refine wpAnyH_take (i := 3) (oi := { dst := some 48, op := .slice 29 (.tmp 46) none (some (.tmp 47)) none, type := _, pos := _, after := _, guard := none }) (v := .slice (some ⟨g, 0, none⟩) k c2) rfl (by kernel_rfl) (by kernel_rfl) (by kernel_rfl) (fun _ _ _ h => h) (Or.inl ⟨by rfl, fun wh hSw => ?_⟩) hHeld ?_
      · (go_simp; try (intro hh; omega))
      try simp only [Act.put, List.setIfInBounds_toArray, List.set_cons_zero, List.set_cons_succ]
      refine wpAnyH_take (i := 5) (oi := { dst := some 50, op := .move (.tmp 5), type := _, pos := _, after := _, guard := none }) (v := .slice (some ⟨g, 0, none⟩) n c2) rfl (by kernel_rfl) (by kernel_rfl) (by kernel_rfl) (fun _ _ _ h => h) (Or.inl ⟨by rfl, fun wh hSw => ?_⟩) hHeld ?_
      · go_simp
      try simp only [Act.put, List.setIfInBounds_toArray, List.set_cons_zero, List.set_cons_succ]
      refine wpAnyH_take (i := 6) (oi := { dst := some 51, op := .move (.tmp 8), type := _, pos := _, after := _, guard := none }) (v := .int .i64 (k : Int)) rfl (by kernel_rfl) (by kernel_rfl) (by kernel_rfl) (fun _ _ _ h => h) (Or.inl ⟨by rfl, fun wh hSw => ?_⟩) hHeld ?_
      · go_simp
      try simp only [Act.put, List.setIfInBounds_toArray, List.set_cons_zero, List.set_cons_succ]
      refine wpAnyH_take (i := 7) (oi := { dst := some 52, op := .binOp .add 3 (.tmp 51) (.const (.int .i64 1)) 3, type := _, pos := _, after := _, guard := none }) (v := .int .i64 ((k : Int) + 1)) rfl (by kernel_rfl) (by kernel_rfl) (by kernel_rfl) (fun _ _ _ h => h) (Or.inl ⟨by rfl, fun wh hSw => ?_⟩) hHeld ?_
      · (go_simp; rw [IntKind.wrap_i64]; omega)
      try simp only [Act.put, List.setIfInBounds_toArray, List.set_cons_zero, List.set_cons_succ]
      refine wpAnyH_take (i := 8) (oi := { dst := some 53, op := .slice 29 (.tmp 50) (some (.tmp 52)) none none, type := _, pos := _, after := _, guard := none }) (v := .slice (some ⟨g, q0, none⟩) (n - (k + 1)) (c2 - (k + 1))) rfl (by kernel_rfl) (by kernel_rfl) (by kernel_rfl) (fun _ _ _ h => h) (Or.inl ⟨by rfl, fun wh hSw => ?_⟩) hHeld ?_
      · (go_simp; rw [HQ0.out]; by_cases hce : c2 = k + 1 <;> (simp [hce]; try (intro hh; omega)))
      try simp only [Act.put, List.setIfInBounds_toArray, List.set_cons_zero, List.set_cons_succ]
      refine anyH_gen _ (fun A0 hA0 => ?_)
      have HBA0 : Hid (Below w3.heap.size w3 A0) := Lib.hid (by rw [hA0]; exact ⟨rfl, rfl, rfl, Nat.le_refl _, fun _ _ => rfl⟩)
      clear hA0
      refine wpAnyH_ready (rs := [0]) (by kernel_rfl) (by simp) ?_
      refine AllReadyH.cons (o := { dst := some 45, op := .buildSlice 29 0 #[], type := _, pos := _, after := _, guard := none }) rfl (fun K hK => ?_) AllReadyH.nil
      go_simp
      refine hK.out _ _ trivial (fun hHeld => ?_)
      clear hK K
      try simp only [Act.put, List.setIfInBounds_toArray, List.set_cons_zero, List.set_cons_succ]
      refine anyH_gen _ (fun A1 hA1 => ?_)
      have HOA1 : Hid (OwnS w3 (.slice (some ⟨A0.heap.size, 0, none⟩) 0 0) [] A1) := Lib.hid (by rw [hA1]; exact (OwnS.start A0).from HBA0.out)
      clear hA1
      refine wpAnyH_ready (rs := [4]) (by kernel_rfl) (by simp) ?_
      refine AllReadyH.cons (o := { dst := some 49, op := .call { callee := .builtin .append, args := #[.tmp 45, .tmp 48], argTypes := #[29, 29] }, type := _, pos := _, after := _, guard := none }) rfl (fun K hK => ?_) AllReadyH.nil
      rw [if_pos (by rfl)]
      refine wp_append_strs (.tmp 45) (.tmp 48) w3 (.slice (some ⟨A0.heap.size, 0, none⟩) 0 0) [] rfl HOA1.out _ (ys.take (k)) rfl ((R3.out.take (k := k) (by rw [← HN.out]; omega)).below HOA1.out.bel) nilOk_some (by simp only [List.length_nil, List.length_take]; have := HN.out; omega) ?_
      intro vA A2 hown hnn hg
      have HOA2 := Lib.hid hown
      clear hown hnn hg
      refine hK.out _ _ trivial (fun hHeld => ?_)
      clear hK K
      try simp only [Act.put, List.setIfInBounds_toArray, List.set_cons_zero, List.set_cons_succ]
      refine wpAnyH_ready (rs := [9]) (by kernel_rfl) (by simp) ?_
      refine AllReadyH.cons (o := { dst := some 54, op := .call { callee := .builtin .append, args := #[.tmp 49, .tmp 53], argTypes := #[29, 29] }, type := _, pos := _, after := _, guard := none }) rfl (fun K hK => ?_) AllReadyH.nil
      rw [if_pos (by rfl)]
      refine wp_append_strs (.tmp 49) (.tmp 53) w3 vA ([] ++ ys.take (k)) rfl HOA2.out _ (ys.drop (k + 1)) rfl (H_A.out _ HOA2.out.bel) nilOk_some (by simp only [List.nil_append, List.length_take, List.length_drop]; have := HN.out; omega) ?_
      intro vX A3 hown hnn hg
      have HOA3 := Lib.hid hown
      clear hown hnn hg
      refine hK.out _ _ trivial (fun hHeld => ?_)
      clear hK K
      try simp only [Act.put, List.setIfInBounds_toArray, List.set_cons_zero, List.set_cons_succ]
      refine wpAnyH_take (i := 10) (oi := { dst := some 9, op := .assign (.tmp 54), type := _, pos := _, after := _, guard := none }) (v := vX) rfl (by kernel_rfl) (by kernel_rfl) (by kernel_rfl) (fun _ _ _ h => h) (Or.inl ⟨by rfl, fun wh hSw => ?_⟩) hHeld ?_
      · go_simp
      try simp only [Act.put, List.setIfInBounds_toArray, List.set_cons_zero, List.set_cons_succ]
      refine wpAnyH_done (by kernel_rfl) ?_ _
      clear hHeld
      have BA := Lib.hid (B3.out.trans (HOA3.out.bel.mono B3.out.size))
      have RA := Lib.hid (R3.out.below HOA3.out.bel)
      have XA : Hid (Strs A3 vX (ys.take k ++ ys.drop (k + 1))) := Lib.hid (by have := HOA3.out.strs; rw [List.nil_append] at this; exact this)
      clear HOA3 HOA2 HOA1 HBA0 H_A
      have H_E : Hid (∀ wx, Below A3.heap.size A3 wx → Strs wx (.slice (some ⟨g, k, none⟩) (n - k) (c2 - k)) (ys.drop k)) := Lib.hid (fun wx hb => by have := (RA.out.drop (k := k) (by rw [← HN.out]; omega)).below hb; rw [Nat.zero_add] at this; exact this)
      go_wp2_with fail
      refine wp_region_held_drew (S := fun _ => True) (by kernel_rfl) trivial (fun hHeld => ?_)
      refine wpAnyH_take (i := 1) (oi := { dst := some 56, op := .move (.tmp 5), type := _, pos := _, after := _, guard := none }) (v := .slice (some ⟨g, 0, none⟩) n c2) rfl (by kernel_rfl) (by kernel_rfl) (by kernel_rfl) (fun _ _ _ h => h) (Or.inl ⟨by rfl, fun wh hSw => ?_⟩) hHeld ?_
      · go_simp
      try simp only [Act.put, List.setIfInBounds_toArray, List.set_cons_zero, List.set_cons_succ]
      refine wpAnyH_take (i := 2) (oi := { dst := some 57, op := .move (.tmp 8), type := _, pos := _, after := _, guard := none }) (v := .int .i64 (k : Int)) rfl (by kernel_rfl) (by kernel_rfl) (by kernel_rfl) (fun _ _ _ h => h) (Or.inl ⟨by rfl, fun wh hSw => ?_⟩) hHeld ?_
      · go_simp
      try simp only [Act.put, List.setIfInBounds_toArray, List.set_cons_zero, List.set_cons_succ]
      refine wpAnyH_take (i := 3) (oi := { dst := some 58, op := .binOp .add 3 (.tmp 57) (.const (.int .i64 1)) 3, type := _, pos := _, after := _, guard := none }) (v := .int .i64 ((k : Int) + 1)) rfl (by kernel_rfl) (by kernel_rfl) (by kernel_rfl) (fun _ _ _ h => h) (Or.inl ⟨by rfl, fun wh hSw => ?_⟩) hHeld ?_
      · (go_simp; rw [IntKind.wrap_i64]; omega)
      try simp only [Act.put, List.setIfInBounds_toArray, List.set_cons_zero, List.set_cons_succ]
      refine wpAnyH_take (i := 4) (oi := { dst := some 59, op := .slice 29 (.tmp 56) none (some (.tmp 58)) none, type := _, pos := _, after := _, guard := none }) (v := .slice (some ⟨g, 0, none⟩) (k + 1) c2) rfl (by kernel_rfl) (by kernel_rfl) (by kernel_rfl) (fun _ _ _ h => h) (Or.inl ⟨by rfl, fun wh hSw => ?_⟩) hHeld ?_
      · (go_simp; try (intro hh; omega))
      try simp only [Act.put, List.setIfInBounds_toArray, List.set_cons_zero, List.set_cons_succ]
      refine wpAnyH_take (i := 6) (oi := { dst := some 61, op := .move (.tmp 5), type := _, pos := _, after := _, guard := none }) (v := .slice (some ⟨g, 0, none⟩) n c2) rfl (by kernel_rfl) (by kernel_rfl) (by kernel_rfl) (fun _ _ _ h => h) (Or.inl ⟨by rfl, fun wh hSw => ?_⟩) hHeld ?_
      · go_simp
      try simp only [Act.put, List.setIfInBounds_toArray, List.set_cons_zero, List.set_cons_succ]
      refine wpAnyH_take (i := 7) (oi := { dst := some 62, op := .move (.tmp 8), type := _, pos := _, after := _, guard := none }) (v := .int .i64 (k : Int)) rfl (by kernel_rfl) (by kernel_rfl) (by kernel_rfl) (fun _ _ _ h => h) (Or.inl ⟨by rfl, fun wh hSw => ?_⟩) hHeld ?_
      · go_simp
      try simp only [Act.put, List.setIfInBounds_toArray, List.set_cons_zero, List.set_cons_succ]
      refine wpAnyH_take (i := 8) (oi := { dst := some 63, op := .slice 29 (.tmp 61) (some (.tmp 62)) none none, type := _, pos := _, after := _, guard := none }) (v := .slice (some ⟨g, k, none⟩) (n - k) (c2 - k)) rfl (by kernel_rfl) (by kernel_rfl) (by kernel_rfl) (fun _ _ _ h => h) (Or.inl ⟨by rfl, fun wh hSw => ?_⟩) hHeld ?_
      · go_simp
      try simp only [Act.put, List.setIfInBounds_toArray, List.set_cons_zero, List.set_cons_succ]
      refine anyH_gen _ (fun E0 hE0 => ?_)
      have HBE0 : Hid (Below A3.heap.size A3 E0) := Lib.hid (by rw [hE0]; exact ⟨rfl, rfl, rfl, Nat.le_refl _, fun _ _ => rfl⟩)
      clear hE0
      refine wpAnyH_ready (rs := [0]) (by kernel_rfl) (by simp) ?_
      refine AllReadyH.cons (o := { dst := some 55, op := .buildSlice 29 0 #[], type := _, pos := _, after := _, guard := none }) rfl (fun K hK => ?_) AllReadyH.nil
      go_simp
      refine hK.out _ _ trivial (fun hHeld => ?_)
      clear hK K
      try simp only [Act.put, List.setIfInBounds_toArray, List.set_cons_zero, List.set_cons_succ]
      refine anyH_gen _ (fun E1 hE1 => ?_)
      have HOE1 : Hid (OwnS A3 (.slice (some ⟨E0.heap.size, 0, none⟩) 0 0) [] E1) := Lib.hid (by rw [hE1]; exact (OwnS.start E0).from HBE0.out)
      clear hE1
      refine wpAnyH_ready (rs := [5]) (by kernel_rfl) (by simp) ?_
      refine AllReadyH.cons (o := { dst := some 60, op := .call { callee := .builtin .append, args := #[.tmp 55, .tmp 59], argTypes := #[29, 29] }, type := _, pos := _, after := _, guard := none }) rfl (fun K hK => ?_) AllReadyH.nil
      rw [if_pos (by rfl)]
      refine wp_append_strs (.tmp 55) (.tmp 59) A3 (.slice (some ⟨E0.heap.size, 0, none⟩) 0 0) [] rfl HOE1.out _ (ys.take (k + 1)) rfl ((RA.out.take (k := k + 1) (by rw [← HN.out]; omega)).below HOE1.out.bel) nilOk_some (by simp only [List.length_nil, List.length_take]; have := HN.out; omega) ?_
      intro vE E2 hown hnn hg
      have HOE2 := Lib.hid hown
      clear hown hnn hg
      refine hK.out _ _ trivial (fun hHeld => ?_)
      clear hK K
      try simp only [Act.put, List.setIfInBounds_toArray, List.set_cons_zero, List.set_cons_succ]
      refine wpAnyH_ready (rs := [9]) (by kernel_rfl) (by simp) ?_
      refine AllReadyH.cons (o := { dst := some 64, op := .call { callee := .builtin .append, args := #[.tmp 60, .tmp 63], argTypes := #[29, 29] }, type := _, pos := _, after := _, guard := none }) rfl (fun K hK => ?_) AllReadyH.nil
      rw [if_pos (by rfl)]
      refine wp_append_strs (.tmp 60) (.tmp 63) A3 vE ([] ++ ys.take (k + 1)) rfl HOE2.out _ (ys.drop (k)) rfl (H_E.out _ HOE2.out.bel) nilOk_some (by simp only [List.nil_append, List.length_take, List.length_drop]; have := HN.out; omega) ?_
      intro vY E3 hown hnn hg
      have HOE3 := Lib.hid hown
      clear hown hnn hg
      refine hK.out _ _ trivial (fun hHeld => ?_)
      clear hK K
      try simp only [Act.put, List.setIfInBounds_toArray, List.set_cons_zero, List.set_cons_succ]
      refine wpAnyH_take (i := 10) (oi := { dst := some 10, op := .assign (.tmp 64), type := _, pos := _, after := _, guard := none }) (v := vY) rfl (by kernel_rfl) (by kernel_rfl) (by kernel_rfl) (fun _ _ _ h => h) (Or.inl ⟨by rfl, fun wh hSw => ?_⟩) hHeld ?_
      · go_simp
      try simp only [Act.put, List.setIfInBounds_toArray, List.set_cons_zero, List.set_cons_succ]
      refine wpAnyH_done (by kernel_rfl) ?_ _
      clear hHeld
      have BB := Lib.hid (BA.out.trans (HOE3.out.bel.mono BA.out.size))
      have XB := Lib.hid (XA.out.below HOE3.out.bel)
      have YB : Hid (Strs E3 vY (ys.take (k + 1) ++ ys.drop k)) := Lib.hid (by have := HOE3.out.strs; rw [List.nil_append] at this; exact this)
      clear HOE3 HOE2 HOE1 HBE0 H_E XA BA
      have H1 := Lib.hid (fun w h => HVAL.out w vX (ys.take k ++ ys.drop (k + 1)) h (fun z hz => by rcases List.mem_append.1 hz with h | h; exact HSHT.out z (List.mem_of_mem_take h); exact HSHT.out z (List.mem_of_mem_drop h)))
      have H2 := Lib.hid (fun w h => HVAL.out w vY (ys.take (k + 1) ++ ys.drop k) h (fun z hz => by rcases List.mem_append.1 hz with h | h; exact HSHT.out z (List.mem_of_mem_take h); exact HSHT.out z (List.mem_of_mem_drop h)))
      rw [rvs_erase HVS.out k] at H1
      rw [rvs_twice (by rw [← HN.out]; exact hkn)] at H2
      go_wp2_with fail
      refine (H1.out E3 XB.out).mono ?_
      rintro e w8 ⟨rfl, hb8⟩
      have B8 := Lib.hid (BB.out.trans (hb8.mono BB.out.size))
      have Y8 := Lib.hid (YB.out.below hb8)
      clear hb8
      go_wp2_with fail
      refine (H2.out w8 Y8.out).mono ?_
      rintro e w9 ⟨rfl, hb9⟩
      have B9 := Lib.hid (B8.out.trans (hb9.mono B8.out.size))
      clear hb9
      go_wp2_with fail
      go_ret
      exact ⟨rfl, B9.out⟩
end Go.Proofs.Ytjakelpdnmnofaa
