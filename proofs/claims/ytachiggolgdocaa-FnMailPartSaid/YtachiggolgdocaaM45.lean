/- What the proofs stand on, part 45. -/
import Derived.Test.YtachiggolgdocaaRows
import Derived.Test.YtachiggolgdocaaM1
import Derived.Test.YtachiggolgdocaaM3
import Derived.Test.YtachiggolgdocaaM6
import Derived.Test.YtachiggolgdocaaM7
import Derived.Test.YtachiggolgdocaaM9
import Derived.Test.YtachiggolgdocaaM10
import Derived.Test.YtachiggolgdocaaM11
import Derived.Test.YtachiggolgdocaaM12
import Derived.Test.YtachiggolgdocaaM14
import Derived.Test.YtachiggolgdocaaM18
import Derived.Test.YtachiggolgdocaaM22
import Derived.Test.YtachiggolgdocaaM33
import Derived.Test.YtachiggolgdocaaM36
set_option linter.unusedSimpArgs false
set_option linter.unusedVariables false
namespace Go.Proofs.Ytachiggolgdocaa
open Go.ChangeShapes Go.WideShapes Go.ChangeAt Go.RowKit
set_option linter.unusedVariables false
def DrewI0 (W : World) (e : Ending) (w' : World) : Prop := ∃ v ys, e = .returned v ∧ DIs W v ys w'
theorem drawMailsValid_any (W : World) (a : Option Addr) (len cap : Nat) (zs : List Int) (hr : Row .u8 W a len cap zs) :
    Calls Try.prog 27 #[.slice a len cap] W (DrewI0 W) := by
  go_enter Try.func27, Try.ntmps27
  go_wp2_with fail
  refine (open_any W a len cap zs hr).mono ?_
  clear hr
  rintro e w1 ⟨rfl, hR1⟩
  go_wp2_with fail
  refine (mails_any W _ _ _ hR1 (by omega)).mono ?_
  rintro e w2 ⟨v, ys, rfl, hl, h⟩
  have HD := Lib.hid (DIs.of h hl)
  clear h hR1 hl
  go_wp2_with fail
  go_ret
  exact ⟨_, ys, rfl, HD.out⟩
end Go.Proofs.Ytachiggolgdocaa
namespace Go.Proofs.Ytachiggolgdocaa
open Go.ChangeShapes Go.WideShapes Go.ChangeAt Go.RowKit
set_option linter.unusedVariables false
theorem msok_erase {ys : List IV} {k : Nat} (h : msok ys = true) : msok (ys.take k ++ ys.drop (k + 1)) = true := by
  rw [msok_iff] at h ⊢
  refine ⟨fun z hz => ?_, by rw [List.length_append, List.length_take, List.length_drop]; omega⟩
  rcases List.mem_append.1 hz with hz | hz
  · exact h.1 z (List.mem_of_mem_take hz)
  · exact h.1 z (List.mem_of_mem_drop hz)
theorem msok_bad {ys : List IV} {k : Nat} (hk : k < ys.length) {x : IV} (hx : mok x = false) : msok (ys.set k x) = false := by
  cases h : msok (ys.set k x) with
  | false => rfl
  | true =>
    rw [msok_iff] at h
    rw [h.1 x (List.mem_set hk x)] at hx
    cases hx
theorem mok_three (a b : Int) : mok ⟨a, 3, b⟩ = false := by
  cases h : mok ⟨a, 3, b⟩ with
  | false => rfl
  | true => have := (mok_iff.1 h).2.1; dsimp only at this; omega
end Go.Proofs.Ytachiggolgdocaa
namespace Go.Proofs.Ytachiggolgdocaa
open Go.ChangeShapes Go.WideShapes Go.ChangeAt Go.RowKit
set_option linter.unusedVariables false
theorem IsW.place {w : World} {B0 B1 : Nat} {v : Value} {xs : List IV} {k : Nat} (h : IsW w B0 B1 v xs) (hk : k < xs.length) : ∃ g p cap, v = .slice (some ⟨g, p, none⟩) xs.length cap ∧ B0 ≤ g ∧ g < B1 ∧ TriW w g (p + k * 3) (xs.getD k iz) := by
  obtain ⟨a, cap, rfl, h1, h2, h3⟩ := h
  obtain ⟨g, p, rfl, hg0, hg1, ht⟩ := h3 k hk
  exact ⟨g, p, cap, rfl, hg0, hg1, ht⟩
set_option maxRecDepth 100000 in
set_option maxHeartbeats 4000000 in
theorem mailPart_walk  (W : World) (a : Option Addr) (len cap : Nat) (zs : List Int) (a1 : Option Addr) (len1 cap1 : Nat) (zs1 : List Int) (hr : Row .u8 W a len cap zs) (hr1 : Row .u8 W a1 len1 cap1 zs1) :
    Calls Try.prog 10 #[.slice a len cap, .slice a1 len1 cap1] W fun e w' => e = .returned (.bool true) ∧ Below W.heap.size W w' := by
  have hm := row_len hr
  have hm1 := row_len hr1
  clear hr1
  by_cases hL : 1048576 < len
  · have hL1 : (1048576 : Int) < (len : Int) := by omega
    clear hr
    go_enter Try.func10, Try.ntmps10
    go_wp2_with fail
    go_ret
    exact ⟨rfl, Below.refl _ _⟩
  have hL1 : decide ((1048576 : Int) < (len : Int)) = false := by simp; omega
  have hL2 : decide (1048576 < len) = false := by simp; omega
  by_cases hM : 1048576 < len1
  · have hM1 : (1048576 : Int) < (len1 : Int) := by omega
    clear hr
    go_enter Try.func10, Try.ntmps10
    go_wp2_with fail
    go_ret
    exact ⟨rfl, Below.refl _ _⟩
  have hM1 : decide ((1048576 : Int) < (len1 : Int)) = false := by simp; omega
  have hM2 : decide (1048576 < len1) = false := by simp; omega
  go_enter Try.func10, Try.ntmps10
  go_wp2_with fail
  refine (drawMailsValid_any W a len cap zs hr).mono ?_
  clear hr
  rintro e w1 ⟨v, ys, rfl, hd⟩
  have B1 := Lib.hid hd.bel
  have R1 := Lib.hid hd.is
  have hl9 := hd.len
  obtain ⟨g, c2, hv⟩ := hd.form
  clear hd
  subst hv
  have HC := Lib.hid (imv_any w1 _ ys R1.out)
  have HS := Lib.hid (fun w h => sMailsValid_any w (.slice (some ⟨g, 0, none⟩) ys.length c2) ys h)
  obtain ⟨n, hn⟩ : ∃ n, n = ys.length := ⟨_, rfl⟩
  rw [← hn] at HC HS R1 hl9 ⊢
  have HN := Lib.hid hn
  clear hn
  cases h1 : msok ys with
  | false =>
    rw [h1] at HC HS
    clear h1
    go_wp2_with fail
    refine HC.out.mono ?_
    rintro e w2 ⟨rfl, hb2⟩
    have B2 := Lib.hid (B1.out.trans (hb2.mono B1.out.size))
    have R2 := Lib.hid (R1.out.below hb2)
    clear hb2
    go_wp2_with fail
    refine (HS.out w2 R2.out).mono ?_
    rintro e w3 ⟨rfl, hb3⟩
    have B3 := Lib.hid (B2.out.trans (hb3.mono B2.out.size))
    clear hb3
    go_wp2_with fail
    go_ret
    exact ⟨rfl, B3.out⟩
  | true =>
    have HVS := Lib.hid h1
    rw [h1] at HC HS
    clear h1
    go_wp2_with fail
    refine HC.out.mono ?_
    rintro e w2 ⟨rfl, hb2⟩
    have B2 := Lib.hid (B1.out.trans (hb2.mono B1.out.size))
    have R2 := Lib.hid (R1.out.below hb2)
    clear hb2 B1 R1 HC
    go_wp2_with fail
    refine (HS.out w2 R2.out).mono ?_
    rintro e w3 ⟨rfl, hb3⟩
    have B3 := Lib.hid (B2.out.trans (hb3.mono B2.out.size))
    have R3 := Lib.hid (R2.out.below hb3)
    clear hb3 HS B2 R2
    by_cases hz : n = 0
    · subst hz
      go_wp2_with fail
      go_ret
      exact ⟨rfl, B3.out⟩
    have hnp : (0 : Int) < (n : Int) := by omega
    have hn0' : ((n : Int) == 0) = false := by simp [hz]
    have hne : ¬ (n : Int) = 0 := by omega
    obtain ⟨k, hk⟩ : ∃ k, k = len1 % n := ⟨_, rfl⟩
    have hkn : k < n := by rw [hk]; exact Nat.mod_lt _ (by omega)
    have hmod : (len1 : Int).tmod (n : Int) = (k : Int) := by rw [hk]; exact Int.ofNat_tmod ..
    clear hk
    have hnc : n ≤ c2 ∧ c2 ≤ 9223372036854775807 := by
      obtain ⟨a', cap', e, h1, h2, _⟩ := R3.out
      injection e with e1 e2 e3
      subst e3
      unfold maxLen at h2
      have := HN.out
      omega
    have hn1 := hnc.1
    have hn2 := hnc.2
    clear hnc
    have hc1 : (k : Int) + 1 ≤ (n : Int) := by omega
    have hc3 : (n : Int) ≤ (c2 : Int) := by omega
    have hc4 : (k : Int) ≤ (c2 : Int) := by omega
    have hc5 : (k : Int) + 1 ≤ (c2 : Int) := by omega
    have hc6 : (c2 : Int) ≤ 9223372036854775807 := by omega
    have hk1 : k + 1 ≤ n := by omega
    have hkn2 : k ≤ n := by omega
    have hck : ¬ c2 = k := by omega
    obtain ⟨q0, hq0⟩ : ∃ q0, q0 = if c2 = k + 1 then 0 else 0 + (k + 1) * 3 := ⟨_, rfl⟩
    have HQ0 : Hid (q0 = if c2 = k + 1 then 0 else (k + 1) * 3) := Lib.hid (by rw [hq0, Nat.zero_add])
    have HTK := Lib.hid (R3.out.take (k := k) (by omega))
    have HDR := Lib.hid (R3.out.drop (k := k + 1) (q := q0) hk1 hq0)
    clear hq0
    go_wp2_with fail
    refine wp_region_held_drew (S := fun _ => True) (by kernel_rfl) trivial (fun hHeld => ?_)
    refine anyH_gen _ (fun AZ hgen => ?_)
    have HBZ := Lib.hid (by rw [hgen]; exact (Below.refl _ _).drew : Below w3.heap.size w3 AZ)
    clear hgen
    refine wpAnyH_take (i := 1) (oi := { dst := some 46, op := .move (.tmp 5), type := _, pos := _, after := _, guard := none }) (v := .slice (some ⟨g, 0, none⟩) n c2) rfl (by kernel_rfl) (by kernel_rfl) (by kernel_rfl) (fun _ _ _ h => h) (Or.inl ⟨by rfl, fun wh hSw => ?_⟩) hHeld ?_
    · go_simp
    try simp only [Act.put, List.setIfInBounds_toArray, List.set_cons_zero, List.set_cons_succ]
    refine wpAnyH_take (i := 2) (oi := { dst := some 47, op := .move (.tmp 8), type := _, pos := _, after := _, guard := none }) (v := .int .i64 (k : Int)) rfl (by kernel_rfl) (by kernel_rfl) (by kernel_rfl) (fun _ _ _ h => h) (Or.inl ⟨by rfl, fun wh hSw => ?_⟩) hHeld ?_
    · go_simp
    try simp only [Act.put, List.setIfInBounds_toArray, List.set_cons_zero, List.set_cons_succ]
    refine wpAnyH_take (i := 3) (oi := { dst := some 48, op := .slice 23 (.tmp 46) none (some (.tmp 47)) none, type := _, pos := _, after := _, guard := none }) (v := .slice (some ⟨g, 0, none⟩) k c2) rfl (by kernel_rfl) (by kernel_rfl) (by kernel_rfl) (fun _ _ _ h => h) (Or.inl ⟨by rfl, fun wh hSw => ?_⟩) hHeld ?_
    · (go_simp; try (intro hh; omega))
    try simp only [Act.put, List.setIfInBounds_toArray, List.set_cons_zero, List.set_cons_succ]
    refine wpAnyH_take (i := 5) (oi := { dst := some 50, op := .move (.tmp 5), type := _, pos := _, after := _, guard := none }) (v := .slice (some ⟨g, 0, none⟩) n c2) rfl (by kernel_rfl) (by kernel_rfl) (by kernel_rfl) (fun _ _ _ h => h) (Or.inl ⟨by rfl, fun wh hSw => ?_⟩) hHeld ?_
    · go_simp
    try simp only [Act.put, List.setIfInBounds_toArray, List.set_cons_zero, List.set_cons_succ]
    refine wpAnyH_take (i := 6) (oi := { dst := some 51, op := .move (.tmp 8), type := _, pos := _, after := _, guard := none }) (v := .int .i64 (k : Int)) rfl (by kernel_rfl) (by kernel_rfl) (by kernel_rfl) (fun _ _ _ h => h) (Or.inl ⟨by rfl, fun wh hSw => ?_⟩) hHeld ?_
    · go_simp
    try simp only [Act.put, List.setIfInBounds_toArray, List.set_cons_zero, List.set_cons_succ]
    refine wpAnyH_take (i := 7) (oi := { dst := some 52, op := .binOp .add 3 (.tmp 51) (.const (.int .i64 1)) 3, type := _, pos := _, after := _, guard := none }) (v := .int .i64 ((k : Int) + 1)) rfl (by kernel_rfl) (by kernel_rfl) (by kernel_rfl) (fun _ _ _ h => h) (Or.inl ⟨by rfl, fun wh hSw => ?_⟩) hHeld ?_
    · (go_simp; rw [IntKind.wrap_i64]; omega)
    try simp only [Act.put, List.setIfInBounds_toArray, List.set_cons_zero, List.set_cons_succ]
    refine wpAnyH_take (i := 8) (oi := { dst := some 53, op := .slice 23 (.tmp 50) (some (.tmp 52)) none none, type := _, pos := _, after := _, guard := none }) (v := .slice (some ⟨g, q0, none⟩) (n - (k + 1)) (c2 - (k + 1))) rfl (by kernel_rfl) (by kernel_rfl) (by kernel_rfl) (fun _ _ _ h => h) (Or.inl ⟨by rfl, fun wh hSw => ?_⟩) hHeld ?_
    · (go_simp; rw [HQ0.out]; by_cases hce : c2 = k + 1 <;> (simp [hce]; try (intro hh; omega)))
    try simp only [Act.put, List.setIfInBounds_toArray, List.set_cons_zero, List.set_cons_succ]
    refine wpAnyH_ready (rs := [0]) (by kernel_rfl) (by simp) ?_
    refine AllReadyH.cons (o := { dst := some 45, op := .buildSlice 23 0 #[], type := _, pos := _, after := _, guard := none }) rfl (fun K hK => ?_) AllReadyH.nil
    go_simp
    refine hK.out _ _ ?_ (fun hHeld => ?_)
    · exact trivial
    clear hK K
    try simp only [Act.put, List.setIfInBounds_toArray, List.set_cons_zero, List.set_cons_succ]
    refine anyH_gen _ (fun A1 hgen => ?_)
    have HB1 : Hid (Below w3.heap.size w3 A1) := Lib.hid (by rw [hgen]; exact HBZ.out.alloc HBZ.out.size _)
    have HO1 : Hid (OwnV w3 (.slice (some ⟨AZ.heap.size, 0, none⟩) 0 0) [] A1) := Lib.hid (by rw [hgen]; exact (OwnV.start AZ).from HBZ.out)
    clear hgen
    refine wpAnyH_ready (rs := [4]) (by kernel_rfl) (by simp) ?_
    refine AllReadyH.cons (o := { dst := some 49, op := .call { callee := .builtin .append, args := #[.tmp 45, .tmp 48], argTypes := #[23, 23] }, type := _, pos := _, after := _, guard := none }) rfl (fun K hK => ?_) AllReadyH.nil
    rw [if_pos (by rfl)]
    refine wp_append_is (.tmp 45) (.tmp 48) w3 (.slice (some ⟨AZ.heap.size, 0, none⟩) 0 0) [] rfl HO1.out _ (ys.take k) rfl (HTK.out.below HB1.out) nilOkI_some (by simp only [List.length_nil, List.length_take]; have := HN.out; omega) ?_
    intro v2 A2 hown hnn hg
    have HO2 := Lib.hid hown
    clear hown hnn hg
    refine hK.out _ _ ?_ (fun hHeld => ?_)
    · exact trivial
    clear hK K
    try simp only [Act.put, List.setIfInBounds_toArray, List.set_cons_zero, List.set_cons_succ]
    refine wpAnyH_ready (rs := [9]) (by kernel_rfl) (by simp) ?_
    refine AllReadyH.cons (o := { dst := some 54, op := .call { callee := .builtin .append, args := #[.tmp 49, .tmp 53], argTypes := #[23, 23] }, type := _, pos := _, after := _, guard := none }) rfl (fun K hK => ?_) AllReadyH.nil
    rw [if_pos (by rfl)]
    refine wp_append_is (.tmp 49) (.tmp 53) w3 v2 ([] ++ ys.take k) rfl HO2.out _ (ys.drop (k + 1)) rfl (HDR.out.below HO2.out.bel) nilOkI_some (by simp only [List.nil_append, List.length_take, List.length_drop]; have := HN.out; omega) ?_
    intro vX A3 hown hnn hg
    have HO3 := Lib.hid hown
    clear hown hnn hg
    refine hK.out _ _ ?_ (fun hHeld => ?_)
    · exact trivial
    clear hK K
    try simp only [Act.put, List.setIfInBounds_toArray, List.set_cons_zero, List.set_cons_succ]
    refine wpAnyH_take (i := 10) (oi := { dst := some 9, op := .assign (.tmp 54), type := _, pos := _, after := _, guard := none }) (v := vX) rfl (by kernel_rfl) (by kernel_rfl) (by kernel_rfl) (fun _ _ _ h => h) (Or.inl ⟨by rfl, fun wh hSw => ?_⟩) hHeld ?_
    · go_simp
    try simp only [Act.put, List.setIfInBounds_toArray, List.set_cons_zero, List.set_cons_succ]
    refine wpAnyH_done (by kernel_rfl) ?_ _
    have BA := Lib.hid (B3.out.trans (HO3.out.bel.mono B3.out.size))
    have RA := Lib.hid (R3.out.below HO3.out.bel)
    have XA : Hid (Is A3 vX (ys.take k ++ ys.drop (k + 1))) := Lib.hid (by have := HO3.out.is; rw [List.nil_append] at this; exact this)
    clear HO3 HO2 HO1 HBZ B3 R3 HQ0
    go_wp2_with (at_builtin; refine wpList_append_is (.tmp 55) (.tmp 56) A3 _ [] rfl (OwnV.start A3) _ ys rfl (RA.out.below (OwnV.start A3).bel) nilOkI_some (by have := HN.out; simp only [List.length_nil]; omega) ?_; intro vY A4 hown hnn hg)
    rw [List.nil_append] at hown
    obtain ⟨gy, py, cy, e, hgy0, hgy1, hty⟩ := hown.row.place (k := k) (by rw [← HN.out]; exact hkn)
    rw [← HN.out] at e
    subst e
    have HOY := Lib.hid hown
    have HTY := Lib.hid hty
    have HGY := Lib.hid hgy0
    have f1 := hty.fr 1 (by omega)
    have e1 := hty.at3.c1
    clear hown hnn hg hgy0 hgy1 hty
    have hkI : (k : Int) < (n : Int) := by omega
    go_wp2_with fail
    go_simp
    rename_i hA
    refine hA _ _ ?_
    obtain ⟨A5, hA5⟩ : ∃ A5, A5 = A4.setCell ⟨gy, py + k * 3 + 1, none⟩ (.int .i64 3) := ⟨_, rfl⟩
    have hs5 : A5.heap.size = A4.heap.size := by rw [hA5]; simp
    have HP : Hid (Is A5 (.slice (some ⟨gy, py, none⟩) n cy) (ys.set k ⟨(ys.getD k iz).k, 3, (ys.getD k iz).r⟩) ∧ Below A3.heap.size A3 A5) := Lib.hid (by
      have hu := HOY.out.row.upd (w' := A5) rfl hkn (by rw [hA5]; exact HTY.out.set1 3) (fun i y hi hy => by rw [hA5]; exact hy.off (by omega) _)
      exact ⟨hu.is, by rw [hA5]; exact HOY.out.bel.setCell HGY.out _⟩)
    have HA5 := Lib.hid hA5
    have BB := Lib.hid (BA.out.trans (HP.out.2.mono BA.out.size))
    have XB := Lib.hid (XA.out.below HP.out.2)
    have YB := Lib.hid HP.out.1
    have hky : k < ys.length := by rw [← HN.out]; exact hkn
    have H1 := Lib.hid (fun w v h => imv_any w v (ys.take k ++ ys.drop (k + 1)) h)
    have H2 := Lib.hid (fun w v h => imv_any w v (ys.set k ⟨(ys.getD k iz).k, 3, (ys.getD k iz).r⟩) h)
    rw [msok_erase HVS.out] at H1
    rw [msok_bad hky (mok_three _ _)] at H2
    clear hky HVS hA5 hs5 HOY HTY HGY HP RA XA BA
    go_wp2_with fail
    rw [← HA5.out]
    refine (H1.out A5 _ XB.out).mono ?_
    rintro e w8 ⟨rfl, hb8⟩
    have B8 := Lib.hid (BB.out.trans (hb8.mono BB.out.size))
    have Y8 := Lib.hid (YB.out.below hb8)
    clear hb8
    go_wp2_with fail
    refine (H2.out w8 _ Y8.out).mono ?_
    rintro e w9 ⟨rfl, hb9⟩
    have B9 := Lib.hid (B8.out.trans (hb9.mono B8.out.size))
    clear hb9
    go_wp2_with fail
    go_ret
    exact ⟨rfl, B9.out⟩
end Go.Proofs.Ytachiggolgdocaa
