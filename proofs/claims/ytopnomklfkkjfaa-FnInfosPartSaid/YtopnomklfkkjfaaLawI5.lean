/- The walk of the statement on frames that are missing, out of contracts of the program. -/
import Derived.Test.YtopnomklfkkjfaaLawI4
import Derived.Test.YtopnomklfkkjfaaRApp
import Derived.Deep.RegionHeld
namespace Go.Proofs.Ytopnomklfkkjfaa
open Go.ChangeShapes Go.WideShapes Go.ChangeAt Go.RowKit
set_option linter.unusedVariables false

theorem getD_takeI {xs : List IV} {k i : Nat} (h : i < k) : (xs.take k).getD i iz = xs.getD i iz := by
  rw [List.getD_eq_getElem?_getD, List.getD_eq_getElem?_getD, List.getElem?_take, if_pos h]
theorem getD_dropI {xs : List IV} {k i : Nat} : (xs.drop k).getD i iz = xs.getD (k + i) iz := by
  rw [List.getD_eq_getElem?_getD, List.getD_eq_getElem?_getD, List.getElem?_drop]
theorem Is.take {w : World} {a : Option Addr} {n c k : Nat} {xs : List IV} (h : Is w (.slice a n c) xs) (hk : k ≤ n) : Is w (.slice a k c) (xs.take k) := by
  obtain ⟨a', c', e, h1, h2, h3⟩ := h
  injection e with e1 e2 e3
  subst e1
  subst e3
  have hl : (xs.take k).length = k := by rw [List.length_take]; omega
  refine ⟨a, c, by rw [hl], by rw [hl]; omega, h2, fun i hi => ?_⟩
  rw [hl] at hi
  obtain ⟨b, o, e, ht⟩ := h3 i (by omega)
  refine ⟨b, o, e, ?_⟩
  rw [getD_takeI hi]
  exact ht
theorem Is.drop {w : World} {g o n c k : Nat} {xs : List IV} (h : Is w (.slice (some ⟨g, o, none⟩) n c) xs) (hk : k ≤ n) : Is w (.slice (some ⟨g, o + k * 3, none⟩) (n - k) (c - k)) (xs.drop k) := by
  obtain ⟨a', c', e, h1, h2, h3⟩ := h
  injection e with e1 e2 e3
  subst e1
  subst e3
  have hl : (xs.drop k).length = n - k := by rw [List.length_drop]; omega
  refine ⟨_, _, by rw [hl], by rw [hl]; omega, by omega, fun i hi => ?_⟩
  rw [hl] at hi
  obtain ⟨b, o', e, ht⟩ := h3 (k + i) (by omega)
  cases e
  refine ⟨g, o + k * 3, rfl, ?_⟩
  rw [getD_dropI, show o + k * 3 + i * 3 = o + (k + i) * 3 by omega]
  exact ht
theorem is_none {w : World} {g c : Nat} {xs : List IV} (h : xs.length = 0) (hc : c ≤ 9223372036854775807) : Is w (.slice (some ⟨g, 0, none⟩) 0 c) xs := by
  have e : xs = [] := List.eq_nil_of_length_eq_zero h
  subst e
  exact ⟨_, _, rfl, Nat.zero_le _, hc, fun i hi => by simp at hi⟩
theorem iok_minus : iok ⟨1, [], -1⟩ = false := by
  unfold iok inR
  simp
/-- a store into a new list -/
theorem OwnI.placed {w w' : World} {v : Value} {xs : List IV} {k : Nat} (h : OwnI w v xs w') (hk : k < xs.length) : ∃ g p cap, v = .slice (some ⟨g, p, none⟩) xs.length cap ∧ w.heap.size ≤ g ∧ g < w'.heap.size ∧ TriW w' g (p + k * 3) (xs.getD k iz) := h.row.place hk
set_option maxRecDepth 100000 in
set_option maxHeartbeats 2000000 in
theorem infosPart_walk (hV : IIV) (W : World) (a : Option Addr) (len cap : Nat) (zs : List Int) (a1 : Option Addr) (len1 cap1 : Nat) (zs1 : List Int) (hr : Row .u8 W a len cap zs) (hr1 : Row .u8 W a1 len1 cap1 zs1) :
    Calls Try.prog 8 #[.slice a len cap, .slice a1 len1 cap1] W fun e w' => e = .returned (.bool true) ∧ Below W.heap.size W w' := by
  have HVAL := Lib.hid hV
  clear hV
  have hm := row_len hr
  have hm1 := row_len hr1
  clear hr1
  by_cases hL : 1048576 < len
  · have hL1 : (1048576 : Int) < (len : Int) := by omega
    clear hr
    go_enter Try.func8, Try.ntmps8
    go_wp2_with fail
    go_ret
    exact ⟨rfl, Below.refl _ _⟩
  have hL1 : decide ((1048576 : Int) < (len : Int)) = false := by simp; omega
  have hL2 : decide (1048576 < len) = false := by simp; omega
  by_cases hM : 1048576 < len1
  · have hM1 : (1048576 : Int) < (len1 : Int) := by omega
    clear hr
    go_enter Try.func8, Try.ntmps8
    go_wp2_with fail
    go_ret
    exact ⟨rfl, Below.refl _ _⟩
  have hM1 : decide ((1048576 : Int) < (len1 : Int)) = false := by simp; omega
  have hM2 : decide (1048576 < len1) = false := by simp; omega
  go_enter Try.func8, Try.ntmps8
  go_wp2_with fail
  refine (drawInfosValid_any W a len cap zs hr).mono ?_
  clear hr
  rintro e w1 ⟨v, ys, rfl, hd⟩
  have B1 := Lib.hid hd.bel
  have R1 := Lib.hid hd.is
  have HSH := Lib.hid hd.rng
  obtain ⟨g, c2, hv⟩ := hd.form
  have hl8 : ys.length ≤ 12 := hd.len
  clear hd
  subst hv
  have HC := Lib.hid (HVAL.out w1 _ ys R1.out (shortI HSH.out))
  have HS := Lib.hid (fun w h => infosValid_any w (.slice (some ⟨g, 0, none⟩) ys.length c2) ys h (shortI HSH.out))
  have HSHT := Lib.hid (shortI HSH.out)
  obtain ⟨n, hn⟩ : ∃ n, n = ys.length := ⟨_, rfl⟩
  rw [← hn] at HC HS R1 hl8 ⊢
  have HN := Lib.hid hn
  clear hn
  cases h1 : isok ys with
  | false =>
    rw [h1] at HC HS
    clear h1
    go_wp2_with fail
    refine HC.out.mono ?_
    rintro e w2 ⟨rfl, hb2⟩
    have B2 := Lib.hid (B1.out.trans (hb2.mono B1.out.size))
    have R2 := Lib.hid (R1.out.below hb2)
    clear hb2
    go_wp2_with fail
    refine (HS.out w2 R2.out).mono ?_
    rintro e w3 ⟨rfl, hb3⟩
    have B3 := Lib.hid (B2.out.trans (hb3.mono B2.out.size))
    clear hb3
    go_wp2_with fail
    go_ret
    exact ⟨rfl, B3.out⟩
  | true =>
    have HVS := Lib.hid h1
    have HN12 : Hid (n = 12) := Lib.hid (by rw [HN.out]; exact isok_len h1)
    rw [h1] at HC HS
    clear h1
    go_wp2_with fail
    refine HC.out.mono ?_
    rintro e w2 ⟨rfl, hb2⟩
    have B2 := Lib.hid (B1.out.trans (hb2.mono B1.out.size))
    have R2 := Lib.hid (R1.out.below hb2)
    clear hb2 B1 R1 HC
    go_wp2_with fail
    refine (HS.out w2 R2.out).mono ?_
    rintro e w3 ⟨rfl, hb3⟩
    have B3 := Lib.hid (B2.out.trans (hb3.mono B2.out.size))
    have R3 := Lib.hid (R2.out.below hb3)
    clear hb3 HS B2 R2
    have hn12 := HN12.out
    have hnp : (0 : Int) < (n : Int) := by omega
    have hn0 : n ≠ 0 := by omega
    have hn0' : ((n : Int) == 0) = false := by simp [hn0]
    have hne : ¬ (n : Int) = 0 := by omega
    obtain ⟨k, hk⟩ : ∃ k, k = len1 % n := ⟨_, rfl⟩
    have hkn : k < n := by rw [hk]; exact Nat.mod_lt _ (by omega)
    have hmod : (len1 : Int).tmod (n : Int) = (k : Int) := by rw [hk]; exact Int.ofNat_tmod ..
    clear hk hn12 HN12
    have hnc : n ≤ c2 ∧ c2 ≤ 9223372036854775807 := by
      obtain ⟨a', cap', e, h1, h2, _⟩ := R3.out
      injection e with e1 e2 e3
      subst e3
      unfold maxLen at h2
      have := HN.out
      omega
    have hn1 := hnc.1
    have hn2 := hnc.2
    clear hnc
    have hc1 : (k : Int) + 1 ≤ (n : Int) := by omega
    have hc3 : (n : Int) ≤ (c2 : Int) := by omega
    have hc4 : (k : Int) ≤ (c2 : Int) := by omega
    have hc5 : (k : Int) + 1 ≤ (c2 : Int) := by omega
    have hc6 : (c2 : Int) ≤ 9223372036854775807 := by omega
    have hk1 : k + 1 ≤ n := by omega
    have hkn2 : k ≤ n := by omega
    have hck : ¬ c2 = k := by omega
    obtain ⟨q0, hq0⟩ : ∃ q0, q0 = if c2 = k + 1 then 0 else (k + 1) * 3 := ⟨_, rfl⟩
    have HQ0 := Lib.hid hq0
    have H_A : Hid (∀ wx, Below w3.heap.size w3 wx → Is wx (.slice (some ⟨g, q0, none⟩) (n - (k + 1)) (c2 - (k + 1))) (ys.drop (k + 1))) := Lib.hid (fun wx hb => by
      by_cases hce : c2 = k + 1
      · rw [hq0, if_pos hce, show n - (k + 1) = 0 by omega]
        exact is_none (by rw [List.length_drop, ← HN.out]; omega) (by omega)
      · rw [hq0, if_neg hce]
        have := (R3.out.drop (k := k + 1) hk1).below hb
        rw [Nat.zero_add] at this
        exact this)
    clear hq0
    go_wp2_with fail
    refine wp_region_held_drew (S := fun _ => True) (by kernel_rfl) trivial (fun hHeld => ?_)
    refine wpAnyH_take (i := 1) (oi := { dst := some 42, op := .move (.tmp 5), type := _, pos := _, after := _, guard := none }) (v := .slice (some ⟨g, 0, none⟩) n c2) rfl (by kernel_rfl) (by kernel_rfl) (by kernel_rfl) (fun _ _ _ h => h) (Or.inl ⟨by rfl, fun wh hSw => ?_⟩) hHeld ?_
    · go_simp
    try simp only [Act.put, List.setIfInBounds_toArray, List.set_cons_zero, List.set_cons_succ]
    refine wpAnyH_take (i := 2) (oi := { dst := some 43, op := .move (.tmp 8), type := _, pos := _, after := _, guard := none }) (v := .int .i64 (k : Int)) rfl (by kernel_rfl) (by kernel_rfl) (by kernel_rfl) (fun _ _ _ h => h) (Or.inl ⟨by rfl, fun wh hSw => ?_⟩) hHeld ?_
    · go_simp
    try simp only [Act.put, List.setIfInBounds_toArray, List.set_cons_zero, List.set_cons_succ]
    refine wpAnyH_take (i := 3) (oi := { dst := some 44, op := .slice 23 (.tmp 42) none (some (.tmp 43)) none, type := _, pos := _, after := _, guard := none }) (v := .slice (some ⟨g, 0, none⟩) k c2) rfl (by kernel_rfl) (by kernel_rfl) (by kernel_rfl) (fun _ _ _ h => h) (Or.inl ⟨by rfl, fun wh hSw => ?_⟩) hHeld ?_
    · (go_simp; try (intro hh; omega))
    try simp only [Act.put, List.setIfInBounds_toArray, List.set_cons_zero, List.set_cons_succ]
    refine wpAnyH_take (i := 5) (oi := { dst := some 46, op := .move (.tmp 5), type := _, pos := _, after := _, guard := none }) (v := .slice (some ⟨g, 0, none⟩) n c2) rfl (by kernel_rfl) (by kernel_rfl) (by kernel_rfl) (fun _ _ _ h => h) (Or.inl ⟨by rfl, fun wh hSw => ?_⟩) hHeld ?_
    · go_simp
    try simp only [Act.put, List.setIfInBounds_toArray, List.set_cons_zero, List.set_cons_succ]
    refine wpAnyH_take (i := 6) (oi := { dst := some 47, op := .move (.tmp 8), type := _, pos := _, after := _, guard := none }) (v := .int .i64 (k : Int)) rfl (by kernel_rfl) (by kernel_rfl) (by kernel_rfl) (fun _ _ _ h => h) (Or.inl ⟨by rfl, fun wh hSw => ?_⟩) hHeld ?_
    · go_simp
    try simp only [Act.put, List.setIfInBounds_toArray, List.set_cons_zero, List.set_cons_succ]
    refine wpAnyH_take (i := 7) (oi := { dst := some 48, op := .binOp .add 3 (.tmp 47) (.const (.int .i64 1)) 3, type := _, pos := _, after := _, guard := none }) (v := .int .i64 ((k : Int) + 1)) rfl (by kernel_rfl) (by kernel_rfl) (by kernel_rfl) (fun _ _ _ h => h) (Or.inl ⟨by rfl, fun wh hSw => ?_⟩) hHeld ?_
    · (go_simp; rw [IntKind.wrap_i64]; omega)
    try simp only [Act.put, List.setIfInBounds_toArray, List.set_cons_zero, List.set_cons_succ]
    refine wpAnyH_take (i := 8) (oi := { dst := some 49, op := .slice 23 (.tmp 46) (some (.tmp 48)) none none, type := _, pos := _, after := _, guard := none }) (v := .slice (some ⟨g, q0, none⟩) (n - (k + 1)) (c2 - (k + 1))) rfl (by kernel_rfl) (by kernel_rfl) (by kernel_rfl) (fun _ _ _ h => h) (Or.inl ⟨by rfl, fun wh hSw => ?_⟩) hHeld ?_
    · (go_simp; rw [HQ0.out]; by_cases hce : c2 = k + 1 <;> (simp [hce]; try (intro hh; omega)))
    try simp only [Act.put, List.setIfInBounds_toArray, List.set_cons_zero, List.set_cons_succ]
    refine anyH_gen _ (fun A0 hA0 => ?_)
    have HBA0 : Hid (Below w3.heap.size w3 A0) := Lib.hid (by rw [hA0]; exact ⟨rfl, rfl, rfl, Nat.le_refl _, fun _ _ => rfl⟩)
    clear hA0
    refine wpAnyH_ready (rs := [0]) (by kernel_rfl) (by simp) ?_
    refine AllReadyH.cons (o := { dst := some 41, op := .buildSlice 23 0 #[], type := _, pos := _, after := _, guard := none }) rfl (fun K hK => ?_) AllReadyH.nil
    go_simp
    refine hK.out _ _ trivial (fun hHeld => ?_)
    clear hK K
    try simp only [Act.put, List.setIfInBounds_toArray, List.set_cons_zero, List.set_cons_succ]
    refine anyH_gen _ (fun A1 hA1 => ?_)
    have HOA1 : Hid (OwnI w3 (.slice (some ⟨A0.heap.size, 0, none⟩) 0 0) [] A1) := Lib.hid (by rw [hA1]; exact (OwnI.start A0).from HBA0.out)
    clear hA1
    refine wpAnyH_ready (rs := [4]) (by kernel_rfl) (by simp) ?_
    refine AllReadyH.cons (o := { dst := some 45, op := .call { callee := .builtin .append, args := #[.tmp 41, .tmp 44], argTypes := #[23, 23] }, type := _, pos := _, after := _, guard := none }) rfl (fun K hK => ?_) AllReadyH.nil
    rw [if_pos (by rfl)]
    refine wp_append_is (.tmp 41) (.tmp 44) w3 (.slice (some ⟨A0.heap.size, 0, none⟩) 0 0) [] rfl HOA1.out _ (ys.take (k)) rfl ((R3.out.take (k := k) (by omega)).below HOA1.out.bel) nilOkI_some (by simp only [List.length_nil, List.length_take]; have := HN.out; omega) ?_
    intro vA A2 hown hnn hg
    have HOA2 := Lib.hid hown
    clear hown hnn hg
    refine hK.out _ _ trivial (fun hHeld => ?_)
    clear hK K
    try simp only [Act.put, List.setIfInBounds_toArray, List.set_cons_zero, List.set_cons_succ]
    refine wpAnyH_ready (rs := [9]) (by kernel_rfl) (by simp) ?_
    refine AllReadyH.cons (o := { dst := some 50, op := .call { callee := .builtin .append, args := #[.tmp 45, .tmp 49], argTypes := #[23, 23] }, type := _, pos := _, after := _, guard := none }) rfl (fun K hK => ?_) AllReadyH.nil
    rw [if_pos (by rfl)]
    refine wp_append_is (.tmp 45) (.tmp 49) w3 vA ([] ++ ys.take (k)) rfl HOA2.out _ (ys.drop (k + 1)) rfl (H_A.out _ HOA2.out.bel) nilOkI_some (by simp only [List.nil_append, List.length_take, List.length_drop]; have := HN.out; omega) ?_
    intro vX A3 hown hnn hg
    have HOA3 := Lib.hid hown
    clear hown hnn hg
    refine hK.out _ _ trivial (fun hHeld => ?_)
    clear hK K
    try simp only [Act.put, List.setIfInBounds_toArray, List.set_cons_zero, List.set_cons_succ]
    refine wpAnyH_take (i := 10) (oi := { dst := some 9, op := .assign (.tmp 50), type := _, pos := _, after := _, guard := none }) (v := vX) rfl (by kernel_rfl) (by kernel_rfl) (by kernel_rfl) (fun _ _ _ h => h) (Or.inl ⟨by rfl, fun wh hSw => ?_⟩) hHeld ?_
    · go_simp
    try simp only [Act.put, List.setIfInBounds_toArray, List.set_cons_zero, List.set_cons_succ]
    refine wpAnyH_done (by kernel_rfl) ?_ _
    clear hHeld
    have BA := Lib.hid (B3.out.trans (HOA3.out.bel.mono B3.out.size))
    have RA := Lib.hid (R3.out.below HOA3.out.bel)
    have XA : Hid (Is A3 vX (ys.take k ++ ys.drop (k + 1))) := Lib.hid (by have := HOA3.out.is; rw [List.nil_append] at this; exact this)
    clear HOA3 HOA2 HOA1 HBA0 H_A B3 R3 HQ0
    go_wp2_with (at_builtin; refine wpList_append_is (.tmp 51) (.tmp 52) A3 _ [] rfl (OwnI.start A3) _ ys rfl (RA.out.below (OwnI.start A3).bel) nilOkI_some (by have := HN.out; simp only [List.length_nil]; omega) ?_; intro vY A4 hown hnn hg)
    rw [List.nil_append] at hown
    obtain ⟨gy, py, cy, e, hgy0, hgy1, hty⟩ := hown.placed (k := k) (by rw [← HN.out]; exact hkn)
    rw [← HN.out] at e
    subst e
    have HOY := Lib.hid hown
    have HTY := Lib.hid hty
    have HGY := Lib.hid hgy0
    have HP := Lib.hid (stored_any (x := (⟨1, [], -1⟩ : IV)) hown.row hkn hgy0 hty.there hown.bel)
    clear hown hnn hg hty hgy0 hgy1
    go_wp2_with fail
    go_simp
    rename_i hA
    refine hA _ _ ?_
    refine store_arr 30 (.tmp 57) (.tmp 56) gy (py + k * 3) #[.int .i64 1, .string ⟨#[]⟩, .int .i64 (-1)] rfl rfl HTY.out.there (by kernel_rfl) (by simp [Value.oneCell']) ?_
    obtain ⟨A5, hA5⟩ : ∃ A5, A5 = A4.setCells gy (py + k * 3) (#[Value.int IntKind.i64 1, Value.string { data := #[] }, Value.int IntKind.i64 (-1)] : Array Value).toList := ⟨_, rfl⟩
    rw [← hA5]
    have HP5 : Hid (IsW A5 A3.heap.size A5.heap.size (.slice (some ⟨gy, py, none⟩) n cy) (ys.set k ⟨1, [], -1⟩) ∧ Below A3.heap.size A3 A5) := Lib.hid (by rw [show A5 = _ from hA5]; exact HP.out)
    have BB := Lib.hid (BA.out.trans (HP5.out.2.mono BA.out.size))
    have RB := Lib.hid (RA.out.below HP5.out.2)
    have XB := Lib.hid (XA.out.below HP5.out.2)
    have YB := Lib.hid (HP5.out.1.is)
    clear hA5 HP HP5 HTY HOY HGY RA XA BA
    go_wp2_with (at_builtin; refine wpList_append_is (.tmp 58) (.tmp 59) A5 _ [] rfl (OwnI.start A5) _ ys rfl (RB.out.below (OwnI.start A5).bel) nilOkI_some (by have := HN.out; simp only [List.length_nil]; omega) ?_; intro vZ A6 hown hnn hg)
    rw [List.nil_append] at hown
    obtain ⟨gz, pz, cz, e, hgz0, hgz1, htz⟩ := hown.placed (k := k) (by rw [← HN.out]; exact hkn)
    rw [← HN.out] at e
    subst e
    have HTZ := Lib.hid htz
    have HP := Lib.hid (stored_any (x := iz) hown.row hkn hgz0 htz.there hown.bel)
    clear hown hnn hg htz hgz0 hgz1
    go_wp2_with fail
    go_simp
    rename_i hA
    refine hA _ _ ?_
    refine store_arr 30 (.tmp 64) (.tmp 63) gz (pz + k * 3) #[.int .i64 0, .string ⟨#[]⟩, .int .i64 0] rfl rfl HTZ.out.there (by kernel_rfl) (by simp [Value.oneCell']) ?_
    obtain ⟨A7, hA7⟩ : ∃ A7, A7 = A6.setCells gz (pz + k * 3) (#[Value.int IntKind.i64 0, Value.string { data := #[] }, Value.int IntKind.i64 0] : Array Value).toList := ⟨_, rfl⟩
    rw [← hA7]
    have HP7 : Hid (IsW A7 A5.heap.size A7.heap.size (.slice (some ⟨gz, pz, none⟩) n cz) (ys.set k iz) ∧ Below A5.heap.size A5 A7) := Lib.hid (by rw [show A7 = _ from hA7]; exact HP.out)
    have BC := Lib.hid (BB.out.trans (HP7.out.2.mono BB.out.size))
    have XC := Lib.hid (XB.out.below HP7.out.2)
    have YC := Lib.hid (YB.out.below HP7.out.2)
    have ZC := Lib.hid (HP7.out.1.is)
    clear hA7 HP HP7 HTZ RB XB YB BB
    have hky : k < ys.length := by rw [← HN.out]; exact hkn
    have H1 := Lib.hid (fun w v h => HVAL.out w v (ys.take k ++ ys.drop (k + 1)) h (fun z hz => by rcases List.mem_append.1 hz with h | h; exact HSHT.out z (List.mem_of_mem_take h); exact HSHT.out z (List.mem_of_mem_drop h)))
    have H2 := Lib.hid (fun w v h => HVAL.out w v (ys.set k ⟨1, [], -1⟩) h (fun z hz => by rcases List.mem_or_eq_of_mem_set hz with h | h; exact HSHT.out z h; rw [h]; exact Nat.zero_le _))
    have H3 := Lib.hid (fun w v h => HVAL.out w v (ys.set k iz) h (fun z hz => by rcases List.mem_or_eq_of_mem_set hz with h | h; exact HSHT.out z h; rw [h]; exact Nat.zero_le _))
    rw [isok_erase HVS.out hky] at H1
    rw [isok_bad hky iok_minus] at H2
    rw [isok_set HVS.out (by rfl) hky] at H3
    clear hky HVS HSHT HVAL
    go_wp2_with fail
    refine (H1.out A7 _ XC.out).mono ?_
    rintro e w8 ⟨rfl, hb8⟩
    have B8 := Lib.hid (BC.out.trans (hb8.mono BC.out.size))
    have Y8 := Lib.hid (YC.out.below hb8)
    have Z8 := Lib.hid (ZC.out.below hb8)
    clear hb8 BC YC ZC XC
    go_wp2_with fail
    refine (H2.out w8 _ Y8.out).mono ?_
    rintro e w9 ⟨rfl, hb9⟩
    have B9 := Lib.hid (B8.out.trans (hb9.mono B8.out.size))
    have Z9 := Lib.hid (Z8.out.below hb9)
    clear hb9 B8 Y8 Z8
    go_wp2_with fail
    refine (H3.out w9 _ Z9.out).mono ?_
    rintro e wA ⟨rfl, hbA⟩
    have BE := Lib.hid (B9.out.trans (hbA.mono B9.out.size))
    clear hbA B9 Z9
    go_wp2_with fail
    go_ret
    exact ⟨rfl, BE.out⟩
end Go.Proofs.Ytopnomklfkkjfaa
