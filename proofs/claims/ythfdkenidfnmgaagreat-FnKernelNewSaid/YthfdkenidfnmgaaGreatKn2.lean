/- What the proofs stand on, part 2. -/
import Derived.Test.YthfdkenidfnmgaaGreatRows
import Derived.Test.YthfdkenidfnmgaaGreatKn1
set_option linter.unusedSimpArgs false
set_option linter.unusedVariables false
namespace Go.Proofs.YthfdkenidfnmgaaGreat
open Go.ChangeShapes Go.WideShapes Go.ChangeAt Go.RowKit
set_option linter.unusedVariables false
set_option maxRecDepth 100000
theorem below_drew_n (w : World) (d : Nat) : Below w.heap.size w (w.drewN d).drew := ⟨rfl, rfl, rfl, Nat.le_refl _, fun _ _ => rfl⟩
theorem strs_none {W : World} {b q n c : Nat} {xs : List Bs} (h : n = xs.length) (h0 : n = 0) (h1 : c ≤ 9223372036854775807) : Strs W (.slice (some ⟨b, q, none⟩) n c) xs :=
  ⟨_, c, by rw [h], by omega, by unfold maxLen; omega, fun i hi => by omega⟩
theorem strs_one_lt {w : World} {q : Nat} {s : Bs} (h : Strs w (.slice (some ⟨q, 0, none⟩) 1 1) [s]) : q < w.heap.size := by
  obtain ⟨a, c, e, _, _, h3⟩ := h
  obtain ⟨b, o, e2, hc⟩ := h3 0 (by simp)
  injection e with e1 _ _
  rw [← e1] at e2
  cases e2
  exact cell_lt hc
theorem own_start_drew (w : World) (d : Nat) : OwnS w (.slice (some ⟨w.heap.size, 0, none⟩) 0 0) [] ((w.drewN d).alloc (.cells #[] 9)) :=
  ⟨World.ownsRow_made (w.drewN d) #[] 0 (Nat.le_refl _) (Nat.zero_le _) rfl, by have := (Below.refl (w.drewN d).heap.size (w.drewN d)).alloc (Nat.le_refl _) (.cells #[] 9); exact ⟨this.os, this.tape, this.output, this.size, this.block⟩⟩
def NewSO (ys : List Bs) (b : Bool) (w : World) (e : Ending) (w' : World) : Prop := ∃ v, e = .returned (.tuple #[v, .bool b]) ∧ OwnS w v ys w' ∧ v ≠ .slice none 0 0
theorem sRightsAdd_any (w : World) (b o ca n : Nat) (xs : List Bs) (s : Bs) (h : Strs w (.slice (some ⟨b, o, none⟩) n ca) xs) (hN : n = xs.length) (hs : Short xs) (hg : s.length ≤ 2000000) :
    Calls Tryz.prog 26 #[.slice (some ⟨b, o, none⟩) n ca, .string ⟨s.toArray⟩] w (NewSO (radd xs s).1 (radd xs s).2 w) := by
  have HA := Lib.hid (sRightsValid_any w _ xs h hs)
  have HB := Lib.hid (fun w => sRightValid_any w s hg)
  obtain ⟨r, hr⟩ : ∃ r, r = radd xs s := ⟨_, rfl⟩
  rw [← hr]
  have HR := Lib.hid hr
  have H := Lib.hid h
  have HN := Lib.hid hN
  have hcap : n ≤ ca ∧ ca ≤ maxLen := by
    obtain ⟨a', cap, e, h1, h2, h3⟩ := h
    injection e with e1 e2 e3
    subst e3
    exact ⟨by omega, h2⟩
  obtain ⟨hla, hma⟩ := hcap
  unfold maxLen at hma
  have HX : Hid (∀ i, i < n → w.cell? ⟨b, o + i, none⟩ = some (.string ⟨(xs.getD i []).toArray⟩)) := Lib.hid (fun i hi => by
    obtain ⟨a', cap, e, h1, h2, h3⟩ := h
    obtain ⟨b', o', e', hc⟩ := h3 i (by omega)
    injection e with e1 e2 e3
    subst e1
    cases e'
    exact hc)
  have new0 : Hid (∀ d, r = ([], false) → NewSO r.1 r.2 w (.returned (.tuple #[.slice (some ⟨w.heap.size, 0, none⟩) 0 0, .bool false])) ((w.drewN d).alloc (.cells #[] 9))) := Lib.hid (fun d e => by
    rw [e]
    exact ⟨_, rfl, own_start_drew w d, fun e => by cases e⟩)
  clear hr h hs hg hN
  go_enter Tryz.func26, Tryz.ntmps26
  go_wp2_with fail
  refine HA.out.mono ?_
  rintro e w1 ⟨rfl, d, rfl⟩
  cases hva : rvs xs with
  | false =>
    have e0 : r = ([], false) := by rw [HR.out]; exact radd_bad (by rw [hva]; simp)
    have NW := Lib.hid (new0.out d e0)
    clear hva e0
    go_wp2_with fail
    go_ret2
    exact NW.out
  | true =>
    have HLN := Lib.hid (rvs_len hva)
    have HV := Lib.hid hva
    clear hva
    go_wp2_with fail
    refine (HB.out _).mono ?_
    rintro e w1 ⟨rfl, rfl⟩
    cases hvb : rv s with
    | false =>
      have e0 : r = ([], false) := by rw [HR.out]; exact radd_bad (by rw [hvb]; simp)
      have NW := Lib.hid (new0.out d e0)
      clear hvb e0
      go_wp2_with fail
      go_ret2
      exact NW.out
    | true =>
      have HVS : Hid ((rvs xs && rv s) = true) := Lib.hid (by rw [HV.out, hvb]; rfl)
      clear hvb
      go_wp2_with fail
      go_loop [6] (fun i => ∃ k : Nat, k ≤ n ∧ i = .int .i64 k ∧ Hid (∀ j, j < k → bl (xs.getD j []) s = true)) (fun i => n - (intOf i).toNat)
      case atStart => exact ⟨0, Nat.zero_le _, rfl, Lib.hid (fun j hj => by omega)⟩
      case round =>
        obtain ⟨k, hk, rfl, HT⟩ := hrel
        by_cases hlt : k < n
        · have hlt' : (k : Int) < (n : Int) := by omega
          have hkx : k < xs.length := by rw [← HN.out]; exact hlt
          have hc := HX.out k hlt
          have HCUT := Lib.hid (fun h => cut_eq (xs := xs) (s := s) (by omega) HT.out (fun _ => h))
          have HMC := Lib.hid (@mem_cut xs s (rvs_asc HV.out))
          have HST := Lib.hid (fun (h : bl (xs.getD k []) s = true) j (hj : j < k + 1) => (show bl (xs.getD j []) s = true from by
            by_cases e : j = k
            · rw [e]; exact h
            · exact HT.out j (by omega)))
          obtain ⟨x, hx⟩ : ∃ x, x = xs.getD k [] := ⟨_, rfl⟩
          rw [← hx] at hc HCUT HST
          have HXX := Lib.hid hx
          clear hkx hx
          cases hv : bl x s with
          | true =>
            have HS2 := Lib.hid (HST.out hv)
            have hle : (Op.bytesLess x s) = true := hv
            clear hv
            go_wp2_with fail
            go_round
            case rel => exact ⟨k + 1, by omega, by go_num, HS2⟩
            case measure => simp [intOf]; omega
          | false =>
            have HK := Lib.hid (HCUT.out hv)
            have hle : (Op.bytesLess x s) = false := hv
            clear hv
            by_cases he : x = s
            · have e0 : r = (xs, true) := by rw [HR.out]; exact radd_there HVS.out (HMC.out.2 ⟨by rw [← HK.out, ← HN.out]; exact hlt, by rw [← HK.out, ← HXX.out]; exact he⟩)
              have E0 := Lib.hid e0
              have heq : (x == s) = true := by simpa using he
              have H0 : Hid (OwnS w (.slice (some ⟨w.heap.size, 0, none⟩) 0 0) [] ((w.drewN d).alloc (.cells #[] 9))) := Lib.hid (own_start_drew w d)
              clear e0 he
              go_wp2_with (at_builtin; refine wpList_append_strs (.tmp 42) (.tmp 43) w _ [] rfl H0.out _ xs rfl (H.out.below H0.out.bel) nilOk_some (by have := HLN.out; simp; omega) ?_; intro v2 w2 hown2 hnn2 hgrow2)
              have NW : Hid (NewSO r.1 r.2 w (.returned (.tuple #[v2, .bool true])) w2) := Lib.hid (by rw [E0.out]; exact ⟨_, rfl, hown2, fun e => by have := (hnn2.1 e).1; cases this⟩)
              clear hown2 hnn2 hgrow2
              go_wp2
              go_ret2
              exact NW.out
            · have HNM : Hid (s ∉ xs) := Lib.hid (fun hm => he (by have := (HMC.out.1 hm).2; rw [← HK.out, ← HXX.out] at this; exact this))
              have heq : (x == s) = false := by simpa using he
              clear he
              by_cases h6 : 6 ≤ n
              · have h6' : (6 : Int) ≤ (n : Int) := by omega
                have e0 : r = (xs, false) := by rw [HR.out]; exact radd_full HVS.out HNM.out (by rw [← HN.out]; exact h6)
                have E0 := Lib.hid e0
                clear e0
                have H0 : Hid (OwnS w (.slice (some ⟨w.heap.size, 0, none⟩) 0 0) [] ((w.drewN d).alloc (.cells #[] 9))) := Lib.hid (own_start_drew w d)
                go_wp2_with (at_builtin; refine wpList_append_strs (.tmp 48) (.tmp 49) w _ [] rfl H0.out _ xs rfl (H.out.below H0.out.bel) nilOk_some (by have := HLN.out; simp; omega) ?_; intro v2 w2 hown2 hnn2 hgrow2)
                have NW : Hid (NewSO r.1 r.2 w (.returned (.tuple #[v2, .bool false])) w2) := Lib.hid (by rw [E0.out]; exact ⟨_, rfl, hown2, fun e => by have := (hnn2.1 e).1; cases this⟩)
                clear hown2 hnn2 hgrow2
                go_wp2
                go_ret2
                exact NW.out
              · have h6' : ¬ (6 : Int) ≤ (n : Int) := by omega
                have e0 : r = (ins xs s, true) := by rw [HR.out]; exact radd_ins HVS.out HNM.out (by rw [← HN.out]; exact h6)
                have E0 := Lib.hid e0
                clear e0
                go_wp2_with fail
                refine wp_region_held_drew (S := fun _ => True) (by kernel_rfl) trivial (fun hHeld => ?_)
                refine wpAnyH_take (i := 1) (oi := { dst := some 52, op := .move (.tmp 0), type := _, pos := _, after := _, guard := none }) (v := .slice (some ⟨b, o, none⟩) n ca) rfl (by kernel_rfl) (by kernel_rfl) (by kernel_rfl) (fun _ _ _ h => h) (Or.inl ⟨by rfl, fun wh hSw => ?_⟩) hHeld ?_
                · (go_simp)
                try simp only [Act.put, List.setIfInBounds_toArray, List.set_cons_zero, List.set_cons_succ]
                refine wpAnyH_take (i := 2) (oi := { dst := some 53, op := .move (.tmp 6), type := _, pos := _, after := _, guard := none }) (v := .int .i64 (k : Int)) rfl (by kernel_rfl) (by kernel_rfl) (by kernel_rfl) (fun _ _ _ h => h) (Or.inl ⟨by rfl, fun wh hSw => ?_⟩) hHeld ?_
                · (go_simp)
                try simp only [Act.put, List.setIfInBounds_toArray, List.set_cons_zero, List.set_cons_succ]
                refine wpAnyH_take (i := 3) (oi := { dst := some 54, op := .slice 35 (.tmp 52) none (some (.tmp 53)) none, type := _, pos := _, after := _, guard := none }) (v := .slice (some ⟨b, o, none⟩) k ca) rfl (by kernel_rfl) (by kernel_rfl) (by kernel_rfl) (fun _ _ _ h => h) (Or.inl ⟨by rfl, fun wh hSw => ?_⟩) hHeld ?_
                · (go_simp; intro hh; omega)
                try simp only [Act.put, List.setIfInBounds_toArray, List.set_cons_zero, List.set_cons_succ]
                refine wpAnyH_take (i := 5) (oi := { dst := some 56, op := .move (.tmp 1), type := _, pos := _, after := _, guard := none }) (v := .string ⟨s.toArray⟩) rfl (by kernel_rfl) (by kernel_rfl) (by kernel_rfl) (fun _ _ _ h => h) (Or.inl ⟨by rfl, fun wh hSw => ?_⟩) hHeld ?_
                · (go_simp)
                try simp only [Act.put, List.setIfInBounds_toArray, List.set_cons_zero, List.set_cons_succ]
                refine wpAnyH_take (i := 8) (oi := { dst := some 59, op := .move (.tmp 0), type := _, pos := _, after := _, guard := none }) (v := .slice (some ⟨b, o, none⟩) n ca) rfl (by kernel_rfl) (by kernel_rfl) (by kernel_rfl) (fun _ _ _ h => h) (Or.inl ⟨by rfl, fun wh hSw => ?_⟩) hHeld ?_
                · (go_simp)
                try simp only [Act.put, List.setIfInBounds_toArray, List.set_cons_zero, List.set_cons_succ]
                refine wpAnyH_take (i := 9) (oi := { dst := some 60, op := .move (.tmp 6), type := _, pos := _, after := _, guard := none }) (v := .int .i64 (k : Int)) rfl (by kernel_rfl) (by kernel_rfl) (by kernel_rfl) (fun _ _ _ h => h) (Or.inl ⟨by rfl, fun wh hSw => ?_⟩) hHeld ?_
                · (go_simp)
                try simp only [Act.put, List.setIfInBounds_toArray, List.set_cons_zero, List.set_cons_succ]
                refine wpAnyH_take (i := 10) (oi := { dst := some 61, op := .slice 35 (.tmp 59) (some (.tmp 60)) none none, type := _, pos := _, after := _, guard := none }) (v := .slice (some ⟨b, o + k, none⟩) (n - k) (ca - k)) rfl (by kernel_rfl) (by kernel_rfl) (by kernel_rfl) (fun _ _ _ h => h) (Or.inl ⟨by rfl, fun wh hSw => ?_⟩) hHeld ?_
                · (go_simp; intro hh; omega)
                try simp only [Act.put, List.setIfInBounds_toArray, List.set_cons_zero, List.set_cons_succ]
                refine anyH_gen _ (fun W0 hW0 => ?_)
                have HBW0 : Hid (Below w.heap.size w W0) := Lib.hid (by rw [hW0]; exact (below_drew_n w d))
                clear hW0
                refine wpAnyH_ready (rs := [0, 6]) (by kernel_rfl) (by simp) ?_
                refine AllReadyH.cons (o := { dst := some 51, op := .buildSlice 35 0 #[], type := _, pos := _, after := _, guard := none }) rfl (fun K hK => ?_) (AllReadyH.cons (o := { dst := some 57, op := .buildSlice 35 1 #[(0, .tmp 56)], type := _, pos := _, after := _, guard := none }) rfl (fun K hK => ?_) AllReadyH.nil)
                · skip
                  go_simp
                  refine hK.out _ _ trivial (fun hHeld => ?_)
                  clear hK K
                  try simp only [Act.put, List.setIfInBounds_toArray, List.set_cons_zero, List.set_cons_succ]
                  refine anyH_gen _ (fun W1 hW1 => ?_)
                  have HBW1 : Hid (Below w.heap.size w W1) := Lib.hid (by rw [hW1]; exact (HBW0.out).alloc (HBW0.out).size _)
                  have HOW1 : Hid (OwnS w (.slice (some ⟨W0.heap.size, 0, none⟩) 0 0) [] W1) := Lib.hid (by rw [hW1]; exact (OwnS.start W0).from HBW0.out)
                  clear hW1
                  refine wpAnyH_ready (rs := [4, 6]) (by kernel_rfl) (by simp) ?_
                  refine AllReadyH.cons (o := { dst := some 55, op := .call { callee := .builtin .append, args := #[.tmp 51, .tmp 54], argTypes := #[35, 35] }, type := _, pos := _, after := _, guard := none }) rfl (fun K hK => ?_) (AllReadyH.cons (o := { dst := some 57, op := .buildSlice 35 1 #[(0, .tmp 56)], type := _, pos := _, after := _, guard := none }) rfl (fun K hK => ?_) AllReadyH.nil)
                  · skip
                    rw [if_pos (by rfl)]
                    refine wp_append_strs (.tmp 51) (.tmp 54) w (.slice (some ⟨W0.heap.size, 0, none⟩) 0 0) [] rfl HOW1.out _ (xs.take k) rfl ((H.out.take (k := k) (by rw [← HN.out]; omega)).below HBW1.out) nilOk_some (by have := HLN.out; rw [List.length_take]; simp; omega) ?_
                    intro vW2 W2 hown hnn hg
                    have HOW2 : Hid (OwnS w vW2 ([] ++ (xs.take k)) W2) := Lib.hid hown
                    have HBW2 : Hid (Below w.heap.size w W2) := Lib.hid hown.bel
                    have HNNW2 : Hid (vW2 ≠ .slice none 0 0) := Lib.hid (fun e => by have := (hnn.1 e).1; cases this)
                    clear hown hnn hg
                    refine hK.out _ _ trivial (fun hHeld => ?_)
                    clear hK K
                    try simp only [Act.put, List.setIfInBounds_toArray, List.set_cons_zero, List.set_cons_succ]
                    refine wpAnyH_ready (rs := [6]) (by kernel_rfl) (by simp) ?_
                    refine AllReadyH.cons (o := { dst := some 57, op := .buildSlice 35 1 #[(0, .tmp 56)], type := _, pos := _, after := _, guard := none }) rfl (fun K hK => ?_) AllReadyH.nil
                    go_simp
                    refine hK.out _ _ trivial (fun hHeld => ?_)
                    clear hK K
                    try simp only [Act.put, List.setIfInBounds_toArray, List.set_cons_zero, List.set_cons_succ]
                    refine anyH_gen _ (fun W3 hW3 => ?_)
                    have HBW3 : Hid (Below w.heap.size w W3) := Lib.hid (by rw [hW3]; exact (HBW2.out).alloc (HBW2.out).size _)
                    have HQW3 : Hid (Strs W3 (.slice (some ⟨W2.heap.size, 0, none⟩) 1 1) [s]) := Lib.hid (by rw [hW3]; exact strs_one W2 s)
                    have HOW3 : Hid (OwnS w vW2 ([] ++ (xs.take k)) W3) := Lib.hid (by rw [hW3]; exact HOW2.out.alloc _)
                    clear hW3
                    refine wpAnyH_ready (rs := [7]) (by kernel_rfl) (by simp) ?_
                    refine AllReadyH.cons (o := { dst := some 58, op := .call { callee := .builtin .append, args := #[.tmp 55, .tmp 57], argTypes := #[35, 35] }, type := _, pos := _, after := _, guard := none }) rfl (fun K hK => ?_) AllReadyH.nil
                    rw [if_pos (by rfl)]
                    refine wp_append_strs (.tmp 55) (.tmp 57) w vW2 ([] ++ (xs.take k)) rfl HOW3.out _ [s] rfl HQW3.out nilOk_some (by have := HLN.out; simp; omega) ?_
                    intro vW4 W4 hown hnn hg
                    have HOW4 : Hid (OwnS w vW4 (([] ++ (xs.take k)) ++ [s]) W4) := Lib.hid hown
                    have HBW4 : Hid (Below w.heap.size w W4) := Lib.hid hown.bel
                    have HNNW4 : Hid (vW4 ≠ .slice none 0 0) := Lib.hid (fun e => HNNW2.out (hnn.1 e).1)
                    clear hown hnn hg
                    refine hK.out _ _ trivial (fun hHeld => ?_)
                    clear hK K
                    try simp only [Act.put, List.setIfInBounds_toArray, List.set_cons_zero, List.set_cons_succ]
                    refine wpAnyH_ready (rs := [11]) (by kernel_rfl) (by simp) ?_
                    refine AllReadyH.cons (o := { dst := some 62, op := .call { callee := .builtin .append, args := #[.tmp 58, .tmp 61], argTypes := #[35, 35] }, type := _, pos := _, after := _, guard := none }) rfl (fun K hK => ?_) AllReadyH.nil
                    rw [if_pos (by rfl)]
                    refine wp_append_strs (.tmp 58) (.tmp 61) w vW4 (([] ++ (xs.take k)) ++ [s]) rfl HOW4.out _ (xs.drop k) rfl ((H.out.drop (k := k) (by rw [← HN.out]; omega)).below HBW4.out) nilOk_some (by have := HLN.out; simp; omega) ?_
                    intro vW5 W5 hown hnn hg
                    have HOW5 : Hid (OwnS w vW5 ((([] ++ (xs.take k)) ++ [s]) ++ (xs.drop k)) W5) := Lib.hid hown
                    have HBW5 : Hid (Below w.heap.size w W5) := Lib.hid hown.bel
                    have HNNW5 : Hid (vW5 ≠ .slice none 0 0) := Lib.hid (fun e => HNNW4.out (hnn.1 e).1)
                    clear hown hnn hg
                    refine hK.out _ _ trivial (fun hHeld => ?_)
                    clear hK K
                    try simp only [Act.put, List.setIfInBounds_toArray, List.set_cons_zero, List.set_cons_succ]
                    refine wpAnyH_take (i := 12) (oi := { dst := some 4, op := .assign (.tmp 62), type := _, pos := _, after := _, guard := none }) (v := vW5) rfl (by kernel_rfl) (by kernel_rfl) (by kernel_rfl) (fun _ _ _ h => h) (Or.inl ⟨by rfl, fun wh hSw => ?_⟩) hHeld ?_
                    · (go_simp)
                    try simp only [Act.put, List.setIfInBounds_toArray, List.set_cons_zero, List.set_cons_succ]
                    refine wpAnyH_take (i := 13) (oi := { dst := some 5, op := .assign (.const (.bool true)), type := _, pos := _, after := _, guard := none }) (v := .bool true) rfl (by kernel_rfl) (by kernel_rfl) (by kernel_rfl) (fun _ _ _ h => h) (Or.inl ⟨by rfl, fun wh hSw => ?_⟩) hHeld ?_
                    · (go_simp)
                    try simp only [Act.put, List.setIfInBounds_toArray, List.set_cons_zero, List.set_cons_succ]
                    refine wpAnyH_done (by kernel_rfl) ?_ _
                    have NW : Hid (NewSO r.1 r.2 w (.returned (.tuple #[vW5, .bool true])) W5) := Lib.hid (by rw [E0.out]; refine ⟨_, rfl, ?_, HNNW5.out⟩; have := HOW5.out; rw [List.nil_append, List.append_assoc] at this; rw [ins, ← HK.out]; exact this)
                    go_wp2
                    go_ret2
                    exact NW.out
                  · skip
                    go_simp
                    refine hK.out _ _ trivial (fun hHeld => ?_)
                    clear hK K
                    try simp only [Act.put, List.setIfInBounds_toArray, List.set_cons_zero, List.set_cons_succ]
                    refine anyH_gen _ (fun W6 hW6 => ?_)
                    have HBW6 : Hid (Below w.heap.size w W6) := Lib.hid (by rw [hW6]; exact (HBW1.out).alloc (HBW1.out).size _)
                    have HQW6 : Hid (Strs W6 (.slice (some ⟨W1.heap.size, 0, none⟩) 1 1) [s]) := Lib.hid (by rw [hW6]; exact strs_one W1 s)
                    have HOW6 : Hid (OwnS w (.slice (some ⟨W0.heap.size, 0, none⟩) 0 0) [] W6) := Lib.hid (by rw [hW6]; exact HOW1.out.alloc _)
                    have HNW6 : Hid (W0.heap.size ≠ W1.heap.size) := Lib.hid (by have := (HOW1.out.own.lt W0.heap.size rfl).2; omega)
                    clear hW6
                    refine wpAnyH_ready (rs := [4]) (by kernel_rfl) (by simp) ?_
                    refine AllReadyH.cons (o := { dst := some 55, op := .call { callee := .builtin .append, args := #[.tmp 51, .tmp 54], argTypes := #[35, 35] }, type := _, pos := _, after := _, guard := none }) rfl (fun K hK => ?_) AllReadyH.nil
                    rw [if_pos (by rfl)]
                    refine wp_append_strs (.tmp 51) (.tmp 54) w (.slice (some ⟨W0.heap.size, 0, none⟩) 0 0) [] rfl HOW6.out _ (xs.take k) rfl ((H.out.take (k := k) (by rw [← HN.out]; omega)).below HBW6.out) nilOk_some (by have := HLN.out; rw [List.length_take]; simp; omega) ?_
                    intro vW7 W7 hown hnn hg
                    have HOW7 : Hid (OwnS w vW7 ([] ++ (xs.take k)) W7) := Lib.hid hown
                    have HBW7 : Hid (Below w.heap.size w W7) := Lib.hid hown.bel
                    have HQW7 : Hid (Strs W7 (.slice (some ⟨W1.heap.size, 0, none⟩) 1 1) [s]) := Lib.hid (HQW6.out.grown hg (fun b o n c e => by cases e; intro e2; injection e2 with e2; exact HNW6.out e2))
                    have HNNW7 : Hid (vW7 ≠ .slice none 0 0) := Lib.hid (fun e => by have := (hnn.1 e).1; cases this)
                    clear hown hnn hg
                    refine hK.out _ _ trivial (fun hHeld => ?_)
                    clear hK K
                    try simp only [Act.put, List.setIfInBounds_toArray, List.set_cons_zero, List.set_cons_succ]
                    refine wpAnyH_ready (rs := [7]) (by kernel_rfl) (by simp) ?_
                    refine AllReadyH.cons (o := { dst := some 58, op := .call { callee := .builtin .append, args := #[.tmp 55, .tmp 57], argTypes := #[35, 35] }, type := _, pos := _, after := _, guard := none }) rfl (fun K hK => ?_) AllReadyH.nil
                    rw [if_pos (by rfl)]
                    refine wp_append_strs (.tmp 55) (.tmp 57) w vW7 ([] ++ (xs.take k)) rfl HOW7.out _ [s] rfl HQW7.out nilOk_some (by have := HLN.out; simp; omega) ?_
                    intro vW8 W8 hown hnn hg
                    have HOW8 : Hid (OwnS w vW8 (([] ++ (xs.take k)) ++ [s]) W8) := Lib.hid hown
                    have HBW8 : Hid (Below w.heap.size w W8) := Lib.hid hown.bel
                    have HNNW8 : Hid (vW8 ≠ .slice none 0 0) := Lib.hid (fun e => HNNW7.out (hnn.1 e).1)
                    clear hown hnn hg
                    refine hK.out _ _ trivial (fun hHeld => ?_)
                    clear hK K
                    try simp only [Act.put, List.setIfInBounds_toArray, List.set_cons_zero, List.set_cons_succ]
                    refine wpAnyH_ready (rs := [11]) (by kernel_rfl) (by simp) ?_
                    refine AllReadyH.cons (o := { dst := some 62, op := .call { callee := .builtin .append, args := #[.tmp 58, .tmp 61], argTypes := #[35, 35] }, type := _, pos := _, after := _, guard := none }) rfl (fun K hK => ?_) AllReadyH.nil
                    rw [if_pos (by rfl)]
                    refine wp_append_strs (.tmp 58) (.tmp 61) w vW8 (([] ++ (xs.take k)) ++ [s]) rfl HOW8.out _ (xs.drop k) rfl ((H.out.drop (k := k) (by rw [← HN.out]; omega)).below HBW8.out) nilOk_some (by have := HLN.out; simp; omega) ?_
                    intro vW9 W9 hown hnn hg
                    have HOW9 : Hid (OwnS w vW9 ((([] ++ (xs.take k)) ++ [s]) ++ (xs.drop k)) W9) := Lib.hid hown
                    have HBW9 : Hid (Below w.heap.size w W9) := Lib.hid hown.bel
                    have HNNW9 : Hid (vW9 ≠ .slice none 0 0) := Lib.hid (fun e => HNNW8.out (hnn.1 e).1)
                    clear hown hnn hg
                    refine hK.out _ _ trivial (fun hHeld => ?_)
                    clear hK K
                    try simp only [Act.put, List.setIfInBounds_toArray, List.set_cons_zero, List.set_cons_succ]
                    refine wpAnyH_take (i := 12) (oi := { dst := some 4, op := .assign (.tmp 62), type := _, pos := _, after := _, guard := none }) (v := vW9) rfl (by kernel_rfl) (by kernel_rfl) (by kernel_rfl) (fun _ _ _ h => h) (Or.inl ⟨by rfl, fun wh hSw => ?_⟩) hHeld ?_
                    · (go_simp)
                    try simp only [Act.put, List.setIfInBounds_toArray, List.set_cons_zero, List.set_cons_succ]
                    refine wpAnyH_take (i := 13) (oi := { dst := some 5, op := .assign (.const (.bool true)), type := _, pos := _, after := _, guard := none }) (v := .bool true) rfl (by kernel_rfl) (by kernel_rfl) (by kernel_rfl) (fun _ _ _ h => h) (Or.inl ⟨by rfl, fun wh hSw => ?_⟩) hHeld ?_
                    · (go_simp)
                    try simp only [Act.put, List.setIfInBounds_toArray, List.set_cons_zero, List.set_cons_succ]
                    refine wpAnyH_done (by kernel_rfl) ?_ _
                    have NW : Hid (NewSO r.1 r.2 w (.returned (.tuple #[vW9, .bool true])) W9) := Lib.hid (by rw [E0.out]; refine ⟨_, rfl, ?_, HNNW9.out⟩; have := HOW9.out; rw [List.nil_append, List.append_assoc] at this; rw [ins, ← HK.out]; exact this)
                    go_wp2
                    go_ret2
                    exact NW.out
                · skip
                  go_simp
                  refine hK.out _ _ trivial (fun hHeld => ?_)
                  clear hK K
                  try simp only [Act.put, List.setIfInBounds_toArray, List.set_cons_zero, List.set_cons_succ]
                  refine anyH_gen _ (fun W10 hW10 => ?_)
                  have HBW10 : Hid (Below w.heap.size w W10) := Lib.hid (by rw [hW10]; exact (HBW0.out).alloc (HBW0.out).size _)
                  have HQW10 : Hid (Strs W10 (.slice (some ⟨W0.heap.size, 0, none⟩) 1 1) [s]) := Lib.hid (by rw [hW10]; exact strs_one W0 s)
                  clear hW10
                  refine wpAnyH_ready (rs := [0]) (by kernel_rfl) (by simp) ?_
                  refine AllReadyH.cons (o := { dst := some 51, op := .buildSlice 35 0 #[], type := _, pos := _, after := _, guard := none }) rfl (fun K hK => ?_) AllReadyH.nil
                  go_simp
                  refine hK.out _ _ trivial (fun hHeld => ?_)
                  clear hK K
                  try simp only [Act.put, List.setIfInBounds_toArray, List.set_cons_zero, List.set_cons_succ]
                  refine anyH_gen _ (fun W11 hW11 => ?_)
                  have HBW11 : Hid (Below w.heap.size w W11) := Lib.hid (by rw [hW11]; exact (HBW10.out).alloc (HBW10.out).size _)
                  have HOW11 : Hid (OwnS w (.slice (some ⟨W10.heap.size, 0, none⟩) 0 0) [] W11) := Lib.hid (by rw [hW11]; exact (OwnS.start W10).from HBW10.out)
                  have HQW11 : Hid (Strs W11 (.slice (some ⟨W0.heap.size, 0, none⟩) 1 1) [s]) := Lib.hid (by rw [hW11]; exact HQW10.out.below ((Below.refl _ _).alloc (Nat.le_refl _) _))
                  have HNW11 : Hid (W10.heap.size ≠ W0.heap.size) := Lib.hid (by have := strs_one_lt HQW10.out; omega)
                  clear hW11
                  refine wpAnyH_ready (rs := [4]) (by kernel_rfl) (by simp) ?_
                  refine AllReadyH.cons (o := { dst := some 55, op := .call { callee := .builtin .append, args := #[.tmp 51, .tmp 54], argTypes := #[35, 35] }, type := _, pos := _, after := _, guard := none }) rfl (fun K hK => ?_) AllReadyH.nil
                  rw [if_pos (by rfl)]
                  refine wp_append_strs (.tmp 51) (.tmp 54) w (.slice (some ⟨W10.heap.size, 0, none⟩) 0 0) [] rfl HOW11.out _ (xs.take k) rfl ((H.out.take (k := k) (by rw [← HN.out]; omega)).below HBW11.out) nilOk_some (by have := HLN.out; rw [List.length_take]; simp; omega) ?_
                  intro vW12 W12 hown hnn hg
                  have HOW12 : Hid (OwnS w vW12 ([] ++ (xs.take k)) W12) := Lib.hid hown
                  have HBW12 : Hid (Below w.heap.size w W12) := Lib.hid hown.bel
                  have HQW12 : Hid (Strs W12 (.slice (some ⟨W0.heap.size, 0, none⟩) 1 1) [s]) := Lib.hid (HQW11.out.grown hg (fun b o n c e => by cases e; intro e2; injection e2 with e2; exact HNW11.out e2))
                  have HNNW12 : Hid (vW12 ≠ .slice none 0 0) := Lib.hid (fun e => by have := (hnn.1 e).1; cases this)
                  clear hown hnn hg
                  refine hK.out _ _ trivial (fun hHeld => ?_)
                  clear hK K
                  try simp only [Act.put, List.setIfInBounds_toArray, List.set_cons_zero, List.set_cons_succ]
                  refine wpAnyH_ready (rs := [7]) (by kernel_rfl) (by simp) ?_
                  refine AllReadyH.cons (o := { dst := some 58, op := .call { callee := .builtin .append, args := #[.tmp 55, .tmp 57], argTypes := #[35, 35] }, type := _, pos := _, after := _, guard := none }) rfl (fun K hK => ?_) AllReadyH.nil
                  rw [if_pos (by rfl)]
                  refine wp_append_strs (.tmp 55) (.tmp 57) w vW12 ([] ++ (xs.take k)) rfl HOW12.out _ [s] rfl HQW12.out nilOk_some (by have := HLN.out; simp; omega) ?_
                  intro vW13 W13 hown hnn hg
                  have HOW13 : Hid (OwnS w vW13 (([] ++ (xs.take k)) ++ [s]) W13) := Lib.hid hown
                  have HBW13 : Hid (Below w.heap.size w W13) := Lib.hid hown.bel
                  have HNNW13 : Hid (vW13 ≠ .slice none 0 0) := Lib.hid (fun e => HNNW12.out (hnn.1 e).1)
                  clear hown hnn hg
                  refine hK.out _ _ trivial (fun hHeld => ?_)
                  clear hK K
                  try simp only [Act.put, List.setIfInBounds_toArray, List.set_cons_zero, List.set_cons_succ]
                  refine wpAnyH_ready (rs := [11]) (by kernel_rfl) (by simp) ?_
                  refine AllReadyH.cons (o := { dst := some 62, op := .call { callee := .builtin .append, args := #[.tmp 58, .tmp 61], argTypes := #[35, 35] }, type := _, pos := _, after := _, guard := none }) rfl (fun K hK => ?_) AllReadyH.nil
                  rw [if_pos (by rfl)]
                  refine wp_append_strs (.tmp 58) (.tmp 61) w vW13 (([] ++ (xs.take k)) ++ [s]) rfl HOW13.out _ (xs.drop k) rfl ((H.out.drop (k := k) (by rw [← HN.out]; omega)).below HBW13.out) nilOk_some (by have := HLN.out; simp; omega) ?_
                  intro vW14 W14 hown hnn hg
                  have HOW14 : Hid (OwnS w vW14 ((([] ++ (xs.take k)) ++ [s]) ++ (xs.drop k)) W14) := Lib.hid hown
                  have HBW14 : Hid (Below w.heap.size w W14) := Lib.hid hown.bel
                  have HNNW14 : Hid (vW14 ≠ .slice none 0 0) := Lib.hid (fun e => HNNW13.out (hnn.1 e).1)
                  clear hown hnn hg
                  refine hK.out _ _ trivial (fun hHeld => ?_)
                  clear hK K
                  try simp only [Act.put, List.setIfInBounds_toArray, List.set_cons_zero, List.set_cons_succ]
                  refine wpAnyH_take (i := 12) (oi := { dst := some 4, op := .assign (.tmp 62), type := _, pos := _, after := _, guard := none }) (v := vW14) rfl (by kernel_rfl) (by kernel_rfl) (by kernel_rfl) (fun _ _ _ h => h) (Or.inl ⟨by rfl, fun wh hSw => ?_⟩) hHeld ?_
                  · (go_simp)
                  try simp only [Act.put, List.setIfInBounds_toArray, List.set_cons_zero, List.set_cons_succ]
                  refine wpAnyH_take (i := 13) (oi := { dst := some 5, op := .assign (.const (.bool true)), type := _, pos := _, after := _, guard := none }) (v := .bool true) rfl (by kernel_rfl) (by kernel_rfl) (by kernel_rfl) (fun _ _ _ h => h) (Or.inl ⟨by rfl, fun wh hSw => ?_⟩) hHeld ?_
                  · (go_simp)
                  try simp only [Act.put, List.setIfInBounds_toArray, List.set_cons_zero, List.set_cons_succ]
                  refine wpAnyH_done (by kernel_rfl) ?_ _
                  have NW : Hid (NewSO r.1 r.2 w (.returned (.tuple #[vW14, .bool true])) W14) := Lib.hid (by rw [E0.out]; refine ⟨_, rfl, ?_, HNNW14.out⟩; have := HOW14.out; rw [List.nil_append, List.append_assoc] at this; rw [ins, ← HK.out]; exact this)
                  go_wp2
                  go_ret2
                  exact NW.out
        · have hkn : k = n := by omega
          have HKN := Lib.hid hkn
          have HK := Lib.hid (cut_eq (xs := xs) (s := s) (k := k) (by rw [← HN.out]; omega) HT.out (fun h => absurd h (by rw [← HN.out]; exact hlt)))
          have HNM : Hid (s ∉ xs) := Lib.hid (fun hm => hlt (by have := ((mem_cut (rvs_asc HV.out)).1 hm).1; rw [← HK.out, ← HN.out] at this; exact this))
          have hlt' : ¬ (k : Int) < (n : Int) := by omega
          clear hkn
          by_cases h6 : 6 ≤ n
          · have h6' : (6 : Int) ≤ (n : Int) := by omega
            have e0 : r = (xs, false) := by rw [HR.out]; exact radd_full HVS.out HNM.out (by rw [← HN.out]; exact h6)
            have E0 := Lib.hid e0
            clear e0
            have H0 : Hid (OwnS w (.slice (some ⟨w.heap.size, 0, none⟩) 0 0) [] ((w.drewN d).alloc (.cells #[] 9))) := Lib.hid (own_start_drew w d)
            go_wp2_with (at_builtin; refine wpList_append_strs (.tmp 48) (.tmp 49) w _ [] rfl H0.out _ xs rfl (H.out.below H0.out.bel) nilOk_some (by have := HLN.out; simp; omega) ?_; intro v2 w2 hown2 hnn2 hgrow2)
            have NW : Hid (NewSO r.1 r.2 w (.returned (.tuple #[v2, .bool false])) w2) := Lib.hid (by rw [E0.out]; exact ⟨_, rfl, hown2, fun e => by have := (hnn2.1 e).1; cases this⟩)
            clear hown2 hnn2 hgrow2
            go_wp2
            go_ret2
            exact NW.out
          · have h6' : ¬ (6 : Int) ≤ (n : Int) := by omega
            have e0 : r = (ins xs s, true) := by rw [HR.out]; exact radd_ins HVS.out HNM.out (by rw [← HN.out]; exact h6)
            have E0 := Lib.hid e0
            clear e0
            go_wp2_with fail
            obtain ⟨q0, hq0⟩ : ∃ q0, q0 = if ca = k then o else o + k := ⟨_, rfl⟩
            have HQ0 := Lib.hid hq0
            have H61 : Hid (∀ W, Strs W (.slice (some ⟨b, q0, none⟩) (n - k) (ca - k)) (xs.drop k)) := Lib.hid (fun W => strs_none (by rw [List.length_drop, ← HN.out]) (by have := HKN.out; omega) (by omega))
            clear hq0
            refine wp_region_held_drew (S := fun _ => True) (by kernel_rfl) trivial (fun hHeld => ?_)
            refine wpAnyH_take (i := 1) (oi := { dst := some 52, op := .move (.tmp 0), type := _, pos := _, after := _, guard := none }) (v := .slice (some ⟨b, o, none⟩) n ca) rfl (by kernel_rfl) (by kernel_rfl) (by kernel_rfl) (fun _ _ _ h => h) (Or.inl ⟨by rfl, fun wh hSw => ?_⟩) hHeld ?_
            · (go_simp)
            try simp only [Act.put, List.setIfInBounds_toArray, List.set_cons_zero, List.set_cons_succ]
            refine wpAnyH_take (i := 2) (oi := { dst := some 53, op := .move (.tmp 6), type := _, pos := _, after := _, guard := none }) (v := .int .i64 (k : Int)) rfl (by kernel_rfl) (by kernel_rfl) (by kernel_rfl) (fun _ _ _ h => h) (Or.inl ⟨by rfl, fun wh hSw => ?_⟩) hHeld ?_
            · (go_simp)
            try simp only [Act.put, List.setIfInBounds_toArray, List.set_cons_zero, List.set_cons_succ]
            refine wpAnyH_take (i := 3) (oi := { dst := some 54, op := .slice 35 (.tmp 52) none (some (.tmp 53)) none, type := _, pos := _, after := _, guard := none }) (v := .slice (some ⟨b, o, none⟩) k ca) rfl (by kernel_rfl) (by kernel_rfl) (by kernel_rfl) (fun _ _ _ h => h) (Or.inl ⟨by rfl, fun wh hSw => ?_⟩) hHeld ?_
            · (go_simp; intro hh; omega)
            try simp only [Act.put, List.setIfInBounds_toArray, List.set_cons_zero, List.set_cons_succ]
            refine wpAnyH_take (i := 5) (oi := { dst := some 56, op := .move (.tmp 1), type := _, pos := _, after := _, guard := none }) (v := .string ⟨s.toArray⟩) rfl (by kernel_rfl) (by kernel_rfl) (by kernel_rfl) (fun _ _ _ h => h) (Or.inl ⟨by rfl, fun wh hSw => ?_⟩) hHeld ?_
            · (go_simp)
            try simp only [Act.put, List.setIfInBounds_toArray, List.set_cons_zero, List.set_cons_succ]
            refine wpAnyH_take (i := 8) (oi := { dst := some 59, op := .move (.tmp 0), type := _, pos := _, after := _, guard := none }) (v := .slice (some ⟨b, o, none⟩) n ca) rfl (by kernel_rfl) (by kernel_rfl) (by kernel_rfl) (fun _ _ _ h => h) (Or.inl ⟨by rfl, fun wh hSw => ?_⟩) hHeld ?_
            · (go_simp)
            try simp only [Act.put, List.setIfInBounds_toArray, List.set_cons_zero, List.set_cons_succ]
            refine wpAnyH_take (i := 9) (oi := { dst := some 60, op := .move (.tmp 6), type := _, pos := _, after := _, guard := none }) (v := .int .i64 (k : Int)) rfl (by kernel_rfl) (by kernel_rfl) (by kernel_rfl) (fun _ _ _ h => h) (Or.inl ⟨by rfl, fun wh hSw => ?_⟩) hHeld ?_
            · (go_simp)
            try simp only [Act.put, List.setIfInBounds_toArray, List.set_cons_zero, List.set_cons_succ]
            refine wpAnyH_take (i := 10) (oi := { dst := some 61, op := .slice 35 (.tmp 59) (some (.tmp 60)) none none, type := _, pos := _, after := _, guard := none }) (v := .slice (some ⟨b, q0, none⟩) (n - k) (ca - k)) rfl (by kernel_rfl) (by kernel_rfl) (by kernel_rfl) (fun _ _ _ h => h) (Or.inl ⟨by rfl, fun wh hSw => ?_⟩) hHeld ?_
            · (go_simp; rw [HQ0.out]; split <;> simp_all)
            try simp only [Act.put, List.setIfInBounds_toArray, List.set_cons_zero, List.set_cons_succ]
            refine anyH_gen _ (fun W0 hW0 => ?_)
            have HBW0 : Hid (Below w.heap.size w W0) := Lib.hid (by rw [hW0]; exact (below_drew_n w d))
            clear hW0
            refine wpAnyH_ready (rs := [0, 6]) (by kernel_rfl) (by simp) ?_
            refine AllReadyH.cons (o := { dst := some 51, op := .buildSlice 35 0 #[], type := _, pos := _, after := _, guard := none }) rfl (fun K hK => ?_) (AllReadyH.cons (o := { dst := some 57, op := .buildSlice 35 1 #[(0, .tmp 56)], type := _, pos := _, after := _, guard := none }) rfl (fun K hK => ?_) AllReadyH.nil)
            · skip
              go_simp
              refine hK.out _ _ trivial (fun hHeld => ?_)
              clear hK K
              try simp only [Act.put, List.setIfInBounds_toArray, List.set_cons_zero, List.set_cons_succ]
              refine anyH_gen _ (fun W1 hW1 => ?_)
              have HBW1 : Hid (Below w.heap.size w W1) := Lib.hid (by rw [hW1]; exact (HBW0.out).alloc (HBW0.out).size _)
              have HOW1 : Hid (OwnS w (.slice (some ⟨W0.heap.size, 0, none⟩) 0 0) [] W1) := Lib.hid (by rw [hW1]; exact (OwnS.start W0).from HBW0.out)
              clear hW1
              refine wpAnyH_ready (rs := [4, 6]) (by kernel_rfl) (by simp) ?_
              refine AllReadyH.cons (o := { dst := some 55, op := .call { callee := .builtin .append, args := #[.tmp 51, .tmp 54], argTypes := #[35, 35] }, type := _, pos := _, after := _, guard := none }) rfl (fun K hK => ?_) (AllReadyH.cons (o := { dst := some 57, op := .buildSlice 35 1 #[(0, .tmp 56)], type := _, pos := _, after := _, guard := none }) rfl (fun K hK => ?_) AllReadyH.nil)
              · skip
                rw [if_pos (by rfl)]
                refine wp_append_strs (.tmp 51) (.tmp 54) w (.slice (some ⟨W0.heap.size, 0, none⟩) 0 0) [] rfl HOW1.out _ (xs.take k) rfl ((H.out.take (k := k) (by rw [← HN.out]; omega)).below HBW1.out) nilOk_some (by have := HLN.out; rw [List.length_take]; simp; omega) ?_
                intro vW2 W2 hown hnn hg
                have HOW2 : Hid (OwnS w vW2 ([] ++ (xs.take k)) W2) := Lib.hid hown
                have HBW2 : Hid (Below w.heap.size w W2) := Lib.hid hown.bel
                have HNNW2 : Hid (vW2 ≠ .slice none 0 0) := Lib.hid (fun e => by have := (hnn.1 e).1; cases this)
                clear hown hnn hg
                refine hK.out _ _ trivial (fun hHeld => ?_)
                clear hK K
                try simp only [Act.put, List.setIfInBounds_toArray, List.set_cons_zero, List.set_cons_succ]
                refine wpAnyH_ready (rs := [6]) (by kernel_rfl) (by simp) ?_
                refine AllReadyH.cons (o := { dst := some 57, op := .buildSlice 35 1 #[(0, .tmp 56)], type := _, pos := _, after := _, guard := none }) rfl (fun K hK => ?_) AllReadyH.nil
                go_simp
                refine hK.out _ _ trivial (fun hHeld => ?_)
                clear hK K
                try simp only [Act.put, List.setIfInBounds_toArray, List.set_cons_zero, List.set_cons_succ]
                refine anyH_gen _ (fun W3 hW3 => ?_)
                have HBW3 : Hid (Below w.heap.size w W3) := Lib.hid (by rw [hW3]; exact (HBW2.out).alloc (HBW2.out).size _)
                have HQW3 : Hid (Strs W3 (.slice (some ⟨W2.heap.size, 0, none⟩) 1 1) [s]) := Lib.hid (by rw [hW3]; exact strs_one W2 s)
                have HOW3 : Hid (OwnS w vW2 ([] ++ (xs.take k)) W3) := Lib.hid (by rw [hW3]; exact HOW2.out.alloc _)
                clear hW3
                refine wpAnyH_ready (rs := [7]) (by kernel_rfl) (by simp) ?_
                refine AllReadyH.cons (o := { dst := some 58, op := .call { callee := .builtin .append, args := #[.tmp 55, .tmp 57], argTypes := #[35, 35] }, type := _, pos := _, after := _, guard := none }) rfl (fun K hK => ?_) AllReadyH.nil
                rw [if_pos (by rfl)]
                refine wp_append_strs (.tmp 55) (.tmp 57) w vW2 ([] ++ (xs.take k)) rfl HOW3.out _ [s] rfl HQW3.out nilOk_some (by have := HLN.out; simp; omega) ?_
                intro vW4 W4 hown hnn hg
                have HOW4 : Hid (OwnS w vW4 (([] ++ (xs.take k)) ++ [s]) W4) := Lib.hid hown
                have HBW4 : Hid (Below w.heap.size w W4) := Lib.hid hown.bel
                have HNNW4 : Hid (vW4 ≠ .slice none 0 0) := Lib.hid (fun e => HNNW2.out (hnn.1 e).1)
                clear hown hnn hg
                refine hK.out _ _ trivial (fun hHeld => ?_)
                clear hK K
                try simp only [Act.put, List.setIfInBounds_toArray, List.set_cons_zero, List.set_cons_succ]
                refine wpAnyH_ready (rs := [11]) (by kernel_rfl) (by simp) ?_
                refine AllReadyH.cons (o := { dst := some 62, op := .call { callee := .builtin .append, args := #[.tmp 58, .tmp 61], argTypes := #[35, 35] }, type := _, pos := _, after := _, guard := none }) rfl (fun K hK => ?_) AllReadyH.nil
                rw [if_pos (by rfl)]
                refine wp_append_strs (.tmp 58) (.tmp 61) w vW4 (([] ++ (xs.take k)) ++ [s]) rfl HOW4.out _ (xs.drop k) rfl (H61.out _) nilOk_some (by have := HLN.out; simp; omega) ?_
                intro vW5 W5 hown hnn hg
                have HOW5 : Hid (OwnS w vW5 ((([] ++ (xs.take k)) ++ [s]) ++ (xs.drop k)) W5) := Lib.hid hown
                have HBW5 : Hid (Below w.heap.size w W5) := Lib.hid hown.bel
                have HNNW5 : Hid (vW5 ≠ .slice none 0 0) := Lib.hid (fun e => HNNW4.out (hnn.1 e).1)
                clear hown hnn hg
                refine hK.out _ _ trivial (fun hHeld => ?_)
                clear hK K
                try simp only [Act.put, List.setIfInBounds_toArray, List.set_cons_zero, List.set_cons_succ]
                refine wpAnyH_take (i := 12) (oi := { dst := some 4, op := .assign (.tmp 62), type := _, pos := _, after := _, guard := none }) (v := vW5) rfl (by kernel_rfl) (by kernel_rfl) (by kernel_rfl) (fun _ _ _ h => h) (Or.inl ⟨by rfl, fun wh hSw => ?_⟩) hHeld ?_
                · (go_simp)
                try simp only [Act.put, List.setIfInBounds_toArray, List.set_cons_zero, List.set_cons_succ]
                refine wpAnyH_take (i := 13) (oi := { dst := some 5, op := .assign (.const (.bool true)), type := _, pos := _, after := _, guard := none }) (v := .bool true) rfl (by kernel_rfl) (by kernel_rfl) (by kernel_rfl) (fun _ _ _ h => h) (Or.inl ⟨by rfl, fun wh hSw => ?_⟩) hHeld ?_
                · (go_simp)
                try simp only [Act.put, List.setIfInBounds_toArray, List.set_cons_zero, List.set_cons_succ]
                refine wpAnyH_done (by kernel_rfl) ?_ _
                have NW : Hid (NewSO r.1 r.2 w (.returned (.tuple #[vW5, .bool true])) W5) := Lib.hid (by rw [E0.out]; refine ⟨_, rfl, ?_, HNNW5.out⟩; have := HOW5.out; rw [List.nil_append, List.append_assoc] at this; rw [ins, ← HK.out]; exact this)
                go_wp2
                go_ret2
                exact NW.out
              · skip
                go_simp
                refine hK.out _ _ trivial (fun hHeld => ?_)
                clear hK K
                try simp only [Act.put, List.setIfInBounds_toArray, List.set_cons_zero, List.set_cons_succ]
                refine anyH_gen _ (fun W6 hW6 => ?_)
                have HBW6 : Hid (Below w.heap.size w W6) := Lib.hid (by rw [hW6]; exact (HBW1.out).alloc (HBW1.out).size _)
                have HQW6 : Hid (Strs W6 (.slice (some ⟨W1.heap.size, 0, none⟩) 1 1) [s]) := Lib.hid (by rw [hW6]; exact strs_one W1 s)
                have HOW6 : Hid (OwnS w (.slice (some ⟨W0.heap.size, 0, none⟩) 0 0) [] W6) := Lib.hid (by rw [hW6]; exact HOW1.out.alloc _)
                have HNW6 : Hid (W0.heap.size ≠ W1.heap.size) := Lib.hid (by have := (HOW1.out.own.lt W0.heap.size rfl).2; omega)
                clear hW6
                refine wpAnyH_ready (rs := [4]) (by kernel_rfl) (by simp) ?_
                refine AllReadyH.cons (o := { dst := some 55, op := .call { callee := .builtin .append, args := #[.tmp 51, .tmp 54], argTypes := #[35, 35] }, type := _, pos := _, after := _, guard := none }) rfl (fun K hK => ?_) AllReadyH.nil
                rw [if_pos (by rfl)]
                refine wp_append_strs (.tmp 51) (.tmp 54) w (.slice (some ⟨W0.heap.size, 0, none⟩) 0 0) [] rfl HOW6.out _ (xs.take k) rfl ((H.out.take (k := k) (by rw [← HN.out]; omega)).below HBW6.out) nilOk_some (by have := HLN.out; rw [List.length_take]; simp; omega) ?_
                intro vW7 W7 hown hnn hg
                have HOW7 : Hid (OwnS w vW7 ([] ++ (xs.take k)) W7) := Lib.hid hown
                have HBW7 : Hid (Below w.heap.size w W7) := Lib.hid hown.bel
                have HQW7 : Hid (Strs W7 (.slice (some ⟨W1.heap.size, 0, none⟩) 1 1) [s]) := Lib.hid (HQW6.out.grown hg (fun b o n c e => by cases e; intro e2; injection e2 with e2; exact HNW6.out e2))
                have HNNW7 : Hid (vW7 ≠ .slice none 0 0) := Lib.hid (fun e => by have := (hnn.1 e).1; cases this)
                clear hown hnn hg
                refine hK.out _ _ trivial (fun hHeld => ?_)
                clear hK K
                try simp only [Act.put, List.setIfInBounds_toArray, List.set_cons_zero, List.set_cons_succ]
                refine wpAnyH_ready (rs := [7]) (by kernel_rfl) (by simp) ?_
                refine AllReadyH.cons (o := { dst := some 58, op := .call { callee := .builtin .append, args := #[.tmp 55, .tmp 57], argTypes := #[35, 35] }, type := _, pos := _, after := _, guard := none }) rfl (fun K hK => ?_) AllReadyH.nil
                rw [if_pos (by rfl)]
                refine wp_append_strs (.tmp 55) (.tmp 57) w vW7 ([] ++ (xs.take k)) rfl HOW7.out _ [s] rfl HQW7.out nilOk_some (by have := HLN.out; simp; omega) ?_
                intro vW8 W8 hown hnn hg
                have HOW8 : Hid (OwnS w vW8 (([] ++ (xs.take k)) ++ [s]) W8) := Lib.hid hown
                have HBW8 : Hid (Below w.heap.size w W8) := Lib.hid hown.bel
                have HNNW8 : Hid (vW8 ≠ .slice none 0 0) := Lib.hid (fun e => HNNW7.out (hnn.1 e).1)
                clear hown hnn hg
                refine hK.out _ _ trivial (fun hHeld => ?_)
                clear hK K
                try simp only [Act.put, List.setIfInBounds_toArray, List.set_cons_zero, List.set_cons_succ]
                refine wpAnyH_ready (rs := [11]) (by kernel_rfl) (by simp) ?_
                refine AllReadyH.cons (o := { dst := some 62, op := .call { callee := .builtin .append, args := #[.tmp 58, .tmp 61], argTypes := #[35, 35] }, type := _, pos := _, after := _, guard := none }) rfl (fun K hK => ?_) AllReadyH.nil
                rw [if_pos (by rfl)]
                refine wp_append_strs (.tmp 58) (.tmp 61) w vW8 (([] ++ (xs.take k)) ++ [s]) rfl HOW8.out _ (xs.drop k) rfl (H61.out _) nilOk_some (by have := HLN.out; simp; omega) ?_
                intro vW9 W9 hown hnn hg
                have HOW9 : Hid (OwnS w vW9 ((([] ++ (xs.take k)) ++ [s]) ++ (xs.drop k)) W9) := Lib.hid hown
                have HBW9 : Hid (Below w.heap.size w W9) := Lib.hid hown.bel
                have HNNW9 : Hid (vW9 ≠ .slice none 0 0) := Lib.hid (fun e => HNNW8.out (hnn.1 e).1)
                clear hown hnn hg
                refine hK.out _ _ trivial (fun hHeld => ?_)
                clear hK K
                try simp only [Act.put, List.setIfInBounds_toArray, List.set_cons_zero, List.set_cons_succ]
                refine wpAnyH_take (i := 12) (oi := { dst := some 4, op := .assign (.tmp 62), type := _, pos := _, after := _, guard := none }) (v := vW9) rfl (by kernel_rfl) (by kernel_rfl) (by kernel_rfl) (fun _ _ _ h => h) (Or.inl ⟨by rfl, fun wh hSw => ?_⟩) hHeld ?_
                · (go_simp)
                try simp only [Act.put, List.setIfInBounds_toArray, List.set_cons_zero, List.set_cons_succ]
                refine wpAnyH_take (i := 13) (oi := { dst := some 5, op := .assign (.const (.bool true)), type := _, pos := _, after := _, guard := none }) (v := .bool true) rfl (by kernel_rfl) (by kernel_rfl) (by kernel_rfl) (fun _ _ _ h => h) (Or.inl ⟨by rfl, fun wh hSw => ?_⟩) hHeld ?_
                · (go_simp)
                try simp only [Act.put, List.setIfInBounds_toArray, List.set_cons_zero, List.set_cons_succ]
                refine wpAnyH_done (by kernel_rfl) ?_ _
                have NW : Hid (NewSO r.1 r.2 w (.returned (.tuple #[vW9, .bool true])) W9) := Lib.hid (by rw [E0.out]; refine ⟨_, rfl, ?_, HNNW9.out⟩; have := HOW9.out; rw [List.nil_append, List.append_assoc] at this; rw [ins, ← HK.out]; exact this)
                go_wp2
                go_ret2
                exact NW.out
            · skip
              go_simp
              refine hK.out _ _ trivial (fun hHeld => ?_)
              clear hK K
              try simp only [Act.put, List.setIfInBounds_toArray, List.set_cons_zero, List.set_cons_succ]
              refine anyH_gen _ (fun W10 hW10 => ?_)
              have HBW10 : Hid (Below w.heap.size w W10) := Lib.hid (by rw [hW10]; exact (HBW0.out).alloc (HBW0.out).size _)
              have HQW10 : Hid (Strs W10 (.slice (some ⟨W0.heap.size, 0, none⟩) 1 1) [s]) := Lib.hid (by rw [hW10]; exact strs_one W0 s)
              clear hW10
              refine wpAnyH_ready (rs := [0]) (by kernel_rfl) (by simp) ?_
              refine AllReadyH.cons (o := { dst := some 51, op := .buildSlice 35 0 #[], type := _, pos := _, after := _, guard := none }) rfl (fun K hK => ?_) AllReadyH.nil
              go_simp
              refine hK.out _ _ trivial (fun hHeld => ?_)
              clear hK K
              try simp only [Act.put, List.setIfInBounds_toArray, List.set_cons_zero, List.set_cons_succ]
              refine anyH_gen _ (fun W11 hW11 => ?_)
              have HBW11 : Hid (Below w.heap.size w W11) := Lib.hid (by rw [hW11]; exact (HBW10.out).alloc (HBW10.out).size _)
              have HOW11 : Hid (OwnS w (.slice (some ⟨W10.heap.size, 0, none⟩) 0 0) [] W11) := Lib.hid (by rw [hW11]; exact (OwnS.start W10).from HBW10.out)
              have HQW11 : Hid (Strs W11 (.slice (some ⟨W0.heap.size, 0, none⟩) 1 1) [s]) := Lib.hid (by rw [hW11]; exact HQW10.out.below ((Below.refl _ _).alloc (Nat.le_refl _) _))
              have HNW11 : Hid (W10.heap.size ≠ W0.heap.size) := Lib.hid (by have := strs_one_lt HQW10.out; omega)
              clear hW11
              refine wpAnyH_ready (rs := [4]) (by kernel_rfl) (by simp) ?_
              refine AllReadyH.cons (o := { dst := some 55, op := .call { callee := .builtin .append, args := #[.tmp 51, .tmp 54], argTypes := #[35, 35] }, type := _, pos := _, after := _, guard := none }) rfl (fun K hK => ?_) AllReadyH.nil
              rw [if_pos (by rfl)]
              refine wp_append_strs (.tmp 51) (.tmp 54) w (.slice (some ⟨W10.heap.size, 0, none⟩) 0 0) [] rfl HOW11.out _ (xs.take k) rfl ((H.out.take (k := k) (by rw [← HN.out]; omega)).below HBW11.out) nilOk_some (by have := HLN.out; rw [List.length_take]; simp; omega) ?_
              intro vW12 W12 hown hnn hg
              have HOW12 : Hid (OwnS w vW12 ([] ++ (xs.take k)) W12) := Lib.hid hown
              have HBW12 : Hid (Below w.heap.size w W12) := Lib.hid hown.bel
              have HQW12 : Hid (Strs W12 (.slice (some ⟨W0.heap.size, 0, none⟩) 1 1) [s]) := Lib.hid (HQW11.out.grown hg (fun b o n c e => by cases e; intro e2; injection e2 with e2; exact HNW11.out e2))
              have HNNW12 : Hid (vW12 ≠ .slice none 0 0) := Lib.hid (fun e => by have := (hnn.1 e).1; cases this)
              clear hown hnn hg
              refine hK.out _ _ trivial (fun hHeld => ?_)
              clear hK K
              try simp only [Act.put, List.setIfInBounds_toArray, List.set_cons_zero, List.set_cons_succ]
              refine wpAnyH_ready (rs := [7]) (by kernel_rfl) (by simp) ?_
              refine AllReadyH.cons (o := { dst := some 58, op := .call { callee := .builtin .append, args := #[.tmp 55, .tmp 57], argTypes := #[35, 35] }, type := _, pos := _, after := _, guard := none }) rfl (fun K hK => ?_) AllReadyH.nil
              rw [if_pos (by rfl)]
              refine wp_append_strs (.tmp 55) (.tmp 57) w vW12 ([] ++ (xs.take k)) rfl HOW12.out _ [s] rfl HQW12.out nilOk_some (by have := HLN.out; simp; omega) ?_
              intro vW13 W13 hown hnn hg
              have HOW13 : Hid (OwnS w vW13 (([] ++ (xs.take k)) ++ [s]) W13) := Lib.hid hown
              have HBW13 : Hid (Below w.heap.size w W13) := Lib.hid hown.bel
              have HNNW13 : Hid (vW13 ≠ .slice none 0 0) := Lib.hid (fun e => HNNW12.out (hnn.1 e).1)
              clear hown hnn hg
              refine hK.out _ _ trivial (fun hHeld => ?_)
              clear hK K
              try simp only [Act.put, List.setIfInBounds_toArray, List.set_cons_zero, List.set_cons_succ]
              refine wpAnyH_ready (rs := [11]) (by kernel_rfl) (by simp) ?_
              refine AllReadyH.cons (o := { dst := some 62, op := .call { callee := .builtin .append, args := #[.tmp 58, .tmp 61], argTypes := #[35, 35] }, type := _, pos := _, after := _, guard := none }) rfl (fun K hK => ?_) AllReadyH.nil
              rw [if_pos (by rfl)]
              refine wp_append_strs (.tmp 58) (.tmp 61) w vW13 (([] ++ (xs.take k)) ++ [s]) rfl HOW13.out _ (xs.drop k) rfl (H61.out _) nilOk_some (by have := HLN.out; simp; omega) ?_
              intro vW14 W14 hown hnn hg
              have HOW14 : Hid (OwnS w vW14 ((([] ++ (xs.take k)) ++ [s]) ++ (xs.drop k)) W14) := Lib.hid hown
              have HBW14 : Hid (Below w.heap.size w W14) := Lib.hid hown.bel
              have HNNW14 : Hid (vW14 ≠ .slice none 0 0) := Lib.hid (fun e => HNNW13.out (hnn.1 e).1)
              clear hown hnn hg
              refine hK.out _ _ trivial (fun hHeld => ?_)
              clear hK K
              try simp only [Act.put, List.setIfInBounds_toArray, List.set_cons_zero, List.set_cons_succ]
              refine wpAnyH_take (i := 12) (oi := { dst := some 4, op := .assign (.tmp 62), type := _, pos := _, after := _, guard := none }) (v := vW14) rfl (by kernel_rfl) (by kernel_rfl) (by kernel_rfl) (fun _ _ _ h => h) (Or.inl ⟨by rfl, fun wh hSw => ?_⟩) hHeld ?_
              · (go_simp)
              try simp only [Act.put, List.setIfInBounds_toArray, List.set_cons_zero, List.set_cons_succ]
              refine wpAnyH_take (i := 13) (oi := { dst := some 5, op := .assign (.const (.bool true)), type := _, pos := _, after := _, guard := none }) (v := .bool true) rfl (by kernel_rfl) (by kernel_rfl) (by kernel_rfl) (fun _ _ _ h => h) (Or.inl ⟨by rfl, fun wh hSw => ?_⟩) hHeld ?_
              · (go_simp)
              try simp only [Act.put, List.setIfInBounds_toArray, List.set_cons_zero, List.set_cons_succ]
              refine wpAnyH_done (by kernel_rfl) ?_ _
              have NW : Hid (NewSO r.1 r.2 w (.returned (.tuple #[vW14, .bool true])) W14) := Lib.hid (by rw [E0.out]; refine ⟨_, rfl, ?_, HNNW14.out⟩; have := HOW14.out; rw [List.nil_append, List.append_assoc] at this; rw [ins, ← HK.out]; exact this)
              go_wp2
              go_ret2
              exact NW.out
end Go.Proofs.YthfdkenidfnmgaaGreat
namespace Go.Proofs.YthfdkenidfnmgaaGreat
open Go.ChangeShapes Go.WideShapes Go.ChangeAt Go.RowKit
set_option linter.unusedVariables false
set_option maxRecDepth 100000
theorem ivInfo : (Tryz.prog.info? 58).map (fun i => (i.zero, i.size, i.bytes)) = some (some (.agg #[.int .i64 0, .string ⟨#[]⟩, .int .i64 0]), 3, 32) := by kernel_rfl
def isC (xs : List IV) : List Value := xs.flatMap ivC
theorem isC_app (xs ys : List IV) : isC (xs ++ ys) = isC xs ++ isC ys := by simp [isC]
theorem isC_len (xs : List IV) : (isC xs).length = xs.length * 3 := by
  induction xs with
  | nil => rfl
  | cons x xs ih => simp only [isC, List.flatMap_cons, List.length_append] at ih ⊢; rw [ih]; simp [ivC]; omega
theorem isC_get (xs : List IV) {i j : Nat} (hi : i < xs.length) (hj : j < 3) : (isC xs)[i * 3 + j]? = (ivC (xs.getD i iz))[j]? := by
  have e : xs = xs.take i ++ ([xs.getD i iz] ++ xs.drop (i + 1)) := by
    rw [← List.append_assoc, ← take_snoc_getD xs i iz hi, List.take_append_drop]
  have h1 : (isC (xs.take i)).length = i * 3 := by rw [isC_len, List.length_take]; omega
  have h2 : isC xs = isC (xs.take i) ++ (ivC (xs.getD i iz) ++ isC (xs.drop (i + 1))) := by
    conv => lhs; rw [e]
    simp [isC]
  rw [h2, List.getElem?_append_right (by omega), h1, Nat.add_sub_cancel_left, List.getElem?_append_left (by simp [ivC]; omega)]
theorem isC_one (xs : List IV) : ∀ u ∈ isC xs, u.oneCell' = true := by
  intro u hu
  obtain ⟨x, _, hx⟩ := List.mem_flatMap.1 hu
  simp only [ivC, List.mem_cons, List.not_mem_nil, or_false] at hx
  rcases hx with rfl | rfl | rfl <;> rfl
theorem is_cells {w : World} {b o : Nat} {xs : List IV} (h : ∀ i, i < xs.length → Tri w b (o + i * 3) (xs.getD i iz)) : ∀ j u, (isC xs)[j]? = some u → w.cell? ⟨b, o + j, none⟩ = some u := by
  intro j u hj
  have hjl : j < xs.length * 3 := by
    have := (List.getElem?_eq_some_iff.1 hj).1
    rwa [isC_len] at this
  have hi : j / 3 < xs.length := by omega
  have hq : j % 3 < 3 := by omega
  have e : j = j / 3 * 3 + j % 3 := by omega
  have hg := isC_get xs hi hq
  rw [← e, hj] at hg
  have ht := h _ hi
  have e2 : o + j = o + j / 3 * 3 + j % 3 := by omega
  rw [e2]
  obtain h0 | h0 | h0 : j % 3 = 0 ∨ j % 3 = 1 ∨ j % 3 = 2 := by omega
  · rw [h0] at hg ⊢; cases hg; exact ht.c0
  · rw [h0] at hg ⊢; cases hg; exact ht.c1
  · rw [h0] at hg ⊢; cases hg; exact ht.c2
structure OwnV (w : World) (v : Value) (ys : List IV) (w' : World) : Prop where
  own : w'.ownsRow w.heap.size 58 3 v ys.length (isC ys)
  bel : Below w.heap.size w w'
theorem IsW.of_ownsRow {w : World} {B : Nat} {v : Value} {ys : List IV} (h : w.ownsRow B 58 3 v ys.length (isC ys)) : IsW w B w.heap.size v ys := by
  rcases h.2 with ⟨e, hz⟩ | ⟨g, cap, cur, rfl, hb, hbl, hnc, hcm, hcs, htk⟩
  · exact ⟨none, 0, by rw [e, hz], by omega, Nat.zero_le _, fun i hi => by omega⟩
  · refine ⟨some ⟨g, 0, none⟩, cap, rfl, hnc, hcm, fun i hi => ⟨g, 0, rfl, hb, (Array.getElem?_eq_some_iff.1 hbl).1, ?_, fun j hj => frozen_of_row w g _ cur _ hbl⟩⟩
    have hc : ∀ j v, j < 3 → (ivC (ys.getD i iz))[j]? = some v → w.cell? ⟨g, 0 + i * 3 + j, none⟩ = some v := fun j v hj hv => by
      have := h.cells (g := g) rfl (i * 3 + j) v (by rw [isC_get ys hi hj]; exact hv)
      rw [add0] at this
      rwa [Nat.zero_add]
    exact ⟨hc 0 _ (by omega) rfl, hc 1 _ (by omega) rfl, hc 2 _ (by omega) rfl⟩
theorem OwnV.row {w w' : World} {v : Value} {ys : List IV} (h : OwnV w v ys w') : IsW w' w.heap.size w'.heap.size v ys := IsW.of_ownsRow h.own
theorem OwnV.is {w w' : World} {v : Value} {ys : List IV} (h : OwnV w v ys w') : Is w' v ys := h.row.is
theorem OwnV.start (w : World) : OwnV w (.slice (some ⟨w.heap.size, 0, none⟩) 0 0) [] (w.alloc (.cells #[] 58)) :=
  ⟨World.ownsRow_made w #[] 0 (Nat.le_refl _) (Nat.zero_le _) rfl, (Below.refl _ _).alloc (Nat.le_refl _) _⟩
theorem OwnV.nil (w : World) : OwnV w (.slice none 0 0) [] w := ⟨World.ownsRow_nil _ _ _ _, Below.refl _ _⟩
theorem OwnV.from {w w1 w2 : World} {v : Value} {ys : List IV} (h : OwnV w1 v ys w2) (hb : Below w.heap.size w w1) : OwnV w v ys w2 :=
  ⟨own_lowS h.own hb.size, hb.trans (h.bel.mono hb.size)⟩
theorem OwnV.alloc {w w' : World} {v : Value} {ys : List IV} (h : OwnV w v ys w') (o : Obj) : OwnV w v ys (w'.alloc o) := ⟨h.own.alloc _, h.bel.alloc h.bel.size o⟩
def NewV (ys : List IV) (w : World) (e : Ending) (w' : World) : Prop := ∃ v, e = .returned v ∧ IsW w' w.heap.size w'.heap.size v ys ∧ Below w.heap.size w w'
def NilOkI (v : Value) : Prop := ∀ n c, v = .slice none n c → n = 0 ∧ c = 0
theorem nilOkI_some {a : Addr} {n c : Nat} : NilOkI (.slice (some a) n c) := fun _ _ e => by cases e
theorem wp_append_rowI {a : Act} {w : World} {K : Act → World → Prop} {Q : Exit → Act → World → Prop} {dst : Option Nat} {tt : TypeId} {pos : String} {after : Array Edge} {gd : Option (Nat × Bool)} (s x : Operand)
    (base : Nat) (v : Value) (ys : List IV) (hs : a.eval s = v) (hown : w.ownsRow base 58 3 v ys.length (isC ys)) (hbase : base ≤ w.heap.size) (xv : Value) (zs : List IV) (hx : a.eval x = xv) (hz : Is w xv zs) (hn : NilOkI xv) (hl : ys.length + zs.length ≤ 1000000)
    (h : ∀ v' w', w'.ownsRow base 58 3 v' (ys ++ zs).length (isC (ys ++ zs)) → (v' = .slice none 0 0 ↔ v = .slice none 0 0 ∧ zs.length = 0) → w.grownBy w' v.ownBlock → K (a.put dst v') w') :
    Oper.wp Tryz.prog { dst := dst, op := .call { callee := .builtin .append, args := #[s, x], argTypes := #[26, 26] }, type := tt, pos := pos, after := after, guard := gd } a w K Q := by
  obtain ⟨i0, hi, hz0, hz1, hz2⟩ := info_parts ivInfo
  obtain ⟨ad, cap, rfl, h1, h2, h3⟩ := hz
  cases ad with
  | none =>
    obtain ⟨e1, e2⟩ := hn _ _ rfl
    subst e2
    have hrun := run_append_owned_none (P := Tryz.prog) (w := w) base 26 tt 58 i0 3 Tryz.underlying26 hi v ys.length _ hown
    have hzs : zs = [] := List.length_eq_zero_iff.1 e1
    subst hzs
    have hk := h v w (by rw [List.append_nil]; exact hown) (by simp) (World.grownBy.refl w _)
    unfold Oper.wp
    simp [execOp, resolve, invoke, builtin, hs, hx, hrun, Result.andThen]
    exact hk
  | some ad =>
    have hnews : ∀ j u, (isC zs)[j]? = some u → w.cell? (ad.add j) = some u := by
      intro j u hj
      have hjl : j < zs.length * 3 := by
        have := (List.getElem?_eq_some_iff.1 hj).1
        rwa [isC_len] at this
      obtain ⟨b, o, e, _⟩ := h3 0 (by omega)
      cases e
      have hcs : ∀ i, i < zs.length → Tri w b (o + i * 3) (zs.getD i iz) := fun i hi => by
        obtain ⟨b', o', e', ht⟩ := h3 i hi
        cases e'
        exact ht
      rw [show (⟨b, o, none⟩ : Addr).add j = ⟨b, o + j, none⟩ from by unfold Addr.add; split <;> simp_all]
      exact is_cells hcs j u hj
    obtain ⟨v', w', hr, g2, g3, g4, g5⟩ := run_append_own_at (P := Tryz.prog) w base 26 tt 58 i0 (.agg #[.int .i64 0, .string ⟨#[]⟩, .int .i64 0]) 3 32 Tryz.underlying26 hi hz0 hz1 hz2 rfl (by decide) v ys.length _ hown ad zs.length cap (isC zs) (isC_len zs) hnews (isC_one zs) (by unfold maxLen; omega) (by omega) hbase
    have hk := h v' w' (by rw [List.length_append, isC_app]; exact g2) g4 g3
    unfold Oper.wp execOp
    simp only [resolve, invoke, builtin, Sem.run_bind, Sem.run_pure, Result.andThen_ok, List.map_toArray, List.map_cons, List.map_nil, hs, hx, hr]
    exact hk
theorem wp_append_is {a : Act} {w : World} {K : Act → World → Prop} {Q : Exit → Act → World → Prop} {dst : Option Nat} {tt : TypeId} {pos : String} {after : Array Edge} {gd : Option (Nat × Bool)} (s x : Operand)
    (W0 : World) (v : Value) (ys : List IV) (hs : a.eval s = v) (hown : OwnV W0 v ys w) (xv : Value) (zs : List IV) (hx : a.eval x = xv) (hz : Is w xv zs) (hn : NilOkI xv) (hl : ys.length + zs.length ≤ 1000000)
    (h : ∀ v' w', OwnV W0 v' (ys ++ zs) w' → (v' = .slice none 0 0 ↔ v = .slice none 0 0 ∧ zs.length = 0) → w.grownBy w' v.ownBlock → K (a.put dst v') w') :
    Oper.wp Tryz.prog { dst := dst, op := .call { callee := .builtin .append, args := #[s, x], argTypes := #[26, 26] }, type := tt, pos := pos, after := after, guard := gd } a w K Q :=
  wp_append_rowI s x W0.heap.size v ys hs hown.own hown.bel.size xv zs hx hz hn hl (fun v' w' h1 h2 h3 => h v' w' ⟨h1, hown.bel.grown h3 hown.bel.size (fun b hb => (hown.own.lt b hb).1)⟩ h2 h3)
theorem wpList_append_is {ops : Array Oper} {rest : List Oper} {a : Act} {w : World} {Q : Exit → Act → World → Prop} {dst : Option Nat} {tt : TypeId} {pos : String} {after : Array Edge} (s x : Operand)
    (W0 : World) (v : Value) (ys : List IV) (hs : a.eval s = v) (hown : OwnV W0 v ys w) (xv : Value) (zs : List IV) (hx : a.eval x = xv) (hz : Is w xv zs) (hn : NilOkI xv) (hl : ys.length + zs.length ≤ 1000000)
    (h : ∀ v' w', OwnV W0 v' (ys ++ zs) w' → (v' = .slice none 0 0 ↔ v = .slice none 0 0 ∧ zs.length = 0) → w.grownBy w' v.ownBlock → wpList Tryz.prog ops Q rest (a.put dst v') w') :
    wpList Tryz.prog ops Q ({ dst := dst, op := .call { callee := .builtin .append, args := #[s, x], argTypes := #[26, 26] }, type := tt, pos := pos, after := after, guard := none } :: rest) a w :=
  wpList_plain rfl fun K hK => wp_append_is s x W0 v ys hs hown xv zs hx hz hn hl (fun v' w' h1 h2 h3 => hK _ _ (h v' w' h1 h2 h3))
end Go.Proofs.YthfdkenidfnmgaaGreat
namespace Go.Proofs.YthfdkenidfnmgaaGreat
open Go.ChangeShapes Go.WideShapes Go.ChangeAt Go.RowKit
set_option linter.unusedVariables false
set_option maxRecDepth 100000
def BRes (b : Bool) (w : World) (e : Ending) (w' : World) : Prop := e = .returned (.bool b) ∧ Below w.heap.size w w'
end Go.Proofs.YthfdkenidfnmgaaGreat
namespace Go.Proofs.YthfdkenidfnmgaaGreat
open Go.ChangeShapes Go.WideShapes Go.ChangeAt Go.RowKit
set_option linter.unusedVariables false
set_option maxRecDepth 100000
def ShortI (xs : List IV) : Prop := ∀ x ∈ xs, x.g.length ≤ 2000000
theorem ShortI.at {xs : List IV} (h : ShortI xs) (i : Nat) : (xs.getD i iz).g.length ≤ 2000000 := by
  by_cases hi : i < xs.length
  · rw [getD_lt hi]; exact h _ (List.getElem_mem hi)
  · rw [List.getD, List.getElem?_eq_none (Nat.le_of_not_lt hi)]; exact Nat.zero_le _
end Go.Proofs.YthfdkenidfnmgaaGreat
namespace Go.Proofs.YthfdkenidfnmgaaGreat
open Go.ChangeShapes Go.WideShapes Go.ChangeAt Go.RowKit
set_option linter.unusedVariables false
set_option maxRecDepth 100000
def DrewT (P : Bs → Prop) (w0 : World) (B k : Nat) (w : World) (e : Ending) (w' : World) : Prop :=
  ∃ t : Bs, P t ∧ e = .returned (.string ⟨t.toArray⟩) ∧ Rdr w0 w' B k ∧ w.grownBy w' (some B)
theorem of_any (w0 w : World) (B k : Nat) (g n c : Nat) (ts : List Bs) (hR : Rdr w0 w B k) (hk : k ≤ 950000) (hg : g ≠ B) (hN : n = ts.length) (h0 : 1 ≤ n) (h1 : n ≤ 100) (hc : n ≤ c) (hc2 : c ≤ 100)
    (h : ∀ i, i < n → w.cell? ⟨g, i, none⟩ = some (.string ⟨(ts.getD i []).toArray⟩)) :
    Calls Tryz.prog 39 #[.pointer (some ⟨B, 0, none⟩), .slice (some ⟨g, 0, none⟩) n c] w (DrewT (fun t => t ∈ ts) w0 B (k + 1) w) := by
  have H := Lib.hid h
  have HN := Lib.hid hN
  clear h hN
  go_enter Tryz.func39, Tryz.ntmps39
  go_wp2_with fail
  refine (pick_any w0 _ B k _ hR (by omega) (by omega)).mono ?_
  rintro e w1 ⟨m, h20, h21, rfl, hR1, hO1⟩
  obtain ⟨q, rfl⟩ : ∃ q : Nat, m = (q : Int) := ⟨m.toNat, by omega⟩
  have hq : q < n := by omega
  have hcell : w1.cell? ⟨g, q, none⟩ = some (.string ⟨(ts.getD q []).toArray⟩) := (hO1.cell hg).trans (H.out q hq)
  have HM : Hid (ts.getD q [] ∈ ts) := Lib.hid (by rw [getD_lt (by rw [← HN.out]; exact hq)]; exact List.getElem_mem _)
  generalize ts.getD q [] = t at hcell HM
  have HO := Lib.hid hO1
  clear hO1
  go_wp2_with fail
  go_ret
  exact ⟨t, HM.out, rfl, hR1, HO.out.grown⟩
def shortP (t : Bs) : Prop := t.length ≤ 10
theorem right_any (w0 w : World) (B k : Nat) (hR : Rdr w0 w B k) (hk : k ≤ 900000) :
    Calls Tryz.prog 27 #[.pointer (some ⟨B, 0, none⟩)] w (DrewT shortP w0 B (k + 2) w) := by
  go_enter Tryz.func27, Tryz.ntmps27
  go_wp2_with fail
  refine (pick_any w0 _ B k _ hR (by omega) (by omega)).mono ?_
  rintro e w1 ⟨m, h0, h1, rfl, hR1, hO1⟩
  have hB1 := rdr_lt hR1
  by_cases hm : m = 0
  · subst hm
    go_wp2_with fail
    refine (of_any w0 _ B _ w1.heap.size 4 4 ([[100], [65], [97, 98, 99, 97, 98], [97, 32, 98]] : List Bs) (rdr_alloc hR1 _) (by omega) (by omega) rfl (by omega) (by omega) (by omega) (by omega) (fun i hi => new_cell (by
      have hi' : i = 0 ∨ i = 1 ∨ i = 2 ∨ i = 3 := by omega
      rcases hi' with rfl | rfl | rfl | rfl <;> rfl))).mono ?_
    rintro e w2 ⟨t, ht, rfl, hR2, hg2⟩
    have hsh : shortP t := (show ∀ t ∈ ([[100], [65], [97, 98, 99, 97, 98], [97, 32, 98]] : List Bs), t.length ≤ 10 by decide) t ht
    have hg := gtrans hO1.grown (gtrans (galloc _ _ _) hg2)
    clear ht
    go_wp2_with fail
    go_ret
    exact ⟨t, hsh, rfl, rdr_mono hR2 (by omega), hg⟩
  · have hm' : (m == 0) = false := by simpa using hm
    go_wp2_with fail
    refine (of_any w0 _ B _ w1.heap.size 12 12 ([[], [97], [98], [99], [97, 98], [97, 97], [97, 98, 99], [98, 97], [98], [97], [97, 98, 99, 97], [97, 99]] : List Bs) (rdr_alloc hR1 _) (by omega) (by omega) rfl (by omega) (by omega) (by omega) (by omega) (fun i hi => new_cell (by
      have hi' : i = 0 ∨ i = 1 ∨ i = 2 ∨ i = 3 ∨ i = 4 ∨ i = 5 ∨ i = 6 ∨ i = 7 ∨ i = 8 ∨ i = 9 ∨ i = 10 ∨ i = 11 := by omega
      rcases hi' with rfl | rfl | rfl | rfl | rfl | rfl | rfl | rfl | rfl | rfl | rfl | rfl <;> rfl))).mono ?_
    rintro e w2 ⟨t, ht, rfl, hR2, hg2⟩
    have hsh : shortP t := (show ∀ t ∈ ([[], [97], [98], [99], [97, 98], [97, 97], [97, 98, 99], [98, 97], [98], [97], [97, 98, 99, 97], [97, 99]] : List Bs), t.length ≤ 10 by decide) t ht
    have hg := gtrans hO1.grown (gtrans (galloc _ _ _) hg2)
    clear ht
    go_wp2_with fail
    go_ret
    exact ⟨t, hsh, rfl, rdr_mono hR2 (by omega), hg⟩
structure OwnBS (w0 : World) (B k : Nat) (w : World) (v : Value) (ys : List Bs) (w' : World) : Prop where
  own : w'.ownsRow w.heap.size 9 1 v ys.length (ys.map (fun s => .string ⟨s.toArray⟩))
  nn : v ≠ .slice none 0 0
  rdr : Rdr w0 w' B k
  grow : w.grownBy w' (some B)
  B0 : B < w.heap.size
theorem OwnBS.strs {w0 w w' : World} {B k : Nat} {v : Value} {ys : List Bs} (h : OwnBS w0 B k w v ys w') : Strs w' v ys := (StrsW.of_ownsRow h.own).strs
theorem OwnBS.start {w0 w : World} {B k : Nat} (hR : Rdr w0 w B k) : OwnBS w0 B k w (.slice (some ⟨w.heap.size, 0, none⟩) 0 0) [] (w.alloc (.cells #[] 9)) :=
  ⟨World.ownsRow_made w #[] 0 (Nat.le_refl _) (Nat.zero_le _) rfl, (fun h => by cases h), rdr_alloc hR _, galloc _ _ _, rdr_lt hR⟩
theorem own_grown {w w' : World} {B base : Nat} {e : TypeId} {s : Nat} {v : Value} {n : Nat} {x : List Value} (h : w.ownsRow base e s v n x) (hg : w.grownBy w' (some B)) (hB : B < base) : w'.ownsRow base e s v n x := by
  refine ⟨h.1, ?_⟩
  rcases h.2 with hn | ⟨g, cap, cur, e, hb, hbl, rest⟩
  · exact .inl hn
  · exact .inr ⟨g, cap, cur, e, hb, (hg.block g (Array.getElem?_eq_some_iff.1 hbl).1 (by simp; omega)).trans hbl, rest⟩
theorem OwnBS.drew {w0 w w' w2 : World} {B k k' : Nat} {v : Value} {ys : List Bs} (h : OwnBS w0 B k w v ys w') (hR : Rdr w0 w2 B k') (hg : w'.grownBy w2 (some B)) : OwnBS w0 B k' w v ys w2 :=
  ⟨own_grown h.own hg h.B0, h.nn, hR, gtrans h.grow hg, h.B0⟩
theorem grown_of_below {w w' : World} {B : Nat} (h : Below w.heap.size w w') : w.grownBy w' (some B) := ⟨h.os, h.tape, h.output, h.size, fun i hi _ => h.block i hi⟩
theorem rdr_of_below {w0 w w' : World} {B k : Nat} (h : Rdr w0 w B k) (hb : Below w.heap.size w w') : Rdr w0 w' B k := by
  have hlt := rdr_lt h
  obtain ⟨a, len, cap, zs, p, hr, hp, hh, hbb, hB⟩ := h
  exact ⟨a, len, cap, zs, p, hr, hp, (hb.block B hlt).trans hh, hbb.trans (hb.mono hbb.size), hB⟩
theorem OwnBS.next {w0 w w1 w2 : World} {B k : Nat} {v v2 : Value} {ys zs : List Bs} (h : OwnBS w0 B k w v ys w1) (h2 : OwnS w1 v2 zs w2) (hn : v2 ≠ .slice none 0 0) : OwnBS w0 B k w v2 zs w2 :=
  ⟨own_lowS h2.own h.grow.size, hn, rdr_of_below h.rdr h2.bel, gtrans h.grow (grown_of_below h2.bel), h.B0⟩
theorem OwnBS.keep {w0 w w1 w2 : World} {B k : Nat} {v : Value} {ys : List Bs} (h : OwnBS w0 B k w v ys w1) (hb : Below w1.heap.size w1 w2) : OwnBS w0 B k w v ys w2 :=
  h.drew (rdr_of_below h.rdr hb) (grown_of_below hb)
theorem OwnBS.append {w0 w wr w2 : World} {B k : Nat} {v v2 : Value} {ys zs : List Bs} (h : OwnBS w0 B k w v ys wr) (h2 : w2.ownsRow w.heap.size 9 1 v2 (ys ++ zs).length ((ys ++ zs).map (fun s => .string ⟨s.toArray⟩))) (hg : wr.grownBy w2 v.ownBlock) (hnn : v2 = .slice none 0 0 → v = .slice none 0 0) :
    OwnBS w0 B k w v2 (ys ++ zs) w2 := by
  have hob : ∀ b, v.ownBlock = some b → w.heap.size ≤ b := fun b hb => (h.own.lt b hb).1
  have hB0 := h.B0
  have hlt := rdr_lt h.rdr
  refine ⟨h2, fun e => h.nn (hnn e), ?_, ?_, h.B0⟩
  · have hw0 := h.rdr
    obtain ⟨a, len, cap, zs, p, hr, hp, hh, hbb, hB⟩ := hw0
    refine ⟨a, len, cap, zs, p, hr, hp, (hg.block B hlt (fun e => by have := hob B e.symm; omega)).trans hh, hbb.grown hg hbb.size (fun b hb => by have := hob b hb; have := h.grow.size; omega), hB⟩
  · exact ⟨hg.os.trans h.grow.os, hg.tape.trans h.grow.tape, hg.output.trans h.grow.output, Nat.le_trans h.grow.size hg.size, fun i hi hne => (hg.block i (Nat.lt_of_lt_of_le hi h.grow.size) (fun e => by have := hob i e.symm; omega)).trans (h.grow.block i hi hne)⟩
theorem OwnBS.form {w0 w w' : World} {B k : Nat} {v : Value} {ys : List Bs} (h : OwnBS w0 B k w v ys w') : ∃ g cap, v = .slice (some ⟨g, 0, none⟩) ys.length cap ∧ ys.length ≤ cap ∧ cap ≤ maxLen ∧ w.heap.size ≤ g := by
  rcases h.own.2 with ⟨e, _⟩ | ⟨g, cap, cur, e, hb, _, hnc, hcm, _⟩
  · exact absurd e h.nn
  · exact ⟨g, cap, e, hnc, hcm, hb⟩
theorem OwnBS.mono {w0 w w' : World} {B k k' : Nat} {v : Value} {ys : List Bs} (h : OwnBS w0 B k w v ys w') (hk : k ≤ k') : OwnBS w0 B k' w v ys w' := ⟨h.own, h.nn, rdr_mono h.rdr hk, h.grow, h.B0⟩
theorem shortP_short {ys : List Bs} (h : ∀ y ∈ ys, shortP y) : Short ys := fun y hy => by have := h y hy; unfold shortP at this; omega
theorem radd_mem {xs : List Bs} {s y : Bs} (h : y ∈ (radd xs s).1) : y ∈ xs ∨ y = s := by
  by_cases hv : (rvs xs && rv s) = true
  · by_cases hm : s ∈ xs
    · rw [radd_there hv hm] at h; exact .inl h
    · by_cases hl : 6 ≤ xs.length
      · rw [radd_full hv hm hl] at h; exact .inl h
      · rw [radd_ins hv hm hl] at h
        rcases ins_mem.1 h with h | h
        · exact .inr h
        · exact .inl h
  · rw [radd_bad hv] at h; cases h
theorem six_any {w0 w w1 : World} {B k : Nat} {v : Value} {ys : List Bs} (h : OwnBS w0 B k w v ys w1) : OwnBS w0 B k w (.slice (some ⟨w1.heap.size, 0, none⟩) 6 6) [[97], [97, 97], [97, 98], [98], [98, 97], [99]] (w1.alloc (.cells #[.string ⟨#[97]⟩, .string ⟨#[97, 97]⟩, .string ⟨#[97, 98]⟩, .string ⟨#[98]⟩, .string ⟨#[98, 97]⟩, .string ⟨#[99]⟩] 9)) :=
  ⟨World.ownsRow_lit w1 _ 6 h.grow.size (by decide) rfl, (fun h => by cases h), rdr_alloc h.rdr _, gtrans h.grow (galloc _ _ _), h.B0⟩
def DrewSs (w0 : World) (B k : Nat) (w : World) (e : Ending) (w' : World) : Prop := ∃ v ys, e = .returned v ∧ (ys.length ≤ 8 ∧ ∀ y ∈ ys, shortP y) ∧ OwnBS w0 B k w v ys w'
set_option maxRecDepth 100000 in
set_option maxHeartbeats 4000000 in
theorem rights_any (w0 w : World) (B k : Nat) (hR : Rdr w0 w B k) (hk : k ≤ 700000) :
    Calls Tryz.prog 13 #[.pointer (some ⟨B, 0, none⟩)] w (DrewSs w0 B (k + 100) w) := by
  have HS := Lib.hid (OwnBS.start hR)
  have HB : Hid (B < w.heap.size) := Lib.hid (rdr_lt hR)
  clear hR
  go_enter Tryz.func13, Tryz.ntmps13
  go_wp2_with fail
  refine (pick_any w0 _ B _ _ HS.out.rdr (by omega) (by omega)).mono ?_
  rintro e w1 ⟨m, h0, h1, rfl, hR1, hO1⟩
  have HS1 := Lib.hid (HS.out.drew hR1 hO1.grown)
  clear HS hR1 hO1
  go_wp2_with fail
  go_loopw [3, 5, 6, 7] (fun c i x y wr => ∃ (j : Nat) (ys : List Bs), (j : Int) ≤ m ∧ i = .int .i64 j ∧ (ys.length ≤ 6 ∧ Hid (∀ y ∈ ys, shortP y)) ∧ OwnBS w0 B (k + 1 + 7 * j) w c ys wr) (fun _ i _ _ _ => m.toNat - (intOf i).toNat)
  case atStart => exact ⟨0, [], by omega, rfl, ⟨by simp, Lib.hid (fun y hy => by cases hy)⟩, HS1.out⟩
  case round =>
    obtain ⟨j, ys, hj, rfl, ⟨hl, HYS⟩, hrel⟩ := hrel
    have HREL := Lib.hid hrel
    clear hrel
    by_cases hlt : (j : Int) < m
    · go_wp2_with fail
      refine (right_any w0 _ B _ HREL.out.rdr (by omega)).mono ?_
      rintro e w2 ⟨x, hx, rfl, hR2, hg2⟩
      have HS2 := Lib.hid (HREL.out.drew hR2 hg2)
      clear HREL hR2 hg2
      obtain ⟨g, cap, rfl, hc1, hc2, hg0⟩ := HS2.out.form
      have HP := Lib.hid (sRightsAdd_any w2 g 0 cap ys.length ys x HS2.out.strs rfl (shortP_short HYS.out) (by unfold shortP at hx; omega))
      have HL := Lib.hid (radd_len ys x)
      have HZP : Hid (∀ y ∈ (radd ys x).1, shortP y) := Lib.hid (fun y hy => by
        rcases radd_mem hy with hy | rfl
        · exact HYS.out y hy
        · exact hx)
      generalize (radd ys x).1 = zs at HP HL HZP
      generalize (radd ys x).2 = b at HP
      clear hg0 hc1 hc2
      go_wp2_with fail
      refine HP.out.mono ?_
      rintro e w3 ⟨v3, rfl, h3, hn3⟩
      have HN := Lib.hid (HS2.out.next h3 hn3)
      have HK := Lib.hid (HS2.out.keep h3.bel)
      clear h3 HS2 hn3
      cases b
      · go_wp2_with fail
        go_roundw
        case rel => exact ⟨j + 1, ys, by omega, by go_num, ⟨hl, HYS⟩, HK.out.mono (by omega)⟩
        case measure => simp [intOf]; omega
      · go_wp2_with fail
        go_roundw
        case rel => exact ⟨j + 1, zs, by omega, by go_num, ⟨HL.out, HZP⟩, HN.out.mono (by omega)⟩
        case measure => simp [intOf]; omega
    · have hjm : (j : Int) = m := by omega
      have hj5 : j ≤ 6 := by omega
      go_wp2_with fail
      refine (pick_any w0 _ B _ _ HREL.out.rdr (by omega) (by omega)).mono ?_
      rintro e w2 ⟨n, hn0, hn1, rfl, hR2, hO2⟩
      have HS2 := Lib.hid (HREL.out.drew hR2 hO2.grown)
      clear HREL hR2 hO2 hlt
      by_cases hn : n = 0
      · subst hn
        go_wp2_with fail
        refine (right_any w0 _ B _ HS2.out.rdr (by omega)).mono ?_
        rintro e w3 ⟨x, hx, rfl, hR3, hg3⟩
        have HXP := Lib.hid hx
        clear hx
        have HS3 := Lib.hid (HS2.out.drew hR3 hg3)
        clear HS2 hR3 hg3
        have HS4 := Lib.hid (HS3.out.keep ((Below.refl w3.heap.size w3).alloc (Nat.le_refl _) (.cells #[.string ⟨x.toArray⟩] 9)))
        go_wp2_with (at_builtin; refine wpList_append_row (.tmp 28) (.tmp 31) w.heap.size _ ys rfl HS4.out.own HS4.out.grow.size _ [x] rfl (strs_one _ x) nilOk_some (by simp; omega) ?_; intro v2 w4 hown2 hnn2 hgrow2)
        have HE := Lib.hid (HS4.out.append (zs := [x]) hown2 hgrow2 (fun e => (hnn2.1 e).1))
        clear hown2 hgrow2 hnn2
        go_wp2_with fail
        go_ret
        exact ⟨_, ys ++ [x], rfl, ⟨by simp; omega, fun y hy => by
          rw [List.mem_append, List.mem_singleton] at hy
          rcases hy with hy | rfl
          · exact HYS.out y hy
          · exact HXP.out⟩, HE.out.mono (by omega)⟩
      · have hne : (n == 0) = false := by simpa using hn
        go_wp2_with fail
        refine (pick_any w0 _ B _ _ HS2.out.rdr (by omega) (by omega)).mono ?_
        rintro e w3 ⟨n2, hn20, hn21, rfl, hR3, hO3⟩
        have HS3 := Lib.hid (HS2.out.drew hR3 hO3.grown)
        clear HS2 hR3 hO3
        by_cases hn2 : n2 = 0
        · subst hn2
          have HX := Lib.hid (six_any HS3.out)
          go_wp2_with fail
          go_ret
          exact ⟨_, _, rfl, ⟨by decide, fun y hy => (show ∀ t ∈ ([[97], [97, 97], [97, 98], [98], [98, 97], [99]] : List Bs), t.length ≤ 10 by decide) y hy⟩, HX.out.mono (by omega)⟩
        · have hne2 : (n2 == 0) = false := by simpa using hn2
          go_wp2_with fail
          go_ret
          exact ⟨_, ys, rfl, ⟨by omega, HYS.out⟩, HS3.out.mono (by omega)⟩
end Go.Proofs.YthfdkenidfnmgaaGreat
namespace Go.Proofs.YthfdkenidfnmgaaGreat
open Go.ChangeShapes Go.WideShapes Go.ChangeAt Go.RowKit
set_option linter.unusedVariables false
set_option maxRecDepth 100000
theorem OwnV.drew {w w' : World} {v : Value} {ys : List IV} (h : OwnV w v ys w') : OwnV w v ys w'.drew := ⟨h.own, h.bel.drew⟩
theorem IsW.place {w : World} {B0 B1 : Nat} {v : Value} {xs : List IV} {k : Nat} (h : IsW w B0 B1 v xs) (hk : k < xs.length) : ∃ g p cap, v = .slice (some ⟨g, p, none⟩) xs.length cap ∧ B0 ≤ g ∧ g < B1 ∧ TriW w g (p + k * 3) (xs.getD k iz) := by
  obtain ⟨a, cap, rfl, h1, h2, h3⟩ := h
  obtain ⟨g, p, rfl, hg0, hg1, ht⟩ := h3 k hk
  exact ⟨g, p, cap, rfl, hg0, hg1, ht⟩
end Go.Proofs.YthfdkenidfnmgaaGreat
namespace Go.Proofs.YthfdkenidfnmgaaGreat
open Go.ChangeShapes Go.WideShapes Go.ChangeAt Go.RowKit
set_option linter.unusedVariables false
set_option maxRecDepth 100000
theorem results_one_mid {P : Program} {fn : Func} {p : Tmp} {ty : TypeId} (h : fn.results = #[.cell p ty]) (tmps : Array Value) (w : World) (b o : Nat) (cs : List Value) (d : TypeDesc)
    (hp : tmps.getD p undef = .pointer (some ⟨b, o, none⟩)) (hc : w.rangeAt b o cs) (hu : P.underlying ty = some d) (hd : d.isRow = true) (hi : (P.info? ty).map (·.size) = some cs.length) :
    (results fn tmps).run P w = .ok (.agg cs.toArray) w := by
  have hp' : tmps[p]?.getD undef = .pointer (some ⟨b, o, none⟩) := by simpa using hp
  simp [results, h, hp', asAddr, run_loadVar_mid w b o ty cs d hc hu hd hi]
end Go.Proofs.YthfdkenidfnmgaaGreat
namespace Go.Proofs.YthfdkenidfnmgaaGreat
open Go.ChangeShapes Go.WideShapes Go.ChangeAt Go.RowKit
set_option linter.unusedVariables false
set_option maxRecDepth 100000
def IntsW (w : World) (B0 B1 : Nat) (v : Value) (xs : List Int) : Prop :=
  ∃ (a : Option Addr) (cap : Nat), v = .slice a xs.length cap ∧ xs.length ≤ cap ∧ cap ≤ maxLen ∧
    ∀ i, i < xs.length → ∃ g p, a = some ⟨g, p, none⟩ ∧ B0 ≤ g ∧ g < B1 ∧ w.cell? ⟨g, p + i, none⟩ = some (.int .i64 (xs.getD i 0)) ∧ w.frozen? ⟨g, p + i, none⟩ = false
theorem IntsW.ints {w : World} {B0 B1 : Nat} {v : Value} {xs : List Int} (h : IntsW w B0 B1 v xs) : Ints w v xs := by
  obtain ⟨a, cap, rfl, h1, h2, h3⟩ := h
  refine ⟨a, cap, rfl, h1, h2, fun i hi => ?_⟩
  obtain ⟨g, p, e, _, _, hc, _⟩ := h3 i hi
  exact ⟨g, p, e, hc⟩
theorem IntsW.chg {lo hi B0 B1 : Nat} {w w' : World} {v : Value} {xs : List Int} (h : IntsW w B0 B1 v xs) (c : Chg lo hi w w') (hB : B1 ≤ w.heap.size) (hh : B1 ≤ lo ∨ hi ≤ B0) : IntsW w' B0 B1 v xs := by
  obtain ⟨a, cap, rfl, h1, h2, h3⟩ := h
  refine ⟨a, cap, rfl, h1, h2, fun i hi => ?_⟩
  obtain ⟨g, p, e, hg0, hg1, hc, hf⟩ := h3 i hi
  have hb := c.block g (by omega) (by omega)
  exact ⟨g, p, e, hg0, hg1, (World.cell?_of_block hb).trans hc, (World.frozen?_of_block hb).trans hf⟩
theorem IntsW.of_own {w w' : World} {v : Value} {ys : List Int} (h : OwnI w v ys w') : IntsW w' w.heap.size w'.heap.size v ys := by
  rcases h.own.2 with ⟨e, _⟩ | ⟨g, cap, cur, rfl, hb, hbl, hnc, hcm, hcs, htk⟩
  · exact absurd e h.nn
  · refine ⟨some ⟨g, 0, none⟩, cap, rfl, hnc, hcm, fun i hi => ⟨g, 0, rfl, hb, (Array.getElem?_eq_some_iff.1 hbl).1, ?_, ?_⟩⟩
    · have := h.own.cells (g := g) rfl i (.int .i64 (ys.getD i 0)) (by rw [getD_lt hi]; simp)
      rw [add0] at this
      rw [Nat.zero_add]; exact this
    · simp [World.frozen?, hbl]
def NewR (ys : List Int) (w : World) (e : Ending) (w' : World) : Prop := ∃ v, e = .returned v ∧ IntsW w' w.heap.size w'.heap.size v ys ∧ Below w.heap.size w w'
end Go.Proofs.YthfdkenidfnmgaaGreat
namespace Go.Proofs.YthfdkenidfnmgaaGreat
open Go.ChangeShapes Go.WideShapes Go.ChangeAt Go.RowKit
set_option linter.unusedVariables false
set_option maxRecDepth 100000
def cl (F : Nat → Nat) : List Int := (List.range 12).map (fun j => (F j : Int))
theorem IntsW.set {w : World} {B0 B1 : Nat} {v : Value} {xs : List Int} (h : IntsW w B0 B1 v xs) {j : Nat} (hj : j < xs.length) (x : Int) :
    ∃ g p c, v = .slice (some ⟨g, p, none⟩) xs.length c ∧ B0 ≤ g ∧ g < B1 ∧ w.cell? ⟨g, p + j, none⟩ = some (.int .i64 (xs.getD j 0)) ∧ w.frozen? ⟨g, p + j, none⟩ = false ∧ IntsW (w.setCell ⟨g, p + j, none⟩ (.int .i64 x)) B0 B1 v (xs.set j x) := by
  obtain ⟨a, cap, rfl, h1, h2, h3⟩ := h
  obtain ⟨g, p, rfl, hg0, hg1, hc, hf⟩ := h3 j hj
  refine ⟨g, p, cap, rfl, hg0, hg1, hc, hf, _, cap, by rw [List.length_set], by rw [List.length_set]; exact h1, h2, fun i hi => ?_⟩
  rw [List.length_set] at hi
  obtain ⟨g', p', e, _, _, hc', hf'⟩ := h3 i hi
  cases e
  refine ⟨g, p, rfl, hg0, hg1, ?_, (frozen_set _).trans hf'⟩
  by_cases hij : i = j
  · subst hij
    rw [getD_lt (by rw [List.length_set]; exact hi), List.getElem_set_self]
    exact cell_set_same hc'
  · rw [getD_lt (by rw [List.length_set]; exact hi), List.getElem_set_ne (by omega), ← getD_lt (d := 0) hi]
    exact (cell_set_other (.inr (by omega))).trans hc'
theorem cntN_le {xss : List (List Int)} {ys : List IV} (hm : memOk xss = true) (j : Nat) : ∀ n, n ≤ 12 → cntN xss ys j n ≤ 4 * n
  | 0, _ => by simp [cntN]
  | n + 1, h => by
    have ih := cntN_le (ys := ys) hm j n (by omega)
    have h1 : cnt1 (xss.getD n []) j ≤ 4 := by
      have a := List.count_le_length (a := (j : Int)) (l := named (xss.getD n []))
      have b := named_len (xss.getD n [])
      have c := mem_row hm (show n < 12 by omega)
      unfold cnt1; omega
    unfold cntN
    split <;> omega
end Go.Proofs.YthfdkenidfnmgaaGreat
namespace Go.Proofs.YthfdkenidfnmgaaGreat
open Go.ChangeShapes Go.WideShapes Go.ChangeAt Go.RowKit
set_option linter.unusedVariables false
set_option linter.unusedSimpArgs false
set_option maxRecDepth 100000
theorem OwnI.one (w : World) (r : Int) : OwnI w (.slice (some ⟨w.heap.size, 0, none⟩) 1 1) [r] (w.alloc (.cells #[.int .i64 r] 3)) :=
  ⟨⟨by simp, .inr ⟨w.heap.size, 1, #[.int .i64 r], rfl, Nat.le_refl _, heap_alloc_new w _, Nat.le_refl _, by unfold maxLen; omega, rfl, by simp⟩⟩, (Below.refl _ _).alloc (Nat.le_refl _) _, fun h => by cases h⟩
end Go.Proofs.YthfdkenidfnmgaaGreat
namespace Go.Proofs.YthfdkenidfnmgaaGreat
open Go.ChangeShapes Go.WideShapes Go.ChangeAt Go.RowKit
set_option linter.unusedVariables false
set_option linter.unusedSimpArgs false
set_option maxRecDepth 100000
structure KP (w W : World) (vm vi ve vc : Value) : Prop where
  bel : Below w.heap.size w W
  sz : w.heap.size < W.heap.size
  c0 : W.cell? ⟨w.heap.size, 0, none⟩ = some vm
  c1 : W.cell? ⟨w.heap.size, 1, none⟩ = some vi
  c2 : W.cell? ⟨w.heap.size, 2, none⟩ = some ve
  c3 : W.cell? ⟨w.heap.size, 3, none⟩ = some vc
theorem KP.start (w : World) (vm vi ve vc : Value) (t : TypeId) : KP w (w.alloc (.cells #[vm, vi, ve, vc] t)) vm vi ve vc :=
  ⟨(Below.refl _ _).alloc (Nat.le_refl _) _, by simp, new_cell rfl, new_cell rfl, new_cell rfl, new_cell rfl⟩
theorem KP.go {w W W' : World} {vm vi ve vc : Value} (h : KP w W vm vi ve vc) (hb : Below W.heap.size W W') : KP w W' vm vi ve vc :=
  ⟨h.bel.trans (hb.mono h.bel.size), Nat.lt_of_lt_of_le h.sz hb.size, (hb.cell (p := ⟨w.heap.size, 0, none⟩) h.sz).trans h.c0, (hb.cell (p := ⟨w.heap.size, 1, none⟩) h.sz).trans h.c1, (hb.cell (p := ⟨w.heap.size, 2, none⟩) h.sz).trans h.c2, (hb.cell (p := ⟨w.heap.size, 3, none⟩) h.sz).trans h.c3⟩
theorem KP.cells {w W : World} {vm vi ve vc : Value} (h : KP w W vm vi ve vc) : W.cell? ⟨w.heap.size, 0, none⟩ = some vm ∧ W.cell? ⟨w.heap.size, 1, none⟩ = some vi ∧ W.cell? ⟨w.heap.size, 2, none⟩ = some ve ∧ W.cell? ⟨w.heap.size, 3, none⟩ = some vc := ⟨h.c0, h.c1, h.c2, h.c3⟩
theorem KP.drew {w W : World} {vm vi ve vc : Value} (h : KP w W vm vi ve vc) : KP w W.drew vm vi ve vc := h.go (Below.refl _ _).drew
theorem KP.alloc {w W : World} {vm vi ve vc : Value} (h : KP w W vm vi ve vc) (o : Obj) : KP w (W.alloc o) vm vi ve vc := h.go ((Below.refl _ _).alloc (Nat.le_refl _) o)
end Go.Proofs.YthfdkenidfnmgaaGreat
namespace Go.Proofs.YthfdkenidfnmgaaGreat
open Go.ChangeShapes Go.WideShapes Go.ChangeAt Go.RowKit
set_option linter.unusedVariables false
set_option linter.unusedSimpArgs false
set_option maxRecDepth 100000
def Short3 (es : List EV) : Prop := ∀ x ∈ es, Short x.r
theorem Short3.at {es : List EV} (h : Short3 es) (i : Nat) : Short (es.getD i ez).r := by
  by_cases hi : i < es.length
  · rw [getD_lt hi]; exact h _ (List.getElem_mem hi)
  · rw [List.getD, List.getElem?_eq_none (Nat.le_of_not_lt hi)]; exact fun x hx => by cases hx
end Go.Proofs.YthfdkenidfnmgaaGreat
namespace Go.Proofs.YthfdkenidfnmgaaGreat
open Go.ChangeShapes Go.WideShapes Go.ChangeAt Go.RowKit
set_option linter.unusedVariables false
set_option linter.unusedSimpArgs false
set_option maxRecDepth 100000
def cntE (es : List EV) (k : Nat) (j : Nat) : Nat := (es.take k).countP (fun x => decide (x.t = (j : Int)))
theorem cntE_step {es : List EV} {k : Nat} (hk : k < es.length) (j : Nat) : cntE es (k + 1) j = cntE es k j + if (es.getD k ez).t = (j : Int) then 1 else 0 := by
  unfold cntE
  rw [take_snoc_getD es k ez hk, List.countP_append]
  by_cases h : (es.getD k ez).t = (j : Int) <;> simp [h]
theorem cntE_le (es : List EV) (k j : Nat) : cntE es k j ≤ es.length := by
  unfold cntE
  have h1 := List.countP_le_length (p := fun x : EV => decide (x.t = (j : Int))) (l := es.take k)
  rw [List.length_take] at h1
  omega
theorem cntE_all (es : List EV) (j : Nat) : cntE es es.length j = es.countP (fun x => decide (x.t = (j : Int))) := by
  unfold cntE
  rw [List.take_length]
end Go.Proofs.YthfdkenidfnmgaaGreat
namespace Go.Proofs.YthfdkenidfnmgaaGreat
open Go.ChangeShapes Go.WideShapes Go.ChangeAt Go.RowKit
set_option linter.unusedVariables false
set_option linter.unusedSimpArgs false
set_option maxRecDepth 100000
theorem KP.root {w W : World} {vm vi ve vc : Value} {K : KV} (h : KP w W vm vi ve vc) (hk : Ks w vm vi ve vc K) {j : Nat} (hj : j < K.e.length) :
    ∃ be oe ce, ve = .slice (some ⟨be, oe, none⟩) K.e.length ce ∧ ce ≤ maxLen ∧ K.e.length ≤ ce ∧ be < w.heap.size ∧ W.cell? ⟨be, oe + j * 2 + 1, none⟩ = some (.int .i64 (K.e.getD j ez).t) := by
  obtain ⟨a, c, rfl, h1, h2, h3⟩ := hk.e
  obtain ⟨b, o, u, rfl, hc, hd, hu⟩ := h3 j hj
  exact ⟨b, o, c, rfl, h2, h1, cell_lt hd, (h.bel.cell (p := ⟨b, o + j * 2 + 1, none⟩) (cell_lt hd)).trans hd⟩
end Go.Proofs.YthfdkenidfnmgaaGreat
namespace Go.Proofs.YthfdkenidfnmgaaGreat
open Go.ChangeShapes Go.WideShapes Go.ChangeAt Go.RowKit
set_option linter.unusedVariables false
set_option linter.unusedSimpArgs false
set_option maxRecDepth 100000
theorem reads_below {b : Bool} {w : World} {e : Ending} {w' : World} (h : Reads (.bool b) w e w') : e = .returned (.bool b) ∧ Below w.heap.size w w' := by
  obtain ⟨he, n, hw⟩ := h
  refine ⟨he, ?_⟩
  rw [hw]
  exact ⟨rfl, rfl, rfl, Nat.le_refl _, fun _ _ => rfl⟩
theorem ev_ext {x y : EV} : x = y ↔ x.r = y.r ∧ x.t = y.t := by cases x; cases y; simp
end Go.Proofs.YthfdkenidfnmgaaGreat
namespace Go.Proofs.YthfdkenidfnmgaaGreat
open Go.ChangeShapes Go.WideShapes Go.ChangeAt Go.RowKit
set_option linter.unusedVariables false
set_option linter.unusedSimpArgs false
set_option maxRecDepth 100000
theorem evInfo : (Tryz.prog.info? 37).map (fun i => (i.zero, i.size, i.bytes)) = some (some (.agg #[.slice none 0 0, .int .i64 0]), 2, 32) := by kernel_rfl
end Go.Proofs.YthfdkenidfnmgaaGreat
namespace Go.Proofs.YthfdkenidfnmgaaGreat
open Go.ChangeShapes Go.WideShapes Go.ChangeAt Go.RowKit
set_option linter.unusedVariables false
set_option linter.unusedSimpArgs false
set_option maxRecDepth 100000
theorem CsW.chg {lo hi B0 B1 : Nat} {w w' : World} {v : Value} {xs : List CV} (h : CsW w B0 B1 v xs) (c : Chg lo hi w w') (hB : B1 ≤ w.heap.size) (hh : B1 ≤ lo ∨ hi ≤ B0) : CsW w' B0 B1 v xs := by
  obtain ⟨a, cap, rfl, h1, h2, h3⟩ := h
  refine ⟨a, cap, rfl, h1, h2, fun i hi => ?_⟩
  obtain ⟨g, p, e, hg0, hg1, hf⟩ := h3 i hi
  exact ⟨g, p, e, hg0, hg1, hf.block (c.block g (by omega) (by omega))⟩
structure KsW (w : World) (B0 B1 B2 B3 B4 : Nat) (vm vi ve vc : Value) (K : KV) : Prop where
  m : MatW w B0 B1 vm K.m
  i : IsW w B1 B2 vi K.i
  e : EsW w B2 B3 ve K.e
  c : CsW w B3 B4 vc K.c
theorem KsW.ks {w : World} {B0 B1 B2 B3 B4 : Nat} {vm vi ve vc : Value} {K : KV} (h : KsW w B0 B1 B2 B3 B4 vm vi ve vc K) : Ks w vm vi ve vc K :=
  ⟨h.m.rows, h.i.is, h.e.es, h.c.cs⟩
end Go.Proofs.YthfdkenidfnmgaaGreat
namespace Go.Proofs.YthfdkenidfnmgaaGreat
open Go.ChangeShapes Go.WideShapes Go.ChangeAt Go.RowKit
set_option linter.unusedVariables false
set_option maxRecDepth 100000
abbrev IRV : Prop := ∀ (w : World) (s : Bs), s.length ≤ 2000000 → Calls Tryz.prog 40 #[.string ⟨s.toArray⟩] w (BRes (rv s) w)
end Go.Proofs.YthfdkenidfnmgaaGreat
namespace Go.Proofs.YthfdkenidfnmgaaGreat
open Go.ChangeShapes Go.WideShapes Go.ChangeAt Go.RowKit
set_option linter.unusedVariables false
set_option maxRecDepth 100000
def NRes (n : Int) (w : World) (e : Ending) (w' : World) : Prop := e = .returned (.int .i64 n) ∧ Below w.heap.size w w'
abbrev IIF : Prop := ∀ (w : World) (v : Value) (xs : List IV), Is w v xs → ShortI xs → Calls Tryz.prog 10 #[v] w (NRes (ifree xs) w)
end Go.Proofs.YthfdkenidfnmgaaGreat
namespace Go.Proofs.YthfdkenidfnmgaaGreat
open Go.ChangeShapes Go.WideShapes Go.ChangeAt Go.RowKit
set_option linter.unusedVariables false
set_option maxRecDepth 100000
theorem sameInts_any (w : World) (va vb : Value) (xs ys : List Int) (ha : Ints w va xs) (hb : Ints w vb ys) :
    Calls Tryz.prog 34 #[va, vb] w (Reads (.bool (decide (xs = ys))) w) := by
  obtain ⟨a, ca, rfl, hla, hma, hxa⟩ := ha
  obtain ⟨b, cb, rfl, hlb, hmb, hxb⟩ := hb
  unfold maxLen at hma hmb
  by_cases hl : xs.length = ys.length
  · obtain ⟨n, hn⟩ : ∃ n, n = xs.length := ⟨_, rfl⟩
    have hn2 : ys.length = n := by omega
    rw [← hn] at hla hxa ⊢
    rw [hn2] at hlb hxb ⊢
    have HN := Lib.hid hn
    have HN2 := Lib.hid hn2
    clear hn hn2 hl
    go_enter Tryz.func34, Tryz.ntmps34
    go_wp2
    go_loopw [5] (fun i wr => ∃ k d : Nat, k ≤ n ∧ i = .int .i64 k ∧ Hid (xs.take k = ys.take k) ∧ wr = w.drewN d) (fun i _ => n - (intOf i).toNat)
    case atStart => exact ⟨0, 0, Nat.zero_le _, rfl, Lib.hid rfl, rfl⟩
    case round =>
      obtain ⟨k, d, hk, rfl, HT, rfl⟩ := hrel
      by_cases hlt : k < n
      · obtain ⟨ba, oa, rfl, hca⟩ := hxa k hlt
        obtain ⟨bb, ob, rfl, hcb⟩ := hxb k hlt
        generalize hx : xs.getD k 0 = x at hca
        generalize hy : ys.getD k 0 = y at hcb
        have HX := Lib.hid hx
        have HY := Lib.hid hy
        clear hx hy hxa hxb
        have hlt' : (k : Int) < (n : Int) := by omega
        by_cases he : x = y
        · subst he
          go_wp2_with fail
          go_quiet (fail)
          go_wp2
          go_roundw
          case rel => exact ⟨k + 1, _, by omega, by go_num, Lib.hid (take_eq_succ (d := 0) (HN.out.symm.trans HN2.out.symm) (by have := HN.out; omega) HT.out (HX.out.trans HY.out.symm)), rfl⟩
          case measure => simp [intOf]; omega
        · have hne : (x != y) = true := by simpa using he
          have HE : Hid (¬ x = y) := Lib.hid he
          clear he
          go_wp2_with fail
          go_quiet (fail)
          go_wp2
          go_ret
          exact reads_mk2 (by symm; exact decide_eq_false (ne_of_getD (d := 0) (k := k) (fun h => HE.out (HX.out.symm.trans (h.trans HY.out)))))
      · go_wp2
        go_ret
        exact reads_mk (by symm; exact decide_eq_true (eq_of_take (HN.out.symm.trans HN2.out.symm) (by have := HN.out; omega) HT.out))
  · have hne : ((xs.length : Int) != (ys.length : Int)) = true := by simp; omega
    have HL := Lib.hid hl
    clear hl
    go_enter Tryz.func34, Tryz.ntmps34
    go_wp2
    go_ret
    exact reads_mk0 (by symm; exact decide_eq_false (fun h => HL.out (by rw [h])))
theorem sameMemory_any (w : World) (va vb : Value) (xs ys : List (List Int)) (ha : Rows2 w va xs) (hb : Rows2 w vb ys) :
    Calls Tryz.prog 18 #[va, vb] w (Reads (.bool (decide (xs = ys))) w) := by
  obtain ⟨a, ca, rfl, hla, hma, hxa⟩ := ha
  obtain ⟨b, cb, rfl, hlb, hmb, hxb⟩ := hb
  unfold maxLen at hma hmb
  by_cases hl : xs.length = ys.length
  · obtain ⟨n, hn⟩ : ∃ n, n = xs.length := ⟨_, rfl⟩
    have hn2 : ys.length = n := by omega
    rw [← hn] at hla hxa ⊢
    rw [hn2] at hlb hxb ⊢
    have HN := Lib.hid hn
    have HN2 := Lib.hid hn2
    clear hn hn2 hl
    go_enter Tryz.func18, Tryz.ntmps18
    go_wp2
    go_loopw [5] (fun i wr => ∃ k d : Nat, k ≤ n ∧ i = .int .i64 k ∧ Hid (xs.take k = ys.take k) ∧ wr = w.drewN d) (fun i _ => n - (intOf i).toNat)
    case atStart => exact ⟨0, 0, Nat.zero_le _, rfl, Lib.hid rfl, rfl⟩
    case round =>
      obtain ⟨k, d, hk, rfl, HT, rfl⟩ := hrel
      by_cases hlt : k < n
      · obtain ⟨ba, oa, ua, rfl, hca, hia⟩ := hxa k hlt
        obtain ⟨bb, ob, ub, rfl, hcb, hib⟩ := hxb k hlt
        generalize hx : xs.getD k [] = x at hia
        generalize hy : ys.getD k [] = y at hib
        have HX := Lib.hid hx
        have HY := Lib.hid hy
        clear hx hy hxa hxb
        have hlt' : (k : Int) < (n : Int) := by omega
        have HA := Lib.hid hia
        have HB := Lib.hid hib
        clear hia hib
        by_cases he : x = y
        · have hd : decide (x = y) = true := decide_eq_true he
          have HE := Lib.hid he
          clear he
          have HC : ∀ m, Calls Tryz.prog 34 #[ua, ub] (w.drewN m) (Reads (.bool true) (w.drewN m)) := fun m => by
            have := sameInts_any (w.drewN m) ua ub x y HA.out HB.out
            rw [hd] at this
            exact this
          have HC' := Lib.hid HC
          clear HC hd
          go_wp2_with fail
          go_quiet ((go_at_call 34; exact reads_add (HC'.out _)))
          go_wp2
          go_roundw
          case rel => exact ⟨k + 1, _, by omega, by go_num, Lib.hid (take_eq_succ (d := []) (HN.out.symm.trans HN2.out.symm) (by have := HN.out; omega) HT.out (HX.out.trans (HE.out.trans HY.out.symm))), rfl⟩
          case measure => simp [intOf]; omega
        · have hd : decide (x = y) = false := decide_eq_false he
          have HE : Hid (¬ x = y) := Lib.hid he
          clear he
          have HC : ∀ m, Calls Tryz.prog 34 #[ua, ub] (w.drewN m) (Reads (.bool false) (w.drewN m)) := fun m => by
            have := sameInts_any (w.drewN m) ua ub x y HA.out HB.out
            rw [hd] at this
            exact this
          have HC' := Lib.hid HC
          clear HC hd
          go_wp2_with fail
          go_quiet ((go_at_call 34; exact reads_add (HC'.out _)))
          go_wp2
          go_ret
          exact reads_mk2 (by symm; exact decide_eq_false (ne_of_getD (d := []) (k := k) (fun h => HE.out (HX.out.symm.trans (h.trans HY.out)))))
      · go_wp2
        go_ret
        exact reads_mk (by symm; exact decide_eq_true (eq_of_take (HN.out.symm.trans HN2.out.symm) (by have := HN.out; omega) HT.out))
  · have hne : ((xs.length : Int) != (ys.length : Int)) = true := by simp; omega
    have HL := Lib.hid hl
    clear hl
    go_enter Tryz.func18, Tryz.ntmps18
    go_wp2
    go_ret
    exact reads_mk0 (by symm; exact decide_eq_false (fun h => HL.out (by rw [h])))
end Go.Proofs.YthfdkenidfnmgaaGreat
namespace Go.Proofs.YthfdkenidfnmgaaGreat
open Go.ChangeShapes Go.WideShapes Go.ChangeAt Go.RowKit
set_option linter.unusedVariables false
set_option linter.unusedSimpArgs false
set_option maxRecDepth 100000
theorem IsW.of_blocks {w w' : World} {B0 B1 : Nat} {v : Value} {xs : List IV} (h : IsW w B0 B1 v xs) (e : ∀ b, B0 ≤ b → b < B1 → w'.heap[b]? = w.heap[b]?) : IsW w' B0 B1 v xs := by
  obtain ⟨a, cap, rfl, h1, h2, h3⟩ := h
  refine ⟨a, cap, rfl, h1, h2, fun i hi => ?_⟩
  obtain ⟨g, p, ea, hg0, hg1, hf⟩ := h3 i hi
  exact ⟨g, p, ea, hg0, hg1, hf.block (e g hg0 hg1)⟩
theorem CsW.of_blocks {w w' : World} {B0 B1 : Nat} {v : Value} {xs : List CV} (h : CsW w B0 B1 v xs) (e : ∀ b, B0 ≤ b → b < B1 → w'.heap[b]? = w.heap[b]?) : CsW w' B0 B1 v xs := by
  obtain ⟨a, cap, rfl, h1, h2, h3⟩ := h
  refine ⟨a, cap, rfl, h1, h2, fun i hi => ?_⟩
  obtain ⟨g, p, ea, hg0, hg1, hf⟩ := h3 i hi
  exact ⟨g, p, ea, hg0, hg1, hf.block (e g hg0 hg1)⟩
theorem EsW.of_blocks {w w' : World} {B0 B1 : Nat} {v : Value} {es : List EV} (h : EsW w B0 B1 v es) (e : ∀ b, B0 ≤ b → b < B1 → w'.heap[b]? = w.heap[b]?) : EsW w' B0 B1 v es := by
  obtain ⟨a, cap, A, C, rfl, h1, h2, h3, h4⟩ := h
  exact ⟨a, cap, A, C, rfl, h1, h2, h3.of_blocks e, h4.of_blocks e⟩
theorem KsW.chg {lo hi : Nat} {w w' : World} {B0 B1 B2 B3 B4 : Nat} {vm vi ve vc : Value} {K : KV} (h : KsW w B0 B1 B2 B3 B4 vm vi ve vc K) (c : Chg lo hi w w') (h0 : B0 ≤ B1) (h1 : B1 ≤ B2) (h2 : B2 ≤ B3) (h3 : B3 ≤ B4) (hB : B4 ≤ w.heap.size) (hh : B4 ≤ lo ∨ hi ≤ B0) : KsW w' B0 B1 B2 B3 B4 vm vi ve vc K :=
  ⟨h.m.chg c (by omega) (by omega), h.i.chg c (by omega) (by omega), h.e.chg c (by omega) (by omega), h.c.chg c (by omega) (by omega)⟩
end Go.Proofs.YthfdkenidfnmgaaGreat
namespace Go.Proofs.YthfdkenidfnmgaaGreat
open Go.ChangeShapes Go.WideShapes Go.ChangeAt Go.RowKit
set_option linter.unusedVariables false
set_option maxRecDepth 100000
theorem four_alloc (w : World) (x : CV) (t : TypeId) : Four (w.alloc (.cells #[.int .i64 x.e, .int .i64 x.p, .int .i64 x.f, .bool x.b] t)) w.heap.size 0 x := ⟨new_cell rfl, new_cell rfl, new_cell rfl, new_cell rfl⟩
theorem Four.drew {w : World} {b o : Nat} {x : CV} (h : Four w b o x) : Four w.drew b o x := ⟨h.c0, h.c1, h.c2, h.c3⟩
end Go.Proofs.YthfdkenidfnmgaaGreat
namespace Go.Proofs.YthfdkenidfnmgaaGreat
open Go.ChangeShapes Go.WideShapes Go.ChangeAt Go.RowKit
set_option linter.unusedVariables false
set_option maxRecDepth 100000
def rlist (A : Nat → CV) (f c : Nat) : List CV := (List.range c).map (fun i => A ((f + i) % 4))
def upd (A : Nat → CV) (k : Nat) (x : CV) (j : Nat) : CV := if j = k then x else A j
theorem rlist_len (A : Nat → CV) (f c : Nat) : (rlist A f c).length = c := by simp [rlist]
theorem rlist_get (A : Nat → CV) (f c : Nat) {i : Nat} (h : i < c) : (rlist A f c).getD i c0 = A ((f + i) % 4) := by
  rw [getD_lt (by rw [rlist_len]; exact h)]
  simp [rlist]
theorem rlist_snoc (A : Nat → CV) (f c : Nat) : rlist A f (c + 1) = rlist A f c ++ [A ((f + c) % 4)] := by
  unfold rlist
  rw [List.range_succ, List.map_append]
  rfl
theorem rlist_congr {A B : Nat → CV} {f c : Nat} (h : ∀ i, i < c → A ((f + i) % 4) = B ((f + i) % 4)) : rlist A f c = rlist B f c := by
  unfold rlist
  refine List.map_congr_left fun i hi => h i (List.mem_range.1 hi)
theorem push_room (A : Nat → CV) (f c : Nat) (x : CV) (hf : f < 4) (hc : c < 4) : rlist (upd A ((f + c) % 4) x) f (c + 1) = rlist A f c ++ [x] := by
  rw [rlist_snoc]
  congr 1
  · exact rlist_congr fun i hi => by unfold upd; rw [if_neg (by omega)]
  · unfold upd; rw [if_pos rfl]
theorem rlist_drop (A : Nat → CV) (f c : Nat) : rlist A ((f + 1) % 4) (c - 1) = (rlist A f c).drop 1 := by
  refine List.ext_getElem (by rw [List.length_drop, rlist_len, rlist_len]) fun i h1 h2 => ?_
  rw [rlist_len] at h1
  simp only [rlist, List.getElem_map, List.getElem_range, List.getElem_drop]
  congr 1
  omega
theorem push_full (A : Nat → CV) (f : Nat) (x : CV) (hf : f < 4) : rlist (upd A f x) ((f + 1) % 4) 4 = (rlist A f 4).drop 1 ++ [x] := by
  have h := push_room A ((f + 1) % 4) 3 x (by omega) (by omega)
  rw [show ((f + 1) % 4 + 3) % 4 = f by omega] at h
  rw [h, show (3 : Nat) = 4 - 1 from rfl, rlist_drop]
def rput (l : List CV) (x : CV) : List CV := if 4 ≤ l.length then l.drop 1 ++ [x] else l ++ [x]
end Go.Proofs.YthfdkenidfnmgaaGreat
namespace Go.Proofs.YthfdkenidfnmgaaGreat
open Go.ChangeShapes Go.WideShapes Go.ChangeAt Go.RowKit
set_option linter.unusedVariables false
set_option maxRecDepth 100000
def ringC (A : Nat → CV) (f c : Nat) : List Value := cvC (A 0) ++ cvC (A 1) ++ cvC (A 2) ++ cvC (A 3) ++ [.int .i64 (f : Int), .int .i64 (c : Int)]
theorem ringC_len (A : Nat → CV) (f c : Nat) : (ringC A f c).length = 18 := rfl
theorem ringC_one (A : Nat → CV) (f c : Nat) : (ringC A f c).toArray.all (·.oneCell') = true := by simp [ringC, cvC, Value.oneCell']
abbrev ringV (A : Nat → CV) (f c : Nat) : Value := .agg (ringC A f c).toArray
structure Ring (w : World) (b : Nat) (A : Nat → CV) (f c : Nat) : Prop where
  at4 : ∀ i, i < 4 → FourW w b (i * 4) (A i)
  cf : w.cell? ⟨b, 16, none⟩ = some (.int .i64 (f : Int))
  cc : w.cell? ⟨b, 17, none⟩ = some (.int .i64 (c : Int))
  ff : w.frozen? ⟨b, 16, none⟩ = false
  fc : w.frozen? ⟨b, 17, none⟩ = false
theorem Ring.range {w : World} {b : Nat} {A : Nat → CV} {f c : Nat} (h : Ring w b A f c) : w.rangeAt b 0 (ringC A f c) := by
  obtain ⟨h4, hf, hc, _, _⟩ := h
  have q : ∀ i, i < 4 → w.rangeAt b (i * 4) (cvC (A i)) := fun i hi j v hv => by
    have hj : j < 4 := (List.getElem?_eq_some_iff.1 hv).1
    have hx := (h4 i hi).at4
    obtain rfl | rfl | rfl | rfl : j = 0 ∨ j = 1 ∨ j = 2 ∨ j = 3 := by omega
    · cases hv; exact hx.c0
    · cases hv; exact hx.c1
    · cases hv; exact hx.c2
    · cases hv; exact hx.c3
  have q2 : w.rangeAt b 16 [.int .i64 (f : Int), .int .i64 (c : Int)] := fun j v hv => by
    have hj : j < 2 := (List.getElem?_eq_some_iff.1 hv).1
    obtain rfl | rfl : j = 0 ∨ j = 1 := by omega
    · cases hv; exact hf
    · cases hv; exact hc
  exact range_append (range_append (range_append (range_append (q 0 (by omega)) (q 1 (by omega)) rfl) (q 2 (by omega)) rfl) (q 3 (by omega)) rfl) q2 rfl
theorem Ring.there {w : World} {b : Nat} {A : Nat → CV} {f c : Nat} (h : Ring w b A f c) : w.there b 0 18 := fun j hj => by
  rw [Nat.zero_add]
  by_cases h1 : j < 16
  · have := (h.at4 (j / 4) (by omega)).there (j % 4) (by omega)
    rwa [show j / 4 * 4 + j % 4 = j by omega] at this
  · obtain rfl | rfl : j = 16 ∨ j = 17 := by omega
    · exact ⟨by rw [h.cf]; rfl, h.ff⟩
    · exact ⟨by rw [h.cc]; rfl, h.fc⟩
theorem Ring.block {w w' : World} {b : Nat} {A : Nat → CV} {f c : Nat} (h : Ring w b A f c) (e : w'.heap[b]? = w.heap[b]?) : Ring w' b A f c :=
  ⟨fun i hi => (h.at4 i hi).block e, (World.cell?_of_block e).trans h.cf, (World.cell?_of_block e).trans h.cc, (World.frozen?_of_block e).trans h.ff, (World.frozen?_of_block e).trans h.fc⟩
theorem Ring.drew {w : World} {b : Nat} {A : Nat → CV} {f c : Nat} (h : Ring w b A f c) : Ring w.drew b A f c := ⟨fun i hi => ⟨⟨(h.at4 i hi).at4.c0, (h.at4 i hi).at4.c1, (h.at4 i hi).at4.c2, (h.at4 i hi).at4.c3⟩, (h.at4 i hi).fr⟩, h.cf, h.cc, h.ff, h.fc⟩
theorem Ring.of_range {w : World} {b : Nat} {A : Nat → CV} {f c : Nat} (h : w.rangeAt b 0 (ringC A f c)) (ht : w.there b 0 18) : Ring w b A f c := by
  have q : ∀ j, j < 18 → w.frozen? ⟨b, j, none⟩ = false := fun j hj => by have := (ht j hj).2; rwa [Nat.zero_add] at this
  have r : ∀ j v, (ringC A f c)[j]? = some v → w.cell? ⟨b, j, none⟩ = some v := fun j v hv => by have := h j v hv; rwa [Nat.zero_add] at this
  refine ⟨fun i hi => ⟨?_, fun j hj => q _ (by omega)⟩, r 16 _ rfl, r 17 _ rfl, q 16 (by omega), q 17 (by omega)⟩
  obtain rfl | rfl | rfl | rfl : i = 0 ∨ i = 1 ∨ i = 2 ∨ i = 3 := by omega
  · exact ⟨r 0 _ rfl, r 1 _ rfl, r 2 _ rfl, r 3 _ rfl⟩
  · exact ⟨r 4 _ rfl, r 5 _ rfl, r 6 _ rfl, r 7 _ rfl⟩
  · exact ⟨r 8 _ rfl, r 9 _ rfl, r 10 _ rfl, r 11 _ rfl⟩
  · exact ⟨r 12 _ rfl, r 13 _ rfl, r 14 _ rfl, r 15 _ rfl⟩
theorem Ring.boxed (w : World) (A : Nat → CV) (f c : Nat) (t : TypeId) : Ring (w.alloc (.cells (ringC A f c).toArray t)) w.heap.size A f c :=
  Ring.of_range (range_row (heap_alloc_new w _)) (there_row (heap_alloc_new w _) (by simp [ringC, cvC]))
theorem Ring.stored {w : World} {b : Nat} {A : Nat → CV} {f c : Nat} (h : w.there b 0 18) : Ring (w.setCells b 0 (ringC A f c)) b A f c :=
  Ring.of_range (World.rangeAt_setCells_same w b 0 (ringC A f c) h) (fun j hj => by
    have h2 := World.rangeAt_setCells_same w b 0 (ringC A f c) h j ((ringC A f c)[j]) (List.getElem?_eq_getElem (by rw [ringC_len]; exact hj))
    rw [h2, World.frozen?_setCells]
    exact ⟨rfl, (h j hj).2⟩)
theorem Ring.lt {w : World} {b : Nat} {A : Nat → CV} {f c : Nat} (h : Ring w b A f c) : b < w.heap.size := block_lt_of_cell h.cf
def RV (v : Value) (l : List CV) : Prop := ∃ A f c, v = ringV A f c ∧ f < 4 ∧ c ≤ 4 ∧ rlist A f c = l
def A0 : Nat → CV := fun _ => c0
theorem ringC_zero : (ringC A0 0 0).toArray = #[.int .i64 0, .int .i64 0, .int .i64 0, .bool false, .int .i64 0, .int .i64 0, .int .i64 0, .bool false, .int .i64 0, .int .i64 0, .int .i64 0, .bool false, .int .i64 0, .int .i64 0, .int .i64 0, .bool false, .int .i64 0, .int .i64 0] := rfl
theorem RV.zero : RV (ringV A0 0 0) [] := ⟨A0, 0, 0, rfl, by omega, by omega, rfl⟩
set_option maxRecDepth 100000 in
theorem slot_any (w : World) (A : Nat → CV) (f c : Nat) (k : Nat) (hf : f < 4) (hk : k ≤ 4) :
    Calls Tryz.prog 44 #[ringV A f c, .int .i64 (k : Int)] w fun e w' => e = .returned (.int .i64 (((f + k) % 4 : Nat) : Int)) ∧ Below w.heap.size w w' := by
  obtain ⟨R, hR⟩ : ∃ R, R = ringC A f c := ⟨_, rfl⟩
  have hRng := Ring.boxed w A f c 65
  have hcf := hRng.cf
  have HB := Lib.hid ((Below.refl w.heap.size w).alloc (Nat.le_refl _) (.cells (ringC A f c).toArray 65))
  unfold ringV
  rw [← hR] at hcf HB ⊢
  clear hR hRng
  go_enter Tryz.func44, Tryz.ntmps44
  go_wp2_with ((with_reducible refine box_is _ (.tmp 0) ?_); refine box_arr _ (.tmp 0) R.toArray rfl ?_)
  go_ret
  refine ⟨?_, HB.out⟩
  have e : (((f + k) % 4 : Nat) : Int) = ((f : Int) + (k : Int)) % 4 := by omega
  rw [e]
  rfl
theorem below_anyC (w : World) (x lim : Int) : Calls Tryz.prog 52 #[.int .i64 x, .int .i64 lim] w fun e w' => e = .returned (.bool (inR x 0 (lim - 1))) ∧ w = w' := by
  obtain ⟨b, hb⟩ : ∃ b, b = inR x 0 (lim - 1) := ⟨_, rfl⟩
  rw [← hb]
  unfold inR at hb
  have HB := Lib.hid hb
  clear hb
  by_cases h0 : 0 ≤ x
  · by_cases h1 : x < lim
    · have e : Hid (b = true) := Lib.hid (by rw [HB.out]; exact decide_eq_true ⟨h0, by omega⟩)
      go_enter Tryz.func52, Tryz.ntmps52
      go_wp2
      go_ret
      exact ⟨by rw [e.out]; rfl, rfl⟩
    · have e : Hid (b = false) := Lib.hid (by rw [HB.out]; exact decide_eq_false (fun h => h1 (by omega)))
      have h1' : decide (x < lim) = false := by simpa using h1
      clear h1
      go_enter Tryz.func52, Tryz.ntmps52
      go_wp2
      go_ret
      exact ⟨by rw [e.out]; rfl, rfl⟩
  · have e : Hid (b = false) := Lib.hid (by rw [HB.out]; exact decide_eq_false (fun h => h0 h.1))
    have h0' : decide (0 ≤ x) = false := by simpa using h0
    clear h0
    go_enter Tryz.func52, Tryz.ntmps52
    go_wp2
    go_ret
    exact ⟨by rw [e.out]; rfl, rfl⟩
set_option maxRecDepth 100000 in
theorem valid_anyC (w : World) (x : CV) : Calls Tryz.prog 47 #[cvV x] w (BoolResC w (cvOk x)) := by
  obtain ⟨xe, xp, xf, xb⟩ := x
  unfold cvOk
  have hB : Below w.heap.size w (w.alloc (.cells #[.int .i64 xe, .int .i64 xp, .int .i64 xf, .bool xb] 62)) := (Below.refl _ _).alloc (Nat.le_refl _) _
  have H1 : ∀ w, Calls Tryz.prog 52 #[.int .i64 xe, .int .i64 3] w fun e w' => e = .returned (.bool (inR xe 0 2)) ∧ w = w' := fun w => below_anyC w xe 3
  have H2 : ∀ w, Calls Tryz.prog 52 #[.int .i64 xp, .int .i64 16] w fun e w' => e = .returned (.bool (inR xp 0 15)) ∧ w = w' := fun w => below_anyC w xp 16
  have H3 : ∀ w, Calls Tryz.prog 52 #[.int .i64 xf, .int .i64 12] w fun e w' => e = .returned (.bool (inR xf 0 11)) ∧ w = w' := fun w => below_anyC w xf 12
  have HB := Lib.hid hB
  clear hB
  cases h1 : inR xe 0 2
  · rw [h1] at H1
    clear h1
    go_enter Tryz.func47, Tryz.ntmps47
    go_wp2_with fail
    refine (H1 _).mono ?_
    rintro e w' ⟨rfl, rfl⟩
    go_wp2
    go_ret
    exact ⟨rfl, HB.out⟩
  · rw [h1] at H1
    clear h1
    cases h2 : inR xp 0 15
    · rw [h2] at H2
      clear h2
      go_enter Tryz.func47, Tryz.ntmps47
      go_wp2_with fail
      refine (H1 _).mono ?_
      rintro e w' ⟨rfl, rfl⟩
      go_wp2_with fail
      refine (H2 _).mono ?_
      rintro e w' ⟨rfl, rfl⟩
      go_wp2
      go_ret
      exact ⟨rfl, HB.out⟩
    · rw [h2] at H2
      clear h2
      go_enter Tryz.func47, Tryz.ntmps47
      go_wp2_with fail
      refine (H1 _).mono ?_
      rintro e w' ⟨rfl, rfl⟩
      go_wp2_with fail
      refine (H2 _).mono ?_
      rintro e w' ⟨rfl, rfl⟩
      go_wp2_with fail
      refine (H3 _).mono ?_
      rintro e w' ⟨rfl, rfl⟩
      go_wp2
      go_ret
      exact ⟨rfl, HB.out⟩
set_option maxRecDepth 100000 in
theorem isOf_any (w : World) (x : CV) (n p : Int) : Calls Tryz.prog 68 #[cvV x, .int .i64 n, .int .i64 p] w (BoolResC w (same x n p)) := by
  obtain ⟨xe, xp, xf, xb⟩ := x
  unfold same
  dsimp only
  have hB : Below w.heap.size w (w.alloc (.cells #[.int .i64 xe, .int .i64 xp, .int .i64 xf, .bool xb] 62)) := (Below.refl _ _).alloc (Nat.le_refl _) _
  have HB := Lib.hid hB
  clear hB
  obtain ⟨b, hb⟩ : ∃ b, b = decide (xe = n ∧ xp = p) := ⟨_, rfl⟩
  rw [← hb]
  have HBB := Lib.hid hb
  clear hb
  by_cases h1 : xe = n
  · have e1 : (xe == n) = true := by simpa using h1
    by_cases h2 : xp = p
    · have e2 : (xp == p) = true := by simpa using h2
      have HR : Hid (b = true) := Lib.hid (by rw [HBB.out]; exact decide_eq_true ⟨h1, h2⟩)
      clear h1 h2
      go_enter Tryz.func68, Tryz.ntmps68
      go_wp2
      go_ret
      exact ⟨by rw [HR.out]; rfl, HB.out⟩
    · have e2 : (xp == p) = false := by simpa using h2
      have HR : Hid (b = false) := Lib.hid (by rw [HBB.out]; exact decide_eq_false (fun h => h2 h.2))
      clear h1 h2
      go_enter Tryz.func68, Tryz.ntmps68
      go_wp2
      go_ret
      exact ⟨by rw [HR.out]; rfl, HB.out⟩
  · have e1 : (xe == n) = false := by simpa using h1
    have HR : Hid (b = false) := Lib.hid (by rw [HBB.out]; exact decide_eq_false (fun h => h1 h.1))
    clear h1
    go_enter Tryz.func68, Tryz.ntmps68
    go_wp2
    go_ret
    exact ⟨by rw [HR.out]; rfl, HB.out⟩
end Go.Proofs.YthfdkenidfnmgaaGreat
namespace Go.Proofs.YthfdkenidfnmgaaGreat
open Go.ChangeShapes Go.WideShapes Go.ChangeAt Go.RowKit
set_option linter.unusedVariables false
set_option maxRecDepth 100000
def findL (l : List CV) (e p : Int) : FV := if 0 ≤ fnd l e p then ⟨l.getD (fnd l e p).toNat c0, true⟩ else ⟨c0, false⟩
theorem findL_no {l : List CV} {e p : Int} (h : ∀ j, j < l.length → same (l.getD j c0) e p = false) : findL l e p = ⟨c0, false⟩ := by
  unfold findL
  rw [fnd_no h, if_neg (by omega)]
theorem findL_yes {l : List CV} {e p : Int} {k : Nat} (hk : k < l.length) (hy : same (l.getD k c0) e p = true) (h : ∀ j, j < k → same (l.getD j c0) e p = false) : findL l e p = ⟨l.getD k c0, true⟩ := by
  unfold findL
  rw [fnd_yes hk hy h, if_pos (by omega)]
  rfl
theorem ring_info {L : List Value} (h : L.length = 18) : (Tryz.prog.info? 65).map (·.size) = some L.length := by rw [h]; kernel_rfl
theorem fourW_row {w : World} {b : Nat} {x : CV} {t : TypeId} (h : w.heap[b]? = some (.cells #[.int .i64 x.e, .int .i64 x.p, .int .i64 x.f, .bool x.b] t (0, 0))) : FourW w b 0 x :=
  ⟨⟨(cell_of_row w b _ _ t (0, 0) h).trans rfl, (cell_of_row w b _ _ t (0, 0) h).trans rfl, (cell_of_row w b _ _ t (0, 0) h).trans rfl, (cell_of_row w b _ _ t (0, 0) h).trans rfl⟩, fun j hj => frozen_of_row w b _ _ t h⟩
set_option maxRecDepth 100000 in
set_option maxHeartbeats 1000000 in
theorem ringFind_any (w : World) (A : Nat → CV) (f c : Nat) (e p : Int) (hf : f < 4) (hc : c ≤ 4) :
    Calls Tryz.prog 46 #[ringV A f c, .int .i64 e, .int .i64 p] w (FindRes w (findL (rlist A f c) e p)) := by
  obtain ⟨R, HR⟩ : ∃ R, Hid (R = findL (rlist A f c) e p) := ⟨_, Lib.hid rfl⟩
  rw [← HR.out]
  have HSL := Lib.hid (fun w k hk => slot_any w A f c k hf hk)
  have HLE := Lib.hid (rlist_len A f c)
  have HGE := Lib.hid (fun i (hi : i < c) => rlist_get A f c hi)
  unfold ringV at HSL ⊢
  obtain ⟨L, hL⟩ : ∃ L, L = ringC A f c := ⟨_, rfl⟩
  have HLL : Hid (L.length = 18) := Lib.hid (by rw [hL]; rfl)
  have hL17 : L[17]? = some (.int .i64 (c : Int)) := by rw [hL]; rfl
  have HRG0 : Hid (Ring (w.alloc (.cells L.toArray 65)) w.heap.size A f c) := Lib.hid (by rw [hL]; exact Ring.boxed w A f c _)
  rw [← hL] at HSL ⊢
  have HL := Lib.hid hL
  clear hL
  go_enter Tryz.func46, Tryz.ntmps46
  go_wp2_with ((with_reducible refine box_is _ (.tmp 0) ?_); refine box_arr _ (.tmp 0) L.toArray rfl ?_)
  obtain ⟨X, hX⟩ : ∃ X, w.heap.size = X := ⟨_, rfl⟩
  obtain ⟨w0, hw0⟩ : ∃ w0, (w.alloc (.cells L.toArray 65)).alloc (.cells #[.int .i64 0, .int .i64 0, .int .i64 0, .bool false] 62) = w0 := ⟨_, rfl⟩
  have HRG : Hid (Ring w0 X A f c) := Lib.hid (by rw [← hw0, ← hX]; exact HRG0.out.block (heap_alloc_old _ _ (by simp)))
  have HZ : Hid (FourW w0 (X + 1) 0 c0) := Lib.hid (by
    rw [← hw0, ← hX]
    have h := heap_alloc_new (w.alloc (.cells L.toArray 65)) (.cells #[.int .i64 0, .int .i64 0, .int .i64 0, .bool false] 62)
    rw [World.size_alloc] at h
    exact fourW_row h)
  have HB : Hid (Below X w w0) := Lib.hid (by rw [← hw0, ← hX]; exact ((Below.refl _ _).alloc (Nat.le_refl _) _).alloc (by simp) _)
  have HS : Hid (X + 2 ≤ w0.heap.size) := Lib.hid (by rw [← hw0, ← hX]; simp)
  have HXW := Lib.hid hX
  simp only [hX, hw0]
  clear hw0 HRG0 hX
  have HUN := Lib.hid (show X + 1 = X + 1 from rfl)
  go_loopw [12] (fun i wr => ∃ k : Nat, k ≤ c ∧ i = .int .i64 k ∧ Hid (Ring wr X A f c) ∧ Hid (FourW wr (X + 1) 0 c0) ∧ Hid (Below X w wr) ∧ Hid (X + 2 ≤ wr.heap.size) ∧ Hid (∀ j, j < k → same ((rlist A f c).getD j c0) e p = false)) (fun i _ => c - (intOf i).toNat)
  case atStart => exact ⟨0, Nat.zero_le _, rfl, HRG, HZ, HB, HS, Lib.hid (fun j hj => by omega)⟩
  case round =>
    obtain ⟨k, hk, rfl, HRG, HZ, HB, HS, HNO⟩ := hrel
    have HRR := Lib.hid HRG.out.range
    by_cases hlt : k < c
    · have hlt' : (k : Int) < (c : Int) := by omega
      go_wp2_with (first | ((with_reducible refine load_is 65 (.tmp 3) ?_); refine load_arr 65 (.tmp 3) X 0 L _ rfl (by rw [HL.out]; exact HRR.out) Tryz.underlying65 rfl (ring_info HLL.out) ?_) | fail)
      refine (HSL.out _ k (by omega)).mono ?_
      rintro en w1 ⟨rfl, hb1⟩
      obtain ⟨s, hs⟩ : ∃ s, s = (f + k) % 4 := ⟨_, rfl⟩
      have hs4 : (s : Int) < 4 := by omega
      have hs4n : s < 4 := by omega
      obtain ⟨x, hx⟩ : ∃ x, x = A s := ⟨_, rfl⟩
      have HX : Hid (x = (rlist A f c).getD k c0) := Lib.hid (by rw [hx, hs]; exact (HGE.out k hlt).symm)
      have hbl := HRG.out.lt
      have hf4 := ((HRG.out.at4 s hs4n).block (hb1.block _ hbl)).at4
      rw [← hx] at hf4
      obtain ⟨g0, g1, g2, g3⟩ := hf4
      rw [← hs]
      have HBS := Lib.hid hb1
      clear hs hx hb1
      go_wp2_with fail
      obtain ⟨Y, hY⟩ : ∃ Y, w1.heap.size = Y := ⟨_, rfl⟩
      obtain ⟨w2, hw2⟩ : ∃ w2, w1.alloc (.cells #[.int .i64 x.e, .int .i64 x.p, .int .i64 x.f, .bool x.b] 62) = w2 := ⟨_, rfl⟩
      have hb2 : Below wr.heap.size wr w2 := by rw [← hw2]; exact HBS.out.alloc HBS.out.size _
      have HYX : Hid (X + 2 ≤ Y) := Lib.hid (by rw [← hY]; exact Nat.le_trans HS.out HBS.out.size)
      have HF2 : Hid (FourW w2 Y 0 x ∧ Y < w2.heap.size) := Lib.hid (by
        rw [← hw2, ← hY]
        exact ⟨fourW_row (heap_alloc_new w1 (.cells #[.int .i64 x.e, .int .i64 x.p, .int .i64 x.f, .bool x.b] 62)), by simp⟩)
      have HBS2 := Lib.hid hb2
      simp only [hY, hw2]
      clear hw2 hY hb2 HBS g0 g1 g2 g3
      refine (isOf_any w2 x e p).mono ?_
      rintro en w3 ⟨rfl, hb3⟩
      have HB3 : Hid (Below wr.heap.size wr w3) := Lib.hid (HBS2.out.trans (hb3.mono HBS2.out.size))
      have HF3 : Hid (FourW w3 Y 0 x) := Lib.hid (HF2.out.1.block (hb3.block _ HF2.out.2))
      have HRG3 : Hid (Ring w3 X A f c) := Lib.hid (HRG.out.block (HB3.out.block _ (by have := HS.out; omega)))
      have HZ3 : Hid (FourW w3 (X + 1) 0 c0) := Lib.hid (HZ.out.block (HB3.out.block _ (by have := HS.out; omega)))
      have HBB3 : Hid (Below X w w3) := Lib.hid (HB.out.trans (HB3.out.mono (by have := HS.out; omega)))
      have HS3 : Hid (X + 2 ≤ w3.heap.size) := Lib.hid (Nat.le_trans HS.out HB3.out.size)
      clear hb3 HB3 HBS2 HF2
      cases hsm : same x e p
      · have HN2 : Hid (∀ j, j < k + 1 → same ((rlist A f c).getD j c0) e p = false) := Lib.hid (fun j hj => by
          by_cases hjk : j < k
          · exact HNO.out j hjk
          · obtain rfl : j = k := by omega
            rw [← HX.out]; exact hsm)
        clear hsm
        go_wp2
        go_roundw
        case rel => exact ⟨k + 1, by omega, by go_num, HRG3, HZ3, HBB3, HS3, HN2⟩
        case measure => simp [intOf]; omega
      · have HR2 : Hid (R = ⟨x, true⟩) := Lib.hid (by
          rw [HR.out, HX.out]
          exact findL_yes (by rw [HLE.out]; exact hlt) (by rw [← HX.out]; exact hsm) HNO.out)
        clear hsm
        obtain ⟨q0, q1, q2, q3⟩ := HF3.out.at4
        rw [Nat.zero_add] at q1 q2 q3
        have HT := Lib.hid HZ3.out.there
        go_wp2_with (first | ((with_reducible refine store_is 62 (.tmp 6) (.tmp 25) ?_); refine store_arr 62 (.tmp 6) (.tmp 25) (X + 1) 0 #[.int .i64 x.e, .int .i64 x.p, .int .i64 x.f, .bool x.b] rfl rfl HT.out (by kernel_rfl) (by simp [Value.oneCell']) ?_) | fail)
        refine bodyPost_ret (results_cell_mid rfl _ _ (X + 1) 0 [.int .i64 x.e, .int .i64 x.p, .int .i64 x.f, .bool x.b] _ rfl (World.rangeAt_setCells_same _ _ _ _ HT.out) Tryz.underlying62 rfl (by kernel_rfl)) rfl ?_
        rw [HR2.out]
        exact ⟨rfl, by rw [HXW.out]; exact Below.setCells HBB3.out _ (by omega) _ _ _ HBB3.out⟩
    · have ek : k = c := by omega
      subst ek
      have HR2 : Hid (R = ⟨c0, false⟩) := Lib.hid (by
        rw [HR.out]
        exact findL_no (fun j hj => HNO.out j (by rw [HLE.out] at hj; exact hj)))
      have HT := Lib.hid HZ.out.there
      go_wp2_with (first | ((with_reducible refine store_is 62 (.tmp 6) (.tmp 27) ?_); refine store_arr 62 (.tmp 6) (.tmp 27) (X + 1) 0 #[.int .i64 0, .int .i64 0, .int .i64 0, .bool false] rfl rfl HT.out (by kernel_rfl) (by kernel_rfl) ?_) | fail)
      refine bodyPost_ret (results_cell_mid rfl _ _ (X + 1) 0 [.int .i64 0, .int .i64 0, .int .i64 0, .bool false] _ rfl (World.rangeAt_setCells_same _ _ _ _ HT.out) Tryz.underlying62 rfl (by kernel_rfl)) rfl ?_
      rw [HR2.out]
      exact ⟨rfl, by rw [HXW.out]; exact Below.setCells HB.out _ (by omega) _ _ _ HB.out⟩
end Go.Proofs.YthfdkenidfnmgaaGreat
namespace Go.Proofs.YthfdkenidfnmgaaGreat
open Go.ChangeShapes Go.WideShapes Go.ChangeAt Go.RowKit
set_option linter.unusedVariables false
set_option maxRecDepth 100000
theorem OwnC.made {w w' : World} {n : Nat} (h : w'.ownsRow w.heap.size 62 4 (.slice (some ⟨w.heap.size, 0, none⟩) 0 n) 0 []) (hg : w.grownBy w' none) : OwnC w (.slice (some ⟨w.heap.size, 0, none⟩) 0 n) [] w' :=
  ⟨h, (Below.refl _ _).grown hg (Nat.le_refl _) (fun k e => by cases e), fun h => by cases h⟩
theorem OwnC.later {w w1 w2 : World} {v : Value} {ys : List CV} (h : OwnC w v ys w1) (hb : Below w1.heap.size w1 w2) : OwnC w v ys w2 :=
  ⟨by
    refine ⟨h.own.1, ?_⟩
    rcases h.own.2 with hn | ⟨g, cap, cur, e, hg, hbl, rest⟩
    · exact .inl hn
    · exact .inr ⟨g, cap, cur, e, hg, (hb.block _ (Array.getElem?_eq_some_iff.1 hbl).1).trans hbl, rest⟩, h.bel.trans (hb.mono h.bel.size), h.nn⟩
set_option maxRecDepth 100000 in
set_option maxHeartbeats 1000000 in
theorem ringList_any (w : World) (A : Nat → CV) (f c : Nat) (hf : f < 4) (hc : c ≤ 4) :
    Calls Tryz.prog 32 #[ringV A f c] w (NewC (rlist A f c) w) := by
  obtain ⟨i0, hi, hz0, hz1, hz2⟩ := info_parts cvInfo
  have HI := Lib.hid hi
  have HZ0 := Lib.hid hz0
  have HZ1 := Lib.hid hz1
  have HZ2 := Lib.hid hz2
  clear hi hz0 hz1 hz2
  obtain ⟨R, HR⟩ : ∃ R, Hid (R = rlist A f c) := ⟨_, Lib.hid rfl⟩
  rw [← HR.out]
  have HSL := Lib.hid (fun w k hk => slot_any w A f c k hf hk)
  have HSN := Lib.hid (fun k => rlist_snoc A f k)
  have HLN := Lib.hid (fun k => rlist_len A f k)
  unfold ringV at HSL ⊢
  obtain ⟨L, hL⟩ : ∃ L, L = ringC A f c := ⟨_, rfl⟩
  have HLL : Hid (L.length = 18) := Lib.hid (by rw [hL]; rfl)
  have hL17 : L[17]? = some (.int .i64 (c : Int)) := by rw [hL]; rfl
  have HRG0 : Hid (Ring (w.alloc (.cells L.toArray 65)) w.heap.size A f c) := Lib.hid (by rw [hL]; exact Ring.boxed w A f c _)
  rw [← hL] at HSL ⊢
  have HL := Lib.hid hL
  clear hL
  go_enter Tryz.func32, Tryz.ntmps32
  go_wp2_with (first | ((with_reducible refine box_is _ (.tmp 0) ?_); refine box_arr _ (.tmp 0) L.toArray rfl ?_) | (at_make; refine wpList_make_own _ rfl (.const (.int .i64 0)) (.tmp 6) 28 rfl (w.heap.size + 1) 62 i0 (.agg #[.int .i64 0, .int .i64 0, .int .i64 0, .bool false]) 4 Tryz.underlying28 HI.out HZ0.out HZ1.out .i64 .i64 _ c rfl rfl rfl (by rw [HZ2.out]; omega) (by unfold maxLen; omega) (by simp) ?_; intro wm hown hgrow; have hcm : wm.cell? ⟨w.heap.size, 17, none⟩ = some (.int .i64 (c : Int)) := (World.cell?_of_block (hgrow.block _ (by simp) (by simp))).trans HRG0.out.cc) | fail)
  obtain ⟨X, hX⟩ : ∃ X, w.heap.size = X := ⟨_, rfl⟩
  obtain ⟨w0, hw0⟩ : ∃ w0, w.alloc (.cells L.toArray 65) = w0 := ⟨_, rfl⟩
  have hX1 : w0.heap.size = X + 1 := by rw [← hw0, ← hX]; simp
  have HRG : Hid (Ring w0 X A f c) := Lib.hid (by rw [← hw0, ← hX]; exact HRG0.out)
  have HBW : Hid (Below X w w0) := Lib.hid (by rw [← hw0, ← hX]; exact (Below.refl _ _).alloc (Nat.le_refl _) _)
  simp only [hX, hw0] at hown hgrow ⊢
  simp only [hX1] at hown ⊢
  have HST : Hid (OwnC w0 (.slice (some ⟨X + 1, 0, none⟩) 0 c) [] wm) := Lib.hid (by
    have h := @OwnC.made w0 wm c
    rw [hX1] at h
    exact h hown hgrow)
  have HXX := Lib.hid hX1
  have HXW := Lib.hid hX
  clear hown hgrow hX1 hX hw0 HRG0 hcm
  go_loopw [3, 10] (fun u i wr => ∃ k : Nat, k ≤ c ∧ i = .int .i64 k ∧ OwnC w0 u (rlist A f k) wr) (fun _ i _ => c - (intOf i).toNat)
  case atStart => exact ⟨0, Nat.zero_le _, rfl, HST.out⟩
  case round =>
    obtain ⟨k, hk, rfl, hrel⟩ := hrel
    have HREL := Lib.hid hrel
    clear hrel
    have HRGR : Hid (Ring wr X A f c) := Lib.hid (HRG.out.block (HREL.out.bel.block _ HRG.out.lt))
    have HRR := Lib.hid HRGR.out.range
    have HXR : Hid (X < wr.heap.size) := Lib.hid HRGR.out.lt
    by_cases hlt : k < c
    · have hlt' : (k : Int) < (c : Int) := by omega
      go_wp2_with (first | ((with_reducible refine load_is 65 (.tmp 1) ?_); refine load_arr 65 (.tmp 1) X 0 L _ rfl (by rw [HL.out]; exact HRR.out) Tryz.underlying65 rfl (ring_info HLL.out) ?_) | fail)
      refine (HSL.out _ k (by omega)).mono ?_
      rintro en w1 ⟨rfl, hb1⟩
      obtain ⟨s, hs⟩ : ∃ s, s = (f + k) % 4 := ⟨_, rfl⟩
      have hs4 : (s : Int) < 4 := by omega
      have hs4n : s < 4 := by omega
      obtain ⟨x, hx⟩ : ∃ x, x = A s := ⟨_, rfl⟩
      have HX : Hid (rlist A f (k + 1) = rlist A f k ++ [x]) := Lib.hid (by rw [HSN.out, hx, hs])
      have hf4 := ((HRGR.out.at4 s hs4n).block (hb1.block _ HXR.out)).at4
      rw [← hx] at hf4
      obtain ⟨g0, g1, g2, g3⟩ := hf4
      rw [← hs]
      have HOWN1 : Hid (OwnC w0 u3 (rlist A f k) w1) := Lib.hid (HREL.out.later hb1)
      clear hs hx hb1
      go_wp2_with (first | (at_builtin; refine wpList_append_own _ rfl (.tmp 13) (.tmp 20) 28 rfl w0.heap.size 62 i0 (.agg #[.int .i64 0, .int .i64 0, .int .i64 0, .bool false]) 4 32 Tryz.underlying28 HI.out HZ0.out HZ1.out HZ2.out rfl (by decide) _ _ _ rfl (HOWN1.out.own.alloc _) ⟨w1.heap.size, 0, none⟩ 1 1 (cvC x) rfl rfl (cell_four_new _ _ _) (by intro u hu; simp [cvC] at hu; rcases hu with rfl | rfl | rfl | rfl <;> rfl) (by rw [HLN.out]; unfold maxLen; omega) (by rw [HLN.out]; omega) (by have := HOWN1.out.bel.size; simp; omega) ?_; intro v2 w2 hown2 hgrow2 hnn2) | fail)
      have HR2 : Hid (OwnC w0 v2 (rlist A f (k + 1)) w2) := Lib.hid (by
        rw [HX.out]
        exact HOWN1.out.grow (zs := [x]) rfl (by rw [show csC [x] = cvC x from by simp [csC]]; exact hown2) hgrow2 (fun e => (hnn2.1 e).1))
      clear hown2 hgrow2 hnn2
      go_wp2
      go_roundw
      case rel => exact ⟨k + 1, by omega, by go_num, HR2.out⟩
      case measure => simp [intOf]; omega
    · have ek : k = c := by omega
      subst ek
      go_wp2
      go_ret
      refine ⟨_, rfl, ?_⟩
      rw [HR.out]
      exact HREL.out.from (by rw [HXW.out]; exact HBW.out)
end Go.Proofs.YthfdkenidfnmgaaGreat
namespace Go.Proofs.YthfdkenidfnmgaaGreat
open Go.ChangeShapes Go.WideShapes Go.ChangeAt Go.RowKit
set_option linter.unusedVariables false
set_option maxRecDepth 100000
set_option linter.unusedSimpArgs false
theorem Chg.trans {lo hi : Nat} {a b c : World} (h : Chg lo hi a b) (k : Chg lo hi b c) : Chg lo hi a c :=
  ⟨k.os.trans h.os, k.tape.trans h.tape, k.output.trans h.output, Nat.le_trans h.size k.size, fun i hi hb => (k.block i (Nat.lt_of_lt_of_le hi h.size) hb).trans (h.block i hi hb)⟩
theorem Chg.of_bel {lo hi : Nat} {w w' : World} (h : Below w.heap.size w w') : Chg lo hi w w' := ⟨h.os, h.tape, h.output, h.size, fun b hb _ => h.block b hb⟩
theorem chg_setCells (w : World) (b o : Nat) (vs : List Value) : Chg b (b + 1) w (w.setCells b o vs) := by
  have h := Below.setCells (Below.refl (b) w) b (Nat.le_refl _) vs o w (Below.refl _ _)
  exact ⟨h.os, h.tape, h.output, h.size, fun i _ hb => heap_setCells_other w b vs o w i (by omega)⟩
theorem chg_setCell (w : World) (b o : Nat) (v : Value) : Chg b (b + 1) w (w.setCell ⟨b, o, none⟩ v) := chg_setCells w b o [v]
theorem Four.below_chg {w w' : World} {lo hi b o : Nat} {x : CV} (h : Four w b o x) (hc : Chg lo hi w w') (hb : b < lo ∨ hi ≤ b) : Four w' b o x := by
  have e := hc.block b (block_lt_of_cell h.c0) hb
  exact ⟨(World.cell?_of_block e).trans h.c0, (World.cell?_of_block e).trans h.c1, (World.cell?_of_block e).trans h.c2, (World.cell?_of_block e).trans h.c3⟩
theorem cell_setCells_apart {w : World} {b o j : Nat} {vs : List Value} {v : Value} (h : w.cell? ⟨b, j, none⟩ = some v) (ha : j < o ∨ o + vs.length ≤ j) : (w.setCells b o vs).cell? ⟨b, j, none⟩ = some v := by
  have hr : w.rangeAt b j [v] := fun i u hu => by
    have hi : i < 1 := (List.getElem?_eq_some_iff.1 hu).1
    obtain rfl : i = 0 := by omega
    cases hu
    exact h
  exact World.rangeAt_setCells_apart hr b o vs (.inr (by simp; omega)) 0 _ rfl
theorem Ring.put {w : World} {b : Nat} {A : Nat → CV} {f c k : Nat} {x : CV} (h : Ring w b A f c) (hk : k < 4) : Ring (w.setCells b (k * 4) (cvC x)) b (upd A k x) f c := by
  refine ⟨fun i hi => ?_, cell_setCells_apart h.cf (by simp [cvC]; omega), cell_setCells_apart h.cc (by simp [cvC]; omega), ?_, ?_⟩
  · unfold upd
    by_cases hik : i = k
    · rw [if_pos hik, hik]
      exact FourW.stored (h.at4 k hk).there
    · rw [if_neg hik]
      exact (h.at4 i hi).apart (by simp [cvC]; omega)
  · rw [World.frozen?_setCells]; exact h.ff
  · rw [World.frozen?_setCells]; exact h.fc
theorem Ring.setF {w : World} {b : Nat} {A : Nat → CV} {f c : Nat} (f' : Nat) (h : Ring w b A f c) : Ring (w.setCell ⟨b, 16, none⟩ (.int .i64 (f' : Int))) b A f' c := by
  have e : w.setCell ⟨b, 16, none⟩ (.int .i64 (f' : Int)) = w.setCells b 16 [.int .i64 (f' : Int)] := rfl
  rw [e]
  refine ⟨fun i hi => (h.at4 i hi).apart (by simp; omega), ?_, cell_setCells_apart h.cc (by simp), ?_, ?_⟩
  · exact World.rangeAt_setCells_same w b 16 [.int .i64 (f' : Int)] (fun j hj => h.there (16 + j) (by simp at hj; omega) |> (fun z => by rw [Nat.zero_add] at z; exact z)) 0 _ rfl
  · rw [World.frozen?_setCells]; exact h.ff
  · rw [World.frozen?_setCells]; exact h.fc
theorem Ring.setC {w : World} {b : Nat} {A : Nat → CV} {f c : Nat} (c' : Nat) (h : Ring w b A f c) : Ring (w.setCell ⟨b, 17, none⟩ (.int .i64 (c' : Int))) b A f c' := by
  have e : w.setCell ⟨b, 17, none⟩ (.int .i64 (c' : Int)) = w.setCells b 17 [.int .i64 (c' : Int)] := rfl
  rw [e]
  refine ⟨fun i hi => (h.at4 i hi).apart (by simp; omega), cell_setCells_apart h.cf (by simp), ?_, ?_, ?_⟩
  · exact World.rangeAt_setCells_same w b 17 [.int .i64 (c' : Int)] (fun j hj => h.there (17 + j) (by simp at hj; omega) |> (fun z => by rw [Nat.zero_add] at z; exact z)) 0 _ rfl
  · rw [World.frozen?_setCells]; exact h.ff
  · rw [World.frozen?_setCells]; exact h.fc
def RL (w : World) (b : Nat) (l : List CV) : Prop := ∃ A f c, Ring w b A f c ∧ f < 4 ∧ c ≤ 4 ∧ rlist A f c = l
def PushR (w : World) (b : Nat) (l : List CV) (e : Ending) (w' : World) : Prop := e = .returned (.tuple #[]) ∧ RL w' b l ∧ Chg b (b + 1) w w'
set_option maxRecDepth 100000 in
set_option maxHeartbeats 2000000 in
theorem push_any (w : World) (b : Nat) (l : List CV) (x : CV) (h : RL w b l) :
    Calls Tryz.prog 48 #[.pointer (some ⟨b, 0, none⟩), cvV x] w (PushR w b (rput l x)) := by
  obtain ⟨A, f, c, h, hf, hc4, hl⟩ := h
  have HLI := Lib.hid hl
  clear hl
  obtain ⟨xe, xp, xf, xb⟩ := x
  obtain ⟨R, HR⟩ : ∃ R, Hid (R = PushR w b (rput l ⟨xe, xp, xf, xb⟩)) := ⟨_, Lib.hid rfl⟩
  rw [← HR.out]
  have HSL := Lib.hid (fun w k hk => slot_any w A f c k hf hk)
  unfold ringV at HSL
  obtain ⟨L, hL⟩ : ∃ L, L = ringC A f c := ⟨_, rfl⟩
  have HLL : Hid (L.length = 18) := Lib.hid (by rw [hL]; rfl)
  rw [← hL] at HSL
  have HL := Lib.hid hL
  clear hL
  obtain ⟨k, hk⟩ : ∃ k, k = (f + c) % 4 := ⟨_, rfl⟩
  have HKE := Lib.hid hk
  have HK4 : Hid (k < 4) := Lib.hid (by omega)
  have HRG := Lib.hid h
  have hbl := h.lt
  clear h hk
  go_enter Tryz.func48, Tryz.ntmps48
  go_wp2_with fail
  obtain ⟨X, hX⟩ : ∃ X, w.heap.size = X := ⟨_, rfl⟩
  obtain ⟨wA, hwA⟩ : ∃ wA, w.alloc (.cells #[.int .i64 xe, .int .i64 xp, .int .i64 xf, .bool xb] 62) = wA := ⟨_, rfl⟩
  have HRA : Hid (Ring wA b A f c) := Lib.hid (by rw [← hwA]; exact HRG.out.block (heap_alloc_old w _ hbl))
  have HFX : Hid (Four wA X 0 ⟨xe, xp, xf, xb⟩) := Lib.hid (by rw [← hwA, ← hX]; exact four_alloc w ⟨xe, xp, xf, xb⟩ _)
  have HXS : Hid (X < wA.heap.size) := Lib.hid (by rw [← hwA, ← hX]; simp)
  have HBX : Hid (b < X) := Lib.hid (by rw [← hX]; exact hbl)
  have HCA : Hid (Chg b (b + 1) w wA) := Lib.hid (by rw [← hwA]; exact Chg.of_bel ((Below.refl _ _).alloc (Nat.le_refl _) _))
  simp only [hX, hwA]
  clear hX hwA hbl
  refine wp_region_held_drew (S := fun w' => (w'.cell? ⟨b, 16, none⟩ = some (.int .i64 f) ∧ w'.cell? ⟨b, 17, none⟩ = some (.int .i64 c)) ∧ Four w' X 0 ⟨xe, xp, xf, xb⟩) (by kernel_rfl) ⟨⟨HRA.out.cf, HRA.out.cc⟩, HFX.out.drew⟩ (fun hHeld => ?_)
  refine wpAnyH_take (i := 0) (oi := { dst := some 4, op := .move (.tmp 0), type := _, pos := _, after := _, guard := none }) (v := .pointer (some ⟨b, 0, none⟩)) rfl (by kernel_rfl) (by kernel_rfl) (by kernel_rfl) (fun _ _ _ h => h) (Or.inl ⟨by rfl, fun wh hSw => ?_⟩) hHeld ?_
  · (obtain ⟨⟨t0, t1⟩, s0, s1, s2, s3⟩ := hSw; simp only [Nat.zero_add] at s0 s1 s2 s3; go_simp)
  try simp only [Act.put, List.setIfInBounds_toArray, List.set_cons_zero, List.set_cons_succ]
  refine wpAnyH_take (i := 1) (oi := { dst := some 5, op := .move (.tmp 0), type := _, pos := _, after := _, guard := none }) (v := .pointer (some ⟨b, 0, none⟩)) rfl (by kernel_rfl) (by kernel_rfl) (by kernel_rfl) (fun _ _ _ h => h) (Or.inl ⟨by rfl, fun wh hSw => ?_⟩) hHeld ?_
  · (obtain ⟨⟨t0, t1⟩, s0, s1, s2, s3⟩ := hSw; simp only [Nat.zero_add] at s0 s1 s2 s3; go_simp)
  try simp only [Act.put, List.setIfInBounds_toArray, List.set_cons_zero, List.set_cons_succ]
  refine wpAnyH_take (i := 2) (oi := { dst := some 6, op := .nilCheck (.tmp 5), type := _, pos := _, after := _, guard := none }) (v := .pointer (some ⟨b, 0, none⟩)) rfl (by kernel_rfl) (by kernel_rfl) (by kernel_rfl) (fun _ _ _ h => h) (Or.inl ⟨by rfl, fun wh hSw => ?_⟩) hHeld ?_
  · (obtain ⟨⟨t0, t1⟩, s0, s1, s2, s3⟩ := hSw; simp only [Nat.zero_add] at s0 s1 s2 s3; go_simp)
  try simp only [Act.put, List.setIfInBounds_toArray, List.set_cons_zero, List.set_cons_succ]
  refine wpAnyH_take (i := 4) (oi := { dst := some 8, op := .move (.tmp 0), type := _, pos := _, after := _, guard := none }) (v := .pointer (some ⟨b, 0, none⟩)) rfl (by kernel_rfl) (by kernel_rfl) (by kernel_rfl) (fun _ _ _ h => h) (Or.inl ⟨by rfl, fun wh hSw => ?_⟩) hHeld ?_
  · (obtain ⟨⟨t0, t1⟩, s0, s1, s2, s3⟩ := hSw; simp only [Nat.zero_add] at s0 s1 s2 s3; go_simp)
  try simp only [Act.put, List.setIfInBounds_toArray, List.set_cons_zero, List.set_cons_succ]
  refine wpAnyH_take (i := 5) (oi := { dst := some 9, op := .nilCheck (.tmp 8), type := _, pos := _, after := _, guard := none }) (v := .pointer (some ⟨b, 0, none⟩)) rfl (by kernel_rfl) (by kernel_rfl) (by kernel_rfl) (fun _ _ _ h => h) (Or.inl ⟨by rfl, fun wh hSw => ?_⟩) hHeld ?_
  · (obtain ⟨⟨t0, t1⟩, s0, s1, s2, s3⟩ := hSw; simp only [Nat.zero_add] at s0 s1 s2 s3; go_simp)
  try simp only [Act.put, List.setIfInBounds_toArray, List.set_cons_zero, List.set_cons_succ]
  refine wpAnyH_take (i := 6) (oi := { dst := some 10, op := .fieldAddr 65 (.tmp 9) 2, type := _, pos := _, after := _, guard := none }) (v := .pointer (some ⟨b, 17, none⟩)) rfl (by kernel_rfl) (by kernel_rfl) (by kernel_rfl) (fun _ _ _ h => h) (Or.inl ⟨by rfl, fun wh hSw => ?_⟩) hHeld ?_
  · (obtain ⟨⟨t0, t1⟩, s0, s1, s2, s3⟩ := hSw; simp only [Nat.zero_add] at s0 s1 s2 s3; go_simp)
  try simp only [Act.put, List.setIfInBounds_toArray, List.set_cons_zero, List.set_cons_succ]
  refine wpAnyH_take (i := 7) (oi := { dst := some 11, op := .load 3 (.tmp 10), type := _, pos := _, after := _, guard := none }) (v := .int .i64 (c : Int)) rfl (by kernel_rfl) (by kernel_rfl) (by kernel_rfl) (fun _ _ _ h => h) (Or.inl ⟨by rfl, fun wh hSw => ?_⟩) hHeld ?_
  · (obtain ⟨⟨t0, t1⟩, s0, s1, s2, s3⟩ := hSw; simp only [Nat.zero_add] at s0 s1 s2 s3; go_simp)
  try simp only [Act.put, List.setIfInBounds_toArray, List.set_cons_zero, List.set_cons_succ]
  refine wpAnyH_take (i := 9) (oi := { dst := some 13, op := .load 62 (.tmp 3), type := _, pos := _, after := _, guard := none }) (v := .agg #[.int .i64 xe, .int .i64 xp, .int .i64 xf, .bool xb]) rfl (by kernel_rfl) (by kernel_rfl) (by kernel_rfl) (fun _ _ _ h => h) (Or.inl ⟨by rfl, fun wh hSw => ?_⟩) hHeld ?_
  · (obtain ⟨⟨t0, t1⟩, s0, s1, s2, s3⟩ := hSw; simp only [Nat.zero_add] at s0 s1 s2 s3; go_simp)
  try simp only [Act.put, List.setIfInBounds_toArray, List.set_cons_zero, List.set_cons_succ]
  refine wpAnyH_take (i := 10) (oi := { dst := some 14, op := .nilCheck (.tmp 4), type := _, pos := _, after := _, guard := none }) (v := .pointer (some ⟨b, 0, none⟩)) rfl (by kernel_rfl) (by kernel_rfl) (by kernel_rfl) (fun _ _ _ h => h) (Or.inl ⟨by rfl, fun wh hSw => ?_⟩) hHeld ?_
  · (obtain ⟨⟨t0, t1⟩, s0, s1, s2, s3⟩ := hSw; simp only [Nat.zero_add] at s0 s1 s2 s3; go_simp)
  try simp only [Act.put, List.setIfInBounds_toArray, List.set_cons_zero, List.set_cons_succ]
  refine wpAnyH_take (i := 11) (oi := { dst := some 15, op := .fieldAddr 65 (.tmp 14) 0, type := _, pos := _, after := _, guard := none }) (v := .pointer (some ⟨b, 0, none⟩)) rfl (by kernel_rfl) (by kernel_rfl) (by kernel_rfl) (fun _ _ _ h => h) (Or.inl ⟨by rfl, fun wh hSw => ?_⟩) hHeld ?_
  · (obtain ⟨⟨t0, t1⟩, s0, s1, s2, s3⟩ := hSw; simp only [Nat.zero_add] at s0 s1 s2 s3; go_simp)
  try simp only [Act.put, List.setIfInBounds_toArray, List.set_cons_zero, List.set_cons_succ]
  refine wpAnyH_ready (rs := [3]) (by kernel_rfl) (by simp) ?_
  refine AllReadyH.cons (o := { dst := some 7, op := .load 65 (.tmp 6), type := _, pos := _, after := _, guard := none }) rfl (fun K hK => ?_) AllReadyH.nil
  rw [if_pos (by rfl)]
  refine wp_load_mid 65 (.tmp 6) rfl b 0 rfl L _ (by rw [HL.out]; exact HRA.out.drew.range) Tryz.underlying65 rfl (ring_info HLL.out) ?_
  refine hK.out _ _ ?_ (fun hHeld => ?_)
  · exact hHeld
  clear hK K
  try simp only [Act.put, List.setIfInBounds_toArray, List.set_cons_zero, List.set_cons_succ]
  refine wpAnyH_ready (rs := [8]) (by kernel_rfl) (by simp) ?_
  refine AllReadyH.cons (o := { dst := some 12, op := .call { callee := .value (.func 44), args := #[.tmp 7, .tmp 11], argTypes := #[133, 3] }, type := _, pos := _, after := _, guard := none }) rfl (fun K hK => ?_) AllReadyH.nil
  go_simp
  refine (HSL.out _ c (by omega)).mono ?_
  rintro en w4 ⟨rfl, hb4⟩
  rw [← HKE.out]
  have HB4 := Lib.hid hb4
  have HR4 : Hid (Ring w4 b A f c) := Lib.hid (HRA.out.drew.block (hb4.block _ HRA.out.drew.lt))
  have HF4 : Hid (Four w4 X 0 ⟨xe, xp, xf, xb⟩) := Lib.hid (HFX.out.drew.below hb4 HXS.out)
  clear hb4
  refine hK.out _ _ ?_ (fun hHeld => ?_)
  · exact ⟨⟨HR4.out.cf, HR4.out.cc⟩, HF4.out⟩
  clear hK K
  try simp only [Act.put, List.setIfInBounds_toArray, List.set_cons_zero, List.set_cons_succ]
  refine wpAnyH_take (i := 12) (oi := { dst := some 16, op := .indexAddr 63 (.tmp 15) (.tmp 12), type := _, pos := _, after := _, guard := none }) (v := .pointer (some ⟨b, k * 4, none⟩)) rfl (by kernel_rfl) (by kernel_rfl) (by kernel_rfl) (fun _ _ _ h => h) (Or.inl ⟨by rfl, fun wh hSw => ?_⟩) hHeld ?_
  · (go_simp; intro hh; have := HK4.out; omega)
  try simp only [Act.put, List.setIfInBounds_toArray, List.set_cons_zero, List.set_cons_succ]
  refine wpAnyH_ready (rs := [13]) (by kernel_rfl) (by simp) ?_
  refine AllReadyH.cons (o := { dst := none, op := .store 62 (.tmp 16) (.tmp 13), type := _, pos := _, after := _, guard := none }) rfl (fun K hK => ?_) AllReadyH.nil
  rw [if_pos (by rfl)]
  refine wp_store_mid 62 (.tmp 16) (.tmp 13) rfl b (k * 4) #[.int .i64 xe, .int .i64 xp, .int .i64 xf, .bool xb] rfl rfl (HR4.out.at4 k HK4.out).there (by kernel_rfl) (by simp [Value.oneCell']) ?_
  obtain ⟨w5, hw5⟩ : ∃ w5, w4.setCells b (k * 4) (cvC ⟨xe, xp, xf, xb⟩) = w5 := ⟨_, rfl⟩
  have HR5 : Hid (Ring w5 b (upd A k ⟨xe, xp, xf, xb⟩) f c) := Lib.hid (by rw [← hw5]; exact HR4.out.put HK4.out)
  have HC5 : Hid (Chg b (b + 1) w4 w5) := Lib.hid (by rw [← hw5]; exact chg_setCells _ _ _ _)
  have HF5 : Hid (Four w5 X 0 ⟨xe, xp, xf, xb⟩) := Lib.hid (HF4.out.below_chg HC5.out (by have := HBX.out; omega))
  change K _ (w4.setCells b (k * 4) (cvC ⟨xe, xp, xf, xb⟩))
  rw [hw5]
  clear hw5
  refine hK.out _ _ ?_ (fun hHeld => ?_)
  · exact ⟨⟨HR5.out.cf, HR5.out.cc⟩, HF5.out⟩
  clear hK K
  try simp only [Act.put, List.setIfInBounds_toArray, List.set_cons_zero, List.set_cons_succ]
  refine wpAnyH_done (by kernel_rfl) ?_ _
  have HC : Hid (Chg b (b + 1) w w5) := Lib.hid ((HCA.out.trans (Chg.trans (Chg.of_bel (Below.refl wA.heap.size wA).drew) (Chg.of_bel HB4.out))).trans HC5.out)
  clear HR4 HF4 HB4 HCA HC5 HF5 HRA HFX HXS HBX HRG HSL HL HLL
  obtain ⟨L2, hL⟩ : ∃ L2, L2 = ringC (upd A k ⟨xe, xp, xf, xb⟩) f c := ⟨_, rfl⟩
  have HLL : Hid (L2.length = 18) := Lib.hid (by rw [hL]; rfl)
  have HSL := Lib.hid (fun w => slot_any w (upd A k ⟨xe, xp, xf, xb⟩) f c 1 hf (by omega))
  unfold ringV at HSL
  rw [← hL] at HSL
  have HL := Lib.hid hL
  clear hL
  have hcc := HR5.out.cc
  by_cases hc : c = 4
  · subst hc
    have hc' : (((4 : Nat) : Int) == 4) = true := rfl
    go_wp2_with (first | ((with_reducible refine load_is 65 (.tmp 24) ?_); refine load_arr 65 (.tmp 24) b 0 L2 _ rfl (by rw [HL.out]; exact HR5.out.range) Tryz.underlying65 rfl (ring_info HLL.out) ?_) | fail)
    refine (HSL.out _).mono ?_
    rintro en w6 ⟨rfl, hb6⟩
    obtain ⟨s, hs⟩ : ∃ s, s = (f + 1) % 4 := ⟨_, rfl⟩
    rw [← hs]
    have HSE := Lib.hid hs
    have HR6 : Hid (Ring w6 b (upd A k ⟨xe, xp, xf, xb⟩) f 4) := Lib.hid (HR5.out.block (hb6.block _ HR5.out.lt))
    have hcf6 := HR6.out.cf
    have hff6 := HR6.out.ff
    have HC6 : Hid (Chg b (b + 1) w w6) := Lib.hid (HC.out.trans (Chg.of_bel hb6))
    clear hs hb6 hcc
    go_wp2
    go_returns
    rw [HR.out]
    refine ⟨rfl, ⟨_, _, _, HR6.out.setF s, by rw [HSE.out]; omega, by omega, ?_⟩, HC6.out.trans (chg_setCell _ _ _ _)⟩
    rw [← HLI.out, HSE.out, HKE.out]
    unfold rput
    rw [rlist_len, if_pos (by omega), show (f + 4) % 4 = f by omega]
    exact push_full A f _ hf
  · have hc3 : c < 4 := by omega
    have hc' : ((c : Int) == 4) = false := by simp; omega
    have hfc := HR5.out.fc
    go_wp2
    go_returns
    rw [HR.out]
    refine ⟨rfl, ⟨_, _, _, HR5.out.setC (c + 1), hf, by omega, ?_⟩, HC.out.trans (chg_setCell _ _ _ _)⟩
    rw [← HLI.out, HKE.out]
    unfold rput
    rw [rlist_len, if_neg (by omega)]
    exact push_room A f c _ hf hc3
end Go.Proofs.YthfdkenidfnmgaaGreat
namespace Go.Proofs.YthfdkenidfnmgaaGreat
open Go.ChangeShapes Go.WideShapes Go.ChangeAt Go.RowKit Go.Maps
set_option linter.unusedVariables false
set_option maxRecDepth 100000
def pairT {H : Type} (s : Bs) : Lit × DataW H := (.string s, .lit (.bool true))
def SetIs {H : Type} (D : DataW H) (xs : List Bs) : Prop := ∃ es, D = .map es ∧ es.Perm (xs.map pairT) ∧ xs.Nodup
variable {H : Type} {D : DataW H} {xs ys : List Bs}
theorem SetIs.none : SetIs (.map [] : DataW H) [] := ⟨[], rfl, List.Perm.nil, List.nodup_nil⟩
theorem SetIs.size (h : SetIs D xs) : Maps.size D = xs.length := by
  obtain ⟨es, rfl, hp, _⟩ := h
  rw [Maps.size_eq, hp.length_eq, List.length_map]
theorem pairs_any (xs : List Bs) (s : Bs) : (xs.map (pairT (H := H))).any (fun p => p.1.sameKey (.string s)) = decide (s ∈ xs) := by
  rw [Bool.eq_iff_iff, List.any_eq_true, decide_eq_true_eq]
  constructor
  · rintro ⟨p, hp, hk⟩
    obtain ⟨t, ht, rfl⟩ := List.mem_map.1 hp
    have : (t == s) = true := hk
    rw [← eq_of_beq this]; exact ht
  · intro hs
    exact ⟨pairT s, List.mem_map.2 ⟨s, hs, rfl⟩, by show (s == s) = true; exact beq_self_eq_true s⟩
theorem perm_any {α : Type} {l l' : List α} (h : l.Perm l') (f : α → Bool) : l.any f = l'.any f := by
  rw [Bool.eq_iff_iff, List.any_eq_true, List.any_eq_true]
  exact ⟨fun ⟨x, hx, hf⟩ => ⟨x, h.mem_iff.1 hx, hf⟩, fun ⟨x, hx, hf⟩ => ⟨x, h.mem_iff.2 hx, hf⟩⟩
theorem SetIs.has (h : SetIs D xs) (s : Bs) : Maps.has D (.string s) = decide (s ∈ xs) := by
  obtain ⟨es, rfl, hp, _⟩ := h
  rw [Maps.has_eq, perm_any hp, pairs_any]
theorem SetIs.entry {es : List (Lit × DataW H)} (hp : es.Perm (xs.map pairT)) {p : Lit × DataW H} (hm : p ∈ es) : ∃ t ∈ xs, p = pairT t := by
  obtain ⟨t, ht, e⟩ := List.mem_map.1 (hp.mem_iff.1 hm)
  exact ⟨t, ht, e.symm⟩
theorem SetIs.atKey (h : SetIs D xs) (s : Bs) : D.atKey (.string s) (.lit (.bool false)) = .lit (.bool (decide (s ∈ xs))) := by
  have hh := h.has s
  obtain ⟨es, rfl, hp, _⟩ := h
  rw [Maps.has_eq] at hh
  unfold DataW.atKey
  cases hf : es.find? (fun p => p.1.sameKey (.string s)) with
  | none =>
    have : es.any (fun p => p.1.sameKey (.string s)) = false := by
      rw [Bool.eq_false_iff]
      intro ha
      obtain ⟨p, hp', hk⟩ := List.any_eq_true.1 ha
      exact (List.find?_eq_none.1 hf) p hp' hk
    rw [← hh, this]
    show (match es.find? (fun p => p.1.sameKey (.string s)) with | some p => p.2 | Option.none => DataW.lit (.bool false)) = _
    rw [hf]
  | some p =>
    have h1 := List.find?_some hf
    have h2 := List.mem_of_find?_eq_some hf
    obtain ⟨t, ht, rfl⟩ := SetIs.entry hp h2
    have : es.any (fun p => p.1.sameKey (.string s)) = true := List.any_eq_true.2 ⟨_, h2, h1⟩
    rw [← hh, this]
    show (match es.find? (fun p => p.1.sameKey (.string s)) with | some p => p.2 | Option.none => DataW.lit (.bool false)) = _
    rw [hf]
    rfl
theorem perm_str (h : SetIs D xs) : (strKeys D).Perm xs := by
  obtain ⟨es, rfl, hp, _⟩ := h
  have := hp.map (fun p => strOf p.1)
  rw [List.map_map] at this
  refine this.trans ?_
  rw [show ((fun p : Lit × DataW H => strOf p.1) ∘ pairT) = id from rfl, List.map_id]
theorem SetIs.put (h : SetIs D xs) {s : Bs} (hn : s ∉ xs) : SetIs (D.put (.string s) (.lit (.bool true))) (s :: xs) := by
  obtain ⟨es, rfl, hp, hd⟩ := h
  refine ⟨_, rfl, ?_, List.nodup_cons.2 ⟨hn, hd⟩⟩
  have hf : es.filter (fun p => !p.1.sameKey (.string s)) = es := by
    refine List.filter_eq_self.2 (fun p hm => ?_)
    obtain ⟨t, ht, rfl⟩ := SetIs.entry hp hm
    show (!(t == s)) = true
    have : t ≠ s := fun e => hn (e ▸ ht)
    simpa using this
  rw [hf, List.map_cons]
  exact (insert_perm _ _).trans (hp.cons _)
theorem SetIs.again (h : SetIs D xs) {s : Bs} (hn : s ∈ xs) : SetIs (D.put (.string s) (.lit (.bool true))) xs := by
  obtain ⟨es, rfl, hp, hd⟩ := h
  refine ⟨_, rfl, ?_, hd⟩
  have h1 : (es.filter (fun p => !p.1.sameKey (.string s))).Perm ((xs.map pairT).filter (fun p => !p.1.sameKey (.string s))) := hp.filter _
  have h2 : (xs.map (pairT (H := H))).filter (fun p => !p.1.sameKey (.string s)) = (xs.erase s).map pairT := by
    rw [List.filter_map, hd.erase_eq_filter]
    rfl
  rw [h2] at h1
  refine ((insert_perm _ _).trans (h1.cons _)).trans ?_
  have h3 := ((List.perm_cons_erase hn).map (pairT (H := H))).symm
  rw [List.map_cons] at h3
  exact h3
theorem SetIs.perm (h : SetIs D xs) (hp : xs.Perm ys) : SetIs D ys := by
  obtain ⟨es, rfl, h1, h2⟩ := h
  exact ⟨es, rfl, h1.trans (hp.map _), hp.nodup_iff.1 h2⟩
theorem le_iff_bl {a b : Bs} : a ≤ b ↔ bl b a = false := by
  unfold bl
  rw [bytesLess_eq, decide_eq_false_iff_not]
  exact (List.not_lt).symm
theorem SetIs.sorted (h : SetIs D xs) (ha : Asc xs) {ss : List Bs} (hp : ss.Perm (strKeys D)) : ss.mergeSort (fun x y => decide (x ≤ y)) = xs := by
  have hp2 : (ss.mergeSort (fun x y => decide (x ≤ y))).Perm xs := (List.mergeSort_perm ss _).trans (hp.trans (perm_str h))
  have hs : (ss.mergeSort (fun x y => decide (x ≤ y))).Pairwise (fun a b => decide (a ≤ b) = true) := by
    refine List.pairwise_mergeSort (fun a b c h1 h2 => ?_) (fun a b => ?_) ss
    · simp only [decide_eq_true_eq] at h1 h2 ⊢
      exact List.le_trans h1 h2
    · rcases List.le_total a b with h | h
      · simp [h]
      · simp [h]
  refine asc_ext ?_ ha (fun z => hp2.mem_iff)
  have hnd : (ss.mergeSort (fun x y => decide (x ≤ y))).Nodup := hp2.nodup_iff.2 (asc_nodup ha)
  unfold Asc
  refine (List.Pairwise.and hs hnd).imp (fun {a b} hab => ?_)
  obtain ⟨h1, h2⟩ := hab
  have h1 : bl b a = false := le_iff_bl.1 (of_decide_eq_true h1)
  cases hb : bl a b with
  | true => rfl
  | false => exact absurd (bl_tri hb h1) h2
end Go.Proofs.YthfdkenidfnmgaaGreat
namespace Go.Proofs.YthfdkenidfnmgaaGreat
open Go.ChangeShapes Go.WideShapes Go.ChangeAt Go.RowKit Go.Maps
set_option linter.unusedVariables false
set_option maxRecDepth 100000
theorem keyS : Keyed Tryz.prog 9 := string_keyed Tryz.underlying9
def SetAt (w : World) (b : Nat) (xs : List Bs) : Prop := ∃ n D, n ≤ 1000 ∧ w.ownsMap (H := Unit) Tryz.prog 9 (plainElem Tryz.prog 4) b n D ∧ SetIs D xs
theorem SetAt.kept {w w' : World} {b : Nat} {xs : List Bs} {row : Option Nat} (h : SetAt w b xs) (hg : w.grownBy w' row) (hne : some b ≠ row) : SetAt w' b xs := by
  obtain ⟨n, D, hn, ho, hs⟩ := h
  exact ⟨n, D, hn, ho.kept hg hne, hs⟩
theorem SetAt.below {w w' : World} {b : Nat} {xs : List Bs} (h : SetAt w b xs) (hb : Below w.heap.size w w') : SetAt w' b xs :=
  h.kept (row := none) ⟨hb.os, hb.tape, hb.output, hb.size, fun i hi _ => hb.block i hi⟩ (by simp)
theorem SetAt.lt {w : World} {b : Nat} {xs : List Bs} (h : SetAt w b xs) : b < w.heap.size := by
  obtain ⟨n, D, hn, ho, hs⟩ := h
  exact ho.lt
theorem SetAt.perm {w : World} {b : Nat} {xs ys : List Bs} (h : SetAt w b xs) (hp : xs.Perm ys) : SetAt w b ys := by
  obtain ⟨n, D, hn, ho, hs⟩ := h
  exact ⟨n, D, hn, ho, hs.perm hp⟩
end Go.Proofs.YthfdkenidfnmgaaGreat
namespace Go.Proofs.YthfdkenidfnmgaaGreat
open Go.ChangeShapes Go.WideShapes Go.ChangeAt Go.RowKit Go.Maps
set_option linter.unusedVariables false
set_option maxRecDepth 100000
theorem conv_bytes (w : World) (s : Bs) : ∃ cap wA, (convert 9 22 (.string ⟨s.toArray⟩)).run Tryz.prog w = .ok (.slice (some ⟨w.heap.size, 0, none⟩) s.length cap) wA ∧
    Below w.heap.size w wA ∧ ∀ j (hj : j < s.length), wA.cell? ⟨w.heap.size, j, none⟩ = some (.int .u8 (s[j].toNat : Int)) := by
  refine ⟨_, _, run_bytes_of_string w _ _ _ _ Tryz.underlying9 Tryz.underlying22 Tryz.underlying5, ?_, fun j hj => ?_⟩
  · have := (Below.refl w.heap.size w).drew.alloc (Nat.le_refl _) (.cells (bytesRow ⟨s.toArray⟩ (grownCap w s.length 0 5)) 5 ((bytesRow ⟨s.toArray⟩ (grownCap w s.length 0 5)).size, (bytesRow ⟨s.toArray⟩ (grownCap w s.length 0 5)).size + 1))
    exact this
  · have h1 := World.cell?_alloc_mark w.drew (bytesRow ⟨s.toArray⟩ (grownCap w s.length 0 5)) 5 ((bytesRow ⟨s.toArray⟩ (grownCap w s.length 0 5)).size, (bytesRow ⟨s.toArray⟩ (grownCap w s.length 0 5)).size + 1) j
    refine h1.trans ?_
    rw [bytesRow_at ⟨s.toArray⟩ _ j (by simpa using hj)]
    rfl
theorem irv_any : IRV := by
  intro w s hs
  have hsl : (s.length : Int) ≤ 2000000 := by omega
  by_cases h4 : 4 < s.length
  · have h4' : (4 : Int) < (s.length : Int) := by omega
    have HR : Hid (rv s = false) := Lib.hid (by rw [Bool.eq_false_iff]; intro h; have := rv_len h; omega)
    rw [HR.out]
    go_enter Tryz.func40, Tryz.ntmps40
    go_wp2_with fail
    go_ret
    exact ⟨rfl, Below.refl _ _⟩
  have h4' : ¬ (4 : Int) < (s.length : Int) := by omega
  obtain ⟨cap, wA, hcv, hbA, hcA⟩ := conv_bytes w s
  have HRV := Lib.hid (fun h => okTo_all (s := s) (k := s.length) h rfl)
  have HCA := Lib.hid hcA
  have HBA := Lib.hid hbA
  clear hcA hbA
  go_enter Tryz.func40, Tryz.ntmps40
  go_wp2
  go_loop [11] (fun i => ∃ k : Nat, k ≤ s.length ∧ i = .int .i64 k ∧ Hid (okTo s k)) (fun i => s.length - (intOf i).toNat)
  case atStart => exact ⟨0, Nat.zero_le _, rfl, Lib.hid (fun b hb => by simp at hb)⟩
  case round =>
    obtain ⟨k, hk, rfl, HT⟩ := hrel
    by_cases hks : k < s.length
    · have hlt' : (k : Int) < (s.length : Int) := by omega
      have HB := Lib.hid (@lok_iff s[k])
      have hcell := HCA.out k hks
      obtain ⟨x, hx⟩ : ∃ x, x = s[k].toNat := ⟨_, rfl⟩
      rw [← hx] at hcell HB
      clear hx
      have HR := Lib.hid (fun h => rv_bad hks h)
      have HO := Lib.hid (fun h => okTo_succ HT.out hks h)
      by_cases h1 : x < 97
      · have h1' : (x : Int) < 97 := by omega
        go_wp2
        go_ret
        exact ⟨by rw [HR.out (by rw [Bool.eq_false_iff]; intro h; have := HB.out.1 h; omega)]; rfl, HBA.out⟩
      · by_cases h2 : 99 < x
        · have h1' : ¬ (x : Int) < 97 := by omega
          have h2' : (99 : Int) < (x : Int) := by omega
          go_wp2
          go_ret
          exact ⟨by rw [HR.out (by rw [Bool.eq_false_iff]; intro h; have := HB.out.1 h; omega)]; rfl, HBA.out⟩
        · have h1' : ¬ (x : Int) < 97 := by omega
          have h2' : ¬ (99 : Int) < (x : Int) := by omega
          go_wp2
          go_round
          case rel => exact ⟨k + 1, by omega, by go_num, Lib.hid (HO.out (HB.out.2 ⟨by omega, by omega⟩))⟩
          case measure => simp [intOf]; omega
    · go_wp2
      go_ret
      have e : k = s.length := by omega
      refine ⟨?_, HBA.out⟩
      rw [HRV.out (by rw [← e]; exact HT.out), decide_eq_true (by omega)]
      rfl
theorem short_max {x : Bs} (h : x.length ≤ 2000000) : x.length ≤ maxLen := by unfold maxLen; omega
end Go.Proofs.YthfdkenidfnmgaaGreat
namespace Go.Proofs.YthfdkenidfnmgaaGreat
open Go.ChangeShapes Go.WideShapes Go.ChangeAt Go.RowKit
set_option linter.unusedVariables false
set_option maxRecDepth 100000
set_option maxRecDepth 100000 in
theorem sameInfos_any (w : World) (v u : Value) (xs ys : List IV) (h : Is w v xs) (k : Is w u ys) : Calls Tryz.prog 19 #[v, u] w (BRes (decide (xs = ys)) w) := by
  obtain ⟨a, ca, rfl, ha1, ha2, ha3⟩ := h
  obtain ⟨b, cb, rfl, hb1, hb2, hb3⟩ := k
  unfold maxLen at ha2 hb2
  obtain ⟨r, hr⟩ : ∃ r, r = decide (xs = ys) := ⟨_, rfl⟩
  rw [← hr]
  have HR := Lib.hid hr
  have HA := Lib.hid ha3
  have HBs := Lib.hid hb3
  obtain ⟨m, hm⟩ : ∃ m, m = xs.length := ⟨_, rfl⟩
  obtain ⟨n, hn⟩ : ∃ n, n = ys.length := ⟨_, rfl⟩
  have HM := Lib.hid hm
  have HN := Lib.hid hn
  rw [← hm] at ha1 ⊢
  rw [← hn] at hb1 ⊢
  clear hm hn hr ha3 hb3
  by_cases hl : m = n
  · subst hl
    have hl' : ((m : Int) != (m : Int)) = false := by simp
    go_enter Tryz.func19, Tryz.ntmps19
    go_wp2
    go_loopw [5] (fun i wr => ∃ k : Nat, k ≤ m ∧ i = .int .i64 k ∧ Hid (Below w.heap.size w wr) ∧ Hid (xs.take k = ys.take k)) (fun i _ => m - (intOf i).toNat)
    case atStart => exact ⟨0, Nat.zero_le _, rfl, Lib.hid (Below.refl _ _), Lib.hid rfl⟩
    case round =>
      obtain ⟨k, hk, rfl, HBW, HTK⟩ := hrel
      by_cases hlt : k < m
      · obtain ⟨ba, oa, rfl, hfa⟩ := HA.out k (by have := HM.out; omega)
        obtain ⟨bb, ob, rfl, hfb⟩ := HBs.out k (by have := HN.out; omega)
        have hba := block_lt_of_cell hfa.c0
        have hbb := block_lt_of_cell hfb.c0
        obtain ⟨x, hx⟩ : ∃ x, x = xs.getD k iz := ⟨_, rfl⟩
        obtain ⟨y, hy⟩ : ∃ y, y = ys.getD k iz := ⟨_, rfl⟩
        rw [← hx] at hfa
        rw [← hy] at hfb
        have HFA := Lib.hid hfa
        have HFB := Lib.hid hfb
        have HX := Lib.hid hx
        have HY := Lib.hid hy
        have FA : Hid (Tri wr.drew ba (oa + k * 3) x) := Lib.hid (hfa.below HBW.out.drew hba)
        have FB : Hid (Tri wr.drew bb (ob + k * 3) y) := Lib.hid (hfb.below HBW.out.drew hbb)
        have hlt' : (k : Int) < (m : Int) := by omega
        clear hx hy hfa hfb
        by_cases he : x = y
        · have HT2 : Hid (xs.take (k + 1) = ys.take (k + 1)) := Lib.hid (take_eq_succ (d := iz) (by rw [← HM.out, ← HN.out]) (by have := HM.out; omega) HTK.out (by rw [← HX.out, ← HY.out]; exact he))
          have hE := he
          clear he
          go_wp2_with fail
          refine wp_region_held_drew (S := fun w' => Tri w' ba (oa + k * 3) x ∧ Tri w' bb (ob + k * 3) y) (by kernel_rfl) ⟨FA.out, FB.out⟩ (fun hHeld => ?_)
          refine wpAnyH_take (i := 0) (oi := { dst := some 17, op := .move (.tmp 0), type := _, pos := _, after := _, guard := none }) (v := .slice (some ⟨ba, oa, none⟩) m ca) rfl (by kernel_rfl) (by kernel_rfl) (by kernel_rfl) (fun _ _ _ h => h) (Or.inl ⟨by rfl, fun wh hSw => ?_⟩) hHeld ?_
          · (obtain ⟨⟨s0, s1, s2⟩, t0, t1, t2⟩ := hSw; go_simp)
          try simp only [Act.put, List.setIfInBounds_toArray, List.set_cons_zero, List.set_cons_succ]
          refine wpAnyH_take (i := 1) (oi := { dst := some 18, op := .move (.tmp 5), type := _, pos := _, after := _, guard := none }) (v := .int .i64 (k : Int)) rfl (by kernel_rfl) (by kernel_rfl) (by kernel_rfl) (fun _ _ _ h => h) (Or.inl ⟨by rfl, fun wh hSw => ?_⟩) hHeld ?_
          · (obtain ⟨⟨s0, s1, s2⟩, t0, t1, t2⟩ := hSw; go_simp)
          try simp only [Act.put, List.setIfInBounds_toArray, List.set_cons_zero, List.set_cons_succ]
          refine wpAnyH_take (i := 2) (oi := { dst := some 19, op := .indexAddr 26 (.tmp 17) (.tmp 18), type := _, pos := _, after := _, guard := none }) (v := .pointer (some ⟨ba, oa + k * 3, none⟩)) rfl (by kernel_rfl) (by kernel_rfl) (by kernel_rfl) (fun _ _ _ h => h) (Or.inl ⟨by rfl, fun wh hSw => ?_⟩) hHeld ?_
          · (obtain ⟨⟨s0, s1, s2⟩, t0, t1, t2⟩ := hSw; go_simp)
          try simp only [Act.put, List.setIfInBounds_toArray, List.set_cons_zero, List.set_cons_succ]
          refine wpAnyH_take (i := 3) (oi := { dst := some 20, op := .load 58 (.tmp 19), type := _, pos := _, after := _, guard := none }) (v := ivV x) rfl (by kernel_rfl) (by kernel_rfl) (by kernel_rfl) (fun _ _ _ h => h) (Or.inl ⟨by rfl, fun wh hSw => ?_⟩) hHeld ?_
          · (obtain ⟨⟨s0, s1, s2⟩, t0, t1, t2⟩ := hSw; go_simp)
          try simp only [Act.put, List.setIfInBounds_toArray, List.set_cons_zero, List.set_cons_succ]
          refine wpAnyH_take (i := 4) (oi := { dst := some 21, op := .move (.tmp 1), type := _, pos := _, after := _, guard := none }) (v := .slice (some ⟨bb, ob, none⟩) m cb) rfl (by kernel_rfl) (by kernel_rfl) (by kernel_rfl) (fun _ _ _ h => h) (Or.inl ⟨by rfl, fun wh hSw => ?_⟩) hHeld ?_
          · (obtain ⟨⟨s0, s1, s2⟩, t0, t1, t2⟩ := hSw; go_simp)
          try simp only [Act.put, List.setIfInBounds_toArray, List.set_cons_zero, List.set_cons_succ]
          refine wpAnyH_take (i := 5) (oi := { dst := some 22, op := .move (.tmp 5), type := _, pos := _, after := _, guard := none }) (v := .int .i64 (k : Int)) rfl (by kernel_rfl) (by kernel_rfl) (by kernel_rfl) (fun _ _ _ h => h) (Or.inl ⟨by rfl, fun wh hSw => ?_⟩) hHeld ?_
          · (obtain ⟨⟨s0, s1, s2⟩, t0, t1, t2⟩ := hSw; go_simp)
          try simp only [Act.put, List.setIfInBounds_toArray, List.set_cons_zero, List.set_cons_succ]
          refine wpAnyH_take (i := 6) (oi := { dst := some 23, op := .indexAddr 26 (.tmp 21) (.tmp 22), type := _, pos := _, after := _, guard := none }) (v := .pointer (some ⟨bb, ob + k * 3, none⟩)) rfl (by kernel_rfl) (by kernel_rfl) (by kernel_rfl) (fun _ _ _ h => h) (Or.inl ⟨by rfl, fun wh hSw => ?_⟩) hHeld ?_
          · (obtain ⟨⟨s0, s1, s2⟩, t0, t1, t2⟩ := hSw; go_simp)
          try simp only [Act.put, List.setIfInBounds_toArray, List.set_cons_zero, List.set_cons_succ]
          refine wpAnyH_take (i := 7) (oi := { dst := some 24, op := .load 58 (.tmp 23), type := _, pos := _, after := _, guard := none }) (v := ivV y) rfl (by kernel_rfl) (by kernel_rfl) (by kernel_rfl) (fun _ _ _ h => h) (Or.inl ⟨by rfl, fun wh hSw => ?_⟩) hHeld ?_
          · (obtain ⟨⟨s0, s1, s2⟩, t0, t1, t2⟩ := hSw; go_simp)
          try simp only [Act.put, List.setIfInBounds_toArray, List.set_cons_zero, List.set_cons_succ]
          refine wpAnyH_take (i := 8) (oi := { dst := some 25, op := .binOp .neq 58 (.tmp 20) (.tmp 24) 58, type := _, pos := _, after := _, guard := none }) (v := .bool false) rfl (by kernel_rfl) (by kernel_rfl) (by kernel_rfl) (fun _ _ _ h => h) (Or.inl ⟨by rfl, fun wh hSw => ?_⟩) hHeld ?_
          · (obtain ⟨⟨s0, s1, s2⟩, t0, t1, t2⟩ := hSw; go_simp)
          try simp only [Act.put, List.setIfInBounds_toArray, List.set_cons_zero, List.set_cons_succ]
          refine wpAnyH_done (by kernel_rfl) ?_ _
          go_wp2
          go_roundw
          case rel => exact ⟨k + 1, by omega, by go_num, Lib.hid HBW.out.drew, HT2⟩
          case measure => simp [intOf]; omega
        · have HF : Hid (r = false) := Lib.hid (by rw [HR.out]; exact decide_eq_false (fun hh => he (by rw [HX.out, HY.out, hh])))
          have hE := he
          clear he
          go_wp2_with fail
          refine wp_region_held_drew (S := fun w' => Tri w' ba (oa + k * 3) x ∧ Tri w' bb (ob + k * 3) y) (by kernel_rfl) ⟨FA.out, FB.out⟩ (fun hHeld => ?_)
          refine wpAnyH_take (i := 0) (oi := { dst := some 17, op := .move (.tmp 0), type := _, pos := _, after := _, guard := none }) (v := .slice (some ⟨ba, oa, none⟩) m ca) rfl (by kernel_rfl) (by kernel_rfl) (by kernel_rfl) (fun _ _ _ h => h) (Or.inl ⟨by rfl, fun wh hSw => ?_⟩) hHeld ?_
          · (obtain ⟨⟨s0, s1, s2⟩, t0, t1, t2⟩ := hSw; go_simp)
          try simp only [Act.put, List.setIfInBounds_toArray, List.set_cons_zero, List.set_cons_succ]
          refine wpAnyH_take (i := 1) (oi := { dst := some 18, op := .move (.tmp 5), type := _, pos := _, after := _, guard := none }) (v := .int .i64 (k : Int)) rfl (by kernel_rfl) (by kernel_rfl) (by kernel_rfl) (fun _ _ _ h => h) (Or.inl ⟨by rfl, fun wh hSw => ?_⟩) hHeld ?_
          · (obtain ⟨⟨s0, s1, s2⟩, t0, t1, t2⟩ := hSw; go_simp)
          try simp only [Act.put, List.setIfInBounds_toArray, List.set_cons_zero, List.set_cons_succ]
          refine wpAnyH_take (i := 2) (oi := { dst := some 19, op := .indexAddr 26 (.tmp 17) (.tmp 18), type := _, pos := _, after := _, guard := none }) (v := .pointer (some ⟨ba, oa + k * 3, none⟩)) rfl (by kernel_rfl) (by kernel_rfl) (by kernel_rfl) (fun _ _ _ h => h) (Or.inl ⟨by rfl, fun wh hSw => ?_⟩) hHeld ?_
          · (obtain ⟨⟨s0, s1, s2⟩, t0, t1, t2⟩ := hSw; go_simp)
          try simp only [Act.put, List.setIfInBounds_toArray, List.set_cons_zero, List.set_cons_succ]
          refine wpAnyH_take (i := 3) (oi := { dst := some 20, op := .load 58 (.tmp 19), type := _, pos := _, after := _, guard := none }) (v := ivV x) rfl (by kernel_rfl) (by kernel_rfl) (by kernel_rfl) (fun _ _ _ h => h) (Or.inl ⟨by rfl, fun wh hSw => ?_⟩) hHeld ?_
          · (obtain ⟨⟨s0, s1, s2⟩, t0, t1, t2⟩ := hSw; go_simp)
          try simp only [Act.put, List.setIfInBounds_toArray, List.set_cons_zero, List.set_cons_succ]
          refine wpAnyH_take (i := 4) (oi := { dst := some 21, op := .move (.tmp 1), type := _, pos := _, after := _, guard := none }) (v := .slice (some ⟨bb, ob, none⟩) m cb) rfl (by kernel_rfl) (by kernel_rfl) (by kernel_rfl) (fun _ _ _ h => h) (Or.inl ⟨by rfl, fun wh hSw => ?_⟩) hHeld ?_
          · (obtain ⟨⟨s0, s1, s2⟩, t0, t1, t2⟩ := hSw; go_simp)
          try simp only [Act.put, List.setIfInBounds_toArray, List.set_cons_zero, List.set_cons_succ]
          refine wpAnyH_take (i := 5) (oi := { dst := some 22, op := .move (.tmp 5), type := _, pos := _, after := _, guard := none }) (v := .int .i64 (k : Int)) rfl (by kernel_rfl) (by kernel_rfl) (by kernel_rfl) (fun _ _ _ h => h) (Or.inl ⟨by rfl, fun wh hSw => ?_⟩) hHeld ?_
          · (obtain ⟨⟨s0, s1, s2⟩, t0, t1, t2⟩ := hSw; go_simp)
          try simp only [Act.put, List.setIfInBounds_toArray, List.set_cons_zero, List.set_cons_succ]
          refine wpAnyH_take (i := 6) (oi := { dst := some 23, op := .indexAddr 26 (.tmp 21) (.tmp 22), type := _, pos := _, after := _, guard := none }) (v := .pointer (some ⟨bb, ob + k * 3, none⟩)) rfl (by kernel_rfl) (by kernel_rfl) (by kernel_rfl) (fun _ _ _ h => h) (Or.inl ⟨by rfl, fun wh hSw => ?_⟩) hHeld ?_
          · (obtain ⟨⟨s0, s1, s2⟩, t0, t1, t2⟩ := hSw; go_simp)
          try simp only [Act.put, List.setIfInBounds_toArray, List.set_cons_zero, List.set_cons_succ]
          refine wpAnyH_take (i := 7) (oi := { dst := some 24, op := .load 58 (.tmp 23), type := _, pos := _, after := _, guard := none }) (v := ivV y) rfl (by kernel_rfl) (by kernel_rfl) (by kernel_rfl) (fun _ _ _ h => h) (Or.inl ⟨by rfl, fun wh hSw => ?_⟩) hHeld ?_
          · (obtain ⟨⟨s0, s1, s2⟩, t0, t1, t2⟩ := hSw; go_simp)
          try simp only [Act.put, List.setIfInBounds_toArray, List.set_cons_zero, List.set_cons_succ]
          refine wpAnyH_take (i := 8) (oi := { dst := some 25, op := .binOp .neq 58 (.tmp 20) (.tmp 24) 58, type := _, pos := _, after := _, guard := none }) (v := .bool true) rfl (by kernel_rfl) (by kernel_rfl) (by kernel_rfl) (fun _ _ _ h => h) (Or.inl ⟨by rfl, fun wh hSw => ?_⟩) hHeld ?_
          · (go_simp; exact fun h1 h2 h3 => hE (iv_ext.2 ⟨h1, h2, h3⟩))
          try simp only [Act.put, List.setIfInBounds_toArray, List.set_cons_zero, List.set_cons_succ]
          refine wpAnyH_done (by kernel_rfl) ?_ _
          go_wp2
          go_ret
          exact ⟨by rw [HF.out]; rfl, HBW.out.drew⟩
      · have ek : k = m := by omega
        subst ek
        have HF : Hid (r = true) := Lib.hid (by rw [HR.out]; exact decide_eq_true (eq_of_take (by rw [← HM.out, ← HN.out]) HM.out HTK.out))
        go_wp2
        go_ret
        exact ⟨by rw [HF.out]; rfl, HBW.out⟩
  · have hl' : ((m : Int) != (n : Int)) = true := by simp; omega
    have HF : Hid (r = false) := Lib.hid (by rw [HR.out]; exact decide_eq_false (fun hh => hl (by rw [HM.out, HN.out, hh])))
    go_enter Tryz.func19, Tryz.ntmps19
    go_wp2
    go_ret
    exact ⟨by rw [HF.out]; rfl, Below.refl _ _⟩
end Go.Proofs.YthfdkenidfnmgaaGreat
namespace Go.Proofs.YthfdkenidfnmgaaGreat
open Go.ChangeShapes Go.WideShapes Go.ChangeAt Go.RowKit
set_option linter.unusedVariables false
set_option maxRecDepth 100000
theorem row_len {k : IntKind} {w : World} {a : Option Addr} {len cap : Nat} {zs : List Int} (hr : Row k w a len cap zs) : len ≤ 9223372036854775807 := by
  rcases hr with ⟨_, rfl, rfl, _⟩ | ⟨x, _, hl, hm, _⟩
  · omega
  · unfold maxLen at hm; omega
end Go.Proofs.YthfdkenidfnmgaaGreat
namespace Go.Proofs.YthfdkenidfnmgaaGreat
open Go.ChangeShapes Go.WideShapes Go.ChangeAt Go.RowKit
set_option linter.unusedVariables false
set_option maxRecDepth 100000
def Chain (w : World) : List Nat → Option Addr → Prop
  | [], p => p = none
  | x :: xs, p => ∃ b q, p = some ⟨b, 0, none⟩ ∧ w.cell? ⟨b, 0, none⟩ = some (.int .i64 x) ∧ w.cell? ⟨b, 1, none⟩ = some (.pointer q) ∧ Chain w xs q
theorem Chain.below {w w' : World} {B : Nat} : ∀ {xs : List Nat} {p : Option Addr}, Chain w xs p → w.heap.size ≤ B → Below B w w' → Chain w' xs p
  | [], p, h, _, _ => h
  | x :: xs, p, ⟨b, q, e, h0, h1, h2⟩, hB, hb => by
    have hlt : b < w.heap.size := block_lt_of_cell h0
    have hbl := hb.block b (by omega)
    exact ⟨b, q, e, (World.cell?_of_block hbl).trans h0, (World.cell?_of_block hbl).trans h1, Chain.below h2 hB hb⟩
theorem Chain.drew {w : World} : ∀ {xs : List Nat} {p : Option Addr}, Chain w xs p → Chain w.drew xs p
  | [], p, h => h
  | x :: xs, p, ⟨b, q, e, h0, h1, h2⟩ => ⟨b, q, e, h0, h1, Chain.drew h2⟩
theorem Chain.cons {w : World} {xs : List Nat} {p : Option Addr} (x : Nat) (t : TypeId) (h : Chain w xs p) : Chain (w.alloc (.cells #[.int .i64 x, .pointer p] t)) (x :: xs) (some ⟨w.heap.size, 0, none⟩) := by
  have e := fun j => cell_of_row (w.alloc (.cells #[.int .i64 x, .pointer p] t)) w.heap.size j _ _ (0, 0) (heap_alloc_new w _)
  exact ⟨_, p, rfl, (e 0).trans rfl, (e 1).trans rfl, h.below (Nat.le_refl _) (Below.alloc (Below.refl _ _) (Nat.le_refl _) _)⟩
def frsI (ys : List IV) (k : Nat) : List Nat := ((List.range ys.length).drop k).filter (fun i => isFree (ys.getD i iz))
theorem frs_end (ys : List IV) : frsI ys ys.length = [] := by
  unfold frsI
  rw [List.drop_of_length_le (by rw [List.length_range]; exact Nat.le_refl _)]
  rfl
theorem frs_step {ys : List IV} {k : Nat} (hk : k < ys.length) : frsI ys k = if (ys.getD k iz).k = 0 then k :: frsI ys (k + 1) else frsI ys (k + 1) := by
  unfold frsI
  rw [List.drop_eq_getElem_cons (by rw [List.length_range]; exact hk), List.getElem_range, List.filter_cons]
  unfold isFree
  by_cases h : (ys.getD k iz).k = 0
  · simp_all
  · simp_all
theorem frs_cnt (ys : List IV) : ∀ d k, k + d = ys.length → (frsI ys k).length + cnt (ys.take k) = cnt ys
  | 0, k, h => by
    obtain rfl : k = ys.length := by omega
    rw [frs_end, List.take_length, List.length_nil, Nat.zero_add]
  | d + 1, k, h => by
    have ih := frs_cnt ys d (k + 1) (by omega)
    rw [cnt_take_succ (by omega)] at ih
    rw [frs_step (by omega)]
    split
    · rename_i h0
      rw [if_pos h0] at ih
      rw [List.length_cons]
      omega
    · rename_i h0
      rw [if_neg h0] at ih
      omega
theorem frs_length (ys : List IV) : (frsI ys 0).length = cnt ys := by
  have := frs_cnt ys ys.length 0 (by omega)
  rwa [List.take_zero, show cnt [] = 0 from rfl, Nat.add_zero] at this
end Go.Proofs.YthfdkenidfnmgaaGreat
namespace Go.Proofs.YthfdkenidfnmgaaGreat
open Go.ChangeShapes Go.WideShapes Go.ChangeAt Go.RowKit
set_option linter.unusedVariables false
set_option maxRecDepth 100000
theorem ibelow_any (w : World) (x n : Int) : Calls Tryz.prog 52 #[.int .i64 x, .int .i64 n] w (Says (inR x 0 (n - 1)) w) := by
  unfold inR
  by_cases h : 0 ≤ x ∧ x ≤ n - 1
  · rw [decide_eq_true h]
    obtain ⟨h1, h2⟩ := h
    have h3 : x < n := by omega
    go_enter Tryz.func52, Tryz.ntmps52
    go_wp2
    go_ret
    exact says_mk rfl
  · rw [decide_eq_false h]
    by_cases h1 : 0 ≤ x
    · have h2 : decide (x < n) = false := by simp; omega
      clear h
      go_enter Tryz.func52, Tryz.ntmps52
      go_wp2
      go_ret
      exact says_mk rfl
    · have h2 : decide (0 ≤ x) = false := by simpa using h1
      clear h
      go_enter Tryz.func52, Tryz.ntmps52
      go_wp2
      go_ret
      exact says_mk rfl
theorem iok_nz {x : IV} (h : x.k ≠ 0) : iok x = (inR x.k 0 3 && (rv x.g && inR x.r 0 50)) := by
  unfold iok
  rw [if_neg h]
  congr 1
  unfold inR
  rw [Bool.eq_iff_iff, decide_eq_true_eq, decide_eq_true_eq]
  omega
set_option maxRecDepth 100000 in
theorem ivalid1_any (w : World) (x : IV) (hx : x.g.length ≤ 2000000) : Calls Tryz.prog 38 #[ivV x] w (BRes (iok x) w) := by
  obtain ⟨xk, xg, xr⟩ := x
  have HB : Hid (Below w.heap.size w (w.alloc (.cells #[.int .i64 xk, .string ⟨xg.toArray⟩, .int .i64 xr] 58))) := Lib.hid ((Below.refl _ _).alloc (Nat.le_refl _) _)
  obtain ⟨r, hr⟩ : ∃ r, r = iok ⟨xk, xg, xr⟩ := ⟨_, rfl⟩
  rw [← hr]
  by_cases hk : xk = 0
  · subst hk
    have HR : Hid (r = decide ((⟨0, xg, xr⟩ : IV) = iz)) := Lib.hid (by rw [hr]; unfold iok; rw [if_pos rfl])
    clear hr
    by_cases hg : xg = []
    · subst hg
      by_cases hz : xr = 0
      · subst hz
        have HR2 : Hid (r = true) := Lib.hid (by rw [HR.out]; exact decide_eq_true rfl)
        clear HR
        go_enter Tryz.func38, Tryz.ntmps38
        go_wp2_with fail
        go_ret
        exact ⟨by rw [HR2.out]; rfl, HB.out⟩
      · have HR2 : Hid (r = false) := Lib.hid (by rw [HR.out]; exact decide_eq_false (fun hh => hz (iv_ext.1 hh).2.2))
        have e1 : (xr == 0) = false := by simpa using hz
        clear HR
        go_enter Tryz.func38, Tryz.ntmps38
        go_wp2_with fail
        go_ret
        exact ⟨by rw [HR2.out]; rfl, HB.out⟩
    · have HR2 : Hid (r = false) := Lib.hid (by rw [HR.out]; exact decide_eq_false (fun hh => hg (iv_ext.1 hh).2.1))
      have e1 : (xg == []) = false := by simpa using hg
      clear HR
      go_enter Tryz.func38, Tryz.ntmps38
      go_wp2_with fail
      go_ret
      exact ⟨by rw [HR2.out]; rfl, HB.out⟩
  · have hk' : (xk == 0) = false := by simpa using hk
    have HR : Hid (r = (inR xk 0 3 && (rv xg && inR xr 0 50))) := Lib.hid (by rw [hr]; exact iok_nz hk)
    have HI1 := Lib.hid (fun w => ibelow_any w xk 4)
    have HI2 := Lib.hid (fun w => ibelow_any w xr 51)
    have HV := Lib.hid (fun w => irv_any w xg hx)
    clear hr hk
    go_enter Tryz.func38, Tryz.ntmps38
    go_wp2_with fail
    refine (HI1.out _).mono ?_
    rintro e w' ⟨rfl, rfl⟩
    rw [show (4 : Int) - 1 = 3 from rfl]
    cases h1 : inR xk 0 3 with
    | false =>
      rw [h1] at HR
      clear h1
      go_wp2_with fail
      go_ret
      exact ⟨by rw [HR.out]; rfl, HB.out⟩
    | true =>
      rw [h1] at HR
      clear h1
      go_wp2_with fail
      refine (HV.out _).mono ?_
      rintro e w2 ⟨rfl, hb2⟩
      have B2 := Lib.hid (HB.out.trans (hb2.mono HB.out.size))
      obtain ⟨c0, c1, c2⟩ := (tri_new w ⟨xk, xg, xr⟩ 58).below hb2 (tri_new w ⟨xk, xg, xr⟩ 58).lt
      simp only [Nat.zero_add] at c0 c1 c2
      clear hb2
      cases h2 : rv xg with
      | false =>
        rw [h2] at HR
        clear h2
        go_wp2_with fail
        go_ret
        exact ⟨by rw [HR.out]; rfl, B2.out⟩
      | true =>
        rw [h2] at HR
        clear h2
        go_wp2_with fail
        refine (HI2.out _).mono ?_
        rintro e w' ⟨rfl, rfl⟩
        rw [show (51 : Int) - 1 = 50 from rfl]
        go_wp2_with fail
        go_ret
        exact ⟨by rw [HR.out]; rfl, B2.out⟩
end Go.Proofs.YthfdkenidfnmgaaGreat
namespace Go.Proofs.YthfdkenidfnmgaaGreat
open Go.ChangeShapes Go.WideShapes Go.ChangeAt Go.RowKit
set_option linter.unusedVariables false
set_option maxRecDepth 100000
def z12 : List IV := List.replicate 12 iz
theorem z12_len : z12.length = 12 := rfl
theorem zero_infos (w : World) : (zeroValue 60).run Tryz.prog w = .ok (.agg (isC z12).toArray) w := Tryz.zeroValue60 w
theorem size_info (w : World) : (sizeOf 58).run Tryz.prog w = .ok 3 w := Tryz.sizeOf58 w
theorem agg_info (w : World) : (isAgg 58).run Tryz.prog w = .ok true w := Tryz.isAgg58 w
theorem info_infos {n : Nat} (h : n = 36) : (Tryz.prog.info? 60).map (·.size) = some n := by subst h; kernel_rfl
theorem isC_all (xs : List IV) : (isC xs).toArray.all (·.oneCell') = true := all_oneCell_toArray (isC_one xs)
theorem isC_36 {xs : List IV} (h : xs.length = 12) : (isC xs).length = 36 := by rw [isC_len, h]
theorem isC_split (xs : List IV) {k : Nat} (hk : k < xs.length) : isC xs = isC (xs.take k) ++ (ivC (xs.getD k iz) ++ isC (xs.drop (k + 1))) := by
  have e : xs = xs.take k ++ ([xs.getD k iz] ++ xs.drop (k + 1)) := by
    rw [← List.append_assoc, ← take_snoc_getD xs k iz hk, List.take_append_drop]
  conv => lhs; rw [e]
  simp [isC]
theorem isC_extract (xs : List IV) {k : Nat} (hk : k < xs.length) : (isC xs).toArray.extract (k * 3) (k * 3 + 3) = (ivC (xs.getD k iz)).toArray := by
  have h1 : (isC (xs.take k)).length = k * 3 := by rw [isC_len, List.length_take]; omega
  rw [isC_split xs hk, List.extract_toArray, List.extract_eq_take_drop]
  congr 1
  rw [List.drop_append_of_le_length (by omega), List.drop_of_length_le (by omega), List.nil_append, List.take_append_of_le_length (by simp [ivC])]
  exact List.take_of_length_le (by simp [ivC])
theorem index_infos (xs : List IV) (hl : xs.length = 12) {k : Nat} (hk : k < 12) (W : World) : (Instr.index 60 (.agg (isC xs).toArray) (.int .i64 k)).run Tryz.prog W = .ok (ivV (xs.getD k iz)) W := by
  rw [run_index_arr (P := Tryz.prog) 60 12 58 3 Tryz.underlying60 agg_info size_info (isC xs).toArray k hk W, isC_extract xs (by omega)]
  rfl
theorem arrayAt_infos (W : World) (a : Option Addr) (cap : Nat) : (Instr.arrayAt 60 (.slice a 12 cap)).run Tryz.prog W = .ok (.pointer a) W := by
  unfold Instr.arrayAt
  rw [Sem.run_bind, run_underlying Tryz.underlying60]
  simp
theorem slice_infos (b : Nat) (W : World) : (Instr.sliceAt 60 (.pointer (some ⟨b, 0, none⟩)) none none none).run Tryz.prog W = .ok (.slice (some ⟨b, 0, none⟩) 12 12) W := by
  unfold Instr.sliceAt
  simp only [Instr.sureAddr, Sem.run_bind, Sem.run_pure, Result.andThen_ok, run_underlying Tryz.underlying60, Instr.sliceBounds]
  simp [add0]
def arrOf (xs : List IV) : List IV := if isok xs = true then xs else z12
theorem arrOf_ok {xs : List IV} (h : isok xs = true) : arrOf xs = xs := if_pos h
theorem arrOf_no {xs : List IV} (h : isok xs = false) : arrOf xs = z12 := by unfold arrOf; rw [h]; rfl
theorem arrOf_len (xs : List IV) : (arrOf xs).length = 12 := by
  unfold arrOf
  split
  · rename_i h; exact isok_len h
  · rfl
def ArrI (zs : List IV) (b : Bool) (w : World) (e : Ending) (w' : World) : Prop := e = .returned (.tuple #[.agg (isC zs).toArray, .bool b]) ∧ Below w.heap.size w w'
structure IRel (w : World) (xs : List IV) (k : Nat) (wr : World) : Prop where
  bel : Below w.heap.size w wr
  size : w.heap.size < wr.heap.size
  res : wr.there w.heap.size 0 36
  ok : ∀ i, i < k → iok (xs.getD i iz) = true
theorem IRel.start (w : World) (xs : List IV) (t : TypeId) : IRel w xs 0 (w.alloc (.cells (isC z12).toArray t)) :=
  ⟨(Below.refl _ _).alloc (Nat.le_refl _) _, by simp, there_row (heap_alloc_new w _) (by rw [List.size_toArray, isC_36 z12_len]; exact Nat.le_refl _), fun i hi => by omega⟩
theorem IRel.after {w wr w1 : World} {xs : List IV} {k : Nat} (h : IRel w xs k wr) (hb : Below wr.heap.size wr w1) : IRel w xs k w1 :=
  ⟨h.bel.trans (hb.mono (Nat.le_of_lt h.size)), by have := h.size; have := hb.size; omega, there_blocks h.res (hb.block _ h.size), h.ok⟩
theorem IRel.step {w wr : World} {xs : List IV} {k : Nat} (h : IRel w xs k wr) (hk : iok (xs.getD k iz) = true) : IRel w xs (k + 1) wr :=
  ⟨h.bel, h.size, h.res, fun i hi => by
    by_cases hik : i = k
    · subst hik; exact hk
    · exact h.ok i (by omega)⟩
end Go.Proofs.YthfdkenidfnmgaaGreat
namespace Go.Proofs.YthfdkenidfnmgaaGreat
open Go.ChangeShapes Go.WideShapes Go.ChangeAt Go.RowKit
set_option linter.unusedVariables false
set_option maxRecDepth 100000
set_option maxRecDepth 100000 in
set_option maxHeartbeats 1000000 in
theorem infosOf_any (w : World) (v : Value) (xs : List IV) (h : Is w v xs) (hs : ShortI xs) :
    Calls Tryz.prog 23 #[v] w (ArrI (arrOf xs) (isok xs) w) := by
  obtain ⟨a, ca, rfl, hla, hma, hxa⟩ := h
  unfold maxLen at hma
  obtain ⟨R, HRR⟩ : ∃ R : Ending → World → Prop, Hid (R = ArrI (arrOf xs) (isok xs) w) := ⟨_, Lib.hid rfl⟩
  rw [← HRR.out]
  obtain ⟨Z, hZ⟩ : ∃ Z, Z = (isC z12).toArray := ⟨_, rfl⟩
  have ZM := Lib.hid zero_infos
  have ZS : Hid (Z.size = 36) := Lib.hid (by rw [hZ, List.size_toArray, isC_36 z12_len])
  have ZO : Hid (Z.all (·.oneCell') = true) := Lib.hid (by rw [hZ]; exact isC_all _)
  have ZT := Lib.hid (IRel.start w xs)
  rw [← hZ] at ZM ZT
  have HZ := Lib.hid hZ
  clear hZ
  obtain ⟨n, hN⟩ : ∃ n, n = xs.length := ⟨_, rfl⟩
  rw [← hN] at hla ⊢
  have HN := Lib.hid hN
  have HX := Lib.hid hxa
  have HS := Lib.hid hs
  clear hN hxa hs
  by_cases hn : n = 12
  · subst hn
    have HAT := fun W => arrayAt_infos W a ca
    have HST := Lib.hid (ZT.out 60)
    obtain ⟨B, hB⟩ : ∃ B, B = w.heap.size := ⟨_, rfl⟩
    have HB := Lib.hid hB
    obtain ⟨w0, hw0⟩ : ∃ w0, w0 = w.alloc (.cells Z 60) := ⟨_, rfl⟩
    rw [← hw0] at HST
    go_enter Tryz.func23, Tryz.ntmps23
    go_wp2_with ((with_reducible refine alloc_is 60 ?_); refine alloc_arr 60 Z ZM.out ?_)
    rw [← hw0, ← hB]
    clear hw0 hB
    go_loopw [12] (fun i wr => ∃ k : Nat, k ≤ 12 ∧ i = .int .i64 k ∧ Hid (IRel w xs k wr)) (fun i _ => 12 - (intOf i).toNat)
    case atStart => exact ⟨0, Nat.zero_le _, rfl, HST⟩
    case round =>
      obtain ⟨k, hk, rfl, HRL⟩ := hrel
      by_cases hlt : k < 12
      · have hlt' : (k : Int) < 12 := by omega
        have hkx : k < xs.length := by have := HN.out; omega
        obtain ⟨b, o, rfl, hc⟩ := HX.out k hkx
        have HC := Lib.hid (hc.below HRL.out.bel hc.lt)
        obtain ⟨x, hx⟩ : ∃ x, x = xs.getD k iz := ⟨_, rfl⟩
        rw [← hx] at HC
        have HXK := Lib.hid hx
        have HV := Lib.hid (fun w => ivalid1_any w x (by rw [hx]; exact HS.out.at k))
        have HCK := Lib.hid hkx
        clear hc hx hkx
        obtain ⟨c0, c1, c2⟩ := HC.out
        obtain ⟨xk, xg, xr⟩ := x
        obtain ⟨wA, hA⟩ : ∃ wA, wA = wr.alloc (.cells #[.int .i64 xk, .string ⟨xg.toArray⟩, .int .i64 xr] 58) := ⟨_, rfl⟩
        have HRA : Hid (IRel w xs k wA) := Lib.hid (by rw [hA]; exact HRL.out.after ((Below.refl _ _).alloc (Nat.le_refl _) _))
        cases hv : iok ⟨xk, xg, xr⟩ with
        | false =>
          rw [hv] at HV
          have HF : Hid (isok xs = false) := Lib.hid (by
            rw [Bool.eq_false_iff]
            intro hh
            have := isok_at hh HCK.out
            rw [← HXK.out, hv] at this
            cases this)
          clear hv
          go_wp2_with fail
          rw [← hA]
          refine (HV.out wA).mono ?_
          rintro e w1 ⟨rfl, hb1⟩
          have HR1 := Lib.hid (HRA.out.after hb1)
          have HT := Lib.hid HR1.out.res
          have HE : Hid (∀ cs, Below w.heap.size w (w1.setCells B 0 cs)) := Lib.hid (fun cs => Below.setCells (Below.refl _ _) _ (by rw [HB.out]; exact Nat.le_refl _) _ _ _ HR1.out.bel)
          rw [← HB.out] at HT
          clear hA hb1 c0 c1 c2
          go_wp2_with (first | ((with_reducible refine build_is 60 ?_); refine build_arr 60 Z 12 58 3 ZM.out Tryz.underlying60 size_info ?_) | ((with_reducible refine store_is 60 (.tmp 2) (.tmp 19) ?_); refine store_arr 60 (.tmp 2) (.tmp 19) B 0 Z rfl rfl (by rw [ZS.out]; exact HT.out) (info_infos ZS.out) ZO.out ?_))
          refine bodyPost_ret (results_cell_mid rfl _ _ B 0 Z.toList _ rfl (World.rangeAt_setCells_same _ _ _ _ (by rw [Array.length_toList, ZS.out]; exact HT.out)) Tryz.underlying60 rfl (info_infos (by rw [Array.length_toList, ZS.out]))) rfl ?_
          rw [HRR.out, HF.out, arrOf_no HF.out]
          exact ⟨by rw [← HZ.out]; simp, HE.out _⟩
        | true =>
          rw [hv] at HV
          have HOK : Hid (iok (xs.getD k iz) = true) := Lib.hid (by rw [← HXK.out]; exact hv)
          clear hv
          go_wp2_with fail
          rw [← hA]
          refine (HV.out wA).mono ?_
          rintro e w1 ⟨rfl, hb1⟩
          have HR1 := Lib.hid ((HRA.out.after hb1).step HOK.out)
          clear hA hb1 c0 c1 c2
          go_wp2_with fail
          go_roundw
          case rel => exact ⟨k + 1, by omega, by go_num, HR1⟩
          case measure => simp [intOf]; omega
      · have e : k = 12 := by omega
        have HM : Hid (isok xs = true) := Lib.hid (isok_iff.2 ⟨fun i hi => HRL.out.ok i (by have := HN.out; omega), HN.out.symm⟩)
        have HT := Lib.hid HRL.out.res
        have HE : Hid (∀ cs, Below w.heap.size w (wr.setCells B 0 cs)) := Lib.hid (fun cs => Below.setCells (Below.refl _ _) _ (by rw [HB.out]; exact Nat.le_refl _) _ _ _ HRL.out.bel)
        rw [← HB.out] at HT
        obtain ⟨b, o, rfl, hc⟩ := HX.out 0 (by have := HN.out; omega)
        have HF : Hid (wr.rangeAt b o (isC xs)) := Lib.hid (fun j u hj => is_cells (fun i hi => by
          obtain ⟨b', o', e', hc'⟩ := HX.out i hi
          cases e'
          exact hc'.below HRL.out.bel hc'.lt) j u hj)
        clear hc
        have HO := Lib.hid (isC_all xs)
        have HL : Hid ((isC xs).length = 36) := Lib.hid (isC_36 HN.out.symm)
        have HLR : Hid (R = ArrI xs true w) := Lib.hid (by rw [HRR.out, HM.out, arrOf_ok HM.out])
        clear HRR
        obtain ⟨C, hC⟩ : ∃ C, C = isC xs := ⟨_, rfl⟩
        rw [← hC] at HF HO HL
        have HCC := Lib.hid hC
        clear hC
        go_wp2_with (first | ((with_reducible refine load_is 60 (.tmp 22) ?_); refine load_arr 60 (.tmp 22) b o C _ rfl HF.out Tryz.underlying60 rfl (info_infos HL.out) ?_) | ((with_reducible refine store_is 60 (.tmp 2) (.tmp 23) ?_); refine store_arr 60 (.tmp 2) (.tmp 23) B 0 C.toArray rfl rfl (by rw [List.size_toArray, HL.out]; exact HT.out) (info_infos (by rw [List.size_toArray, HL.out])) HO.out ?_))
        refine bodyPost_ret (results_cell_mid rfl _ _ B 0 C _ rfl (World.rangeAt_setCells_same _ _ _ _ (by rw [HL.out]; exact HT.out)) Tryz.underlying60 rfl (info_infos HL.out)) rfl ?_
        rw [HLR.out]
        exact ⟨by rw [← HCC.out]; rfl, HE.out _⟩
  · have hn' : ((n : Int) != 12) = true := by simp; omega
    have HM : Hid (isok xs = false) := Lib.hid (by
      rw [Bool.eq_false_iff]
      intro hh
      exact hn (HN.out.trans (isok_len hh)))
    have HT : Hid ((w.alloc (.cells Z 60)).there w.heap.size 0 36) := Lib.hid (ZT.out 60).res
    have HE : Hid (Below w.heap.size w ((w.alloc (.cells Z 60)).setCells w.heap.size 0 Z.toList)) := Lib.hid (Below.setCells (Below.refl _ _) _ (Nat.le_refl _) _ _ _ (ZT.out 60).bel)
    go_enter Tryz.func23, Tryz.ntmps23
    go_wp2_with (first | ((with_reducible refine alloc_is 60 ?_); refine alloc_arr 60 Z ZM.out ?_) | ((with_reducible refine build_is 60 ?_); refine build_arr 60 Z 12 58 3 ZM.out Tryz.underlying60 size_info ?_) | ((with_reducible refine store_is 60 (.tmp 2) (.tmp 9) ?_); refine store_arr 60 (.tmp 2) (.tmp 9) w.heap.size 0 Z rfl rfl (by rw [ZS.out]; exact HT.out) (info_infos ZS.out) ZO.out ?_))
    refine bodyPost_ret (results_cell_mid rfl _ _ w.heap.size 0 Z.toList _ rfl (World.rangeAt_setCells_same _ _ _ _ (by rw [Array.length_toList, ZS.out]; exact HT.out)) Tryz.underlying60 rfl (info_infos (by rw [Array.length_toList, ZS.out]))) rfl ?_
    rw [HRR.out, HM.out, arrOf_no HM.out]
    exact ⟨by rw [← HZ.out]; simp, HE.out⟩
end Go.Proofs.YthfdkenidfnmgaaGreat
namespace Go.Proofs.YthfdkenidfnmgaaGreat
open Go.ChangeShapes Go.WideShapes Go.ChangeAt Go.RowKit
set_option linter.unusedVariables false
set_option maxRecDepth 100000
theorem tri_of_range {w : World} {b : Nat} {xs : List IV} (h : w.rangeAt b 0 (isC xs)) {i : Nat} (hi : i < xs.length) : Tri w b (i * 3) (xs.getD i iz) := by
  have hc : ∀ j v, j < 3 → (ivC (xs.getD i iz))[j]? = some v → w.cell? ⟨b, i * 3 + j, none⟩ = some v := fun j v hj hv => by
    have := h (i * 3 + j) v (by rw [isC_get xs hi hj]; exact hv)
    rwa [Nat.zero_add] at this
  exact ⟨hc 0 _ (by omega) rfl, hc 1 _ (by omega) rfl, hc 2 _ (by omega) rfl⟩
theorem triW_new (w : World) {xs : List IV} (t : TypeId) {i : Nat} (hi : i < xs.length) : TriW (w.alloc (.cells (isC xs).toArray t)) w.heap.size (i * 3) (xs.getD i iz) :=
  ⟨tri_of_range (by have := range_row (heap_alloc_new w (.cells (isC xs).toArray t)); rwa [List.toList_toArray] at this) hi, fun j hj => by
    have := (there_row (n := xs.length * 3) (heap_alloc_new w (.cells (isC xs).toArray t)) (by rw [List.size_toArray, isC_len]; exact Nat.le_refl _)) (i * 3 + j) (by omega)
    rw [Nat.zero_add] at this
    exact this.2⟩
theorem indexAt_infos (b : Nat) {k : Nat} (hk : k < 12) (W : World) : (Instr.indexAt 60 (.pointer (some ⟨b, 0, none⟩)) (.int .i64 k)).run Tryz.prog W = .ok (.pointer (some ⟨b, k * 3, none⟩)) W :=
  run_indexAt_arr (P := Tryz.prog) 60 12 58 3 Tryz.underlying60 size_info (by omega) b k hk W
def NewChain (us : List Nat) (w : World) (e : Ending) (w' : World) : Prop := ∃ p, e = .returned (.pointer p) ∧ Chain w' us p ∧ (∀ a, p = some a → w.heap.size ≤ a.block) ∧ Below w.heap.size w w'
set_option maxRecDepth 100000 in
set_option maxHeartbeats 1000000 in
theorem ifreeL_any (w : World) (xs : List IV) (hl : xs.length = 12) :
    Calls Tryz.prog 24 #[.agg (isC xs).toArray] w (NewChain (frsI xs 0) w) := by
  have HT : Hid (∀ i, i < 12 → Tri (w.alloc (.cells (isC xs).toArray 60)) w.heap.size (i * 3) (xs.getD i iz)) := Lib.hid (fun i hi => (triW_new w 60 (by omega)).at3)
  have HL := Lib.hid hl
  clear hl
  obtain ⟨C, hC⟩ : ∃ C, C = (isC xs).toArray := ⟨_, rfl⟩
  rw [← hC] at HT ⊢
  clear hC
  obtain ⟨B, hB⟩ : ∃ B, B = w.heap.size := ⟨_, rfl⟩
  obtain ⟨w0, hw0⟩ : ∃ w0, w0 = w.alloc (.cells C 60) := ⟨_, rfl⟩
  have HB0 : Hid (Below w.heap.size w w0 ∧ w0.heap.size = B + 1) := Lib.hid ⟨by rw [hw0]; exact (Below.refl _ _).alloc (Nat.le_refl _) _, by rw [hw0, hB]; simp⟩
  rw [← hw0, ← hB] at HT
  go_enter Tryz.func24, Tryz.ntmps24
  go_wp2
  rw [← hw0, ← hB]
  rw [← hB] at HB0
  have HB := Lib.hid hB
  clear hw0 hB
  go_loopw [3, 4] (fun f i wr => ∃ (k : Nat) (p : Option Addr), k ≤ 12 ∧ i = .int .i64 ((k : Int) - 1) ∧ f = .pointer p ∧ Hid (Chain wr (frsI xs k) p) ∧ Hid (Below w0.heap.size w0 wr) ∧ Hid (∀ a, p = some a → w0.heap.size ≤ a.block)) (fun _ i _ => (intOf i + 1).toNat)
  case atStart => exact ⟨12, none, Nat.le_refl _, rfl, rfl, Lib.hid (by rw [← HL.out, frs_end]; rfl), Lib.hid (Below.refl _ _), Lib.hid (fun a h => by cases h)⟩
  case round =>
    obtain ⟨k, p, hk, rfl, rfl, HCH, HBW, HNB⟩ := hrel
    obtain rfl | ⟨j, rfl⟩ : k = 0 ∨ ∃ j, k = j + 1 := by cases k with | zero => exact .inl rfl | succ j => exact .inr ⟨j, rfl⟩
    · have HFIN : Hid (Below w.heap.size w wr) := Lib.hid (by
        rw [← HB.out]
        exact HB0.out.1.trans (HBW.out.mono (by have := HB0.out.2; omega)))
      go_wp2_with fail
      go_ret
      exact ⟨p, rfl, HCH.out, fun a h => by have := HNB.out a h; have := HB0.out.2; have := HB.out; omega, HFIN.out⟩
    · rw [show (((j + 1 : Nat) : Int) - 1) = (j : Int) by omega]
      have hj12 : j < 12 := by omega
      have hfa := (HT.out j hj12).below HBW.out (by have := HB0.out.2; omega)
      have HIX := indexAt_infos B hj12
      have hst := frs_step (ys := xs) (k := j) (by have := HL.out; omega)
      obtain ⟨y, hy⟩ : ∃ y, y = xs.getD j iz := ⟨_, rfl⟩
      rw [← hy] at hfa hst
      clear hy
      have hj0 : (0 : Int) ≤ (j : Int) := by omega
      have hjm : (j : Int) < 12 := by omega
      have hwr : IntKind.i64.wrap ((j : Int) - 1) = (j : Int) - 1 := by rw [IntKind.wrap_i64]; omega
      obtain ⟨s0, s1, s2⟩ := hfa
      by_cases he : y.k = 0
      · rw [if_pos he] at hst
        have e1 : (y.k == 0) = true := by simpa using he
        have HC2 := Lib.hid (HCH.out.cons j 103)
        rw [← hst] at HC2
        have HB2 := Lib.hid (HBW.out.alloc HBW.out.size (.cells #[.int .i64 j, .pointer p] 103))
        have HN2 : Hid (∀ a, some (⟨wr.heap.size, 0, none⟩ : Addr) = some a → w0.heap.size ≤ a.block) := Lib.hid (fun a h => by cases h; exact HBW.out.size)
        clear hst HCH
        go_wp2_with fail
        go_roundw
        case rel => exact ⟨j, _, by omega, by go_num, rfl, HC2, HB2, HN2⟩
        case measure => simp [intOf]
      · rw [if_neg he] at hst
        have e1 : (y.k == 0) = false := by simpa using he
        rw [← hst] at HCH
        clear hst he
        go_wp2_with fail
        go_roundw
        case rel => exact ⟨j, p, by omega, by go_num, rfl, HCH, HBW, HNB⟩
        case measure => simp [intOf]
set_option maxRecDepth 100000 in
set_option maxHeartbeats 1000000 in
theorem icount_any (w : World) (zs : List Nat) (p : Option Addr) (h : Chain w zs p) (hl : zs.length ≤ 12) :
    Calls Tryz.prog 25 #[.pointer p] w (NRes (zs.length : Int) w) := by
  have HCH := Lib.hid h
  clear h
  obtain ⟨c, hc⟩ : ∃ c, c = zs.length := ⟨_, rfl⟩
  rw [← hc] at hl ⊢
  have HL := Lib.hid hc
  clear hc
  go_enter Tryz.func25, Tryz.ntmps25
  go_wp2
  go_loopw [0, 3] (fun f n wr => ∃ (t : Nat) (us : List Nat) (q : Option Addr), n = .int .i64 t ∧ f = .pointer q ∧ Hid (Chain w us q) ∧ t + us.length = c ∧ wr = w) (fun _ n _ => c - (intOf n).toNat)
  case atStart => exact ⟨0, zs, p, rfl, rfl, HCH, by rw [HL.out, Nat.zero_add], rfl⟩
  case round =>
    obtain ⟨t, us, q, rfl, rfl, HC, ht, rfl⟩ := hrel
    cases us with
    | nil =>
      obtain rfl : q = none := HC.out
      obtain rfl : t = c := ht
      go_wp2_with fail
      go_ret
      exact ⟨rfl, Below.refl _ _⟩
    | cons x us =>
      rw [List.length_cons] at ht
      obtain ⟨b, q2, rfl, hx0, hx1, hx2⟩ := HC.out
      have HX := Lib.hid hx2
      have HT := Lib.hid ht
      clear HC hx2
      have htc : (t : Int) < 12 := by omega
      clear ht
      go_wp2_with fail
      go_roundw
      case rel => exact ⟨t + 1, us, q2, by go_num, rfl, HX, by have := HT.out; omega, trivial⟩
      case measure => have := HT.out; simp [intOf]; omega
theorem iclone_any (w : World) (b n : Nat) (xs : List IV) (hl : xs.length ≤ 12) (h : Is w (.slice (some ⟨b, 0, none⟩) n n) xs) :
    Calls Tryz.prog 42 #[.slice (some ⟨b, 0, none⟩) n n] w (NewV xs w) := by
  have HE : ∀ W : World, (binOp .eql 26 (.slice (some ⟨b, 0, none⟩) n n) (.slice none 0 0)).run Tryz.prog W = .ok (.bool false) W := fun _ => by kernel_rfl
  have H := Lib.hid h
  have HN := Lib.hid hl
  clear h hl
  have HSO := Lib.hid (OwnV.start w)
  have H2 := Lib.hid (H.out.below HSO.out.bel)
  go_enter Tryz.func42, Tryz.ntmps42
  go_wp2_with (at_builtin; refine wpList_append_is (.tmp 5) (.tmp 6) w _ [] rfl HSO.out _ xs rfl H2.out nilOkI_some (by simp only [List.length_nil]; have := HN.out; omega) ?_; intro v2 w2 hown2 hnn2 hgrow2)
  rw [List.nil_append] at hown2
  have HO := Lib.hid hown2
  clear hown2 hnn2 hgrow2
  go_wp2
  go_ret
  exact ⟨_, rfl, HO.out.row, HO.out.bel⟩
set_option maxRecDepth 100000 in
set_option maxHeartbeats 1000000 in
theorem ilist_any (w : World) (xs : List IV) (hl : xs.length = 12) : Calls Tryz.prog 30 #[.agg (isC xs).toArray] w (NewV xs w) := by
  have HB1 : Hid (Below w.heap.size w (w.alloc (.cells (isC xs).toArray 60))) := Lib.hid ((Below.refl _ _).alloc (Nat.le_refl _) _)
  have HI : Hid (Is (w.alloc (.cells (isC xs).toArray 60)) (.slice (some ⟨w.heap.size, 0, none⟩) 12 12) xs) := Lib.hid (by
    rw [← hl]
    refine ⟨_, _, rfl, Nat.le_refl _, by unfold maxLen; omega, fun i hi => ⟨_, 0, rfl, ?_⟩⟩
    rw [Nat.zero_add]
    exact (triW_new w _ hi).at3)
  have HC := Lib.hid (fun w b h => iclone_any w b 12 xs (by omega) h)
  have HSL := slice_infos
  clear hl
  obtain ⟨C, hC⟩ : ∃ C, C = (isC xs).toArray := ⟨_, rfl⟩
  rw [← hC] at HB1 HI ⊢
  clear hC
  obtain ⟨w0, hw0⟩ : ∃ w0, w0 = w.alloc (.cells C 60) := ⟨_, rfl⟩
  rw [← hw0] at HB1 HI
  go_enter Tryz.func30, Tryz.ntmps30
  go_wp2_with fail
  rw [← hw0]
  clear hw0
  refine (HC.out w0 _ HI.out).mono ?_
  rintro e w1 ⟨v1, rfl, hr1, hb1⟩
  have HR := Lib.hid (hr1.wide HB1.out.size (Nat.le_refl _))
  have HB2 := Lib.hid (HB1.out.trans (hb1.mono HB1.out.size))
  clear hr1 hb1
  go_wp2_with fail
  go_ret
  exact ⟨_, rfl, HR.out, HB2.out⟩
end Go.Proofs.YthfdkenidfnmgaaGreat
namespace Go.Proofs.YthfdkenidfnmgaaGreat
open Go.ChangeShapes Go.WideShapes Go.ChangeAt Go.RowKit
set_option linter.unusedVariables false
set_option maxRecDepth 100000
structure VarI (w : World) (B : Nat) (zs : List IV) (W : World) : Prop where
  bel : Below w.heap.size w W
  lo : w.heap.size ≤ B
  hi : B < W.heap.size
  len : zs.length = 12
  cells : ∀ i, i < 12 → TriW W B (i * 3) (zs.getD i iz)
theorem VarI.range {w W : World} {B : Nat} {zs : List IV} (h : VarI w B zs W) : W.rangeAt B 0 (isC zs) := fun j u hj => is_cells (fun i hi => by
  rw [Nat.zero_add]
  exact (h.cells i (by have := h.len; omega)).at3) j u hj
theorem VarI.after {w W W2 : World} {B : Nat} {zs : List IV} (h : VarI w B zs W) (hb : Below W.heap.size W W2) : VarI w B zs W2 :=
  ⟨h.bel.trans (hb.mono h.bel.size), h.lo, by have := h.hi; have := hb.size; omega, h.len, fun i hi => (h.cells i hi).block (hb.block _ h.hi)⟩
theorem VarI.make {w w1 : World} {zs : List IV} {Z : Array Value} (t : TypeId) (hb : Below w.heap.size w w1) (hZ : Z.size = 36) (hl : zs.length = 12) : (w1.alloc (.cells Z t)).there w1.heap.size 0 36 ∧ VarI w w1.heap.size zs ((w1.alloc (.cells Z t)).setCells w1.heap.size 0 (isC zs)) := by
  have ht : (w1.alloc (.cells Z t)).there w1.heap.size 0 36 := there_row (heap_alloc_new w1 _) (by omega)
  refine ⟨ht, Below.setCells (Below.refl _ _) _ hb.size _ _ _ (hb.alloc hb.size _), hb.size, by rw [size_setCells]; simp, hl, fun i hi => ⟨tri_of_range (World.rangeAt_setCells_same _ _ _ _ (by rw [isC_36 hl]; exact ht)) (by omega), fun j hj => ?_⟩⟩
  rw [World.frozen?_setCells]
  have := (ht (i * 3 + j) (by omega)).2
  rwa [Nat.zero_add] at this
theorem VarI.set {w W : World} {B k : Nat} {zs : List IV} (h : VarI w B zs W) (hk : k < 12) (x : IV) : W.there B (k * 3) 3 ∧ VarI w B (zs.set k x) (W.setCells B (k * 3) (ivC x)) := by
  have ht := (h.cells k hk).there
  refine ⟨ht, Below.setCells (Below.refl _ _) _ h.lo _ _ _ h.bel, h.lo, by rw [size_setCells]; exact h.hi, by rw [List.length_set]; exact h.len, fun i hi => ?_⟩
  rw [set_getD_eq (by have := h.len; omega)]
  split
  · rename_i e
    subst e
    exact TriW.stored ht
  · rename_i e
    exact (h.cells i hi).apart (.inr (by show i * 3 + 3 ≤ k * 3 ∨ k * 3 + 3 ≤ i * 3; omega))
theorem load_run {P : Program} {W : World} (ty : TypeId) (b o : Nat) (cs : List Value) (d : TypeDesc) (hc : W.rangeAt b o cs) (hu : P.underlying ty = some d) (hd : d.isRow = true) (hi : (P.info? ty).map (·.size) = some cs.length) :
    (do let l ← Instr.loadAt ty (.pointer (some ⟨b, o, none⟩)); pure (Next.value l) : Sem Next).run P W = .ok (.value (.agg cs.toArray)) W := by
  simp only [Instr.loadAt, Instr.sureAddr, Sem.run_bind, Sem.run_pure, Result.andThen_ok, run_loadVar_mid W b o ty cs d hc hu hd hi]
end Go.Proofs.YthfdkenidfnmgaaGreat
