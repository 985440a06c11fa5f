/- What the proofs stand on, part 28. -/
import Derived.Test.YtachiggolgdocaaRows
import Derived.Test.YtachiggolgdocaaM1
import Derived.Test.YtachiggolgdocaaM2
import Derived.Test.YtachiggolgdocaaM3
import Derived.Test.YtachiggolgdocaaM4
import Derived.Test.YtachiggolgdocaaM5
import Derived.Test.YtachiggolgdocaaM6
import Derived.Test.YtachiggolgdocaaM8
import Derived.Test.YtachiggolgdocaaM9
import Derived.Test.YtachiggolgdocaaM10
import Derived.Test.YtachiggolgdocaaM13
set_option linter.unusedSimpArgs false
set_option linter.unusedVariables false
namespace Go.Proofs.Ytachiggolgdocaa
set_option linter.unusedVariables false
def mfit (xs : List IV) (x : IV) : Bool := msok xs && mok x
def msend (xs : List IV) (x : IV) : List IV := if mfit xs x = true then (if xs.length < 8 then xs ++ [x] else xs) else []
def msendB (xs : List IV) (x : IV) : Bool := mfit xs x && decide (xs.length < 8)
end Go.Proofs.Ytachiggolgdocaa
namespace Go.Proofs.Ytachiggolgdocaa
open Go.ChangeShapes Go.WideShapes Go.ChangeAt Go.RowKit
set_option linter.unusedVariables false
def NewVB (ys : List IV) (b : Bool) (w : World) (e : Ending) (w' : World) : Prop := ∃ v, e = .returned (.tuple #[v, .bool b]) ∧ IsW w' w.heap.size w'.heap.size v ys ∧ Below w.heap.size w w'
end Go.Proofs.Ytachiggolgdocaa
namespace Go.Proofs.Ytachiggolgdocaa
open Go.ChangeShapes Go.WideShapes Go.ChangeAt Go.RowKit
set_option linter.unusedVariables false
set_option maxRecDepth 100000 in
set_option maxHeartbeats 1000000 in
theorem sMailSend_any (w : World) (v : Value) (xs : List IV) (x : IV) (h : Is w v xs) (hn : NilOkI v) :
    Calls Try.prog 17 #[v, ivV x] w (NewVB (msend xs x) (msendB xs x) w) := by
  have HNIL := Lib.hid hn
  have HV := Lib.hid (fun w h => sMailsValid_any w v xs h)
  have HM := Lib.hid (fun w => l23Mail_any w x)
  have H := Lib.hid h
  have H0 := Lib.hid (h.below ((Below.refl _ _).alloc (Nat.le_refl _) (.cells #[.int .i64 x.k, .int .i64 x.g, .int .i64 x.r] 25)))
  clear h hn
  obtain ⟨ys, hys⟩ : ∃ ys, ys = msend xs x := ⟨_, rfl⟩
  obtain ⟨b, hb⟩ : ∃ b, b = msendB xs x := ⟨_, rfl⟩
  rw [← hys, ← hb]
  have HYS := Lib.hid hys
  have HBB := Lib.hid hb
  clear hys hb
  have T0 := Lib.hid (tri_new w x 25)
  have HB0 : Hid (Below w.heap.size w (w.alloc (.cells #[.int .i64 x.k, .int .i64 x.g, .int .i64 x.r] 25))) := Lib.hid ((Below.refl _ _).alloc (Nat.le_refl _) _)
  cases h1 : msok xs with
  | false =>
    have HR : Hid (ys = [] ∧ b = false) := Lib.hid (by rw [HYS.out, HBB.out, msend, msendB, mfit, h1]; exact ⟨rfl, rfl⟩)
    rw [h1] at HV
    clear h1
    rw [HR.out.1, HR.out.2]
    go_enter Try.func17, Try.ntmps17
    go_wp2_with fail
    obtain ⟨w0, hw0⟩ : ∃ w0, w0 = w.alloc (.cells #[.int .i64 x.k, .int .i64 x.g, .int .i64 x.r] 25) := ⟨_, rfl⟩
    rw [← hw0] at HB0 H0 T0 ⊢
    clear hw0
    refine (HV.out _ H0.out).mono ?_
    rintro e w1 ⟨rfl, hb1⟩
    have B1 := Lib.hid (HB0.out.trans (hb1.mono HB0.out.size))
    clear hb1
    go_wp2_with fail
    go_ret2
    exact ⟨_, rfl, (IsW.of_ownsRow (OwnV.start w1).own).wide B1.out.size (Nat.le_refl _), B1.out.trans ((OwnV.start w1).bel.mono B1.out.size)⟩
  | true =>
    have HOK := Lib.hid h1
    rw [h1] at HV
    clear h1
    cases h2 : mok x with
    | false =>
      have HR : Hid (ys = [] ∧ b = false) := Lib.hid (by rw [HYS.out, HBB.out, msend, msendB, mfit, h2, Bool.and_false]; exact ⟨rfl, rfl⟩)
      rw [h2] at HM
      clear h2
      rw [HR.out.1, HR.out.2]
      obtain ⟨xk, xg, xr⟩ := x
      go_enter Try.func17, Try.ntmps17
      go_wp2_with fail
      obtain ⟨w0, hw0⟩ : ∃ w0, w0 = w.alloc (.cells #[.int .i64 xk, .int .i64 xg, .int .i64 xr] 25) := ⟨_, rfl⟩
      have HLT : Hid (w.heap.size < w0.heap.size) := Lib.hid (by rw [hw0]; simp)
      rw [← hw0] at HB0 H0 T0 ⊢
      clear hw0
      refine (HV.out _ H0.out).mono ?_
      rintro e w1 ⟨rfl, hb1⟩
      have B1 := Lib.hid (HB0.out.trans (hb1.mono HB0.out.size))
      obtain ⟨c0, c1, c2⟩ := T0.out.below hb1 HLT.out
      clear hb1
      simp only [Nat.zero_add] at c0 c1 c2
      go_wp2_with fail
      refine (HM.out w1).mono ?_
      rintro e w2 ⟨rfl, hb2⟩
      have B2 := Lib.hid (B1.out.trans (hb2.mono B1.out.size))
      clear hb2
      go_wp2_with fail
      go_ret2
      exact ⟨_, rfl, (IsW.of_ownsRow (OwnV.start w2).own).wide B2.out.size (Nat.le_refl _), B2.out.trans ((OwnV.start w2).bel.mono B2.out.size)⟩
    | true =>
      have HFIT : Hid (mfit xs x = true) := Lib.hid (by rw [mfit, HOK.out, h2]; rfl)
      rw [h2] at HM
      clear h2
      have hl8 := msok_len HOK.out
      obtain ⟨n, hnn⟩ : ∃ n, n = xs.length := ⟨_, rfl⟩
      have HN := Lib.hid hnn
      have HY1 : Hid (ys = if n < 8 then xs ++ [x] else xs) := Lib.hid (by rw [HYS.out, msend, if_pos HFIT.out, HN.out])
      have HB1 : Hid (b = decide (n < 8)) := Lib.hid (by rw [HBB.out, msendB, HFIT.out, Bool.true_and, HN.out])
      clear HYS HBB
      obtain ⟨xk, xg, xr⟩ := x
      obtain ⟨a, ca, rfl, hla, hma, -⟩ := H.out
      rw [← hnn] at hla hl8 HV H H0 HNIL ⊢
      unfold maxLen at hma
      clear hnn
      by_cases h8 : n < 8
      · have h8' : ¬ (8 : Int) ≤ (n : Int) := by omega
        rw [if_pos h8] at HY1
        rw [decide_eq_true h8] at HB1
        rw [HB1.out]
        clear h8
        go_enter Try.func17, Try.ntmps17
        go_wp2_with fail
        obtain ⟨w0, hw0⟩ : ∃ w0, w0 = w.alloc (.cells #[.int .i64 xk, .int .i64 xg, .int .i64 xr] 25) := ⟨_, rfl⟩
        have HLT : Hid (w.heap.size < w0.heap.size) := Lib.hid (by rw [hw0]; simp)
        rw [← hw0] at HB0 H0 T0 ⊢
        clear hw0
        refine (HV.out _ H0.out).mono ?_
        rintro e w1 ⟨rfl, hb1⟩
        have B1 := Lib.hid (HB0.out.trans (hb1.mono HB0.out.size))
        have T1 := Lib.hid (T0.out.below hb1 HLT.out)
        obtain ⟨c0, c1, c2⟩ := T1.out
        have H1 := Lib.hid (H0.out.below hb1)
        have HLT1 : Hid (w.heap.size < w1.heap.size) := Lib.hid (Nat.lt_of_lt_of_le HLT.out hb1.size)
        clear hb1
        simp only [Nat.zero_add] at c0 c1 c2
        go_wp2_with fail
        refine (HM.out w1).mono ?_
        rintro e w2 ⟨rfl, hb2⟩
        have B2 := Lib.hid (B1.out.trans (hb2.mono B1.out.size))
        have T2 := Lib.hid (T1.out.below hb2 HLT1.out)
        have H2 := Lib.hid (H1.out.below hb2)
        have HLT2 : Hid (w.heap.size < w2.heap.size) := Lib.hid (Nat.lt_of_lt_of_le HLT1.out hb2.size)
        clear hb2 c0 c1 c2
        go_wp2_with fail
        refine wp_region_held_drew (S := fun w' => Below w2.heap.size w2 w') (by kernel_rfl) (Below.refl _ _).drew (fun hHeld => ?_)
        refine anyH_gen _ (fun AZ hgen => ?_)
        have HBZ := Lib.hid (by rw [hgen]; exact (Below.refl _ _).drew : Below w2.heap.size w2 AZ)
        rw [← hgen] at hHeld
        clear hgen
        refine wpAnyH_take (i := 1) (oi := { dst := some 22, op := .move (.tmp 0), type := _, pos := _, after := _, guard := none }) (v := .slice a n ca) rfl (by kernel_rfl) (by kernel_rfl) (by kernel_rfl) (fun _ _ _ h => h) (Or.inl ⟨by rfl, fun wh hSw => ?_⟩) hHeld ?_
        · go_simp
        try simp only [Act.put, List.setIfInBounds_toArray, List.set_cons_zero, List.set_cons_succ]
        refine wpAnyH_take (i := 3) (oi := { dst := some 24, op := .load 25 (.tmp 3), type := _, pos := _, after := _, guard := none }) (v := .agg #[.int .i64 xk, .int .i64 xg, .int .i64 xr]) rfl (by kernel_rfl) (by kernel_rfl) (by kernel_rfl) (fun _ _ _ h => h) (Or.inl ⟨by rfl, fun wh hSw => ?_⟩) hHeld ?_
        · (obtain ⟨c0, c1, c2⟩ := T2.out.below hSw HLT2.out; simp only [Nat.zero_add] at c0 c1 c2; go_simp)
        try simp only [Act.put, List.setIfInBounds_toArray, List.set_cons_zero, List.set_cons_succ]
        refine wpAnyH_ready (rs := [0, 4]) (by kernel_rfl) (by simp) ?_
        refine AllReadyH.cons (o := { dst := some 21, op := .buildSlice 23 0 #[], type := _, pos := _, after := _, guard := none }) rfl (fun K hK => ?_) (AllReadyH.cons (o := { dst := some 25, op := .buildSlice 23 1 #[(0, .tmp 24)], type := _, pos := _, after := _, guard := none }) rfl (fun K hK => ?_) AllReadyH.nil)
        · go_simp
          refine hK.out _ _ ?_ (fun hHeld => ?_)
          · exact HBZ.out.alloc HBZ.out.size _
          clear hK K
          try simp only [Act.put, List.setIfInBounds_toArray, List.set_cons_zero, List.set_cons_succ]
          refine anyH_gen _ (fun A3 hgen => ?_)
          have HB4 : Hid (Below w2.heap.size w2 A3) := Lib.hid (by rw [hgen]; exact HBZ.out.alloc HBZ.out.size _)
          have HO1 : Hid (OwnV w2 (.slice (some ⟨AZ.heap.size, 0, none⟩) 0 0) [] A3) := Lib.hid (by rw [hgen]; exact (OwnV.start AZ).from HBZ.out)
          have SZ2 : Hid (AZ.heap.size < A3.heap.size) := Lib.hid (by rw [hgen]; simp)
          clear hgen
          refine wpAnyH_ready (rs := [2, 4]) (by kernel_rfl) (by simp) ?_
          refine AllReadyH.cons (o := { dst := some 23, op := .call { callee := .builtin .append, args := #[.tmp 21, .tmp 22], argTypes := #[23, 23] }, type := _, pos := _, after := _, guard := none }) rfl (fun K hK => ?_) (AllReadyH.cons (o := { dst := some 25, op := .buildSlice 23 1 #[(0, .tmp 24)], type := _, pos := _, after := _, guard := none }) rfl (fun K hK => ?_) AllReadyH.nil)
          · rw [if_pos (by rfl)]
            refine wp_append_is (.tmp 21) (.tmp 22) w2 (.slice (some ⟨AZ.heap.size, 0, none⟩) 0 0) [] rfl HO1.out _ xs rfl (H2.out.below HB4.out) HNIL.out (by simp only [List.length_nil]; have := HN.out; omega) ?_
            intro v6 A5 hown hnn hg
            have HO7 := Lib.hid hown
            have HB8 := Lib.hid hown.bel
            clear hown hnn hg
            refine hK.out _ _ ?_ (fun hHeld => ?_)
            · exact HB8.out
            clear hK K
            try simp only [Act.put, List.setIfInBounds_toArray, List.set_cons_zero, List.set_cons_succ]
            refine wpAnyH_ready (rs := [4]) (by kernel_rfl) (by simp) ?_
            refine AllReadyH.cons (o := { dst := some 25, op := .buildSlice 23 1 #[(0, .tmp 24)], type := _, pos := _, after := _, guard := none }) rfl (fun K hK => ?_) AllReadyH.nil
            go_simp
            refine hK.out _ _ ?_ (fun hHeld => ?_)
            · exact HB8.out.alloc HB8.out.size _
            clear hK K
            try simp only [Act.put, List.setIfInBounds_toArray, List.set_cons_zero, List.set_cons_succ]
            refine anyH_gen _ (fun A11 hgen => ?_)
            have HB12 : Hid (Below w2.heap.size w2 A11) := Lib.hid (by rw [hgen]; exact HB8.out.alloc HB8.out.size _)
            have HX9 : Hid (Is A11 (.slice (some ⟨A5.heap.size, 0, none⟩) 1 1) [⟨xk, xg, xr⟩]) := Lib.hid (by rw [hgen]; exact is_one A5 ⟨xk, xg, xr⟩)
            have SZ10 : Hid (A5.heap.size < A11.heap.size) := Lib.hid (by rw [hgen]; simp)
            have HO13 : Hid (OwnV w2 v6 ([] ++ xs) A11) := Lib.hid (by rw [hgen]; exact HO7.out.alloc _)
            clear hgen
            refine wpAnyH_ready (rs := [5]) (by kernel_rfl) (by simp) ?_
            refine AllReadyH.cons (o := { dst := some 26, op := .call { callee := .builtin .append, args := #[.tmp 23, .tmp 25], argTypes := #[23, 23] }, type := _, pos := _, after := _, guard := none }) rfl (fun K hK => ?_) AllReadyH.nil
            rw [if_pos (by rfl)]
            refine wp_append_is (.tmp 23) (.tmp 25) w2 v6 ([] ++ xs) rfl HO13.out _ [⟨xk, xg, xr⟩] rfl HX9.out nilOkI_some (by simp only [List.nil_append, List.length_singleton]; have := HN.out; omega) ?_
            intro v15 A14 hown hnn hg
            have HO16 := Lib.hid hown
            have HB17 := Lib.hid hown.bel
            clear hown hnn hg
            refine hK.out _ _ ?_ (fun hHeld => ?_)
            · exact HB17.out
            clear hK K
            try simp only [Act.put, List.setIfInBounds_toArray, List.set_cons_zero, List.set_cons_succ]
            refine wpAnyH_take (i := 6) (oi := { dst := some 4, op := .assign (.tmp 26), type := _, pos := _, after := _, guard := none }) (v := v15) rfl (by kernel_rfl) (by kernel_rfl) (by kernel_rfl) (fun _ _ _ h => h) (Or.inl ⟨by rfl, fun wh hSw => ?_⟩) hHeld ?_
            · go_simp
            try simp only [Act.put, List.setIfInBounds_toArray, List.set_cons_zero, List.set_cons_succ]
            refine wpAnyH_take (i := 7) (oi := { dst := some 5, op := .assign (.const (.bool true)), type := _, pos := _, after := _, guard := none }) (v := .bool true) rfl (by kernel_rfl) (by kernel_rfl) (by kernel_rfl) (fun _ _ _ h => h) (Or.inl ⟨by rfl, fun wh hSw => ?_⟩) hHeld ?_
            · go_simp
            try simp only [Act.put, List.setIfInBounds_toArray, List.set_cons_zero, List.set_cons_succ]
            refine wpAnyH_done (by kernel_rfl) ?_ _
            go_wp2_with fail
            go_ret2
            exact ⟨_, rfl, by rw [HY1.out]; exact HO16.out.row.wide B2.out.size (Nat.le_refl _), B2.out.trans (HO16.out.bel.mono B2.out.size)⟩
          · go_simp
            refine hK.out _ _ ?_ (fun hHeld => ?_)
            · exact HB4.out.alloc HB4.out.size _
            clear hK K
            try simp only [Act.put, List.setIfInBounds_toArray, List.set_cons_zero, List.set_cons_succ]
            refine anyH_gen _ (fun A20 hgen => ?_)
            have HB21 : Hid (Below w2.heap.size w2 A20) := Lib.hid (by rw [hgen]; exact HB4.out.alloc HB4.out.size _)
            have HX18 : Hid (Is A20 (.slice (some ⟨A3.heap.size, 0, none⟩) 1 1) [⟨xk, xg, xr⟩]) := Lib.hid (by rw [hgen]; exact is_one A3 ⟨xk, xg, xr⟩)
            have SZ19 : Hid (A3.heap.size < A20.heap.size) := Lib.hid (by rw [hgen]; simp)
            have HO22 : Hid (OwnV w2 (.slice (some ⟨AZ.heap.size, 0, none⟩) 0 0) [] A20) := Lib.hid (by rw [hgen]; exact HO1.out.alloc _)
            have NE23 : Hid (AZ.heap.size ≠ A3.heap.size) := Lib.hid (by have := SZ2.out; omega)
            clear hgen
            refine wpAnyH_ready (rs := [2]) (by kernel_rfl) (by simp) ?_
            refine AllReadyH.cons (o := { dst := some 23, op := .call { callee := .builtin .append, args := #[.tmp 21, .tmp 22], argTypes := #[23, 23] }, type := _, pos := _, after := _, guard := none }) rfl (fun K hK => ?_) AllReadyH.nil
            rw [if_pos (by rfl)]
            refine wp_append_is (.tmp 21) (.tmp 22) w2 (.slice (some ⟨AZ.heap.size, 0, none⟩) 0 0) [] rfl HO22.out _ xs rfl (H2.out.below HB21.out) HNIL.out (by simp only [List.length_nil]; have := HN.out; omega) ?_
            intro v25 A24 hown hnn hg
            have HO26 := Lib.hid hown
            have HB27 := Lib.hid hown.bel
            have HX28 : Hid (Is A24 (.slice (some ⟨A3.heap.size, 0, none⟩) 1 1) [⟨xk, xg, xr⟩]) := Lib.hid (by obtain ⟨a9, c9, e9, q1, q2, q3⟩ := HX18.out; refine ⟨a9, c9, e9, q1, q2, fun i hi => ?_⟩; obtain ⟨b9, o9, e8, ht⟩ := q3 i hi; refine ⟨b9, o9, e8, ht.block (hg.block b9 ht.lt (fun e7 => ?_))⟩; rw [e8] at e9; injection e9 with e9; injection e9 with e9; injection e9 with e9; injection e7 with e7; exact NE23.out (by dsimp only at e7 e9 ⊢; omega))
            clear hown hnn hg
            refine hK.out _ _ ?_ (fun hHeld => ?_)
            · exact HB27.out
            clear hK K
            try simp only [Act.put, List.setIfInBounds_toArray, List.set_cons_zero, List.set_cons_succ]
            refine wpAnyH_ready (rs := [5]) (by kernel_rfl) (by simp) ?_
            refine AllReadyH.cons (o := { dst := some 26, op := .call { callee := .builtin .append, args := #[.tmp 23, .tmp 25], argTypes := #[23, 23] }, type := _, pos := _, after := _, guard := none }) rfl (fun K hK => ?_) AllReadyH.nil
            rw [if_pos (by rfl)]
            refine wp_append_is (.tmp 23) (.tmp 25) w2 v25 ([] ++ xs) rfl HO26.out _ [⟨xk, xg, xr⟩] rfl HX28.out nilOkI_some (by simp only [List.nil_append, List.length_singleton]; have := HN.out; omega) ?_
            intro v30 A29 hown hnn hg
            have HO31 := Lib.hid hown
            have HB32 := Lib.hid hown.bel
            clear hown hnn hg
            refine hK.out _ _ ?_ (fun hHeld => ?_)
            · exact HB32.out
            clear hK K
            try simp only [Act.put, List.setIfInBounds_toArray, List.set_cons_zero, List.set_cons_succ]
            refine wpAnyH_take (i := 6) (oi := { dst := some 4, op := .assign (.tmp 26), type := _, pos := _, after := _, guard := none }) (v := v30) rfl (by kernel_rfl) (by kernel_rfl) (by kernel_rfl) (fun _ _ _ h => h) (Or.inl ⟨by rfl, fun wh hSw => ?_⟩) hHeld ?_
            · go_simp
            try simp only [Act.put, List.setIfInBounds_toArray, List.set_cons_zero, List.set_cons_succ]
            refine wpAnyH_take (i := 7) (oi := { dst := some 5, op := .assign (.const (.bool true)), type := _, pos := _, after := _, guard := none }) (v := .bool true) rfl (by kernel_rfl) (by kernel_rfl) (by kernel_rfl) (fun _ _ _ h => h) (Or.inl ⟨by rfl, fun wh hSw => ?_⟩) hHeld ?_
            · go_simp
            try simp only [Act.put, List.setIfInBounds_toArray, List.set_cons_zero, List.set_cons_succ]
            refine wpAnyH_done (by kernel_rfl) ?_ _
            go_wp2_with fail
            go_ret2
            exact ⟨_, rfl, by rw [HY1.out]; exact HO31.out.row.wide B2.out.size (Nat.le_refl _), B2.out.trans (HO31.out.bel.mono B2.out.size)⟩
        · go_simp
          refine hK.out _ _ ?_ (fun hHeld => ?_)
          · exact HBZ.out.alloc HBZ.out.size _
          clear hK K
          try simp only [Act.put, List.setIfInBounds_toArray, List.set_cons_zero, List.set_cons_succ]
          refine anyH_gen _ (fun A35 hgen => ?_)
          have HB36 : Hid (Below w2.heap.size w2 A35) := Lib.hid (by rw [hgen]; exact HBZ.out.alloc HBZ.out.size _)
          have HX33 : Hid (Is A35 (.slice (some ⟨AZ.heap.size, 0, none⟩) 1 1) [⟨xk, xg, xr⟩]) := Lib.hid (by rw [hgen]; exact is_one AZ ⟨xk, xg, xr⟩)
          have SZ34 : Hid (AZ.heap.size < A35.heap.size) := Lib.hid (by rw [hgen]; simp)
          clear hgen
          refine wpAnyH_ready (rs := [0]) (by kernel_rfl) (by simp) ?_
          refine AllReadyH.cons (o := { dst := some 21, op := .buildSlice 23 0 #[], type := _, pos := _, after := _, guard := none }) rfl (fun K hK => ?_) AllReadyH.nil
          go_simp
          refine hK.out _ _ ?_ (fun hHeld => ?_)
          · exact HB36.out.alloc HB36.out.size _
          clear hK K
          try simp only [Act.put, List.setIfInBounds_toArray, List.set_cons_zero, List.set_cons_succ]
          refine anyH_gen _ (fun A39 hgen => ?_)
          have HB40 : Hid (Below w2.heap.size w2 A39) := Lib.hid (by rw [hgen]; exact HB36.out.alloc HB36.out.size _)
          have HO37 : Hid (OwnV w2 (.slice (some ⟨A35.heap.size, 0, none⟩) 0 0) [] A39) := Lib.hid (by rw [hgen]; exact (OwnV.start A35).from HB36.out)
          have SZ38 : Hid (A35.heap.size < A39.heap.size) := Lib.hid (by rw [hgen]; simp)
          have HX41 : Hid (Is A39 (.slice (some ⟨AZ.heap.size, 0, none⟩) 1 1) [⟨xk, xg, xr⟩]) := Lib.hid (by rw [hgen]; exact HX33.out.below ((Below.refl _ _).alloc (Nat.le_refl _) _))
          have NE42 : Hid (A35.heap.size ≠ AZ.heap.size) := Lib.hid (by have := SZ34.out; omega)
          clear hgen
          refine wpAnyH_ready (rs := [2]) (by kernel_rfl) (by simp) ?_
          refine AllReadyH.cons (o := { dst := some 23, op := .call { callee := .builtin .append, args := #[.tmp 21, .tmp 22], argTypes := #[23, 23] }, type := _, pos := _, after := _, guard := none }) rfl (fun K hK => ?_) AllReadyH.nil
          rw [if_pos (by rfl)]
          refine wp_append_is (.tmp 21) (.tmp 22) w2 (.slice (some ⟨A35.heap.size, 0, none⟩) 0 0) [] rfl HO37.out _ xs rfl (H2.out.below HB40.out) HNIL.out (by simp only [List.length_nil]; have := HN.out; omega) ?_
          intro v44 A43 hown hnn hg
          have HO45 := Lib.hid hown
          have HB46 := Lib.hid hown.bel
          have HX47 : Hid (Is A43 (.slice (some ⟨AZ.heap.size, 0, none⟩) 1 1) [⟨xk, xg, xr⟩]) := Lib.hid (by obtain ⟨a9, c9, e9, q1, q2, q3⟩ := HX41.out; refine ⟨a9, c9, e9, q1, q2, fun i hi => ?_⟩; obtain ⟨b9, o9, e8, ht⟩ := q3 i hi; refine ⟨b9, o9, e8, ht.block (hg.block b9 ht.lt (fun e7 => ?_))⟩; rw [e8] at e9; injection e9 with e9; injection e9 with e9; injection e9 with e9; injection e7 with e7; exact NE42.out (by dsimp only at e7 e9 ⊢; omega))
          clear hown hnn hg
          refine hK.out _ _ ?_ (fun hHeld => ?_)
          · exact HB46.out
          clear hK K
          try simp only [Act.put, List.setIfInBounds_toArray, List.set_cons_zero, List.set_cons_succ]
          refine wpAnyH_ready (rs := [5]) (by kernel_rfl) (by simp) ?_
          refine AllReadyH.cons (o := { dst := some 26, op := .call { callee := .builtin .append, args := #[.tmp 23, .tmp 25], argTypes := #[23, 23] }, type := _, pos := _, after := _, guard := none }) rfl (fun K hK => ?_) AllReadyH.nil
          rw [if_pos (by rfl)]
          refine wp_append_is (.tmp 23) (.tmp 25) w2 v44 ([] ++ xs) rfl HO45.out _ [⟨xk, xg, xr⟩] rfl HX47.out nilOkI_some (by simp only [List.nil_append, List.length_singleton]; have := HN.out; omega) ?_
          intro v49 A48 hown hnn hg
          have HO50 := Lib.hid hown
          have HB51 := Lib.hid hown.bel
          clear hown hnn hg
          refine hK.out _ _ ?_ (fun hHeld => ?_)
          · exact HB51.out
          clear hK K
          try simp only [Act.put, List.setIfInBounds_toArray, List.set_cons_zero, List.set_cons_succ]
          refine wpAnyH_take (i := 6) (oi := { dst := some 4, op := .assign (.tmp 26), type := _, pos := _, after := _, guard := none }) (v := v49) rfl (by kernel_rfl) (by kernel_rfl) (by kernel_rfl) (fun _ _ _ h => h) (Or.inl ⟨by rfl, fun wh hSw => ?_⟩) hHeld ?_
          · go_simp
          try simp only [Act.put, List.setIfInBounds_toArray, List.set_cons_zero, List.set_cons_succ]
          refine wpAnyH_take (i := 7) (oi := { dst := some 5, op := .assign (.const (.bool true)), type := _, pos := _, after := _, guard := none }) (v := .bool true) rfl (by kernel_rfl) (by kernel_rfl) (by kernel_rfl) (fun _ _ _ h => h) (Or.inl ⟨by rfl, fun wh hSw => ?_⟩) hHeld ?_
          · go_simp
          try simp only [Act.put, List.setIfInBounds_toArray, List.set_cons_zero, List.set_cons_succ]
          refine wpAnyH_done (by kernel_rfl) ?_ _
          go_wp2_with fail
          go_ret2
          exact ⟨_, rfl, by rw [HY1.out]; exact HO50.out.row.wide B2.out.size (Nat.le_refl _), B2.out.trans (HO50.out.bel.mono B2.out.size)⟩
      · have h8' : (8 : Int) ≤ (n : Int) := by omega
        rw [if_neg h8] at HY1
        rw [decide_eq_false h8] at HB1
        rw [HB1.out, HY1.out]
        clear h8
        go_enter Try.func17, Try.ntmps17
        go_wp2_with fail
        obtain ⟨w0, hw0⟩ : ∃ w0, w0 = w.alloc (.cells #[.int .i64 xk, .int .i64 xg, .int .i64 xr] 25) := ⟨_, rfl⟩
        have HLT : Hid (w.heap.size < w0.heap.size) := Lib.hid (by rw [hw0]; simp)
        rw [← hw0] at HB0 H0 T0 ⊢
        clear hw0
        refine (HV.out _ H0.out).mono ?_
        rintro e w1 ⟨rfl, hb1⟩
        have B1 := Lib.hid (HB0.out.trans (hb1.mono HB0.out.size))
        have H1 := Lib.hid (H0.out.below hb1)
        obtain ⟨c0, c1, c2⟩ := T0.out.below hb1 HLT.out
        clear hb1
        simp only [Nat.zero_add] at c0 c1 c2
        go_wp2_with fail
        refine (HM.out w1).mono ?_
        rintro e w2 ⟨rfl, hb2⟩
        have B2 := Lib.hid (B1.out.trans (hb2.mono B1.out.size))
        have H2 := Lib.hid (H1.out.below hb2)
        clear hb2 c0 c1 c2
        go_wp2_with (at_builtin; refine wpList_append_is (.tmp 18) (.tmp 19) w2 _ [] rfl (OwnV.start w2) _ xs rfl (H2.out.below (OwnV.start w2).bel) HNIL.out (by simp only [List.length_nil]; have := HN.out; omega) ?_; intro v3 w3 hown hnn hg)
        rw [List.nil_append] at hown
        have HO := Lib.hid hown
        clear hown hnn hg
        go_wp2_with fail
        go_ret2
        exact ⟨_, rfl, HO.out.row.wide B2.out.size (Nat.le_refl _), B2.out.trans (HO.out.bel.mono B2.out.size)⟩
end Go.Proofs.Ytachiggolgdocaa
namespace Go.Proofs.Ytachiggolgdocaa
open Go.ChangeShapes Go.WideShapes Go.ChangeAt Go.RowKit
set_option linter.unusedVariables false
theorem ifull_any (w : World) (a : Option Addr) (n cap : Nat) (hn : n ≤ 8) : Calls Try.prog 44 #[.slice a n cap] w fun e w' => e = .returned (.bool (decide (n = 8))) ∧ w = w' := by
  have e : decide (n = 8) = ((n : Int) == 8) := by
    rw [Bool.eq_iff_iff]; simp; omega
  rw [e]
  go_enter Try.func44, Try.ntmps44
  go_wp2
  go_ret
  exact ⟨rfl, rfl⟩
set_option maxRecDepth 100000 in
set_option maxHeartbeats 1000000 in
theorem ims_any (w : World) (v : Value) (xs : List IV) (x : IV) (h : Is w v xs) :
    Calls Try.prog 16 #[v, ivV x] w (NewVB (msend xs x) (msendB xs x) w) := by
  have HM := Lib.hid (fun w => ivalid_any w x)
  obtain ⟨ys, hys⟩ : ∃ ys, ys = msend xs x := ⟨_, rfl⟩
  obtain ⟨b, hb⟩ : ∃ b, b = msendB xs x := ⟨_, rfl⟩
  rw [← hys, ← hb]
  have HYS := Lib.hid hys
  have HBB := Lib.hid hb
  clear hys hb
  obtain ⟨w0, hw0⟩ : ∃ w0, w0 = w.alloc (.cells #[.int .i64 x.k, .int .i64 x.g, .int .i64 x.r] 25) := ⟨_, rfl⟩
  have HW0 := Lib.hid hw0
  have T0 : Hid (Tri w0 w.heap.size 0 x) := Lib.hid (by rw [hw0]; exact tri_new w x _)
  have B0 : Hid (Below w.heap.size w w0) := Lib.hid (by rw [hw0]; exact (Below.refl _ _).alloc (Nat.le_refl _) _)
  have L0 : Hid (w.heap.size < w0.heap.size) := Lib.hid (by rw [hw0]; simp)
  have HC := Lib.hid (queueOf_any w0 v xs (h.below B0.out))
  clear h hw0
  obtain ⟨xk, xg, xr⟩ := x
  cases h1 : msok xs with
  | false =>
    have HR : Hid (ys = [] ∧ b = false) := Lib.hid (by rw [HYS.out, HBB.out, msend, msendB, mfit, h1]; exact ⟨rfl, rfl⟩)
    rw [h1] at HC
    clear h1
    rw [HR.out.1, HR.out.2]
    go_enter Try.func16, Try.ntmps16
    go_wp2_with fail
    rw [← HW0.out]
    refine HC.out.mono ?_
    rintro e w1 ⟨v1, rfl, -, h2, hb1⟩
    obtain rfl := h2 rfl
    have B1 := Lib.hid (B0.out.trans (hb1.mono B0.out.size))
    clear hb1 h2
    go_wp2_with fail
    go_ret2
    exact ⟨_, rfl, isW_none, B1.out.alloc B1.out.size _⟩
  | true =>
    have HOK := Lib.hid h1
    rw [h1] at HC
    clear h1
    cases h2 : mok ⟨xk, xg, xr⟩ with
    | false =>
      have HR : Hid (ys = [] ∧ b = false) := Lib.hid (by rw [HYS.out, HBB.out, msend, msendB, mfit, h2, Bool.and_false]; exact ⟨rfl, rfl⟩)
      rw [h2] at HM
      clear h2
      rw [HR.out.1, HR.out.2]
      go_enter Try.func16, Try.ntmps16
      go_wp2_with fail
      rw [← HW0.out]
      refine HC.out.mono ?_
      rintro e w1 ⟨v1, rfl, h1, -, hb1⟩
      obtain ⟨a1, n1, c1, rfl⟩ : ∃ a n c, v1 = .slice a n c := by obtain ⟨a, c, e, _⟩ := h1 rfl; exact ⟨a, _, c, e⟩
      have hb2 := hb1.alloc hb1.size (.cells #[.slice a1 n1 c1] 60)
      have B2 := Lib.hid (B0.out.trans (hb2.mono B0.out.size))
      obtain ⟨c0, c1', c2⟩ := T0.out.below hb2 L0.out
      clear hb1 h1 hb2
      simp only [Nat.zero_add] at c0 c1' c2
      go_wp2_with fail
      refine (HM.out _).mono ?_
      rintro e w2 ⟨rfl, hb3⟩
      have B3 := Lib.hid (B2.out.trans (hb3.mono B2.out.size))
      clear hb3
      go_wp2_with fail
      go_ret2
      exact ⟨_, rfl, isW_none, B3.out⟩
    | true =>
      have HFIT : Hid (mfit xs ⟨xk, xg, xr⟩ = true) := Lib.hid (by rw [mfit, HOK.out, h2]; rfl)
      rw [h2] at HM
      clear h2
      have hl8 := msok_len HOK.out
      obtain ⟨n, hnn⟩ : ∃ n, n = xs.length := ⟨_, rfl⟩
      have HN := Lib.hid hnn
      have HY1 : Hid (ys = if n < 8 then xs ++ [⟨xk, xg, xr⟩] else xs) := Lib.hid (by rw [HYS.out, msend, if_pos HFIT.out, HN.out])
      have HB1 : Hid (b = decide (n < 8)) := Lib.hid (by rw [HBB.out, msendB, HFIT.out, Bool.true_and, HN.out])
      clear HYS HBB
      rw [← hnn] at hl8
      clear hnn
      go_enter Try.func16, Try.ntmps16
      go_wp2_with fail
      rw [← HW0.out]
      refine HC.out.mono ?_
      rintro e w1 ⟨v1, rfl, h1, -, hb1⟩
      have HQR := Lib.hid (h1 rfl)
      obtain ⟨a1, c1, rfl, hc1⟩ : ∃ a c, v1 = .slice a n c ∧ n ≤ c := by obtain ⟨a, c, e, hc, _⟩ := HQR.out; rw [← HN.out] at e hc; exact ⟨a, c, e, hc⟩
      have HQV := Lib.hid ((qv_new HQR.out hb1 60).mono (F := fun b => b < w.heap.size) (fun b hb => .inl (Nat.lt_of_lt_of_le hb B0.out.size)))
      have hb2 := hb1.alloc hb1.size (.cells #[.slice a1 n c1] 60)
      have HLQ : Hid (w.heap.size < w1.heap.size) := Lib.hid (Nat.lt_of_lt_of_le L0.out hb1.size)
      obtain ⟨Q, hQ⟩ : ∃ Q, Q = w1.heap.size := ⟨_, rfl⟩
      obtain ⟨w2, hw2⟩ : ∃ w2, w2 = w1.alloc (.cells #[.slice a1 n c1] 60) := ⟨_, rfl⟩
      rw [← hw2] at hb2
      rw [← hQ, ← hw2] at HQV
      rw [← hQ] at HLQ
      have HW2 := Lib.hid hw2
      have HQE := Lib.hid hQ
      have B2 := Lib.hid (B0.out.trans (hb2.mono B0.out.size))
      have T2 := Lib.hid (T0.out.below hb2 L0.out)
      have hT := T2.out
      rw [hw2] at hT
      obtain ⟨c0, c1', c2⟩ := hT
      have hQc : (w1.alloc (.cells #[.slice a1 n c1] 60)).cell? ⟨w1.heap.size, 0, none⟩ = some (.slice a1 n c1) := new_cell rfl
      clear hb1 h1 hb2 hw2 hQ
      simp only [Nat.zero_add] at c0 c1' c2
      have hn8 : (n : Int) ≤ 8 := by omega
      go_wp2_with fail
      rw [← HW2.out, ← HQE.out]
      clear c0 c1' c2 hQc
      refine (HM.out _).mono ?_
      rintro e w3 ⟨rfl, hb3⟩
      have B3 := Lib.hid (B2.out.trans (hb3.mono B2.out.size))
      have T3 := Lib.hid (T2.out.below hb3 (by have := HQV.out.lt; have := HLQ.out; omega))
      have HQ3 := Lib.hid (HQV.out.of_blocks (fun g _ hg => hb3.block g hg) (by have := HLQ.out; omega))
      obtain ⟨vq, hcq, hfq, a3, c3, rfl, hq1, -, -⟩ := HQ3.out
      rw [← HN.out] at hcq hq1
      obtain ⟨c0, c1', c2⟩ := T3.out
      simp only [Nat.zero_add] at c0 c1' c2
      clear hb3
      have HFU := Lib.hid (fun w => ifull_any w a3 n c3 hl8)
      by_cases h8 : n < 8
      · have hne : decide (n = 8) = false := decide_eq_false (by omega)
        rw [hne] at HFU
        rw [if_pos h8] at HY1
        rw [decide_eq_true h8] at HB1
        clear h8 hne
        go_wp2_with fail
        refine (HFU.out _).mono ?_
        rintro e w' ⟨rfl, rfl⟩
        go_wp2_with fail
        refine (iput_any (fun b => b < w.heap.size) _ Q ⟨xk, xg, xr⟩ xs HQ3.out (fun i hi => Nat.lt_of_lt_of_le hi B3.out.size) (by have := HLQ.out; omega) (by rw [← HN.out]; exact hl8)).mono ?_
        rintro e w4 ⟨rfl, hv4, hk4⟩
        have HQ4 := Lib.hid hv4
        have B4 := Lib.hid (B3.out.trans hk4.below)
        clear hv4 hk4 hcq hfq c0 c1' c2
        obtain ⟨v4, hcq, hfq, hsq⟩ := HQ4.out
        have HS4 := Lib.hid (hsq.isW (B := w.heap.size) (fun g hg => hg))
        obtain ⟨a4, c4, rfl, -⟩ := hsq
        obtain ⟨n4, hn4⟩ : ∃ n4, n4 = (xs ++ [(⟨xk, xg, xr⟩ : IV)]).length := ⟨_, rfl⟩
        rw [← hn4] at hcq HS4
        clear hfq hn4
        go_wp2_with fail
        go_ret2
        exact ⟨_, by rw [HB1.out]; rfl, by rw [HY1.out]; exact HS4.out, B4.out⟩
      · have hne : decide (n = 8) = true := decide_eq_true (by omega)
        rw [hne] at HFU
        rw [if_neg h8] at HY1
        rw [decide_eq_false h8] at HB1
        clear h8 hne
        have HS4 := Lib.hid (show IsW _ w.heap.size _ _ xs from (by obtain ⟨v5, e5, _, hsq⟩ := HQ3.out; rw [hcq] at e5; cases e5; exact hsq.isW (B := w.heap.size) (fun g hg => hg)))
        go_wp2_with fail
        refine (HFU.out _).mono ?_
        rintro e w' ⟨rfl, rfl⟩
        go_wp2_with fail
        go_ret2
        exact ⟨_, by rw [HB1.out]; rfl, by rw [HY1.out]; exact HS4.out, B3.out⟩
end Go.Proofs.Ytachiggolgdocaa
