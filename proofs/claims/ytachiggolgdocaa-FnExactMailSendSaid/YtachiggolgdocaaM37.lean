/- What the proofs stand on, part 37. -/
import Derived.Test.YtachiggolgdocaaRows
import Derived.Test.YtachiggolgdocaaM1
import Derived.Test.YtachiggolgdocaaM2
import Derived.Test.YtachiggolgdocaaM3
import Derived.Test.YtachiggolgdocaaM4
import Derived.Test.YtachiggolgdocaaM5
import Derived.Test.YtachiggolgdocaaM6
import Derived.Test.YtachiggolgdocaaM8
import Derived.Test.YtachiggolgdocaaM9
import Derived.Test.YtachiggolgdocaaM10
import Derived.Test.YtachiggolgdocaaM13
import Derived.Test.YtachiggolgdocaaM21
import Derived.Test.YtachiggolgdocaaM22
import Derived.Test.YtachiggolgdocaaM27
import Derived.Test.YtachiggolgdocaaM28
import Derived.Test.YtachiggolgdocaaM31
set_option linter.unusedSimpArgs false
set_option linter.unusedVariables false
namespace Go.Proofs.Ytachiggolgdocaa
set_option linter.unusedVariables false
theorem msend_len {xs : List IV} {x : IV} : (msend xs x).length ≤ 8 := by
  unfold msend
  split
  · rename_i h
    have := msok_len (Bool.and_eq_true _ _ ▸ h).1
    split
    · rw [List.length_append, List.length_singleton]; omega
    · exact this
  · exact Nat.zero_le _
end Go.Proofs.Ytachiggolgdocaa
namespace Go.Proofs.Ytachiggolgdocaa
open Go.ChangeShapes Go.WideShapes Go.ChangeAt Go.RowKit
set_option linter.unusedVariables false
set_option maxRecDepth 100000 in
set_option maxHeartbeats 2000000 in
theorem exMailSend_walk (W : World) (v0 : Value) (xs : List IV) (x : IV) (h : Is W v0 xs) :
    Calls Try.prog 12 #[v0, ivV x] W fun e w' => e = .returned (.bool true) ∧ Below W.heap.size W w' := by
  obtain ⟨W0, hW0⟩ : ∃ W0, W0 = W.alloc (.cells #[.int .i64 x.k, .int .i64 x.g, .int .i64 x.r] 48) := ⟨_, rfl⟩
  have HBW : Hid (Below W.heap.size W W0) := Lib.hid (by rw [hW0]; exact (Below.refl _ _).alloc (Nat.le_refl _) _)
  have T0 : Hid (Tri W0 W.heap.size 0 x) := Lib.hid (by rw [hW0]; exact tri_new W x _)
  have HWE := Lib.hid hW0
  have H0 := Lib.hid (h.below HBW.out)
  clear hW0
  obtain ⟨xk, xg, xr⟩ := x
  obtain ⟨ys, hys⟩ : ∃ ys, ys = msend xs ⟨xk, xg, xr⟩ := ⟨_, rfl⟩
  obtain ⟨b, hb⟩ : ∃ b, b = msendB xs ⟨xk, xg, xr⟩ := ⟨_, rfl⟩
  have hy6 : ys.length ≤ 8 := by rw [hys]; exact msend_len
  have HYS := Lib.hid hys
  have HBB := Lib.hid hb
  clear hys hb
  have hbb := neB b
  obtain ⟨ny, hny⟩ : ∃ n, n = ys.length := ⟨_, rfl⟩
  have HNY := Lib.hid hny
  have hny1 : ny ≤ 8 := by omega
  clear hny hy6
  have hge2 : decide ((1 : Int) + 3 * (ny : Int) < 0) = false := by simp; omega
  go_enter Try.func12, Try.ntmps12
  go_wp2_with fail
  rw [← HWE.out]
  refine (szMailS_any W0 v0 xs 1048576 (by exact H0.out) (by omega) (by omega)).mono ?_
  clear h
  rintro e w0 ⟨r, hr, rfl, hw0⟩
  have B0 : Hid (Below W0.heap.size W0 w0) := Lib.hid (by rw [← hw0]; exact Below.refl _ _)
  clear hw0
  by_cases hr0 : r < 0
  · go_wp2_with fail
    go_ret
    exact ⟨rfl, HBW.out.trans (B0.out.mono HBW.out.size)⟩
  have hr1 : decide (r < 0) = false := by simpa using hr0
  have hn : xs.length ≤ 1048576 := by rcases hr with h | h <;> omega
  clear hr hr0
  have HSP : Hid (∀ w v, Is w v xs → NilOkI v → Calls Try.prog 17 #[v, .agg #[.int .i64 xk, .int .i64 xg, .int .i64 xr]] w (NewVB ys b w)) := Lib.hid (fun w v h hn => by rw [HYS.out, HBB.out]; exact sMailSend_any w v xs ⟨xk, xg, xr⟩ h hn)
  have HIM : Hid (∀ w v, Is w v xs → NilOkI v → Calls Try.prog 16 #[v, .agg #[.int .i64 xk, .int .i64 xg, .int .i64 xr]] w (NewVB ys b w)) := Lib.hid (fun w v h hn => by rw [HYS.out, HBB.out]; exact ims_any w v xs ⟨xk, xg, xr⟩ h)
  obtain ⟨m, hm⟩ : ∃ m, m = xs.length := ⟨_, rfl⟩
  have HM := Lib.hid hm
  have hm1 : m ≤ 1048576 := by omega
  clear hm
  have Z0 : W0.heap.size ≤ w0.heap.size := B0.out.size
  have Bw0 := B0
  clear B0
  go_wp2_with fail
  refine wp_region_held_drew (S := fun w' => Tri w' W.heap.size 0 ⟨xk, xg, xr⟩) (by kernel_rfl) (T0.out.below Bw0.out.drew T0.out.lt) (fun hHeld => ?_)
  refine wpAnyH_take (i := 0) (oi := { dst := some 22, op := .move (.tmp 0), type := _, pos := _, after := _, guard := none }) (v := v0) rfl (by kernel_rfl) (by kernel_rfl) (by kernel_rfl) (fun _ _ _ h => h) (Or.inl ⟨by rfl, fun wh hSw => ?_⟩) hHeld ?_
  · go_simp
  try simp only [Act.put, List.setIfInBounds_toArray, List.set_cons_zero, List.set_cons_succ]
  refine wpAnyH_take (i := 2) (oi := { dst := some 24, op := .load 48 (.tmp 3), type := _, pos := _, after := _, guard := none }) (v := .agg #[.int .i64 xk, .int .i64 xg, .int .i64 xr]) rfl (by kernel_rfl) (by kernel_rfl) (by kernel_rfl) (fun _ _ _ h => h) (Or.inl ⟨by rfl, fun wh hSw => ?_⟩) hHeld ?_
  · (obtain ⟨c0, c1, c2⟩ := hSw; simp only [Nat.zero_add] at c0 c1 c2; go_simp)
  try simp only [Act.put, List.setIfInBounds_toArray, List.set_cons_zero, List.set_cons_succ]
  refine anyH_gen _ (fun wd22 hgen => ?_)
  have Cd : Chg 0 0 w0 wd22 := Chg.of_below (by rw [hgen]; exact (Below.refl _ _).drew)
  clear hgen
  have Zwd22 := Cd.size
  have Bwd22 := Lib.hid (Below.chg Bw0.out Cd (by omega) (.inr rfl))
  clear Cd Bw0
  refine wpAnyH_ready (rs := [1]) (by kernel_rfl) (by simp) ?_
  refine AllReadyH.cons (o := { dst := some 23, op := .call { callee := .value (.func 30), args := #[.tmp 22], argTypes := #[44] }, type := _, pos := _, after := _, guard := none }) rfl (fun K hK => ?_) AllReadyH.nil
  go_simp
  refine (toInfoS_any wd22 v0 xs (H0.out.below Bwd22.out) hn).mono ?_
  rintro e w1 ⟨u1, rfl, ho, hb, hv⟩
  have Cw1 := Chg.of_below hb
  have Q0 := Lib.hid ho.is
  have N0 := Lib.hid (nilOk_of hv)
  clear ho hb hv
  have Zw1 := Cw1.size
  have Bw1 := Lib.hid (Below.chg Bwd22.out Cw1 (by omega) (.inr rfl))
  clear Cw1 Bwd22
  refine hK.out _ _ ?_ (fun hHeld => ?_)
  · exact T0.out.below Bw1.out T0.out.lt
  clear hK K
  try simp only [Act.put, List.setIfInBounds_toArray, List.set_cons_zero, List.set_cons_succ]
  refine wpAnyH_ready (rs := [3]) (by kernel_rfl) (by simp) ?_
  refine AllReadyH.cons (o := { dst := some 25, op := .call { callee := .value (.func 32), args := #[.tmp 24], argTypes := #[48] }, type := _, pos := _, after := _, guard := none }) rfl (fun K hK => ?_) AllReadyH.nil
  go_simp
  refine (toInfo_any w1 ⟨xk, xg, xr⟩).mono ?_
  rintro e wm22 ⟨rfl, hb⟩
  have Cwm22 := Chg.of_below hb
  replace Q0 := Lib.hid (Q0.out.below hb)
  clear hb
  have Zwm22 := Cwm22.size
  have Bwm22 := Lib.hid (Below.chg Bw1.out Cwm22 (by omega) (.inr rfl))
  clear Cwm22 Bw1
  refine hK.out _ _ ?_ (fun hHeld => ?_)
  · exact T0.out.below Bwm22.out T0.out.lt
  clear hK K
  try simp only [Act.put, List.setIfInBounds_toArray, List.set_cons_zero, List.set_cons_succ]
  refine wpAnyH_ready (rs := [4]) (by kernel_rfl) (by simp) ?_
  refine AllReadyH.cons (o := { dst := some 26, op := .call { callee := .value (.func 17), args := #[.tmp 23, .tmp 25], argTypes := #[23, 25] }, type := _, pos := _, after := _, guard := none }) rfl (fun K hK => ?_) AllReadyH.nil
  go_simp
  refine (HSP.out wm22 u1 Q0.out N0.out).mono ?_
  rintro e w2 ⟨u2, rfl, hmm, hb⟩
  have Cw2 := Chg.of_below hb
  have M0 := Lib.hid hmm
  clear hb hmm Q0 N0
  have Zw2 := Cw2.size
  have Bw2 := Lib.hid (Below.chg Bwm22.out Cw2 (by omega) (.inr rfl))
  clear Cw2 Bwm22
  refine hK.out _ _ ?_ (fun hHeld => ?_)
  · exact T0.out.below Bw2.out T0.out.lt
  clear hK K
  try simp only [Act.put, List.setIfInBounds_toArray, List.set_cons_zero, List.set_cons_succ]
  refine wpAnyH_take (i := 5) (oi := { dst := some 21, op := .move (.tmp 26), type := _, pos := _, after := _, guard := none }) (v := .tuple #[u2, .bool b]) rfl (by kernel_rfl) (by kernel_rfl) (by kernel_rfl) (fun _ _ _ h => h) (Or.inl ⟨by rfl, fun wh hSw => ?_⟩) hHeld ?_
  · go_simp
  try simp only [Act.put, List.setIfInBounds_toArray, List.set_cons_zero, List.set_cons_succ]
  refine wpAnyH_take (i := 6) (oi := { dst := some 27, op := .extract (.tmp 21) 0, type := _, pos := _, after := _, guard := none }) (v := u2) rfl (by kernel_rfl) (by kernel_rfl) (by kernel_rfl) (fun _ _ _ h => h) (Or.inl ⟨by rfl, fun wh hSw => ?_⟩) hHeld ?_
  · go_simp
  try simp only [Act.put, List.setIfInBounds_toArray, List.set_cons_zero, List.set_cons_succ]
  refine wpAnyH_take (i := 7) (oi := { dst := some 28, op := .extract (.tmp 21) 1, type := _, pos := _, after := _, guard := none }) (v := .bool b) rfl (by kernel_rfl) (by kernel_rfl) (by kernel_rfl) (fun _ _ _ h => h) (Or.inl ⟨by rfl, fun wh hSw => ?_⟩) hHeld ?_
  · go_simp
  try simp only [Act.put, List.setIfInBounds_toArray, List.set_cons_zero, List.set_cons_succ]
  refine wpAnyH_take (i := 8) (oi := { dst := some 6, op := .assign (.tmp 27), type := _, pos := _, after := _, guard := none }) (v := u2) rfl (by kernel_rfl) (by kernel_rfl) (by kernel_rfl) (fun _ _ _ h => h) (Or.inl ⟨by rfl, fun wh hSw => ?_⟩) hHeld ?_
  · go_simp
  try simp only [Act.put, List.setIfInBounds_toArray, List.set_cons_zero, List.set_cons_succ]
  refine wpAnyH_take (i := 9) (oi := { dst := some 7, op := .assign (.tmp 28), type := _, pos := _, after := _, guard := none }) (v := .bool b) rfl (by kernel_rfl) (by kernel_rfl) (by kernel_rfl) (fun _ _ _ h => h) (Or.inl ⟨by rfl, fun wh hSw => ?_⟩) hHeld ?_
  · go_simp
  try simp only [Act.put, List.setIfInBounds_toArray, List.set_cons_zero, List.set_cons_succ]
  refine wpAnyH_done (by kernel_rfl) ?_ _
  clear hHeld
  have Mw2 := M0
  clear M0
  go_wp2_with fail
  refine (toInfoS_any w2 v0 xs (H0.out.below Bw2.out) hn).mono ?_
  rintro e w3 ⟨u3, rfl, ho, hb, hv⟩
  have Cw3 := Chg.of_below hb
  have O0 := Lib.hid ho
  have N0 := Lib.hid (nilOk_of hv)
  have Zw3 := Cw3.size
  have Bw3 := Lib.hid (Below.chg Bw2.out Cw3 (by omega) (.inr rfl))
  have Mw3 := Lib.hid (Mw2.out.chg Cw3 (by omega) (.inr (by omega)))
  clear Cw3 Bw2 Mw2 ho hb hv
  have Ow3 := O0
  clear O0
  obtain ⟨c0, c1, c2⟩ := T0.out.below Bw3.out T0.out.lt
  simp only [Nat.zero_add] at c0 c1 c2
  go_wp2_with fail
  clear c0 c1 c2
  refine (toInfo_any w3 ⟨xk, xg, xr⟩).mono ?_
  rintro e w3m ⟨rfl, hb⟩
  have Cw3m := Chg.of_below hb
  clear hb
  have Zw3m := Cw3m.size
  have Bw3m := Lib.hid (Below.chg Bw3.out Cw3m (by omega) (.inr rfl))
  have Mw3m := Lib.hid (Mw3.out.chg Cw3m (by omega) (.inr (by omega)))
  have Ow3m := Lib.hid (Ow3.out.chg Cw3m (by omega) (.inr (by omega)))
  clear Cw3m Bw3 Mw3 Ow3
  go_wp2_with fail
  refine (HIM.out w3m u3 Ow3m.out.is N0.out).mono ?_
  rintro e w4 ⟨u4, rfl, hm4, hb4⟩
  have C4 := Chg.of_below hb4
  have P0 := Lib.hid hm4
  have Zw4 := C4.size
  have Bw4 := Lib.hid (Below.chg Bw3m.out C4 (by omega) (.inr rfl))
  have Mw4 := Lib.hid (Mw3m.out.chg C4 (by omega) (.inr (by omega)))
  have Ow4 := Lib.hid (Ow3m.out.chg C4 (by omega) (.inr (by omega)))
  clear C4 Bw3m Mw3m Ow3m hm4 hb4 N0
  have Pw4 := P0
  clear P0
  go_wp2_with fail
  refine (eqI_same w4 u4 u2 ys (Pw4.out.is) (Mw4.out.is)).mono ?_
  rintro e w5 ⟨rfl, Cw5⟩
  have Zw5 := Cw5.size
  have Bw5 := Lib.hid (Below.chg Bw4.out Cw5 (by omega) (.inr rfl))
  have Mw5 := Lib.hid (Mw4.out.chg Cw5 (by omega) (.inr (by omega)))
  have Ow5 := Lib.hid (Ow4.out.chg Cw5 (by omega) (.inr (by omega)))
  have Pw5 := Lib.hid (Pw4.out.chg Cw5 (by omega) (.inr (by omega)))
  clear Cw5 Bw4 Mw4 Ow4 Pw4
  go_wp2_with fail
  refine (toInfoS_any w5 v0 xs (H0.out.below Bw5.out) hn).mono ?_
  rintro e w6 ⟨u6, rfl, ho6, hb6, -⟩
  have C6 := Chg.of_below hb6
  have Q0 := Lib.hid ho6.is
  have Zw6 := C6.size
  have Bw6 := Lib.hid (Below.chg Bw5.out C6 (by omega) (.inr rfl))
  have Mw6 := Lib.hid (Mw5.out.chg C6 (by omega) (.inr (by omega)))
  have Ow6 := Lib.hid (Ow5.out.chg C6 (by omega) (.inr (by omega)))
  have Pw6 := Lib.hid (Pw5.out.chg C6 (by omega) (.inr (by omega)))
  clear C6 Bw5 Mw5 Ow5 Pw5 ho6 hb6
  go_wp2_with fail
  refine (eqI_same w6 u3 u6 xs Ow6.out.is Q0.out).mono ?_
  rintro e w7 ⟨rfl, Cw7⟩
  have Zw7 := Cw7.size
  have Bw7 := Lib.hid (Below.chg Bw6.out Cw7 (by omega) (.inr rfl))
  have Mw7 := Lib.hid (Mw6.out.chg Cw7 (by omega) (.inr (by omega)))
  have Ow7 := Lib.hid (Ow6.out.chg Cw7 (by omega) (.inr (by omega)))
  have Pw7 := Lib.hid (Pw6.out.chg Cw7 (by omega) (.inr (by omega)))
  clear Cw7 Bw6 Mw6 Ow6 Pw6
  clear Q0
  have HM7 := Lib.hid (markI_of Ow7.out (by omega) HM.out hm1)
  clear Ow7
  have hx2 : decide ((1 : Int) + 3 * (m : Int) < 0) = false := by simp; omega
  go_wp2_with fail
  refine HM7.out.mono ?_
  rintro e w8 ⟨rfl, _, C8⟩
  have Zw8 := C8.size
  have Bw8 := Lib.hid (Below.chg Bw7.out C8 (by omega) (.inl (by omega)))
  have Mw8 := Lib.hid (Mw7.out.chg C8 (by omega) (.inl (by omega)))
  have Pw8 := Lib.hid (Pw7.out.chg C8 (by omega) (.inr (by omega)))
  clear C8 Bw7 Mw7 Pw7 HM7
  go_wp2_with fail
  refine (eqI_same w8 u4 u2 ys (Pw8.out.is) (Mw8.out.is)).mono ?_
  rintro e w9 ⟨rfl, Cw9⟩
  have Zw9 := Cw9.size
  have Bw9 := Lib.hid (Below.chg Bw8.out Cw9 (by omega) (.inr rfl))
  have Mw9 := Lib.hid (Mw8.out.chg Cw9 (by omega) (.inr (by omega)))
  have Pw9 := Lib.hid (Pw8.out.chg Cw9 (by omega) (.inr (by omega)))
  clear Cw9 Bw8 Mw8 Pw8
  have HM9 := Lib.hid (markI_of Pw9.out (by omega) HNY.out (by omega))
  clear Pw9
  go_wp2_with fail
  refine HM9.out.mono ?_
  rintro e w10 ⟨rfl, hk10, C10⟩
  have P0 := Lib.hid hk10
  have Zw10 := C10.size
  have Bw10 := Lib.hid (Below.chg Bw9.out C10 (by omega) (.inl (by omega)))
  have Mw10 := Lib.hid (Mw9.out.chg C10 (by omega) (.inl (by omega)))
  clear C10 Bw9 Mw9 HM9 hk10
  have Pw10 := P0
  clear P0
  have HD := Lib.hid (heldI_of Pw10.out.is (by omega))
  go_wp2_with fail
  refine HD.out.mono ?_
  rintro e w11 ⟨rfl, Cw11⟩
  have Zw11 := Cw11.size
  have Bw11 := Lib.hid (Below.chg Bw10.out Cw11 (by omega) (.inr rfl))
  have Mw11 := Lib.hid (Mw10.out.chg Cw11 (by omega) (.inr (by omega)))
  have Pw11 := Lib.hid (Pw10.out.chg Cw11 (by omega) (.inr (by omega)))
  clear Cw11 Bw10 Mw10 Pw10 HD
  go_wp2_with fail
  refine wp_region_held_drew (S := fun w' => Tri w' W.heap.size 0 ⟨xk, xg, xr⟩) (by kernel_rfl) (T0.out.below Bw11.out.drew T0.out.lt) (fun hHeld => ?_)
  refine wpAnyH_take (i := 0) (oi := { dst := some 80, op := .move (.tmp 0), type := _, pos := _, after := _, guard := none }) (v := v0) rfl (by kernel_rfl) (by kernel_rfl) (by kernel_rfl) (fun _ _ _ h => h) (Or.inl ⟨by rfl, fun wh hSw => ?_⟩) hHeld ?_
  · go_simp
  try simp only [Act.put, List.setIfInBounds_toArray, List.set_cons_zero, List.set_cons_succ]
  refine wpAnyH_take (i := 2) (oi := { dst := some 82, op := .load 48 (.tmp 3), type := _, pos := _, after := _, guard := none }) (v := .agg #[.int .i64 xk, .int .i64 xg, .int .i64 xr]) rfl (by kernel_rfl) (by kernel_rfl) (by kernel_rfl) (fun _ _ _ h => h) (Or.inl ⟨by rfl, fun wh hSw => ?_⟩) hHeld ?_
  · (obtain ⟨c0, c1, c2⟩ := hSw; simp only [Nat.zero_add] at c0 c1 c2; go_simp)
  try simp only [Act.put, List.setIfInBounds_toArray, List.set_cons_zero, List.set_cons_succ]
  refine anyH_gen _ (fun wd80 hgen => ?_)
  have Cd : Chg 0 0 w11 wd80 := Chg.of_below (by rw [hgen]; exact (Below.refl _ _).drew)
  clear hgen
  have Zwd80 := Cd.size
  have Bwd80 := Lib.hid (Below.chg Bw11.out Cd (by omega) (.inr rfl))
  have Mwd80 := Lib.hid (Mw11.out.chg Cd (by omega) (.inr (by omega)))
  have Pwd80 := Lib.hid (Pw11.out.chg Cd (by omega) (.inr (by omega)))
  clear Cd Bw11 Mw11 Pw11
  refine wpAnyH_ready (rs := [1]) (by kernel_rfl) (by simp) ?_
  refine AllReadyH.cons (o := { dst := some 81, op := .call { callee := .value (.func 30), args := #[.tmp 80], argTypes := #[44] }, type := _, pos := _, after := _, guard := none }) rfl (fun K hK => ?_) AllReadyH.nil
  go_simp
  refine (toInfoS_any wd80 v0 xs (H0.out.below Bwd80.out) hn).mono ?_
  rintro e w12 ⟨u12, rfl, ho, hb, hv⟩
  have Cw12 := Chg.of_below hb
  have Q0 := Lib.hid ho.is
  have N0 := Lib.hid (nilOk_of hv)
  clear ho hb hv
  have Zw12 := Cw12.size
  have Bw12 := Lib.hid (Below.chg Bwd80.out Cw12 (by omega) (.inr rfl))
  have Mw12 := Lib.hid (Mwd80.out.chg Cw12 (by omega) (.inr (by omega)))
  have Pw12 := Lib.hid (Pwd80.out.chg Cw12 (by omega) (.inr (by omega)))
  clear Cw12 Bwd80 Mwd80 Pwd80
  refine hK.out _ _ ?_ (fun hHeld => ?_)
  · exact T0.out.below Bw12.out T0.out.lt
  clear hK K
  try simp only [Act.put, List.setIfInBounds_toArray, List.set_cons_zero, List.set_cons_succ]
  refine wpAnyH_ready (rs := [3]) (by kernel_rfl) (by simp) ?_
  refine AllReadyH.cons (o := { dst := some 83, op := .call { callee := .value (.func 32), args := #[.tmp 82], argTypes := #[48] }, type := _, pos := _, after := _, guard := none }) rfl (fun K hK => ?_) AllReadyH.nil
  go_simp
  refine (toInfo_any w12 ⟨xk, xg, xr⟩).mono ?_
  rintro e wm80 ⟨rfl, hb⟩
  have Cwm80 := Chg.of_below hb
  replace Q0 := Lib.hid (Q0.out.below hb)
  clear hb
  have Zwm80 := Cwm80.size
  have Bwm80 := Lib.hid (Below.chg Bw12.out Cwm80 (by omega) (.inr rfl))
  have Mwm80 := Lib.hid (Mw12.out.chg Cwm80 (by omega) (.inr (by omega)))
  have Pwm80 := Lib.hid (Pw12.out.chg Cwm80 (by omega) (.inr (by omega)))
  clear Cwm80 Bw12 Mw12 Pw12
  refine hK.out _ _ ?_ (fun hHeld => ?_)
  · exact T0.out.below Bwm80.out T0.out.lt
  clear hK K
  try simp only [Act.put, List.setIfInBounds_toArray, List.set_cons_zero, List.set_cons_succ]
  refine wpAnyH_ready (rs := [4]) (by kernel_rfl) (by simp) ?_
  refine AllReadyH.cons (o := { dst := some 84, op := .call { callee := .value (.func 16), args := #[.tmp 81, .tmp 83], argTypes := #[23, 25] }, type := _, pos := _, after := _, guard := none }) rfl (fun K hK => ?_) AllReadyH.nil
  go_simp
  refine (HIM.out wm80 u12 Q0.out N0.out).mono ?_
  rintro e w13 ⟨u13, rfl, hmm, hb⟩
  have Cw13 := Chg.of_below hb
  have M0 := Lib.hid hmm
  clear hb hmm Q0 N0
  have Zw13 := Cw13.size
  have Bw13 := Lib.hid (Below.chg Bwm80.out Cw13 (by omega) (.inr rfl))
  have Mw13 := Lib.hid (Mwm80.out.chg Cw13 (by omega) (.inr (by omega)))
  have Pw13 := Lib.hid (Pwm80.out.chg Cw13 (by omega) (.inr (by omega)))
  clear Cw13 Bwm80 Mwm80 Pwm80
  refine hK.out _ _ ?_ (fun hHeld => ?_)
  · exact T0.out.below Bw13.out T0.out.lt
  clear hK K
  try simp only [Act.put, List.setIfInBounds_toArray, List.set_cons_zero, List.set_cons_succ]
  refine wpAnyH_take (i := 5) (oi := { dst := some 79, op := .move (.tmp 84), type := _, pos := _, after := _, guard := none }) (v := .tuple #[u13, .bool b]) rfl (by kernel_rfl) (by kernel_rfl) (by kernel_rfl) (fun _ _ _ h => h) (Or.inl ⟨by rfl, fun wh hSw => ?_⟩) hHeld ?_
  · go_simp
  try simp only [Act.put, List.setIfInBounds_toArray, List.set_cons_zero, List.set_cons_succ]
  refine wpAnyH_take (i := 6) (oi := { dst := some 85, op := .extract (.tmp 79) 0, type := _, pos := _, after := _, guard := none }) (v := u13) rfl (by kernel_rfl) (by kernel_rfl) (by kernel_rfl) (fun _ _ _ h => h) (Or.inl ⟨by rfl, fun wh hSw => ?_⟩) hHeld ?_
  · go_simp
  try simp only [Act.put, List.setIfInBounds_toArray, List.set_cons_zero, List.set_cons_succ]
  refine wpAnyH_take (i := 7) (oi := { dst := some 86, op := .extract (.tmp 79) 1, type := _, pos := _, after := _, guard := none }) (v := .bool b) rfl (by kernel_rfl) (by kernel_rfl) (by kernel_rfl) (fun _ _ _ h => h) (Or.inl ⟨by rfl, fun wh hSw => ?_⟩) hHeld ?_
  · go_simp
  try simp only [Act.put, List.setIfInBounds_toArray, List.set_cons_zero, List.set_cons_succ]
  refine wpAnyH_take (i := 8) (oi := { dst := some 14, op := .assign (.tmp 85), type := _, pos := _, after := _, guard := none }) (v := u13) rfl (by kernel_rfl) (by kernel_rfl) (by kernel_rfl) (fun _ _ _ h => h) (Or.inl ⟨by rfl, fun wh hSw => ?_⟩) hHeld ?_
  · go_simp
  try simp only [Act.put, List.setIfInBounds_toArray, List.set_cons_zero, List.set_cons_succ]
  refine wpAnyH_take (i := 9) (oi := { dst := some 15, op := .assign (.tmp 86), type := _, pos := _, after := _, guard := none }) (v := .bool b) rfl (by kernel_rfl) (by kernel_rfl) (by kernel_rfl) (fun _ _ _ h => h) (Or.inl ⟨by rfl, fun wh hSw => ?_⟩) hHeld ?_
  · go_simp
  try simp only [Act.put, List.setIfInBounds_toArray, List.set_cons_zero, List.set_cons_succ]
  refine wpAnyH_done (by kernel_rfl) ?_ _
  clear hHeld
  have Q1 : Hid (Is w13 u13 ys) := Lib.hid M0.out.is
  clear M0
  go_wp2_with fail
  refine (eqI_same w13 u13 u2 ys (Q1.out) (Mw13.out.is)).mono ?_
  rintro e w14 ⟨rfl, Cw14⟩
  have Zw14 := Cw14.size
  have Bw14 := Lib.hid (Below.chg Bw13.out Cw14 (by omega) (.inr rfl))
  have Mw14 := Lib.hid (Mw13.out.chg Cw14 (by omega) (.inr (by omega)))
  have Pw14 := Lib.hid (Pw13.out.chg Cw14 (by omega) (.inr (by omega)))
  clear Cw14 Bw13 Mw13 Pw13
  clear Q1
  have HD := Lib.hid (heldI_of Pw14.out.is (by omega))
  go_wp2_with fail
  refine HD.out.mono ?_
  rintro e w15 ⟨rfl, Cw15⟩
  have Zw15 := Cw15.size
  have Bw15 := Lib.hid (Below.chg Bw14.out Cw15 (by omega) (.inr rfl))
  have Mw15 := Lib.hid (Mw14.out.chg Cw15 (by omega) (.inr (by omega)))
  have Pw15 := Lib.hid (Pw14.out.chg Cw15 (by omega) (.inr (by omega)))
  clear Cw15 Bw14 Mw14 Pw14 HD
  go_wp2_with fail
  go_ret
  exact ⟨rfl, HBW.out.trans (Bw15.out.mono HBW.out.size)⟩
end Go.Proofs.Ytachiggolgdocaa
namespace Go.Proofs.Ytachiggolgdocaa
open Go.ChangeShapes Go.WideShapes Go.ChangeAt Go.RowKit
set_option linter.unusedVariables false
theorem iv_of_trod {H : Type} {enc : TypeId × Value → H} {w : World} {r : Reach} {b0 base : Nat} {spare : Nat → Bool} {held : Bool} {v : Value} {d : DataW H} {p : List MemPlace}
    (hv : Value.okWide Try.prog w r b0 48 v) (h : DataW.Trod enc Try.prog w base spare held 48 v d p) : ∃ x : IV, v = ivV x := by
  obtain ⟨v0, v1, v2, y0, y1, y2, n, rfl, _, _, g0, g1, g2⟩ := Go.Joins.open_agg3 Try.underlying48 (by kernel_rfl) (by kernel_rfl) hv h
  obtain ⟨n0, e0, _⟩ := DataW.trod_int Try.underlying3 g0
  obtain ⟨n1, e1, _⟩ := DataW.trod_int Try.underlying3 g1
  obtain ⟨n2, e2, _⟩ := DataW.trod_int Try.underlying3 g2
  injection e0 with e0
  injection e1 with e1
  injection e2 with e2
  subst e0 e1 e2
  exact ⟨⟨n0, n1, n2⟩, rfl⟩
end Go.Proofs.Ytachiggolgdocaa
