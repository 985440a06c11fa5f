/- What the proofs stand on, part 13. -/
import Derived.Test.YtcmmlgdfhkcmoaaGreatRows
import Derived.Test.YtcmmlgdfhkcmoaaGreatKe1
import Derived.Test.YtcmmlgdfhkcmoaaGreatKe2
import Derived.Test.YtcmmlgdfhkcmoaaGreatKe3
import Derived.Test.YtcmmlgdfhkcmoaaGreatKe4
import Derived.Test.YtcmmlgdfhkcmoaaGreatKe5
import Derived.Test.YtcmmlgdfhkcmoaaGreatKe6
import Derived.Test.YtcmmlgdfhkcmoaaGreatKe7
import Derived.Test.YtcmmlgdfhkcmoaaGreatKe8
import Derived.Test.YtcmmlgdfhkcmoaaGreatKe10
set_option linter.unusedSimpArgs false
set_option linter.unusedVariables false
namespace Go.Proofs.YtcmmlgdfhkcmoaaGreat
open Go.ChangeShapes Go.WideShapes Go.ChangeAt Go.RowKit Go.Maps Go.Shelf
set_option linter.unusedVariables false
set_option linter.unusedSimpArgs false
set_option maxRecDepth 100000
abbrev IKV : Prop := ∀ (w : World) (vm vi ve vc : Value) (K : KV), Ks w vm vi ve vc K → ShortI K.i → Short3 K.e → Calls Tryz.prog 20 #[kV vm vi ve vc] w (BRes (kvalid K) w)
set_option maxHeartbeats 4000000 in
theorem ikvalid_any : IKV := by
  intro w vm vi ve vc K h hs hse
  have HKP := Lib.hid (fun t => KP.start w vm vi ve vc t)
  have HKO : Hid (∀ W, Below w.heap.size w W → Calls Tryz.prog 59 #[kV vm vi ve vc] W (KOfR K W)) := Lib.hid (fun W hW => kernelOf_any W vm vi ve vc K (h.below hW) hs hse)
  unfold KOfR at HKO
  have HZ := Lib.hid zero_kernel
  have HZL := Lib.hid Z108_len
  obtain ⟨Z, hZ⟩ : ∃ Z, Z = Z108 := ⟨_, rfl⟩
  rw [← hZ] at HZ HZL
  obtain ⟨W0, hW0⟩ : ∃ W0, W0 = w.alloc (.cells #[vm, vi, ve, vc] 30) := ⟨_, rfl⟩
  have HP0 : Hid (KP w W0 vm vi ve vc) := Lib.hid (by rw [hW0]; exact HKP.out _)
  have HW0 := Lib.hid hW0
  clear hZ hW0 h hs hse
  go_enter Tryz.func20, Tryz.ntmps20
  go_wp2_with fail
  rw [← HW0.out]
  refine (HKO.out W0 HP0.out.bel).mono ?_
  rintro _ w1 ⟨L, rfl, hl, ho, hb, hkl⟩
  obtain ⟨Y, hY⟩ : ∃ Y, Y = w1.heap.size := ⟨_, rfl⟩
  obtain ⟨W1, hW1⟩ : ∃ W1, W1 = (w1.alloc (.cells Z.toArray 101)).setCells Y 0 L := ⟨_, rfl⟩
  have HMK := Lib.hid (VarL.make (w := w) (w1 := w1) (L := L) (Z := Z.toArray) 101 (HP0.out.bel.trans (hb.mono HP0.out.bel.size)) (by rw [List.size_toArray, HZL.out, hl]))
  have HL1 : Hid (VarL w Y L W1) := Lib.hid (by rw [hW1, hY]; exact HMK.out.2)
  have HTH : Hid ((w1.alloc (.cells Z.toArray 101)).there Y 0 L.toArray.size) := Lib.hid (by rw [hY, List.size_toArray]; exact HMK.out.1)
  have HLL := Lib.hid hl
  have HLO := Lib.hid ho
  have HLS : Hid (L.toArray.size = 108) := Lib.hid (by rw [List.size_toArray, hl])
  have HBW : Hid (Below w1.heap.size w1 W1) := Lib.hid (by rw [hW1, hY]; exact bel_var (Below.refl _ _) _ _ _)
  have HKL := Lib.hid (fun hk => by
    obtain ⟨bs, A, f, c, h1, h2, h3, h4⟩ := hkl hk
    exact (⟨bs, A, f, c, h1.below HBW.out, h2, h3, h4⟩ : ∃ (bs : Nat → Nat) (A : Nat → CV) (f c : Nat), KL W1 K.m K.i K.e bs (ringC A f c) L ∧ f < 4 ∧ c ≤ 4 ∧ rlist A f c = K.c))
  have HY := Lib.hid hY
  have HW1 := Lib.hid hW1
  clear hl ho hb hkl hY hW1 HMK
  obtain ⟨b, hb⟩ : ∃ b, b = kvalid K := ⟨_, rfl⟩
  have HBB := Lib.hid hb
  rw [← hb]
  clear hb
  go_wp2_with (first | ((with_reducible refine alloc_is 101 ?_); refine alloc_arr 101 Z.toArray HZ.out ?_; rw [← HY.out]) | ((with_reducible refine store_is 101 (.tmp 3) (.tmp 8) ?_); refine store_arr 101 (.tmp 3) (.tmp 8) Y 0 L.toArray rfl rfl HTH.out (info_kernel HLS.out) HLO.out ?_; rw [show L.toArray.toList = L from rfl, ← HW1.out]) | fail)
  go_ret
  exact ⟨by rw [← HBB.out]; rfl, HL1.out.bel⟩
end Go.Proofs.YtcmmlgdfhkcmoaaGreat
namespace Go.Proofs.YtcmmlgdfhkcmoaaGreat
open Go.ChangeShapes Go.WideShapes Go.ChangeAt Go.RowKit Go.Maps Go.Shelf
set_option linter.unusedVariables false
set_option linter.unusedSimpArgs false
set_option maxRecDepth 100000
set_option maxHeartbeats 8000000 in
theorem exKernelValid_walk (hI : IKV) (W : World) (v0 v1 v2 v3 : Value) (K : KV) (h : Ks W v0 v1 v2 v3 K) (hfi : FitI K.i) (hfe : Fit3 K.e) :
    Calls Tryz.prog 12 #[kV v0 v1 v2 v3] W fun e w' => e = .returned (.bool true) ∧ Below W.heap.size W w' := by
  have HKS := Lib.hid h
  obtain ⟨W0, hW0⟩ : ∃ W0, W0 = W.alloc (.cells #[v0, v1, v2, v3] 72) := ⟨_, rfl⟩
  have HP0 : Hid (KP W W0 v0 v1 v2 v3) := Lib.hid (by rw [hW0]; exact KP.start W v0 v1 v2 v3 _)
  have HSZ := Lib.hid (szKernel_any W0 v0 v1 v2 v3 K 1048576 (h.below HP0.out.bel) hfi hfe (by omega) (by omega))
  unfold LeftK at HSZ
  have HW0 := Lib.hid hW0
  obtain ⟨q0, q1, q2, q3⟩ := HP0.out.cells
  have HI := Lib.hid hI
  clear h hW0 hI hfi hfe
  go_enter Tryz.func12, Tryz.ntmps12
  go_wp2_with (first | ((with_reducible refine load_is 72 _ ?_); rw [← HW0.out]; fail) | fail)
  rw [← HW0.out]
  refine HSZ.out.mono ?_
  rintro _ w1 ⟨lf, hlf, rfl, hb⟩
  have HP1 := Lib.hid (HP0.out.go hb)
  clear hb q0 q1 q2 q3
  obtain ⟨q0, q1, q2, q3⟩ := HP1.out.cells
  by_cases hneg : lf < 0
  · go_wp2_with fail
    go_ret
    exact ⟨rfl, HP1.out.bel⟩
  have hpos : decide (lf < 0) = false := by simpa using hneg
  have hz : szK K ≤ 1048576 := by unfold szK; omega
  have HZ := Lib.hid hz
  have HSH := Lib.hid (szK_short hz)
  have HCP := Lib.hid (fun Q (hQ : Below W.heap.size W Q) => copyK Q v0 v1 v2 v3 K (HKS.out.below hQ) HZ.out)
  have HEQF := Lib.hid (fun Q (x0 x1 x2 x3 y0 y1 y2 y3 : Value) (h1 : Ks Q x0 x1 x2 x3 K) (h2 : Ks Q y0 y1 y2 y3 K) => eqKernel_any Q x0 x1 x2 x3 y0 y1 y2 y3 K K h1 h2 true (by simp))
  unfold CopyK at HCP
  clear hlf hz hneg
  obtain ⟨r, hr⟩ : ∃ r, r = kvalid K := ⟨_, rfl⟩
  have HSP : Hid (∀ Q a b c d, Ks Q a b c d K → Calls Tryz.prog 23 #[kV a b c d] Q (BRes r Q)) := Lib.hid (fun Q a b c d hk => by rw [hr]; exact sKernelValid_any Q a b c d K hk HSH.out.1 HSH.out.2)
  have HIM : Hid (∀ Q a b c d, Ks Q a b c d K → Calls Tryz.prog 20 #[kV a b c d] Q (BRes r Q)) := Lib.hid (fun Q a b c d hk => by rw [hr]; exact HI.out Q a b c d K hk HSH.out.1 HSH.out.2)
  have hrr := neB r
  clear hr HI
  go_wp2_with fail
  refine (HCP.out w1 HP1.out.bel).mono ?_
  rintro _ w2 ⟨asm, nsm, csm, asi, nsi, csi, ase, nse, cse, asc, nsc, csc, sB0, sB1, sB2, sB3, sB4, rfl, sh0, sh1, sh2, sh3, sh4, sh5, sk, hb⟩
  have HP2 := Lib.hid (HP1.out.go hb)
  have SK0 := Lib.hid sk
  have SL := Lib.hid (And.intro sh0 (And.intro sh1 (And.intro sh2 (And.intro sh3 (And.intro sh4 sh5)))))
  clear hb sk sh0 sh1 sh2 sh3 sh4 sh5 q0 q1 q2 q3
  obtain ⟨q0, q1, q2, q3⟩ := HP2.out.cells
  go_wp2_with fail
  refine (HSP.out w2 _ _ _ _ SK0.out.ks).mono ?_
  rintro _ w3 ⟨rfl, hb⟩
  have HP3 := Lib.hid (HP2.out.go hb)
  clear hb q0 q1 q2 q3 SK0 SL
  obtain ⟨q0, q1, q2, q3⟩ := HP3.out.cells
  go_wp2_with fail
  refine (HCP.out w3 HP3.out.bel).mono ?_
  rintro _ w4 ⟨axm, nxm, cxm, axi, nxi, cxi, axe, nxe, cxe, axc, nxc, cxc, xB0, xB1, xB2, xB3, xB4, rfl, xh0, xh1, xh2, xh3, xh4, xh5, xk, hb⟩
  have HP4 := Lib.hid (HP3.out.go hb)
  have XK0 := Lib.hid xk
  have XL := Lib.hid (And.intro xh0 (And.intro xh1 (And.intro xh2 (And.intro xh3 (And.intro xh4 xh5)))))
  clear hb xk xh0 xh1 xh2 xh3 xh4 xh5 q0 q1 q2 q3
  obtain ⟨q0, q1, q2, q3⟩ := HP4.out.cells
  obtain ⟨Y, hY⟩ : ∃ Y, Y = w4.heap.size := ⟨_, rfl⟩
  obtain ⟨w5, hw5⟩ : ∃ w5, w5 = w4.alloc (.cells #[.slice axm nxm cxm, .slice axi nxi cxi, .slice axe nxe cxe, .slice axc nxc cxc] 30) := ⟨_, rfl⟩
  have HB5 : Hid (Below w4.heap.size w4 w5) := Lib.hid (by rw [hw5]; exact (Below.refl _ _).alloc (Nat.le_refl _) _)
  have HY5 : Hid (KB4 w5 Y (.slice axm nxm cxm) (.slice axi nxi cxi) (.slice axe nxe cxe) (.slice axc nxc cxc)) := Lib.hid (by rw [hw5, hY]; exact KB4.new w4 _ _ _ _ _)
  have HX5 : Hid (Ks w5 (.slice axm nxm cxm) (.slice axi nxi cxi) (.slice axe nxe cxe) (.slice axc nxc cxc) K) := Lib.hid (XK0.out.ks.below HB5.out)
  have HP5 := Lib.hid (HP4.out.go HB5.out)
  have HY := Lib.hid hY
  have HW5 := Lib.hid hw5
  have hwl : W.heap.size < w4.heap.size := HP4.out.sz
  clear hY hw5 XK0 XL
  go_wp2_with fail
  rw [← HW5.out]
  refine (HIM.out w5 _ _ _ _ HX5.out).mono ?_
  rintro _ w6 ⟨rfl, hb⟩
  have HP6 := Lib.hid (HP5.out.go hb)
  have HY6 := Lib.hid (HY5.out.go hb)
  have HX6 := Lib.hid (HX5.out.below hb)
  rw [← HY.out]
  clear hb q0 q1 q2 q3 hwl
  go_wp2_with fail
  have HPD := Lib.hid HP6.out.drew
  have HYD := Lib.hid (HY6.out.go (Below.refl _ _).drew)
  refine wp_region_held_drew (S := fun w' => (w'.cell? ⟨Y, 0, none⟩ = some (.slice axm nxm cxm) ∧ w'.cell? ⟨Y, 1, none⟩ = some (.slice axi nxi cxi) ∧ w'.cell? ⟨Y, 2, none⟩ = some (.slice axe nxe cxe) ∧ w'.cell? ⟨Y, 3, none⟩ = some (.slice axc nxc cxc)) ∧ w'.cell? ⟨W.heap.size, 0, none⟩ = some v0 ∧ w'.cell? ⟨W.heap.size, 1, none⟩ = some v1 ∧ w'.cell? ⟨W.heap.size, 2, none⟩ = some v2 ∧ w'.cell? ⟨W.heap.size, 3, none⟩ = some v3) (by kernel_rfl) ⟨HYD.out.cells, HPD.out.cells⟩ (fun hHeld => ?_)
  refine wpAnyH_take (i := 0) (oi := { dst := some 22, op := .load 30 (.tmp 5), type := _, pos := _, after := _, guard := none }) (v := .agg #[.slice axm nxm cxm, .slice axi nxi cxi, .slice axe nxe cxe, .slice axc nxc cxc]) rfl (by kernel_rfl) (by kernel_rfl) (by kernel_rfl) (fun _ _ _ h => h) (Or.inl ⟨by rfl, fun wh hSw => ?_⟩) hHeld ?_
  · (obtain ⟨⟨y0, y1, y2, y3⟩, s0, s1, s2, s3⟩ := hSw; go_simp)
  try simp only [Act.put, List.setIfInBounds_toArray, List.set_cons_zero, List.set_cons_succ]
  refine wpAnyH_take (i := 1) (oi := { dst := some 23, op := .load 72 (.tmp 1), type := _, pos := _, after := _, guard := none }) (v := .agg #[v0, v1, v2, v3]) rfl (by kernel_rfl) (by kernel_rfl) (by kernel_rfl) (fun _ _ _ h => h) (Or.inl ⟨by rfl, fun wh hSw => ?_⟩) hHeld ?_
  · (obtain ⟨⟨y0, y1, y2, y3⟩, s0, s1, s2, s3⟩ := hSw; go_simp)
  try simp only [Act.put, List.setIfInBounds_toArray, List.set_cons_zero, List.set_cons_succ]
  refine wpAnyH_ready (rs := [2]) (by kernel_rfl) (by simp) ?_
  refine AllReadyH.cons (o := { dst := some 24, op := .call { callee := .value (.func 42), args := #[.tmp 23], argTypes := #[72] }, type := _, pos := _, after := _, guard := none }) rfl (fun K hK => ?_) AllReadyH.nil
  go_simp
  refine (HCP.out w6.drew HPD.out.bel).mono ?_
  rintro _ wy ⟨atm, ntm, ctm, ati, nti, cti, ate, nte, cte, atc, ntc, ctc, B0, B1, B2, B3, B4, rfl, h0, h1, h2, h3, h4, h5, hk, hb⟩
  have HPY := Lib.hid (HPD.out.go hb)
  have HYY := Lib.hid (HYD.out.go hb)
  have HBY : Hid (Below w6.heap.size w6 wy) := Lib.hid ((Below.refl w6.heap.size w6).drew.trans (hb.mono (Nat.le_refl _)))
  have HEQ := Lib.hid (HEQF.out wy _ _ _ _ _ _ _ _ (HX6.out.below HBY.out) hk.ks)
  clear hb hk h0 h1 h2 h3 h4 h5
  try go_simp
  refine hK.out _ _ ?_ (fun hHeld => ?_)
  · exact ⟨HYY.out.cells, HPY.out.cells⟩
  clear hK K
  try simp only [Act.put, List.setIfInBounds_toArray, List.set_cons_zero, List.set_cons_succ]
  refine wpAnyH_ready (rs := [3]) (by kernel_rfl) (by simp) ?_
  refine AllReadyH.cons (o := { dst := some 25, op := .call { callee := .value (.func 43), args := #[.tmp 22, .tmp 24], argTypes := #[30, 30] }, type := _, pos := _, after := _, guard := none }) rfl (fun K hK => ?_) AllReadyH.nil
  go_simp
  refine HEQ.out.mono ?_
  rintro _ wz ⟨rfl, hb⟩
  have HPE := Lib.hid (HPY.out.go hb)
  have HYE := Lib.hid (HYY.out.go hb)
  have HBE := Lib.hid (HBY.out.trans (hb.mono HBY.out.size))
  clear hb
  try go_simp
  refine hK.out _ _ ?_ (fun hHeld => ?_)
  · exact ⟨HYE.out.cells, HPE.out.cells⟩
  clear hK K
  try simp only [Act.put, List.setIfInBounds_toArray, List.set_cons_zero, List.set_cons_succ]
  refine wpAnyH_take (i := 4) (oi := { dst := some 26, op := .unOp .not 4 (.tmp 25), type := _, pos := _, after := _, guard := none }) (v := .bool false) rfl (by kernel_rfl) (by kernel_rfl) (by kernel_rfl) (fun _ _ _ h => h) (Or.inl ⟨by rfl, fun wh hSw => ?_⟩) hHeld ?_
  · (obtain ⟨⟨y0, y1, y2, y3⟩, s0, s1, s2, s3⟩ := hSw; go_simp)
  try simp only [Act.put, List.setIfInBounds_toArray, List.set_cons_zero, List.set_cons_succ]
  refine wpAnyH_done (by kernel_rfl) ?_ _
  go_wp2_with fail
  go_ret
  exact ⟨rfl, HPE.out.bel⟩
end Go.Proofs.YtcmmlgdfhkcmoaaGreat
