/- What the proofs stand on, part 43. -/
import Derived.Test.YtachiggolgdocaaRows
import Derived.Test.YtachiggolgdocaaM1
import Derived.Test.YtachiggolgdocaaM2
import Derived.Test.YtachiggolgdocaaM3
import Derived.Test.YtachiggolgdocaaM4
import Derived.Test.YtachiggolgdocaaM5
import Derived.Test.YtachiggolgdocaaM6
import Derived.Test.YtachiggolgdocaaM7
import Derived.Test.YtachiggolgdocaaM8
import Derived.Test.YtachiggolgdocaaM9
import Derived.Test.YtachiggolgdocaaM10
import Derived.Test.YtachiggolgdocaaM11
import Derived.Test.YtachiggolgdocaaM12
import Derived.Test.YtachiggolgdocaaM13
import Derived.Test.YtachiggolgdocaaM14
import Derived.Test.YtachiggolgdocaaM15
import Derived.Test.YtachiggolgdocaaM16
import Derived.Test.YtachiggolgdocaaM17
import Derived.Test.YtachiggolgdocaaM18
import Derived.Test.YtachiggolgdocaaM19
import Derived.Test.YtachiggolgdocaaM20
import Derived.Test.YtachiggolgdocaaM23
import Derived.Test.YtachiggolgdocaaM24
import Derived.Test.YtachiggolgdocaaM25
import Derived.Test.YtachiggolgdocaaM26
import Derived.Test.YtachiggolgdocaaM29
import Derived.Test.YtachiggolgdocaaM30
import Derived.Test.YtachiggolgdocaaM35
set_option linter.unusedSimpArgs false
set_option linter.unusedVariables false
namespace Go.Proofs.Ytachiggolgdocaa
open Go.ChangeShapes Go.WideShapes Go.ChangeAt Go.RowKit
set_option linter.unusedVariables false
set_option maxRecDepth 100000 in
set_option maxHeartbeats 4000000 in
theorem mailOrder_walk  (W : World) (a : Option Addr) (len cap : Nat) (zs : List Int) (hr : Row .u8 W a len cap zs) :
    Calls Try.prog 7 #[.slice a len cap] W fun e w' => e = .returned (.bool true) ∧ Below W.heap.size W w' := by
  have hm := row_len hr
  by_cases hL : 1048576 < len
  · have hL1 : (1048576 : Int) < (len : Int) := by omega
    clear hr
    go_enter Try.func7, Try.ntmps7
    go_wp2_with fail
    go_ret
    exact ⟨rfl, Below.refl _ _⟩
  have hL1 : decide ((1048576 : Int) < (len : Int)) = false := by simp; omega
  have hL2 : decide (1048576 < len) = false := by simp; omega
  go_enter Try.func7, Try.ntmps7
  go_wp2_with fail
  refine (drawMailTake_any W a len cap zs hr).mono ?_
  clear hr
  rintro e w1 ⟨v, ys, t, rfl, hd⟩
  have B1 := Lib.hid hd.bel
  have R1 := Lib.hid hd.is
  have N1 := Lib.hid hd.nil
  have hl9 := hd.len
  obtain ⟨g0, c2, hv⟩ := hd.form
  clear hd
  subst hv
  have HC := Lib.hid (imt_any w1 _ ys t R1.out)
  have HS := Lib.hid (fun w h => sMailTake_any w (.slice (some ⟨g0, 0, none⟩) ys.length c2) ys t h N1.out)
  have HOR : Hid (mgot ys t = true → mws ys (mtaken ys t).k t = (mtaken ys t).r :: mws (mrest ys t) (mtaken ys t).k t) := Lib.hid (fun h => morder h)
  have HMW : Hid (∀ (f : Int) w, Is w (.slice (some ⟨g0, 0, none⟩) ys.length c2) ys → Calls Try.prog 19 #[.slice (some ⟨g0, 0, none⟩) ys.length c2, .int .i64 f, .int .i64 t] w (NewR (mws ys f t) w)) := Lib.hid (fun f w h => imw_any w _ ys f t h)
  generalize mrest ys t = us at HC HS HOR
  generalize mtaken ys t = x at HC HS HOR
  generalize mgot ys t = b at HC HS HOR
  obtain ⟨n, hn⟩ : ∃ n, n = ys.length := ⟨_, rfl⟩
  rw [← hn] at HC HS R1 N1 hl9 HMW ⊢
  have HN := Lib.hid hn
  clear hn
  have hbb := neB b
  go_wp2_with fail
  refine HC.out.mono ?_
  rintro e w2 ⟨p2, rfl, hr2, hb2⟩
  obtain ⟨X, hX⟩ : ∃ X, X = w2.heap.size := ⟨_, rfl⟩
  obtain ⟨w2a, hw2a⟩ : ∃ w2a, w2a = w2.alloc (.cells #[.int .i64 x.k, .int .i64 x.g, .int .i64 x.r] 25) := ⟨_, rfl⟩
  have hb2a : Below w1.heap.size w1 w2a := by rw [hw2a]; exact hb2.alloc hb2.size _
  have T2 : Hid (Tri w2a X 0 x) := Lib.hid (by rw [hX, hw2a]; exact tri_new w2 x _)
  have B2 := Lib.hid (B1.out.trans (hb2a.mono B1.out.size))
  have R2 := Lib.hid (R1.out.below hb2a)
  have U2 := Lib.hid (hr2.is.below (w' := w2a) (by rw [hw2a]; exact (Below.refl _ _).alloc (Nat.le_refl _) _))
  have HW2 := Lib.hid hw2a
  have HX := Lib.hid hX
  clear hb2 hr2 HC R1 B1 hb2a hw2a hX
  go_wp2_with fail
  rw [← HW2.out, ← HX.out]
  refine (HS.out w2a R2.out).mono ?_
  rintro e w3 ⟨p3, rfl, hr3, hb3⟩
  obtain ⟨Y, hY⟩ : ∃ Y, Y = w3.heap.size := ⟨_, rfl⟩
  obtain ⟨w3a, hw3a⟩ : ∃ w3a, w3a = w3.alloc (.cells #[.int .i64 x.k, .int .i64 x.g, .int .i64 x.r] 25) := ⟨_, rfl⟩
  have hb3a : Below w2a.heap.size w2a w3a := by rw [hw3a]; exact hb3.alloc hb3.size _
  have TY3 : Hid (Tri w3a Y 0 x) := Lib.hid (by rw [hY, hw3a]; exact tri_new w3 x _)
  have T3 := Lib.hid (T2.out.below hb3a T2.out.lt)
  have B3 := Lib.hid (B2.out.trans (hb3a.mono B2.out.size))
  have R3 := Lib.hid (R2.out.below hb3a)
  have U23 := Lib.hid (U2.out.below hb3a)
  have U3 := Lib.hid (hr3.is.below (w' := w3a) (by rw [hw3a]; exact (Below.refl _ _).alloc (Nat.le_refl _) _))
  have HW3 := Lib.hid hw3a
  have HY := Lib.hid hY
  obtain ⟨c0, c1, c2'⟩ := T3.out
  obtain ⟨d0, d1, d2⟩ := TY3.out
  simp only [Nat.zero_add] at c0 c1 c2' d0 d1 d2
  rw [hw3a] at c0 c1 c2' d0 d1 d2
  rw [hY] at d0 d1 d2
  clear hb3 hr3 HS R2 B2 U2 hb3a hw3a hY T2
  go_wp2_with fail
  rw [← HW3.out, ← HY.out]
  clear c0 c1 c2' d0 d1 d2
  refine (sameI w3a p2 p3 us U23.out U3.out).mono ?_
  rintro e w4 ⟨rfl, hb4⟩
  have B4 := Lib.hid (B3.out.trans (hb4.mono B3.out.size))
  have R4 := Lib.hid (R3.out.below hb4)
  have U24 := Lib.hid (U23.out.below hb4)
  have U34 := Lib.hid (U3.out.below hb4)
  have T4 := Lib.hid (T3.out.below hb4 T3.out.lt)
  have TY4 := Lib.hid (TY3.out.below hb4 TY3.out.lt)
  clear hb4 B3 U23 U3 R3 T3 TY3
  cases b with
  | false =>
    obtain ⟨c0, c1, c2'⟩ := T4.out
    obtain ⟨d0, d1, d2⟩ := TY4.out
    simp only [Nat.zero_add] at c0 c1 c2' d0 d1 d2
    go_wp2_with fail
    clear c0 c1 c2' d0 d1 d2
    refine (sameI w4 p2 p3 us U24.out U34.out).mono ?_
    rintro e w9 ⟨rfl, hb9⟩
    have B9 := Lib.hid (B4.out.trans (hb9.mono B4.out.size))
    clear hb9
    go_wp2_with fail
    go_ret
    exact ⟨rfl, B9.out⟩
  | true =>
    have HO2 := Lib.hid (HOR.out (by first | trivial | rfl))
    clear HOR U34 TY4
    obtain ⟨zs1, hzs⟩ : ∃ zs1, zs1 = mws us x.k t := ⟨_, rfl⟩
    rw [← hzs] at HO2
    have HZ := Lib.hid hzs
    have hz8 : zs1.length ≤ 8 := by rw [hzs]; exact mws_len
    clear hzs
    obtain ⟨c0, c1, c2'⟩ := T4.out
    simp only [Nat.zero_add] at c0 c1 c2'
    go_wp2_with fail
    clear c0 c1 c2'
    refine (HMW.out x.k w4 R4.out).mono ?_
    rintro e w5 ⟨p5, rfl, hr5, hb5⟩
    rw [HO2.out] at hr5
    have B5 := Lib.hid (B4.out.trans (hb5.mono B4.out.size))
    have U5 := Lib.hid (U24.out.below hb5)
    have T5 := Lib.hid (T4.out.below hb5 T4.out.lt)
    have I5 := Lib.hid hr5.ints
    clear hb5 hr5 R4 U24 T4 B4
    obtain ⟨c0, c1, c2'⟩ := T5.out
    simp only [Nat.zero_add] at c0 c1 c2'
    go_wp2_with fail
    clear c0 c1 c2'
    refine (imw_any w5 p2 us x.k t U5.out).mono ?_
    rintro e w6 ⟨p6, rfl, hr6, hb6⟩
    rw [← HZ.out] at hr6
    have B6 := Lib.hid (B5.out.trans (hb6.mono B5.out.size))
    have T6 := Lib.hid (T5.out.below hb6 T5.out.lt)
    have I56 := Lib.hid (I5.out.below (B := 0) hb6)
    have I6 := Lib.hid hr6.ints
    clear hb6 hr6 U5 T5 I5 B5
    obtain ⟨a5, c5, rfl, h51, h52, h53⟩ := I56.out
    obtain ⟨g5, o5, rfl, hc5⟩ := h53 0 (by simp)
    have HC5 : Hid (w6.cell? ⟨g5, o5, none⟩ = some (.int .i64 x.r)) := Lib.hid (by rw [Nat.add_zero] at hc5; exact hc5)
    have HIX := Lib.hid (show Ints w6 (.slice (some ⟨g5, o5, none⟩) (x.r :: zs1).length c5) (x.r :: zs1) from I56.out)
    rw [List.length_cons] at h51 HIX ⊢
    obtain ⟨m, hm⟩ : ∃ m, m = zs1.length := ⟨_, rfl⟩
    rw [← hm] at h51 HIX hz8 ⊢
    unfold maxLen at h52
    obtain ⟨q0, hq0⟩ : ∃ q0, q0 = if c5 = 1 then o5 else o5 + 1 := ⟨_, rfl⟩
    have HQ0 := Lib.hid hq0
    have HTL : Hid (Ints w6 (.slice (some ⟨g5, q0, none⟩) m (c5 - 1)) zs1) := Lib.hid (by
      obtain ⟨a', c', e, k1, k2, k3⟩ := HIX.out
      injection e with e1 e2 e3
      subst e1
      subst e3
      rw [List.length_cons] at k1 k3
      refine ⟨_, c5 - 1, by rw [hm], by omega, by omega, fun i hi => ?_⟩
      obtain ⟨g', p', e, hc⟩ := k3 (i + 1) (by omega)
      cases e
      refine ⟨g5, q0, rfl, ?_⟩
      rw [if_neg (by omega)] at hq0
      rw [hq0, show o5 + 1 + i = o5 + (i + 1) by omega]
      exact hc)
    have HLC := Lib.hid (block_lt_of_cell HC5.out)
    clear h53 hc5 hm I56 hq0
    have hm0 : (0 : Int) < (m : Int) + 1 := by omega
    have hm1 : (1 : Int) ≤ (m : Int) + 1 := by omega
    have hm2 : (m : Int) + 1 ≤ (c5 : Int) := by omega
    go_wp2_with fail
    refine wp_region_held_drew (S := fun w' => w'.cell? ⟨g5, o5, none⟩ = some (.int .i64 x.r) ∧ Tri w' X 0 x) (by kernel_rfl) ⟨HC5.out, T6.out.drewN 1⟩ (fun hHeld => ?_)
    refine wpAnyH_take (i := 0) (oi := { dst := some 76, op := .move (.tmp 11), type := _, pos := _, after := _, guard := none }) (v := .slice (some ⟨g5, o5, none⟩) (m + 1) c5) rfl (by kernel_rfl) (by kernel_rfl) (by kernel_rfl) (fun _ _ _ h => h) (Or.inl ⟨by rfl, fun wh hSw => ?_⟩) hHeld ?_
    · (obtain ⟨d, d0, d1, d2⟩ := hSw; simp only [Nat.zero_add] at d0 d1 d2; go_simp)
    try simp only [Act.put, List.setIfInBounds_toArray, List.set_cons_zero, List.set_cons_succ]
    refine wpAnyH_take (i := 1) (oi := { dst := some 77, op := .call { callee := .builtin .len, args := #[.tmp 76], argTypes := #[31] }, type := _, pos := _, after := _, guard := none }) (v := .int .i64 ((m : Int) + 1)) rfl (by kernel_rfl) (by kernel_rfl) (by kernel_rfl) (fun _ _ _ h => h) (Or.inl ⟨by rfl, fun wh hSw => ?_⟩) hHeld ?_
    · (obtain ⟨d, d0, d1, d2⟩ := hSw; simp only [Nat.zero_add] at d0 d1 d2; go_simp)
    try simp only [Act.put, List.setIfInBounds_toArray, List.set_cons_zero, List.set_cons_succ]
    refine wpAnyH_take (i := 2) (oi := { dst := some 78, op := .binOp .gtr 3 (.tmp 77) (.const (.int .i64 0)) 3, type := _, pos := _, after := _, guard := none }) (v := .bool true) rfl (by kernel_rfl) (by kernel_rfl) (by kernel_rfl) (fun _ _ _ h => h) (Or.inl ⟨by rfl, fun wh hSw => ?_⟩) hHeld ?_
    · (obtain ⟨d, d0, d1, d2⟩ := hSw; simp only [Nat.zero_add] at d0 d1 d2; go_simp)
    try simp only [Act.put, List.setIfInBounds_toArray, List.set_cons_zero, List.set_cons_succ]
    refine wpAnyH_take (i := 3) (oi := { dst := some 79, op := .move (.tmp 78), type := _, pos := _, after := _, guard := none }) (v := .bool true) rfl (by kernel_rfl) (by kernel_rfl) (by kernel_rfl) (fun _ _ _ h => h) (Or.inl ⟨by rfl, fun wh hSw => ?_⟩) hHeld ?_
    · (obtain ⟨d, d0, d1, d2⟩ := hSw; simp only [Nat.zero_add] at d0 d1 d2; go_simp)
    try simp only [Act.put, List.setIfInBounds_toArray, List.set_cons_zero, List.set_cons_succ]
    refine wpAnyH_take (i := 4) (oi := { dst := some 80, op := .move (.tmp 11), type := _, pos := _, after := _, guard := some (3, true) }) (v := .slice (some ⟨g5, o5, none⟩) (m + 1) c5) rfl (by kernel_rfl) (by kernel_rfl) (by kernel_rfl) (fun _ _ _ h => h) (Or.inl ⟨by rfl, fun wh hSw => ?_⟩) hHeld ?_
    · (obtain ⟨d, d0, d1, d2⟩ := hSw; simp only [Nat.zero_add] at d0 d1 d2; go_simp)
    try simp only [Act.put, List.setIfInBounds_toArray, List.set_cons_zero, List.set_cons_succ]
    refine wpAnyH_take (i := 5) (oi := { dst := some 81, op := .indexAddr 31 (.tmp 80) (.const (.int .i64 0)), type := _, pos := _, after := _, guard := some (3, true) }) (v := .pointer (some ⟨g5, o5, none⟩)) rfl (by kernel_rfl) (by kernel_rfl) (by kernel_rfl) (fun _ _ _ h => h) (Or.inl ⟨by rfl, fun wh hSw => ?_⟩) hHeld ?_
    · (go_simp; try (intro hh; omega))
    try simp only [Act.put, List.setIfInBounds_toArray, List.set_cons_zero, List.set_cons_succ]
    refine wpAnyH_take (i := 6) (oi := { dst := some 82, op := .load 3 (.tmp 81), type := _, pos := _, after := _, guard := some (3, true) }) (v := .int .i64 x.r) rfl (by kernel_rfl) (by kernel_rfl) (by kernel_rfl) (fun _ _ _ h => h) (Or.inl ⟨by rfl, fun wh hSw => ?_⟩) hHeld ?_
    · (obtain ⟨d, d0, d1, d2⟩ := hSw; simp only [Nat.zero_add] at d0 d1 d2; go_simp)
    try simp only [Act.put, List.setIfInBounds_toArray, List.set_cons_zero, List.set_cons_succ]
    refine wpAnyH_take (i := 7) (oi := { dst := some 83, op := .fieldAddr 25 (.tmp 6) 2, type := _, pos := _, after := _, guard := some (3, true) }) (v := .pointer (some ⟨X, 2, none⟩)) rfl (by kernel_rfl) (by kernel_rfl) (by kernel_rfl) (fun _ _ _ h => h) (Or.inl ⟨by rfl, fun wh hSw => ?_⟩) hHeld ?_
    · (obtain ⟨d, d0, d1, d2⟩ := hSw; simp only [Nat.zero_add] at d0 d1 d2; go_simp)
    try simp only [Act.put, List.setIfInBounds_toArray, List.set_cons_zero, List.set_cons_succ]
    refine wpAnyH_take (i := 8) (oi := { dst := some 84, op := .load 3 (.tmp 83), type := _, pos := _, after := _, guard := some (3, true) }) (v := .int .i64 x.r) rfl (by kernel_rfl) (by kernel_rfl) (by kernel_rfl) (fun _ _ _ h => h) (Or.inl ⟨by rfl, fun wh hSw => ?_⟩) hHeld ?_
    · (obtain ⟨d, d0, d1, d2⟩ := hSw; simp only [Nat.zero_add] at d0 d1 d2; go_simp)
    try simp only [Act.put, List.setIfInBounds_toArray, List.set_cons_zero, List.set_cons_succ]
    refine wpAnyH_take (i := 9) (oi := { dst := some 85, op := .binOp .eql 3 (.tmp 82) (.tmp 84) 3, type := _, pos := _, after := _, guard := some (3, true) }) (v := .bool true) rfl (by kernel_rfl) (by kernel_rfl) (by kernel_rfl) (fun _ _ _ h => h) (Or.inl ⟨by rfl, fun wh hSw => ?_⟩) hHeld ?_
    · (obtain ⟨d, d0, d1, d2⟩ := hSw; simp only [Nat.zero_add] at d0 d1 d2; go_simp)
    try simp only [Act.put, List.setIfInBounds_toArray, List.set_cons_zero, List.set_cons_succ]
    refine wpAnyH_take (i := 10) (oi := { dst := some 86, op := .pick (.tmp 79) (.tmp 85) (.const (.bool false)), type := _, pos := _, after := _, guard := none }) (v := .bool true) rfl (by kernel_rfl) (by kernel_rfl) (by kernel_rfl) (fun _ _ _ h => h) (Or.inl ⟨by rfl, fun wh hSw => ?_⟩) hHeld ?_
    · (obtain ⟨d, d0, d1, d2⟩ := hSw; simp only [Nat.zero_add] at d0 d1 d2; go_simp)
    try simp only [Act.put, List.setIfInBounds_toArray, List.set_cons_zero, List.set_cons_succ]
    refine wpAnyH_take (i := 11) (oi := { dst := some 87, op := .move (.tmp 86), type := _, pos := _, after := _, guard := none }) (v := .bool true) rfl (by kernel_rfl) (by kernel_rfl) (by kernel_rfl) (fun _ _ _ h => h) (Or.inl ⟨by rfl, fun wh hSw => ?_⟩) hHeld ?_
    · (obtain ⟨d, d0, d1, d2⟩ := hSw; simp only [Nat.zero_add] at d0 d1 d2; go_simp)
    try simp only [Act.put, List.setIfInBounds_toArray, List.set_cons_zero, List.set_cons_succ]
    refine wpAnyH_take (i := 12) (oi := { dst := some 88, op := .move (.tmp 11), type := _, pos := _, after := _, guard := some (11, true) }) (v := .slice (some ⟨g5, o5, none⟩) (m + 1) c5) rfl (by kernel_rfl) (by kernel_rfl) (by kernel_rfl) (fun _ _ _ h => h) (Or.inl ⟨by rfl, fun wh hSw => ?_⟩) hHeld ?_
    · (obtain ⟨d, d0, d1, d2⟩ := hSw; simp only [Nat.zero_add] at d0 d1 d2; go_simp)
    try simp only [Act.put, List.setIfInBounds_toArray, List.set_cons_zero, List.set_cons_succ]
    refine wpAnyH_take (i := 13) (oi := { dst := some 89, op := .slice 31 (.tmp 88) (some (.const (.int .i64 1))) none none, type := _, pos := _, after := _, guard := some (11, true) }) (v := .slice (some ⟨g5, q0, none⟩) m (c5 - 1)) rfl (by kernel_rfl) (by kernel_rfl) (by kernel_rfl) (fun _ _ _ h => h) (Or.inl ⟨by rfl, fun wh hSw => ?_⟩) hHeld ?_
    · (go_simp; rw [HQ0.out]; by_cases hce : c5 = 1 <;> (simp [hce]; try (intro hh; omega)))
    try simp only [Act.put, List.setIfInBounds_toArray, List.set_cons_zero, List.set_cons_succ]
    refine wpAnyH_take (i := 14) (oi := { dst := some 90, op := .move (.tmp 12), type := _, pos := _, after := _, guard := some (11, true) }) (v := p6) rfl (by kernel_rfl) (by kernel_rfl) (by kernel_rfl) (fun _ _ _ h => h) (Or.inl ⟨by rfl, fun wh hSw => ?_⟩) hHeld ?_
    · (obtain ⟨d, d0, d1, d2⟩ := hSw; simp only [Nat.zero_add] at d0 d1 d2; go_simp)
    try simp only [Act.put, List.setIfInBounds_toArray, List.set_cons_zero, List.set_cons_succ]
    refine wpAnyH_ready (rs := [15]) (by kernel_rfl) (by simp) ?_
    refine AllReadyH.cons (o := { dst := some 91, op := .call { callee := .value (.func 24), args := #[.tmp 89, .tmp 90], argTypes := #[31, 31] }, type := _, pos := _, after := _, guard := some (11, true) }) rfl (fun K hK => ?_) AllReadyH.nil
    go_simp
    have HBD : Hid (Below w6.heap.size w6 w6.drew) := Lib.hid (Below.refl _ _).drew
    refine (sameN _ _ _ zs1 (HTL.out.below (B := 0) HBD.out) (I6.out.below (B := 0) HBD.out)).mono ?_
    rintro e w7 ⟨rfl, hb7⟩
    have B7 := Lib.hid ((B6.out.trans (HBD.out.mono B6.out.size)).trans (hb7.mono (Nat.le_trans B6.out.size HBD.out.size)))
    have HB67 := Lib.hid (HBD.out.trans (hb7.mono HBD.out.size))
    clear hb7
    refine hK.out _ _ ?_ (fun hHeld => ?_)
    · exact ⟨(World.cell?_of_block (HB67.out.block g5 HLC.out)).trans HC5.out, T6.out.below HB67.out T6.out.lt⟩
    clear hK K
    try simp only [Act.put, List.setIfInBounds_toArray, List.set_cons_zero, List.set_cons_succ]
    refine wpAnyH_take (i := 16) (oi := { dst := some 92, op := .pick (.tmp 87) (.tmp 91) (.const (.bool false)), type := _, pos := _, after := _, guard := none }) (v := .bool true) rfl (by kernel_rfl) (by kernel_rfl) (by kernel_rfl) (fun _ _ _ h => h) (Or.inl ⟨by rfl, fun wh hSw => ?_⟩) hHeld ?_
    · (obtain ⟨d, d0, d1, d2⟩ := hSw; simp only [Nat.zero_add] at d0 d1 d2; go_simp)
    try simp only [Act.put, List.setIfInBounds_toArray, List.set_cons_zero, List.set_cons_succ]
    refine wpAnyH_take (i := 17) (oi := { dst := some 2, op := .assign (.tmp 92), type := _, pos := _, after := _, guard := none }) (v := .bool true) rfl (by kernel_rfl) (by kernel_rfl) (by kernel_rfl) (fun _ _ _ h => h) (Or.inl ⟨by rfl, fun wh hSw => ?_⟩) hHeld ?_
    · (obtain ⟨d, d0, d1, d2⟩ := hSw; simp only [Nat.zero_add] at d0 d1 d2; go_simp)
    try simp only [Act.put, List.setIfInBounds_toArray, List.set_cons_zero, List.set_cons_succ]
    refine wpAnyH_done (by kernel_rfl) ?_ _
    go_wp2_with fail
    go_ret
    exact ⟨rfl, B7.out⟩
end Go.Proofs.Ytachiggolgdocaa
