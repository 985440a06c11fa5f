/- The walk of the exact statement of CachePut, out of contracts of the program and of the reference that answer the same. -/
import Derived.Test.YtklclcbhghjjfaaExCacheDrop
import Derived.Deep.RegionHeld
namespace Go.Proofs.Ytklclcbhghjjfaa
open Go.ChangeShapes Go.WideShapes Go.ChangeAt Go.RowKit
set_option linter.unusedVariables false

/-- a new slice of translations, perhaps nil, and whether the call succeeded; nothing that was there changes -/
def PutCR (ys : List CV) (b : Bool) (w : World) (e : Ending) (w' : World) : Prop := ∃ v, e = .returned (.tuple #[v, .bool b]) ∧ CsW w' w.heap.size w'.heap.size v ys ∧ Below w.heap.size w w'
theorem PutCR.of_new {ys : List CV} {b : Bool} {w : World} {e : Ending} {w' : World} (h : PutRes ys b w e w') : PutCR ys b w e w' := by
  obtain ⟨v, rfl, h⟩ := h
  exact ⟨v, rfl, CsW.of_own h, h.bel⟩
set_option maxHeartbeats 1000000 in
theorem exCachePut_walk (W : World) (v0 : Value) (xs : List CV) (ys : List CV) (b : Bool) (x : CV) (h : Cs W v0 xs) (hy : ys.length ≤ 1000)
    (hS : ∀ w v, Cs w v xs → Calls Try.prog 16 #[v, cvV x] w (PutCR ys b w))
    (hI : ∀ w v, Cs w v xs → Calls Try.prog 15 #[v, cvV x] w (PutCR ys b w)) :
    Calls Try.prog 12 #[v0, cvV x] W fun e w' => e = .returned (.bool true) ∧ Below W.heap.size W w' := by
  have HSPEC := Lib.hid hS
  have HIMPL := Lib.hid hI
  obtain ⟨W0, hW0⟩ : ∃ W0, W0 = W.alloc (.cells #[.int .i64 x.e, .int .i64 x.p, .int .i64 x.f, .bool x.b] 48) := ⟨_, rfl⟩
  have HB0 : Hid (Below W.heap.size W W0) := Lib.hid (by rw [hW0]; exact (Below.refl _ _).alloc (Nat.le_refl _) _)
  have HFX : Hid (∀ w', Below W0.heap.size W0 w' → Four w' W.heap.size 0 x) := Lib.hid (fun w' hb => Four.below (w := W0) (by rw [hW0]; exact four_new W x _) hb (by rw [hW0]; simp))
  have HW0 := Lib.hid hW0
  replace h := h.below HB0.out
  have H0 := Lib.hid h
  clear hW0
  clear hS hI
  obtain ⟨ny, hny⟩ : ∃ n, n = ys.length := ⟨_, rfl⟩
  have HNY := Lib.hid hny
  have hny1 : ny ≤ 1000 := by omega
  clear hny hy
  have hbb : (b != b) = false := by simp
  go_enter Try.func12, Try.ntmps12
  go_wp2_with fail
  rw [← HW0.out]
  refine (szCachedS_any W0 v0 xs 1048576 h (by omega)).mono ?_
  clear h
  rintro e w' ⟨rfl, rfl⟩
  by_cases hn0 : ¬ (xs.length : Int) ≤ 1048576
  · rw [if_neg hn0]
    go_wp2_with fail
    go_ret
    exact ⟨rfl, HB0.out⟩
  have hn1 : (xs.length : Int) ≤ 1048576 := by omega
  rw [if_pos hn1]
  have hn : xs.length ≤ 1048576 := by omega
  have hr1 : decide ((1048576 : Int) - (xs.length : Int) < 0) = false := by simp; omega
  have hx1 : decide ((1 : Int) + 4 * (xs.length : Int) < 0) = false := by simp; omega
  clear hn0 hn1
  -- a copy for the reference
  go_wp2_with fail
  refine wp_region_held_drew (S := fun w' => Four w' W.heap.size 0 x) (by kernel_rfl) (HFX.out _ (Below.refl W0.heap.size W0).drew) (fun hHeld => ?_)
  refine wpAnyH_take (i := 0) (oi := { dst := some 22, op := .move (.tmp 0), type := _, pos := _, after := _, guard := none }) (v := v0) rfl (by kernel_rfl) (by kernel_rfl) (by kernel_rfl) (fun _ _ _ h => h) (Or.inl ⟨by rfl, fun wh hSw => ?_⟩) hHeld ?_
  · (obtain ⟨s0, s1, s2, s3⟩ := hSw; simp only [Nat.zero_add] at s0 s1 s2 s3; go_simp)
  try simp only [Act.put, List.setIfInBounds_toArray, List.set_cons_zero, List.set_cons_succ]
  refine wpAnyH_take (i := 2) (oi := { dst := some 24, op := .load 48 (.tmp 3), type := _, pos := _, after := _, guard := none }) (v := cvV x) rfl (by kernel_rfl) (by kernel_rfl) (by kernel_rfl) (fun _ _ _ h => h) (Or.inl ⟨by rfl, fun wh hSw => ?_⟩) hHeld ?_
  · (obtain ⟨s0, s1, s2, s3⟩ := hSw; simp only [Nat.zero_add] at s0 s1 s2 s3; go_simp)
  try simp only [Act.put, List.setIfInBounds_toArray, List.set_cons_zero, List.set_cons_succ]
  refine wpAnyH_ready (rs := [1]) (by kernel_rfl) (by simp) ?_
  refine AllReadyH.cons (o := { dst := some 23, op := .call { callee := .value (.func 28), args := #[.tmp 22], argTypes := #[42] }, type := _, pos := _, after := _, guard := none }) rfl (fun K hK => ?_) AllReadyH.nil
  go_simp
  refine (toCachedS_any W0.drew v0 xs (H0.out.drewN 1) hn).mono ?_
  rintro e w1 ⟨u1, rfl, ho1, hb1⟩
  have B1 := Lib.hid (((Below.refl W0.heap.size W0).drew).trans hb1)
  have R1 := Lib.hid ho1.cs
  have Z1 : W0.heap.size ≤ w1.heap.size := hb1.size
  clear ho1 hb1
  try go_simp
  refine hK.out _ _ ?_ (fun hHeld => ?_)
  · exact HFX.out w1 B1.out
  clear hK K
  try simp only [Act.put, List.setIfInBounds_toArray, List.set_cons_zero, List.set_cons_succ]
  refine wpAnyH_ready (rs := [3]) (by kernel_rfl) (by simp) ?_
  refine AllReadyH.cons (o := { dst := some 25, op := .call { callee := .value (.func 31), args := #[.tmp 24], argTypes := #[48] }, type := _, pos := _, after := _, guard := none }) rfl (fun K hK => ?_) AllReadyH.nil
  go_simp
  refine (toCached_any w1 x).mono ?_
  rintro e w1b ⟨rfl, hx1b⟩
  have B1b := Lib.hid (Below.chg B1.out (Chg.of_below hx1b) Z1 (.inr rfl))
  have R1b := Lib.hid (R1.out.below hx1b)
  have Z1b : W0.heap.size ≤ w1b.heap.size := by have := hx1b.size; omega
  clear hx1b
  try go_simp
  refine hK.out _ _ ?_ (fun hHeld => ?_)
  · exact HFX.out w1b B1b.out
  clear hK K
  try simp only [Act.put, List.setIfInBounds_toArray, List.set_cons_zero, List.set_cons_succ]
  refine wpAnyH_ready (rs := [4]) (by kernel_rfl) (by simp) ?_
  refine AllReadyH.cons (o := { dst := some 26, op := .call { callee := .value (.func 16), args := #[.tmp 23, .tmp 25], argTypes := #[23, 25] }, type := _, pos := _, after := _, guard := none }) rfl (fun K hK => ?_) AllReadyH.nil
  go_simp
  refine (HSPEC.out w1b u1 R1b.out).mono ?_
  rintro e w2 ⟨u2, rfl, hm2, hb2⟩
  have B2 := Lib.hid (Below.chg B1b.out (Chg.of_below hb2) Z1b (.inr rfl))
  have Z2 : w1b.heap.size ≤ w2.heap.size := hb2.size
  have M2 := Lib.hid hm2
  clear R1 B1 R1b B1b hm2 hb2
  try go_simp
  refine hK.out _ _ ?_ (fun hHeld => ?_)
  · exact HFX.out w2 B2.out
  clear hK K
  try simp only [Act.put, List.setIfInBounds_toArray, List.set_cons_zero, List.set_cons_succ]
  refine wpAnyH_take (i := 5) (oi := { dst := some 21, op := .move (.tmp 26), type := _, pos := _, after := _, guard := none }) (v := .tuple #[u2, .bool b]) rfl (by kernel_rfl) (by kernel_rfl) (by kernel_rfl) (fun _ _ _ h => h) (Or.inl ⟨by rfl, fun wh hSw => ?_⟩) hHeld ?_
  · (obtain ⟨s0, s1, s2, s3⟩ := hSw; simp only [Nat.zero_add] at s0 s1 s2 s3; go_simp)
  try simp only [Act.put, List.setIfInBounds_toArray, List.set_cons_zero, List.set_cons_succ]
  refine wpAnyH_take (i := 6) (oi := { dst := some 27, op := .extract (.tmp 21) 0, type := _, pos := _, after := _, guard := none }) (v := u2) rfl (by kernel_rfl) (by kernel_rfl) (by kernel_rfl) (fun _ _ _ h => h) (Or.inl ⟨by rfl, fun wh hSw => ?_⟩) hHeld ?_
  · (obtain ⟨s0, s1, s2, s3⟩ := hSw; simp only [Nat.zero_add] at s0 s1 s2 s3; go_simp)
  try simp only [Act.put, List.setIfInBounds_toArray, List.set_cons_zero, List.set_cons_succ]
  refine wpAnyH_take (i := 7) (oi := { dst := some 28, op := .extract (.tmp 21) 1, type := _, pos := _, after := _, guard := none }) (v := .bool b) rfl (by kernel_rfl) (by kernel_rfl) (by kernel_rfl) (fun _ _ _ h => h) (Or.inl ⟨by rfl, fun wh hSw => ?_⟩) hHeld ?_
  · (obtain ⟨s0, s1, s2, s3⟩ := hSw; simp only [Nat.zero_add] at s0 s1 s2 s3; go_simp)
  try simp only [Act.put, List.setIfInBounds_toArray, List.set_cons_zero, List.set_cons_succ]
  refine wpAnyH_take (i := 8) (oi := { dst := some 6, op := .assign (.tmp 27), type := _, pos := _, after := _, guard := none }) (v := u2) rfl (by kernel_rfl) (by kernel_rfl) (by kernel_rfl) (fun _ _ _ h => h) (Or.inl ⟨by rfl, fun wh hSw => ?_⟩) hHeld ?_
  · (obtain ⟨s0, s1, s2, s3⟩ := hSw; simp only [Nat.zero_add] at s0 s1 s2 s3; go_simp)
  try simp only [Act.put, List.setIfInBounds_toArray, List.set_cons_zero, List.set_cons_succ]
  refine wpAnyH_take (i := 9) (oi := { dst := some 7, op := .assign (.tmp 28), type := _, pos := _, after := _, guard := none }) (v := .bool b) rfl (by kernel_rfl) (by kernel_rfl) (by kernel_rfl) (fun _ _ _ h => h) (Or.inl ⟨by rfl, fun wh hSw => ?_⟩) hHeld ?_
  · (obtain ⟨s0, s1, s2, s3⟩ := hSw; simp only [Nat.zero_add] at s0 s1 s2 s3; go_simp)
  try simp only [Act.put, List.setIfInBounds_toArray, List.set_cons_zero, List.set_cons_succ]
  refine wpAnyH_done (by kernel_rfl) ?_ _
  -- a copy for the program
  go_wp2_with fail
  refine (toCachedS_any w2 v0 xs (H0.out.below B2.out) hn).mono ?_
  rintro e w3 ⟨u3, rfl, ho3, hb3⟩
  have Z3 : w2.heap.size ≤ w3.heap.size := hb3.size
  have C3 := Chg.of_below hb3
  have B3 := Lib.hid (Below.chg B2.out C3 (by omega) (.inr rfl))
  have M23 := Lib.hid (M2.out.chg C3 (Nat.le_refl _) (.inr (by omega)))
  have O3 := Lib.hid ho3
  have R3 := Lib.hid ho3.cs
  clear ho3 hb3 C3 B2 M2
  obtain ⟨q0w3, q1w3, q2w3, q3w3⟩ := HFX.out w3 B3.out
  simp only [Nat.zero_add] at q1w3 q2w3 q3w3
  go_wp2_with fail
  refine (toCached_any w3 x).mono ?_
  rintro e w3b ⟨rfl, hx3⟩
  have C3b := Chg.of_below hx3
  have Z3b := C3b.size
  have B3b := Lib.hid (Below.chg B3.out C3b (by omega) (.inr rfl))
  have M23b := Lib.hid (M23.out.chg C3b (by omega) (.inr (by omega)))
  have O3b := Lib.hid (O3.out.chg C3b (by omega) (.inr (by omega)))
  clear C3b hx3 B3 M23 R3
  -- the program
  go_wp2_with fail
  refine (HIMPL.out w3b u3 O3b.out.cs).mono ?_
  rintro e w4 ⟨u4, rfl, hm4, hb4⟩
  have Z4 : w3b.heap.size ≤ w4.heap.size := hb4.size
  have C4 := Chg.of_below hb4
  have B4 := Lib.hid (Below.chg B3b.out C4 (by omega) (.inr rfl))
  have M24 := Lib.hid (M23b.out.chg C4 (by omega) (.inr (by omega)))
  have O4 := Lib.hid (O3b.out.chg C4 (by omega) (.inr (by omega)))
  have M44 := Lib.hid hm4
  clear hm4 hb4 C4 B3b M23b O3 O3b
  -- both results are equal
  go_wp2_with fail
  refine (eqC_same w4 u4 u2 ys M44.out.cs M24.out.cs).mono ?_
  rintro e w5 ⟨rfl, C5⟩
  have Z5 := C5.size
  have B5 := Lib.hid (Below.chg B4.out C5 (by omega) (.inr rfl))
  have M25 := Lib.hid (M24.out.chg C5 (by omega) (.inr (by omega)))
  have O5 := Lib.hid (O4.out.chg C5 (by omega) (.inr (by omega)))
  have M45 := Lib.hid (M44.out.chg C5 (by omega) (.inr (by omega)))
  clear C5 B4 M24 O4 M44
  -- the argument is as it was
  go_wp2_with fail
  refine (toCachedS_any w5 v0 xs (H0.out.below B5.out) hn).mono ?_
  rintro e w6 ⟨u6, rfl, ho6, hb6⟩
  have C6 := Chg.of_below hb6
  have Z6 := C6.size
  have R6 := Lib.hid ho6.cs
  have B6 := Lib.hid (Below.chg B5.out C6 (by omega) (.inr rfl))
  have M26 := Lib.hid (M25.out.chg C6 (by omega) (.inr (by omega)))
  have O6 := Lib.hid (O5.out.chg C6 (by omega) (.inr (by omega)))
  have M46 := Lib.hid (M45.out.chg C6 (by omega) (.inr (by omega)))
  clear C6 B5 M25 O5 M45 ho6 hb6
  go_wp2_with fail
  refine (eqC_same w6 u3 u6 xs O6.out.cs R6.out).mono ?_
  rintro e w7 ⟨rfl, C7⟩
  have Z7 := C7.size
  have B7 := Lib.hid (Below.chg B6.out C7 (by omega) (.inr rfl))
  have M27 := Lib.hid (M26.out.chg C7 (by omega) (.inr (by omega)))
  have O7 := Lib.hid (O6.out.chg C7 (by omega) (.inr (by omega)))
  have M47 := Lib.hid (M46.out.chg C7 (by omega) (.inr (by omega)))
  clear C7 B6 M26 O6 M46 R6
  -- the argument is marked
  have HM7 := Lib.hid (markCachedS_any w7 u3 xs _ _ O7.out (by omega) (by omega))
  clear O7
  go_wp2_with fail
  refine HM7.out.mono ?_
  rintro e w8 ⟨rfl, K8, _⟩
  have C8 := Chg.of_kept K8
  have Z8 := C8.size
  have B8 := Lib.hid (Below.chg B7.out C8 (by omega) (.inl (by omega)))
  have M28 := Lib.hid (M27.out.chg C8 (by omega) (.inl (by omega)))
  have M48 := Lib.hid (M47.out.chg C8 (by omega) (.inr (by omega)))
  clear C8 K8 B7 M27 M47 HM7
  -- the results are still equal
  go_wp2_with fail
  refine (eqC_same w8 u4 u2 ys M48.out.cs M28.out.cs).mono ?_
  rintro e w9 ⟨rfl, C9⟩
  have Z9 := C9.size
  have B9 := Lib.hid (Below.chg B8.out C9 (by omega) (.inr rfl))
  have M29 := Lib.hid (M28.out.chg C9 (by omega) (.inr (by omega)))
  have M49 := Lib.hid (M48.out.chg C9 (by omega) (.inr (by omega)))
  clear C9 B8 M28 M48
  -- the result is marked
  have HM9 := Lib.hid (markCachedS_any w9 u4 ys _ _ M49.out (by omega) (by have := HNY.out; omega))
  rw [← HNY.out] at HM9
  clear M49
  go_wp2_with fail
  refine HM9.out.mono ?_
  rintro e w10 ⟨rfl, K10, hk10⟩
  have C10 := Chg.of_kept K10
  have Z10 := C10.size
  have B10 := Lib.hid (Below.chg B9.out C10 (by omega) (.inl (by omega)))
  have M210 := Lib.hid (M29.out.chg C10 (by omega) (.inl (by omega)))
  have HK10 := Lib.hid hk10
  have HD10 := Lib.hid (heldCachedS_any w10 u4 ny hk10.cs (by omega))
  clear C10 K10 B9 M29 HM9 hk10
  have hge : decide ((1 : Int) + 4 * (ny : Int) < 0) = false := by simp; omega
  go_wp2_with fail
  refine HD10.out.mono ?_
  rintro e w' ⟨rfl, rfl⟩
  clear HD10
  -- another call
  go_wp2_with fail
  refine wp_region_held_drew (S := fun w' => Four w' W.heap.size 0 x) (by kernel_rfl) (HFX.out _ B10.out.drew) (fun hHeld => ?_)
  refine wpAnyH_take (i := 0) (oi := { dst := some 80, op := .move (.tmp 0), type := _, pos := _, after := _, guard := none }) (v := v0) rfl (by kernel_rfl) (by kernel_rfl) (by kernel_rfl) (fun _ _ _ h => h) (Or.inl ⟨by rfl, fun wh hSw => ?_⟩) hHeld ?_
  · (obtain ⟨s0, s1, s2, s3⟩ := hSw; simp only [Nat.zero_add] at s0 s1 s2 s3; go_simp)
  try simp only [Act.put, List.setIfInBounds_toArray, List.set_cons_zero, List.set_cons_succ]
  refine wpAnyH_take (i := 2) (oi := { dst := some 82, op := .load 48 (.tmp 3), type := _, pos := _, after := _, guard := none }) (v := cvV x) rfl (by kernel_rfl) (by kernel_rfl) (by kernel_rfl) (fun _ _ _ h => h) (Or.inl ⟨by rfl, fun wh hSw => ?_⟩) hHeld ?_
  · (obtain ⟨s0, s1, s2, s3⟩ := hSw; simp only [Nat.zero_add] at s0 s1 s2 s3; go_simp)
  try simp only [Act.put, List.setIfInBounds_toArray, List.set_cons_zero, List.set_cons_succ]
  refine wpAnyH_ready (rs := [1]) (by kernel_rfl) (by simp) ?_
  refine AllReadyH.cons (o := { dst := some 81, op := .call { callee := .value (.func 28), args := #[.tmp 80], argTypes := #[42] }, type := _, pos := _, after := _, guard := none }) rfl (fun K hK => ?_) AllReadyH.nil
  go_simp
  refine (toCachedS_any w10.drew v0 xs ((H0.out.below B10.out).drewN 1) hn).mono ?_
  rintro e w11 ⟨u11, rfl, ho11, hb11⟩
  have C11 := Chg.of_below (((Below.refl w10.heap.size w10).drew).trans hb11)
  have Z11 := C11.size
  have R11 := Lib.hid ho11.cs
  have B11 := Lib.hid (Below.chg B10.out C11 (by omega) (.inr rfl))
  have M211 := Lib.hid (M210.out.chg C11 (by omega) (.inr (by omega)))
  have HK11 := Lib.hid (HK10.out.chg C11 (by omega) (.inr (by omega)))
  clear C11 M210 HK10 ho11 hb11
  try go_simp
  refine hK.out _ _ ?_ (fun hHeld => ?_)
  · exact HFX.out w11 B11.out
  clear hK K
  try simp only [Act.put, List.setIfInBounds_toArray, List.set_cons_zero, List.set_cons_succ]
  refine wpAnyH_ready (rs := [3]) (by kernel_rfl) (by simp) ?_
  refine AllReadyH.cons (o := { dst := some 83, op := .call { callee := .value (.func 31), args := #[.tmp 82], argTypes := #[48] }, type := _, pos := _, after := _, guard := none }) rfl (fun K hK => ?_) AllReadyH.nil
  go_simp
  refine (toCached_any w11 x).mono ?_
  rintro e w11b ⟨rfl, hx11⟩
  have C11b := Chg.of_below hx11
  have Z11b := C11b.size
  have R11b := Lib.hid (R11.out.below hx11)
  have B11b := Lib.hid (Below.chg B11.out C11b (by omega) (.inr rfl))
  have M211b := Lib.hid (M211.out.chg C11b (by omega) (.inr (by omega)))
  have HK11b := Lib.hid (HK11.out.chg C11b (by omega) (.inr (by omega)))
  clear C11b hx11 M211 HK11 R11
  try go_simp
  refine hK.out _ _ ?_ (fun hHeld => ?_)
  · exact HFX.out w11b B11b.out
  clear hK K
  try simp only [Act.put, List.setIfInBounds_toArray, List.set_cons_zero, List.set_cons_succ]
  refine wpAnyH_ready (rs := [4]) (by kernel_rfl) (by simp) ?_
  refine AllReadyH.cons (o := { dst := some 84, op := .call { callee := .value (.func 15), args := #[.tmp 81, .tmp 83], argTypes := #[23, 25] }, type := _, pos := _, after := _, guard := none }) rfl (fun K hK => ?_) AllReadyH.nil
  go_simp
  refine (HIMPL.out w11b u11 R11b.out).mono ?_
  rintro e w12 ⟨u12, rfl, hm12, hb12⟩
  have C12 := Chg.of_below hb12
  have Z12 := C12.size
  have B12 := Lib.hid (Below.chg B11b.out C12 (by omega) (.inr rfl))
  have M212 := Lib.hid (M211b.out.chg C12 (by omega) (.inr (by omega)))
  have HK12 := Lib.hid (HK11b.out.chg C12 (by omega) (.inr (by omega)))
  have M1212 := Lib.hid hm12
  clear C12 M211b HK11b hm12 hb12 R11b
  try go_simp
  refine hK.out _ _ ?_ (fun hHeld => ?_)
  · exact HFX.out w12 B12.out
  clear hK K
  try simp only [Act.put, List.setIfInBounds_toArray, List.set_cons_zero, List.set_cons_succ]
  refine wpAnyH_take (i := 5) (oi := { dst := some 79, op := .move (.tmp 84), type := _, pos := _, after := _, guard := none }) (v := .tuple #[u12, .bool b]) rfl (by kernel_rfl) (by kernel_rfl) (by kernel_rfl) (fun _ _ _ h => h) (Or.inl ⟨by rfl, fun wh hSw => ?_⟩) hHeld ?_
  · (obtain ⟨s0, s1, s2, s3⟩ := hSw; simp only [Nat.zero_add] at s0 s1 s2 s3; go_simp)
  try simp only [Act.put, List.setIfInBounds_toArray, List.set_cons_zero, List.set_cons_succ]
  refine wpAnyH_take (i := 6) (oi := { dst := some 85, op := .extract (.tmp 79) 0, type := _, pos := _, after := _, guard := none }) (v := u12) rfl (by kernel_rfl) (by kernel_rfl) (by kernel_rfl) (fun _ _ _ h => h) (Or.inl ⟨by rfl, fun wh hSw => ?_⟩) hHeld ?_
  · (obtain ⟨s0, s1, s2, s3⟩ := hSw; simp only [Nat.zero_add] at s0 s1 s2 s3; go_simp)
  try simp only [Act.put, List.setIfInBounds_toArray, List.set_cons_zero, List.set_cons_succ]
  refine wpAnyH_take (i := 7) (oi := { dst := some 86, op := .extract (.tmp 79) 1, type := _, pos := _, after := _, guard := none }) (v := .bool b) rfl (by kernel_rfl) (by kernel_rfl) (by kernel_rfl) (fun _ _ _ h => h) (Or.inl ⟨by rfl, fun wh hSw => ?_⟩) hHeld ?_
  · (obtain ⟨s0, s1, s2, s3⟩ := hSw; simp only [Nat.zero_add] at s0 s1 s2 s3; go_simp)
  try simp only [Act.put, List.setIfInBounds_toArray, List.set_cons_zero, List.set_cons_succ]
  refine wpAnyH_take (i := 8) (oi := { dst := some 14, op := .assign (.tmp 85), type := _, pos := _, after := _, guard := none }) (v := u12) rfl (by kernel_rfl) (by kernel_rfl) (by kernel_rfl) (fun _ _ _ h => h) (Or.inl ⟨by rfl, fun wh hSw => ?_⟩) hHeld ?_
  · (obtain ⟨s0, s1, s2, s3⟩ := hSw; simp only [Nat.zero_add] at s0 s1 s2 s3; go_simp)
  try simp only [Act.put, List.setIfInBounds_toArray, List.set_cons_zero, List.set_cons_succ]
  refine wpAnyH_take (i := 9) (oi := { dst := some 15, op := .assign (.tmp 86), type := _, pos := _, after := _, guard := none }) (v := .bool b) rfl (by kernel_rfl) (by kernel_rfl) (by kernel_rfl) (fun _ _ _ h => h) (Or.inl ⟨by rfl, fun wh hSw => ?_⟩) hHeld ?_
  · (obtain ⟨s0, s1, s2, s3⟩ := hSw; simp only [Nat.zero_add] at s0 s1 s2 s3; go_simp)
  try simp only [Act.put, List.setIfInBounds_toArray, List.set_cons_zero, List.set_cons_succ]
  refine wpAnyH_done (by kernel_rfl) ?_ _
  go_wp2_with fail
  refine (eqC_same w12 u12 u2 ys M1212.out.cs M212.out.cs).mono ?_
  rintro e w13 ⟨rfl, C13⟩
  have Z13 := C13.size
  have B13 := Lib.hid (Below.chg B12.out C13 (by omega) (.inr rfl))
  have HK13 := Lib.hid (HK12.out.chg C13 (by omega) (.inr (by omega)))
  have HD13 := Lib.hid (heldCachedS_any w13 u4 ny HK13.out.cs (by omega))
  clear C13 B12 M212 HK12 M1212 HK13
  go_wp2_with fail
  refine HD13.out.mono ?_
  rintro e w' ⟨rfl, rfl⟩
  go_wp2_with fail
  go_ret
  exact ⟨rfl, HB0.out.trans (B13.out.mono HB0.out.size)⟩
end Go.Proofs.Ytklclcbhghjjfaa
