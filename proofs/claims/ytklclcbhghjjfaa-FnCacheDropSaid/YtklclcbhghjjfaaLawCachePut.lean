/- The walk of the statement that a translation is remembered, out of contracts of the program. -/
import Derived.Test.YtklclcbhghjjfaaCDrawT
import Derived.Test.YtklclcbhghjjfaaCMath
import Derived.Test.YtklclcbhghjjfaaExCachePut
import Derived.Test.YtklclcbhghjjfaaCSame
import Derived.Deep.RegionHeld
namespace Go.Proofs.Ytklclcbhghjjfaa
open Go.ChangeShapes Go.WideShapes Go.ChangeAt Go.RowKit
set_option linter.unusedVariables false

theorem row_len {k : IntKind} {w : World} {a : Option Addr} {len cap : Nat} {zs : List Int} (hr : Row k w a len cap zs) : len ≤ 9223372036854775807 := by
  rcases hr with ⟨_, rfl, rfl, _⟩ | ⟨x, _, hl, hm, _⟩
  · omega
  · unfold maxLen at hm; omega
/-- the program's functions answer as these lists do -/
abbrev CPut : Prop := ∀ (w : World) (v : Value) (xs : List CV) (x : CV), Cs w v xs → Calls Try.prog 15 #[v, cvV x] w (PutCR (putF xs x) (putB xs x) w)
abbrev CFind : Prop := ∀ (w : World) (v : Value) (xs : List CV) (e p : Int), Cs w v xs → Calls Try.prog 18 #[v, .int .i64 e, .int .i64 p] w (FindRes w (cFind xs e p))
abbrev CVal : Prop := ∀ (w : World) (v : Value) (xs : List CV), Cs w v xs → Calls Try.prog 19 #[v] w (BoolRes w (cOk xs))
/-- a translation in a variable of its own, and the cache, at a later world -/
theorem four_alloc (w : World) (x : CV) (t : TypeId) : Four (w.alloc (.cells #[.int .i64 x.e, .int .i64 x.p, .int .i64 x.f, .bool x.b] t)) w.heap.size 0 x := ⟨new_cell rfl, new_cell rfl, new_cell rfl, new_cell rfl⟩
theorem Four.drew {w : World} {b o : Nat} {x : CV} (h : Four w b o x) : Four w.drew b o x := ⟨h.c0, h.c1, h.c2, h.c3⟩
theorem bdone {W w w' : World} {b : Bool} (hb : Below W.heap.size W w) (h : Below w.heap.size w w') : Below W.heap.size W w' := hb.trans (h.mono hb.size)
set_option maxRecDepth 100000 in
set_option maxHeartbeats 2000000 in
theorem cachePut_walk (hP : CPut) (hF : CFind) (hV : CVal) (W : World) (a : Option Addr) (len cap : Nat) (zs : List Int) (hr : Row .u8 W a len cap zs) :
    Calls Try.prog 3 #[.slice a len cap] W fun e w' => e = .returned (.bool true) ∧ Below W.heap.size W w' := by
  have HP := Lib.hid hP
  have HF := Lib.hid hF
  have HV := Lib.hid hV
  clear hP hF hV
  have hm := row_len hr
  by_cases hL : 1048576 < len
  · have hL1 : (1048576 : Int) < (len : Int) := by omega
    clear hr
    go_enter Try.func3, Try.ntmps3
    go_wp2_with fail
    go_ret
    exact ⟨rfl, Below.refl _ _⟩
  have hL1 : decide ((1048576 : Int) < (len : Int)) = false := by simp; omega
  have hL2 : decide (1048576 < len) = false := by simp; omega
  go_enter Try.func3, Try.ntmps3
  go_wp2_with fail
  refine (drawCachePut_any W a len cap zs hr).mono ?_
  clear hr
  rintro e w1 ⟨v, xs, x, hx, rfl, hD⟩
  have B1 := Lib.hid hD.bel
  have Z1 : W.heap.size ≤ w1.heap.size := hD.bel.size
  have R1 := Lib.hid hD.cs
  clear hD
  obtain ⟨xe, xp, xf, xb⟩ := x
  unfold cvV
  have HFX := Lib.hid (four_alloc w1 ⟨xe, xp, xf, xb⟩ 25)
  have RA := Lib.hid (R1.out.below ((Below.refl _ _).alloc (Nat.le_refl _) (.cells #[.int .i64 xe, .int .i64 xp, .int .i64 xf, .bool xb] 25)))
  have BA := Lib.hid (B1.out.alloc Z1 (.cells #[.int .i64 xe, .int .i64 xp, .int .i64 xf, .bool xb] 25))
  have ZA : w1.heap.size < (w1.alloc (.cells #[.int .i64 xe, .int .i64 xp, .int .i64 xf, .bool xb] 25)).heap.size := by simp
  go_wp2_with fail
  obtain ⟨X, hX⟩ : ∃ X, w1.heap.size = X := ⟨_, rfl⟩
  obtain ⟨wA, hA⟩ : ∃ wA, w1.alloc (.cells #[.int .i64 xe, .int .i64 xp, .int .i64 xf, .bool xb] 25) = wA := ⟨_, rfl⟩
  simp only [hX, hA] at HFX RA BA ZA ⊢
  clear hA B1 R1
  have HC := Lib.hid (HP.out wA v xs ⟨xe, xp, xf, xb⟩ RA.out)
  have HSQ := Lib.hid (fun h : putB xs ⟨xe, xp, xf, xb⟩ = true => And.intro (put_find h) (And.intro (put_last h) (put_ok h)))
  obtain ⟨b, hb⟩ : ∃ b, b = putB xs ⟨xe, xp, xf, xb⟩ := ⟨_, rfl⟩
  obtain ⟨ys, hys⟩ : ∃ ys, ys = putF xs ⟨xe, xp, xf, xb⟩ := ⟨_, rfl⟩
  have HS := Lib.hid (fun w => fun h : Cs w v xs => cPut_any w v xs ⟨xe, xp, xf, xb⟩ h)
  rw [← hb, ← hys] at HC HS HSQ
  clear hb hys
  refine HC.out.mono ?_
  rintro e w2 ⟨v2, rfl, h2, hb2⟩
  have R2 := Lib.hid (RA.out.below hb2)
  have B2 := Lib.hid (BA.out.trans (hb2.mono BA.out.size))
  have F2 := Lib.hid (HFX.out.below hb2 ZA)
  have O2 := Lib.hid h2.cs
  have Z2 := Nat.lt_of_lt_of_le ZA hb2.size
  clear h2 hb2 HC RA BA HFX
  obtain ⟨q0, q1, q2, q3⟩ := F2.out
  simp only [Nat.zero_add] at q0 q1 q2 q3
  go_wp2_with fail
  refine (HS.out w2 R2.out).mono ?_
  rintro e w3 ⟨v3, rfl, h3⟩
  have O3 := Lib.hid h3.cs
  have B3 := Lib.hid (B2.out.trans (h3.bel.mono B2.out.size))
  have F3 := Lib.hid (F2.out.below h3.bel Z2)
  have P3 := Lib.hid (O2.out.below h3.bel)
  have Z3 := Nat.lt_of_lt_of_le Z2 h3.bel.size
  clear h3 R2 B2 F2 O2 HS q0 q1 q2 q3
  have HSA := Lib.hid (fun w => fun h : Below w3.heap.size w3 w => sameCache_any w v2 v3 ys ys (P3.out.below h) (O3.out.below h))
  rw [decide_eq_true (rfl : ys = ys)] at HSA
  cases b
  · go_wp2_with fail
    refine (HSA.out w3 (Below.refl _ _)).mono ?_
    rintro e w4 ⟨rfl, hb4⟩
    have B4 := Lib.hid (B3.out.trans (hb4.mono B3.out.size))
    have HS4 := Lib.hid (HSA.out w4 hb4)
    clear hb4
    go_wp2_with fail
    refine HS4.out.mono ?_
    rintro e w5 ⟨rfl, hb5⟩
    have B5 := Lib.hid (B4.out.trans (hb5.mono B4.out.size))
    clear hb5 HS4
    go_wp2_with fail
    go_ret
    exact ⟨rfl, B5.out⟩
  · obtain ⟨HFI, ⟨HM, HN, HLA⟩, HOK⟩ := HSQ.out rfl
    go_wp2_with fail
    refine (HSA.out w3 (Below.refl _ _)).mono ?_
    rintro e w4 ⟨rfl, hb4⟩
    have B4 := Lib.hid (B3.out.trans (hb4.mono B3.out.size))
    have F4 := Lib.hid (F3.out.below hb4 Z3)
    have P4 := Lib.hid (P3.out.below hb4)
    have Z4 := Nat.lt_of_lt_of_le Z3 hb4.size
    clear hb4 B3 F3 P3 O3 HSA
    obtain ⟨q0, q1, q2, q3⟩ := F4.out
    simp only [Nat.zero_add] at q0 q1 q2 q3
    have HFC := Lib.hid (HF.out w4 v2 ys xe xp P4.out)
    rw [HFI] at HFC
    go_wp2_with fail
    refine HFC.out.mono ?_
    rintro e w5 ⟨rfl, hb5⟩
    unfold cvV
    dsimp only
    have BY := Lib.hid ((B4.out.trans (hb5.mono B4.out.size)).alloc (Nat.le_trans B4.out.size hb5.size) (.cells #[.int .i64 xe, .int .i64 xp, .int .i64 xf, .bool xb] 25))
    have FY := Lib.hid (four_alloc w5 ⟨xe, xp, xf, xb⟩ 25)
    have GX := Lib.hid ((F4.out.below hb5 Z4).below ((Below.refl w5.heap.size w5).alloc (Nat.le_refl _) (.cells #[.int .i64 xe, .int .i64 xp, .int .i64 xf, .bool xb] 25)) (Nat.lt_of_lt_of_le Z4 hb5.size))
    have PY := Lib.hid ((P4.out.below hb5).below ((Below.refl w5.heap.size w5).alloc (Nat.le_refl _) (.cells #[.int .i64 xe, .int .i64 xp, .int .i64 xf, .bool xb] 25)))
    have hY : w5.heap.size < (w5.alloc (.cells #[.int .i64 xe, .int .i64 xp, .int .i64 xf, .bool xb] 25)).heap.size := by simp
    have hXY := Nat.lt_of_lt_of_le Z4 hb5.size
    clear hb5 B4 F4 P4 q0 q1 q2 q3 HFC HFI HM
    go_wp2_with fail
    obtain ⟨wY, hwY⟩ : ∃ wY, w5.alloc (.cells #[.int .i64 xe, .int .i64 xp, .int .i64 xf, .bool xb] 25) = wY := ⟨_, rfl⟩
    obtain ⟨Y, hYY⟩ : ∃ Y, w5.heap.size = Y := ⟨_, rfl⟩
    simp only [hYY, hwY] at BY FY GX PY hY hXY ⊢
    clear hwY
    obtain ⟨oa, oc, rfl, hc1, hc2, hc3⟩ := PY.out
    obtain ⟨n, hn⟩ : ∃ n, ys.length = n + 1 := ⟨ys.length - 1, by omega⟩
    obtain ⟨g, p, rfl, hf⟩ := hc3 n (by omega)
    have hgl := block_lt_of_cell hf.c0
    have HLST : Hid (Four wY g (p + n * 4) ⟨xe, xp, xf, xb⟩) := Lib.hid (by
      have e : ys.getD n c0 = ⟨xe, xp, xf, xb⟩ := by rw [← HLA, hn]; rfl
      rw [← e]; exact hf)
    have HVV := Lib.hid (fun w => fun h : Below wY.heap.size wY w => HV.out w _ ys (PY.out.below h))
    rw [HOK] at HVV
    unfold maxLen at hc2
    have hn1 : ys.length ≤ oc := hc1
    rw [hn] at hc1 HVV ⊢
    clear hc3 hf HLA HOK PY HN hn1 hn
    refine wp_region_held_drew (S := fun w' => Four w' Y 0 ⟨xe, xp, xf, xb⟩ ∧ Four w' X 0 ⟨xe, xp, xf, xb⟩ ∧ Four w' g (p + n * 4) ⟨xe, xp, xf, xb⟩) (by kernel_rfl) ⟨FY.out.drew, GX.out.drew, HLST.out.drew⟩ (fun hHeld => ?_)
    refine wpAnyH_take (i := 0) (oi := { dst := some 61, op := .move (.tmp 10), type := _, pos := _, after := _, guard := none }) (v := .bool true) rfl (by kernel_rfl) (by kernel_rfl) (by kernel_rfl) (fun _ _ _ h => h) (Or.inl ⟨by rfl, fun wh hSw => ?_⟩) hHeld ?_
    · (obtain ⟨⟨s0, s1, s2, s3⟩, ⟨t0, t1, t2, t3⟩, u0, u1, u2, u3⟩ := hSw; simp only [Nat.zero_add] at s0 s1 s2 s3 t0 t1 t2 t3; go_simp)
    try simp only [Act.put, List.setIfInBounds_toArray, List.set_cons_zero, List.set_cons_succ]
    refine wpAnyH_take (i := 1) (oi := { dst := some 62, op := .move (.tmp 61), type := _, pos := _, after := _, guard := none }) (v := .bool true) rfl (by kernel_rfl) (by kernel_rfl) (by kernel_rfl) (fun _ _ _ h => h) (Or.inl ⟨by rfl, fun wh hSw => ?_⟩) hHeld ?_
    · (obtain ⟨⟨s0, s1, s2, s3⟩, ⟨t0, t1, t2, t3⟩, u0, u1, u2, u3⟩ := hSw; simp only [Nat.zero_add] at s0 s1 s2 s3 t0 t1 t2 t3; go_simp)
    try simp only [Act.put, List.setIfInBounds_toArray, List.set_cons_zero, List.set_cons_succ]
    refine wpAnyH_take (i := 2) (oi := { dst := some 63, op := .load 25 (.tmp 9), type := _, pos := _, after := _, guard := some (1, true) }) (v := .agg #[.int .i64 xe, .int .i64 xp, .int .i64 xf, .bool xb]) rfl (by kernel_rfl) (by kernel_rfl) (by kernel_rfl) (fun _ _ _ h => h) (Or.inl ⟨by rfl, fun wh hSw => ?_⟩) hHeld ?_
    · (obtain ⟨⟨s0, s1, s2, s3⟩, ⟨t0, t1, t2, t3⟩, u0, u1, u2, u3⟩ := hSw; simp only [Nat.zero_add] at s0 s1 s2 s3 t0 t1 t2 t3; go_simp)
    try simp only [Act.put, List.setIfInBounds_toArray, List.set_cons_zero, List.set_cons_succ]
    refine wpAnyH_take (i := 3) (oi := { dst := some 64, op := .load 25 (.tmp 4), type := _, pos := _, after := _, guard := some (1, true) }) (v := .agg #[.int .i64 xe, .int .i64 xp, .int .i64 xf, .bool xb]) rfl (by kernel_rfl) (by kernel_rfl) (by kernel_rfl) (fun _ _ _ h => h) (Or.inl ⟨by rfl, fun wh hSw => ?_⟩) hHeld ?_
    · (obtain ⟨⟨s0, s1, s2, s3⟩, ⟨t0, t1, t2, t3⟩, u0, u1, u2, u3⟩ := hSw; simp only [Nat.zero_add] at s0 s1 s2 s3 t0 t1 t2 t3; go_simp)
    try simp only [Act.put, List.setIfInBounds_toArray, List.set_cons_zero, List.set_cons_succ]
    refine wpAnyH_take (i := 4) (oi := { dst := some 65, op := .binOp .eql 25 (.tmp 63) (.tmp 64) 25, type := _, pos := _, after := _, guard := some (1, true) }) (v := .bool true) rfl (by kernel_rfl) (by kernel_rfl) (by kernel_rfl) (fun _ _ _ h => h) (Or.inl ⟨by rfl, fun wh hSw => ?_⟩) hHeld ?_
    · (obtain ⟨⟨s0, s1, s2, s3⟩, ⟨t0, t1, t2, t3⟩, u0, u1, u2, u3⟩ := hSw; simp only [Nat.zero_add] at s0 s1 s2 s3 t0 t1 t2 t3; go_simp)
    try simp only [Act.put, List.setIfInBounds_toArray, List.set_cons_zero, List.set_cons_succ]
    refine wpAnyH_take (i := 5) (oi := { dst := some 66, op := .pick (.tmp 62) (.tmp 65) (.const (.bool false)), type := _, pos := _, after := _, guard := none }) (v := .bool true) rfl (by kernel_rfl) (by kernel_rfl) (by kernel_rfl) (fun _ _ _ h => h) (Or.inl ⟨by rfl, fun wh hSw => ?_⟩) hHeld ?_
    · (obtain ⟨⟨s0, s1, s2, s3⟩, ⟨t0, t1, t2, t3⟩, u0, u1, u2, u3⟩ := hSw; simp only [Nat.zero_add] at s0 s1 s2 s3 t0 t1 t2 t3; go_simp)
    try simp only [Act.put, List.setIfInBounds_toArray, List.set_cons_zero, List.set_cons_succ]
    refine wpAnyH_take (i := 6) (oi := { dst := some 67, op := .move (.tmp 66), type := _, pos := _, after := _, guard := none }) (v := .bool true) rfl (by kernel_rfl) (by kernel_rfl) (by kernel_rfl) (fun _ _ _ h => h) (Or.inl ⟨by rfl, fun wh hSw => ?_⟩) hHeld ?_
    · (obtain ⟨⟨s0, s1, s2, s3⟩, ⟨t0, t1, t2, t3⟩, u0, u1, u2, u3⟩ := hSw; simp only [Nat.zero_add] at s0 s1 s2 s3 t0 t1 t2 t3; go_simp)
    try simp only [Act.put, List.setIfInBounds_toArray, List.set_cons_zero, List.set_cons_succ]
    refine wpAnyH_take (i := 7) (oi := { dst := some 68, op := .move (.tmp 5), type := _, pos := _, after := _, guard := some (6, true) }) (v := .slice (some ⟨g, p, none⟩) (n + 1) oc) rfl (by kernel_rfl) (by kernel_rfl) (by kernel_rfl) (fun _ _ _ h => h) (Or.inl ⟨by rfl, fun wh hSw => ?_⟩) hHeld ?_
    · (obtain ⟨⟨s0, s1, s2, s3⟩, ⟨t0, t1, t2, t3⟩, u0, u1, u2, u3⟩ := hSw; simp only [Nat.zero_add] at s0 s1 s2 s3 t0 t1 t2 t3; go_simp)
    try simp only [Act.put, List.setIfInBounds_toArray, List.set_cons_zero, List.set_cons_succ]
    refine wpAnyH_take (i := 8) (oi := { dst := some 69, op := .call { callee := .builtin .len, args := #[.tmp 68], argTypes := #[23] }, type := _, pos := _, after := _, guard := some (6, true) }) (v := .int .i64 ((n + 1 : Nat) : Int)) rfl (by kernel_rfl) (by kernel_rfl) (by kernel_rfl) (fun _ _ _ h => h) (Or.inl ⟨by rfl, fun wh hSw => ?_⟩) hHeld ?_
    · (obtain ⟨⟨s0, s1, s2, s3⟩, ⟨t0, t1, t2, t3⟩, u0, u1, u2, u3⟩ := hSw; simp only [Nat.zero_add] at s0 s1 s2 s3 t0 t1 t2 t3; go_simp)
    try simp only [Act.put, List.setIfInBounds_toArray, List.set_cons_zero, List.set_cons_succ]
    refine wpAnyH_take (i := 9) (oi := { dst := some 70, op := .binOp .gtr 3 (.tmp 69) (.const (.int .i64 0)) 3, type := _, pos := _, after := _, guard := some (6, true) }) (v := .bool true) rfl (by kernel_rfl) (by kernel_rfl) (by kernel_rfl) (fun _ _ _ h => h) (Or.inl ⟨by rfl, fun wh hSw => ?_⟩) hHeld ?_
    · (obtain ⟨⟨s0, s1, s2, s3⟩, ⟨t0, t1, t2, t3⟩, u0, u1, u2, u3⟩ := hSw; simp only [Nat.zero_add] at s0 s1 s2 s3 t0 t1 t2 t3; go_simp)
    try simp only [Act.put, List.setIfInBounds_toArray, List.set_cons_zero, List.set_cons_succ]
    refine wpAnyH_take (i := 10) (oi := { dst := some 71, op := .pick (.tmp 67) (.tmp 70) (.const (.bool false)), type := _, pos := _, after := _, guard := none }) (v := .bool true) rfl (by kernel_rfl) (by kernel_rfl) (by kernel_rfl) (fun _ _ _ h => h) (Or.inl ⟨by rfl, fun wh hSw => ?_⟩) hHeld ?_
    · (obtain ⟨⟨s0, s1, s2, s3⟩, ⟨t0, t1, t2, t3⟩, u0, u1, u2, u3⟩ := hSw; simp only [Nat.zero_add] at s0 s1 s2 s3 t0 t1 t2 t3; go_simp)
    try simp only [Act.put, List.setIfInBounds_toArray, List.set_cons_zero, List.set_cons_succ]
    refine wpAnyH_take (i := 11) (oi := { dst := some 72, op := .move (.tmp 71), type := _, pos := _, after := _, guard := none }) (v := .bool true) rfl (by kernel_rfl) (by kernel_rfl) (by kernel_rfl) (fun _ _ _ h => h) (Or.inl ⟨by rfl, fun wh hSw => ?_⟩) hHeld ?_
    · (obtain ⟨⟨s0, s1, s2, s3⟩, ⟨t0, t1, t2, t3⟩, u0, u1, u2, u3⟩ := hSw; simp only [Nat.zero_add] at s0 s1 s2 s3 t0 t1 t2 t3; go_simp)
    try simp only [Act.put, List.setIfInBounds_toArray, List.set_cons_zero, List.set_cons_succ]
    refine wpAnyH_take (i := 12) (oi := { dst := some 73, op := .move (.tmp 5), type := _, pos := _, after := _, guard := some (11, true) }) (v := .slice (some ⟨g, p, none⟩) (n + 1) oc) rfl (by kernel_rfl) (by kernel_rfl) (by kernel_rfl) (fun _ _ _ h => h) (Or.inl ⟨by rfl, fun wh hSw => ?_⟩) hHeld ?_
    · (obtain ⟨⟨s0, s1, s2, s3⟩, ⟨t0, t1, t2, t3⟩, u0, u1, u2, u3⟩ := hSw; simp only [Nat.zero_add] at s0 s1 s2 s3 t0 t1 t2 t3; go_simp)
    try simp only [Act.put, List.setIfInBounds_toArray, List.set_cons_zero, List.set_cons_succ]
    refine wpAnyH_take (i := 13) (oi := { dst := some 74, op := .move (.tmp 5), type := _, pos := _, after := _, guard := some (11, true) }) (v := .slice (some ⟨g, p, none⟩) (n + 1) oc) rfl (by kernel_rfl) (by kernel_rfl) (by kernel_rfl) (fun _ _ _ h => h) (Or.inl ⟨by rfl, fun wh hSw => ?_⟩) hHeld ?_
    · (obtain ⟨⟨s0, s1, s2, s3⟩, ⟨t0, t1, t2, t3⟩, u0, u1, u2, u3⟩ := hSw; simp only [Nat.zero_add] at s0 s1 s2 s3 t0 t1 t2 t3; go_simp)
    try simp only [Act.put, List.setIfInBounds_toArray, List.set_cons_zero, List.set_cons_succ]
    refine wpAnyH_take (i := 14) (oi := { dst := some 75, op := .call { callee := .builtin .len, args := #[.tmp 74], argTypes := #[23] }, type := _, pos := _, after := _, guard := some (11, true) }) (v := .int .i64 ((n + 1 : Nat) : Int)) rfl (by kernel_rfl) (by kernel_rfl) (by kernel_rfl) (fun _ _ _ h => h) (Or.inl ⟨by rfl, fun wh hSw => ?_⟩) hHeld ?_
    · (obtain ⟨⟨s0, s1, s2, s3⟩, ⟨t0, t1, t2, t3⟩, u0, u1, u2, u3⟩ := hSw; simp only [Nat.zero_add] at s0 s1 s2 s3 t0 t1 t2 t3; go_simp)
    try simp only [Act.put, List.setIfInBounds_toArray, List.set_cons_zero, List.set_cons_succ]
    refine wpAnyH_take (i := 15) (oi := { dst := some 76, op := .binOp .sub 3 (.tmp 75) (.const (.int .i64 1)) 3, type := _, pos := _, after := _, guard := some (11, true) }) (v := .int .i64 (n : Int)) rfl (by kernel_rfl) (by kernel_rfl) (by kernel_rfl) (fun _ _ _ h => h) (Or.inl ⟨by rfl, fun wh hSw => ?_⟩) hHeld ?_
    · (go_simp; rw [IntKind.wrap_i64]; omega)
    try simp only [Act.put, List.setIfInBounds_toArray, List.set_cons_zero, List.set_cons_succ]
    refine wpAnyH_take (i := 16) (oi := { dst := some 77, op := .indexAddr 23 (.tmp 73) (.tmp 76), type := _, pos := _, after := _, guard := some (11, true) }) (v := .pointer (some ⟨g, p + n * 4, none⟩)) rfl (by kernel_rfl) (by kernel_rfl) (by kernel_rfl) (fun _ _ _ h => h) (Or.inl ⟨by rfl, fun wh hSw => ?_⟩) hHeld ?_
    · (go_simp; intro hh; omega)
    try simp only [Act.put, List.setIfInBounds_toArray, List.set_cons_zero, List.set_cons_succ]
    refine wpAnyH_take (i := 17) (oi := { dst := some 78, op := .load 25 (.tmp 77), type := _, pos := _, after := _, guard := some (11, true) }) (v := .agg #[.int .i64 xe, .int .i64 xp, .int .i64 xf, .bool xb]) rfl (by kernel_rfl) (by kernel_rfl) (by kernel_rfl) (fun _ _ _ h => h) (Or.inl ⟨by rfl, fun wh hSw => ?_⟩) hHeld ?_
    · (obtain ⟨⟨s0, s1, s2, s3⟩, ⟨t0, t1, t2, t3⟩, u0, u1, u2, u3⟩ := hSw; simp only [Nat.zero_add] at s0 s1 s2 s3 t0 t1 t2 t3; go_simp)
    try simp only [Act.put, List.setIfInBounds_toArray, List.set_cons_zero, List.set_cons_succ]
    refine wpAnyH_take (i := 18) (oi := { dst := some 79, op := .load 25 (.tmp 4), type := _, pos := _, after := _, guard := some (11, true) }) (v := .agg #[.int .i64 xe, .int .i64 xp, .int .i64 xf, .bool xb]) rfl (by kernel_rfl) (by kernel_rfl) (by kernel_rfl) (fun _ _ _ h => h) (Or.inl ⟨by rfl, fun wh hSw => ?_⟩) hHeld ?_
    · (obtain ⟨⟨s0, s1, s2, s3⟩, ⟨t0, t1, t2, t3⟩, u0, u1, u2, u3⟩ := hSw; simp only [Nat.zero_add] at s0 s1 s2 s3 t0 t1 t2 t3; go_simp)
    try simp only [Act.put, List.setIfInBounds_toArray, List.set_cons_zero, List.set_cons_succ]
    refine wpAnyH_take (i := 19) (oi := { dst := some 80, op := .binOp .eql 25 (.tmp 78) (.tmp 79) 25, type := _, pos := _, after := _, guard := some (11, true) }) (v := .bool true) rfl (by kernel_rfl) (by kernel_rfl) (by kernel_rfl) (fun _ _ _ h => h) (Or.inl ⟨by rfl, fun wh hSw => ?_⟩) hHeld ?_
    · (obtain ⟨⟨s0, s1, s2, s3⟩, ⟨t0, t1, t2, t3⟩, u0, u1, u2, u3⟩ := hSw; simp only [Nat.zero_add] at s0 s1 s2 s3 t0 t1 t2 t3; go_simp)
    try simp only [Act.put, List.setIfInBounds_toArray, List.set_cons_zero, List.set_cons_succ]
    refine wpAnyH_take (i := 20) (oi := { dst := some 81, op := .pick (.tmp 72) (.tmp 80) (.const (.bool false)), type := _, pos := _, after := _, guard := none }) (v := .bool true) rfl (by kernel_rfl) (by kernel_rfl) (by kernel_rfl) (fun _ _ _ h => h) (Or.inl ⟨by rfl, fun wh hSw => ?_⟩) hHeld ?_
    · (obtain ⟨⟨s0, s1, s2, s3⟩, ⟨t0, t1, t2, t3⟩, u0, u1, u2, u3⟩ := hSw; simp only [Nat.zero_add] at s0 s1 s2 s3 t0 t1 t2 t3; go_simp)
    try simp only [Act.put, List.setIfInBounds_toArray, List.set_cons_zero, List.set_cons_succ]
    refine wpAnyH_take (i := 21) (oi := { dst := some 82, op := .move (.tmp 81), type := _, pos := _, after := _, guard := none }) (v := .bool true) rfl (by kernel_rfl) (by kernel_rfl) (by kernel_rfl) (fun _ _ _ h => h) (Or.inl ⟨by rfl, fun wh hSw => ?_⟩) hHeld ?_
    · (obtain ⟨⟨s0, s1, s2, s3⟩, ⟨t0, t1, t2, t3⟩, u0, u1, u2, u3⟩ := hSw; simp only [Nat.zero_add] at s0 s1 s2 s3 t0 t1 t2 t3; go_simp)
    try simp only [Act.put, List.setIfInBounds_toArray, List.set_cons_zero, List.set_cons_succ]
    refine wpAnyH_take (i := 22) (oi := { dst := some 83, op := .move (.tmp 5), type := _, pos := _, after := _, guard := some (21, true) }) (v := .slice (some ⟨g, p, none⟩) (n + 1) oc) rfl (by kernel_rfl) (by kernel_rfl) (by kernel_rfl) (fun _ _ _ h => h) (Or.inl ⟨by rfl, fun wh hSw => ?_⟩) hHeld ?_
    · (obtain ⟨⟨s0, s1, s2, s3⟩, ⟨t0, t1, t2, t3⟩, u0, u1, u2, u3⟩ := hSw; simp only [Nat.zero_add] at s0 s1 s2 s3 t0 t1 t2 t3; go_simp)
    try simp only [Act.put, List.setIfInBounds_toArray, List.set_cons_zero, List.set_cons_succ]
    refine wpAnyH_ready (rs := [23]) (by kernel_rfl) (by simp) ?_
    refine AllReadyH.cons (o := { dst := some 84, op := .call { callee := .value (.func 19), args := #[.tmp 83], argTypes := #[23] }, type := _, pos := _, after := _, guard := some (21, true) }) rfl (fun K hK => ?_) AllReadyH.nil
    go_simp
    refine (HVV.out wY.drew (Below.refl _ _).drew).mono ?_
    rintro e w6 ⟨rfl, hb6⟩
    have B6 := Lib.hid ((BY.out.drew).trans (hb6.mono BY.out.size))
    try go_simp
    refine hK.out _ _ ?_ (fun hHeld => ?_)
    · exact ⟨FY.out.below (((Below.refl wY.heap.size wY).drew).trans hb6) hY, GX.out.below (((Below.refl wY.heap.size wY).drew).trans hb6) (Nat.lt_trans hXY hY), HLST.out.below (((Below.refl wY.heap.size wY).drew).trans hb6) hgl⟩
    clear hK K
    try simp only [Act.put, List.setIfInBounds_toArray, List.set_cons_zero, List.set_cons_succ]
    refine wpAnyH_take (i := 24) (oi := { dst := some 85, op := .pick (.tmp 82) (.tmp 84) (.const (.bool false)), type := _, pos := _, after := _, guard := none }) (v := .bool true) rfl (by kernel_rfl) (by kernel_rfl) (by kernel_rfl) (fun _ _ _ h => h) (Or.inl ⟨by rfl, fun wh hSw => ?_⟩) hHeld ?_
    · (obtain ⟨⟨s0, s1, s2, s3⟩, ⟨t0, t1, t2, t3⟩, u0, u1, u2, u3⟩ := hSw; simp only [Nat.zero_add] at s0 s1 s2 s3 t0 t1 t2 t3; go_simp)
    try simp only [Act.put, List.setIfInBounds_toArray, List.set_cons_zero, List.set_cons_succ]
    refine wpAnyH_take (i := 25) (oi := { dst := some 2, op := .assign (.tmp 85), type := _, pos := _, after := _, guard := none }) (v := .bool true) rfl (by kernel_rfl) (by kernel_rfl) (by kernel_rfl) (fun _ _ _ h => h) (Or.inl ⟨by rfl, fun wh hSw => ?_⟩) hHeld ?_
    · (obtain ⟨⟨s0, s1, s2, s3⟩, ⟨t0, t1, t2, t3⟩, u0, u1, u2, u3⟩ := hSw; simp only [Nat.zero_add] at s0 s1 s2 s3 t0 t1 t2 t3; go_simp)
    try simp only [Act.put, List.setIfInBounds_toArray, List.set_cons_zero, List.set_cons_succ]
    refine wpAnyH_done (by kernel_rfl) ?_ _
    go_wp2_with fail
    go_ret
    exact ⟨rfl, B6.out⟩
end Go.Proofs.Ytklclcbhghjjfaa
