/- What the proofs stand on, part 46. -/
import Derived.Test.YtachiggolgdocaaRows
import Derived.Test.YtachiggolgdocaaM1
import Derived.Test.YtachiggolgdocaaM2
import Derived.Test.YtachiggolgdocaaM3
import Derived.Test.YtachiggolgdocaaM4
import Derived.Test.YtachiggolgdocaaM5
import Derived.Test.YtachiggolgdocaaM6
import Derived.Test.YtachiggolgdocaaM7
import Derived.Test.YtachiggolgdocaaM8
import Derived.Test.YtachiggolgdocaaM9
import Derived.Test.YtachiggolgdocaaM10
import Derived.Test.YtachiggolgdocaaM11
import Derived.Test.YtachiggolgdocaaM12
import Derived.Test.YtachiggolgdocaaM13
import Derived.Test.YtachiggolgdocaaM14
import Derived.Test.YtachiggolgdocaaM15
import Derived.Test.YtachiggolgdocaaM16
import Derived.Test.YtachiggolgdocaaM17
import Derived.Test.YtachiggolgdocaaM20
import Derived.Test.YtachiggolgdocaaM28
import Derived.Test.YtachiggolgdocaaM34
set_option linter.unusedSimpArgs false
set_option linter.unusedVariables false
namespace Go.Proofs.Ytachiggolgdocaa
open Go.ChangeShapes Go.WideShapes Go.ChangeAt Go.RowKit
set_option linter.unusedVariables false
theorem msel_self (x : IV) : msel x.k x.g x = true := by unfold msel; simp
theorem msend_yes {ys : List IV} {x : IV} (h : msendB ys x = true) : msend ys x = ys ++ [x] ∧ ∃ zs, mws (msend ys x) x.k x.g = zs ++ [x.r] := by
  unfold msendB at h
  rw [Bool.and_eq_true, decide_eq_true_eq] at h
  have hf := h.1
  have e : msend ys x = ys ++ [x] := by unfold msend; rw [if_pos hf, if_pos h.2]
  refine ⟨e, mws0 ys x.k x.g, ?_⟩
  unfold mfit at hf
  rw [Bool.and_eq_true] at hf
  have hok : msok (ys ++ [x]) = true := by
    rw [msok_iff] at *
    refine ⟨fun z hz => ?_, by rw [List.length_append, List.length_singleton]; omega⟩
    rw [List.mem_append, List.mem_singleton] at hz
    rcases hz with hz | rfl
    · exact hf.1.1 z hz
    · exact hf.2
  rw [e, mws, if_pos hok, mws0_app, mws0_one, if_pos (msel_self x)]
end Go.Proofs.Ytachiggolgdocaa
namespace Go.Proofs.Ytachiggolgdocaa
open Go.ChangeShapes Go.WideShapes Go.ChangeAt Go.RowKit
set_option linter.unusedVariables false
set_option maxRecDepth 100000 in
set_option maxHeartbeats 2000000 in
theorem mailSend_walk  (W : World) (a : Option Addr) (len cap : Nat) (zs : List Int) (hr : Row .u8 W a len cap zs) :
    Calls Try.prog 3 #[.slice a len cap] W fun e w' => e = .returned (.bool true) ∧ Below W.heap.size W w' := by
  have hm := row_len hr
  by_cases hL : 1048576 < len
  · have hL1 : (1048576 : Int) < (len : Int) := by omega
    clear hr
    go_enter Try.func3, Try.ntmps3
    go_wp2_with fail
    go_ret
    exact ⟨rfl, Below.refl _ _⟩
  have hL1 : decide ((1048576 : Int) < (len : Int)) = false := by simp; omega
  have hL2 : decide (1048576 < len) = false := by simp; omega
  go_enter Try.func3, Try.ntmps3
  go_wp2_with fail
  refine (drawMailSend_any W a len cap zs hr).mono ?_
  clear hr
  rintro e w1 ⟨v, ys, x, rfl, hd⟩
  have B1 := Lib.hid hd.bel
  have R1 := Lib.hid hd.is
  have N1 := Lib.hid hd.nil
  have hl9 := hd.len
  obtain ⟨g0, c2, hv⟩ := hd.form
  clear hd
  subst hv
  obtain ⟨X, hX⟩ : ∃ X, X = w1.heap.size := ⟨_, rfl⟩
  obtain ⟨w1a, hw1a⟩ : ∃ w1a, w1a = w1.alloc (.cells #[.int .i64 x.k, .int .i64 x.g, .int .i64 x.r] 25) := ⟨_, rfl⟩
  have hb1a : Below w1.heap.size w1 w1a := by rw [hw1a]; exact (Below.refl _ _).alloc (Nat.le_refl _) _
  have T1 : Hid (Tri w1a X 0 x) := Lib.hid (by rw [hX, hw1a]; exact tri_new w1 x _)
  have B1a := Lib.hid (B1.out.trans (hb1a.mono B1.out.size))
  have R1a := Lib.hid (R1.out.below hb1a)
  have HW1 := Lib.hid hw1a
  have HX := Lib.hid hX
  clear hw1a hb1a hX
  have HC := Lib.hid (ims_any w1a _ ys x R1a.out)
  have HS := Lib.hid (fun w h => sMailSend_any w (.slice (some ⟨g0, 0, none⟩) ys.length c2) ys x h N1.out)
  have HYES : Hid (msendB ys x = true → msend ys x = ys ++ [x] ∧ ∃ zs, mws (msend ys x) x.k x.g = zs ++ [x.r]) := Lib.hid (fun h => msend_yes h)
  generalize msend ys x = us at HC HS HYES
  generalize msendB ys x = b at HC HS HYES
  obtain ⟨n, hn⟩ : ∃ n, n = ys.length := ⟨_, rfl⟩
  rw [← hn] at HC HS R1 R1a N1 hl9 ⊢
  have HN := Lib.hid hn
  clear hn
  have hbb := neB b
  go_wp2_with fail
  rw [← HW1.out, ← HX.out]
  refine HC.out.mono ?_
  rintro e w2 ⟨p2, rfl, hr2, hb2⟩
  have B2 := Lib.hid (B1a.out.trans (hb2.mono B1a.out.size))
  have R2 := Lib.hid (R1a.out.below hb2)
  have U2 := Lib.hid hr2.is
  have T2 := Lib.hid (T1.out.below hb2 T1.out.lt)
  clear hb2 hr2 HC R1 B1 R1a B1a
  obtain ⟨c0, c1, c2'⟩ := T2.out
  simp only [Nat.zero_add] at c0 c1 c2'
  go_wp2_with fail
  clear c0 c1 c2'
  refine (HS.out w2 R2.out).mono ?_
  rintro e w3 ⟨p3, rfl, hr3, hb3⟩
  have B3 := Lib.hid (B2.out.trans (hb3.mono B2.out.size))
  have R3 := Lib.hid (R2.out.below hb3)
  have U23 := Lib.hid (U2.out.below hb3)
  have U3 := Lib.hid hr3.is
  have T3 := Lib.hid (T2.out.below hb3 T2.out.lt)
  clear hb3 hr3 HS R2 B2 U2 T2 T1
  go_wp2_with fail
  refine (sameI w3 p2 p3 us U23.out U3.out).mono ?_
  rintro e w4 ⟨rfl, hb4⟩
  have B4 := Lib.hid (B3.out.trans (hb4.mono B3.out.size))
  have R4 := Lib.hid (R3.out.below hb4)
  have U24 := Lib.hid (U23.out.below hb4)
  have U34 := Lib.hid (U3.out.below hb4)
  have T4 := Lib.hid (T3.out.below hb4 T3.out.lt)
  clear hb4 B3 U23 U3 R3 T3
  cases b with
  | false =>
    go_wp2_with fail
    refine (sameI w4 p2 p3 us U24.out U34.out).mono ?_
    rintro e w5 ⟨rfl, hb5⟩
    have B5 := Lib.hid (B4.out.trans (hb5.mono B4.out.size))
    clear hb5
    go_wp2_with fail
    go_ret
    exact ⟨rfl, B5.out⟩
  | true =>
    obtain ⟨hy1, zs1, hy2⟩ := HYES.out rfl
    have HU := Lib.hid hy1
    have HZ := Lib.hid hy2
    clear hy1 hy2 HYES U34
    obtain ⟨c0, c1, c2'⟩ := T4.out
    simp only [Nat.zero_add] at c0 c1 c2'
    go_wp2_with fail
    clear c0 c1 c2'
    refine (imw_any w4 p2 us x.k x.g U24.out).mono ?_
    rintro e w5 ⟨p5, rfl, hr5, hb5⟩
    have B5 := Lib.hid (B4.out.trans (hb5.mono B4.out.size))
    have R5 := Lib.hid (R4.out.below hb5)
    have U5 := Lib.hid (U24.out.below hb5)
    have T5 := Lib.hid (T4.out.below hb5 T4.out.lt)
    rw [HZ.out] at hr5
    clear hb5 R4 U24 T4 B4
    obtain ⟨m, hm⟩ : ∃ m, m = zs1.length := ⟨_, rfl⟩
    obtain ⟨a5, c5, rfl, h51, h52, h53⟩ := hr5
    rw [List.length_append, List.length_singleton, ← hm] at h51 h53 ⊢
    obtain ⟨g5, o5, rfl, _, _, hc5, _⟩ := h53 m (by omega)
    have HC5 : Hid (w5.cell? ⟨g5, o5 + m, none⟩ = some (.int .i64 x.r)) := Lib.hid (by rw [hc5, hm]; simp [List.getD_eq_getElem?_getD])
    clear h53 hc5 hm
    unfold maxLen at h52
    obtain ⟨a2, c2'', rfl, h21, h22, h23⟩ := U5.out
    obtain ⟨b2, o2, rfl, _⟩ := h23 0 (by rw [HU.out, List.length_append, List.length_singleton]; omega)
    have hul : us.length = n + 1 := by rw [HU.out, List.length_append, List.length_singleton, HN.out]
    have HU5 := Lib.hid (show Is w5 (.slice (some ⟨b2, o2, none⟩) us.length c2'') us from U5.out)
    have HTK : Hid (Is w5 (.slice (some ⟨b2, o2, none⟩) n c2'') ys) := Lib.hid (by
      have := HU5.out.take (k := n) (by omega)
      have e : us.take n = ys := by rw [HU.out, HN.out, List.take_left]
      rwa [e] at this)
    rw [hul] at h21 HU5 ⊢
    unfold maxLen at h22
    have HL5 : Hid (g5 < w5.heap.size) := Lib.hid (block_lt_of_cell HC5.out)
    clear h23 hul U5
    have hm0 : (0 : Int) < (m : Int) + 1 := by omega
    have hn1 : (n : Int) ≤ (c2'' : Int) := by omega
    go_wp2_with fail
    refine wp_region_held_drew (S := fun w' => w'.cell? ⟨g5, o5 + m, none⟩ = some (.int .i64 x.r) ∧ Tri w' X 0 x) (by kernel_rfl) ⟨HC5.out, T5.out.drewN 1⟩ (fun hHeld => ?_)
    refine wpAnyH_take (i := 0) (oi := { dst := some 57, op := .move (.tmp 9), type := _, pos := _, after := _, guard := none }) (v := .slice (some ⟨g5, o5, none⟩) (m + 1) c5) rfl (by kernel_rfl) (by kernel_rfl) (by kernel_rfl) (fun _ _ _ h => h) (Or.inl ⟨by rfl, fun wh hSw => ?_⟩) hHeld ?_
    · (obtain ⟨d, d0, d1, d2⟩ := hSw; simp only [Nat.zero_add] at d0 d1 d2; go_simp)
    try simp only [Act.put, List.setIfInBounds_toArray, List.set_cons_zero, List.set_cons_succ]
    refine wpAnyH_take (i := 1) (oi := { dst := some 58, op := .call { callee := .builtin .len, args := #[.tmp 57], argTypes := #[31] }, type := _, pos := _, after := _, guard := none }) (v := .int .i64 ((m : Int) + 1)) rfl (by kernel_rfl) (by kernel_rfl) (by kernel_rfl) (fun _ _ _ h => h) (Or.inl ⟨by rfl, fun wh hSw => ?_⟩) hHeld ?_
    · (obtain ⟨d, d0, d1, d2⟩ := hSw; simp only [Nat.zero_add] at d0 d1 d2; go_simp)
    try simp only [Act.put, List.setIfInBounds_toArray, List.set_cons_zero, List.set_cons_succ]
    refine wpAnyH_take (i := 2) (oi := { dst := some 59, op := .binOp .gtr 3 (.tmp 58) (.const (.int .i64 0)) 3, type := _, pos := _, after := _, guard := none }) (v := .bool true) rfl (by kernel_rfl) (by kernel_rfl) (by kernel_rfl) (fun _ _ _ h => h) (Or.inl ⟨by rfl, fun wh hSw => ?_⟩) hHeld ?_
    · (obtain ⟨d, d0, d1, d2⟩ := hSw; simp only [Nat.zero_add] at d0 d1 d2; go_simp)
    try simp only [Act.put, List.setIfInBounds_toArray, List.set_cons_zero, List.set_cons_succ]
    refine wpAnyH_take (i := 3) (oi := { dst := some 60, op := .move (.tmp 59), type := _, pos := _, after := _, guard := none }) (v := .bool true) rfl (by kernel_rfl) (by kernel_rfl) (by kernel_rfl) (fun _ _ _ h => h) (Or.inl ⟨by rfl, fun wh hSw => ?_⟩) hHeld ?_
    · (obtain ⟨d, d0, d1, d2⟩ := hSw; simp only [Nat.zero_add] at d0 d1 d2; go_simp)
    try simp only [Act.put, List.setIfInBounds_toArray, List.set_cons_zero, List.set_cons_succ]
    refine wpAnyH_take (i := 4) (oi := { dst := some 61, op := .move (.tmp 9), type := _, pos := _, after := _, guard := some (3, true) }) (v := .slice (some ⟨g5, o5, none⟩) (m + 1) c5) rfl (by kernel_rfl) (by kernel_rfl) (by kernel_rfl) (fun _ _ _ h => h) (Or.inl ⟨by rfl, fun wh hSw => ?_⟩) hHeld ?_
    · (obtain ⟨d, d0, d1, d2⟩ := hSw; simp only [Nat.zero_add] at d0 d1 d2; go_simp)
    try simp only [Act.put, List.setIfInBounds_toArray, List.set_cons_zero, List.set_cons_succ]
    refine wpAnyH_take (i := 5) (oi := { dst := some 62, op := .move (.tmp 9), type := _, pos := _, after := _, guard := some (3, true) }) (v := .slice (some ⟨g5, o5, none⟩) (m + 1) c5) rfl (by kernel_rfl) (by kernel_rfl) (by kernel_rfl) (fun _ _ _ h => h) (Or.inl ⟨by rfl, fun wh hSw => ?_⟩) hHeld ?_
    · (obtain ⟨d, d0, d1, d2⟩ := hSw; simp only [Nat.zero_add] at d0 d1 d2; go_simp)
    try simp only [Act.put, List.setIfInBounds_toArray, List.set_cons_zero, List.set_cons_succ]
    refine wpAnyH_take (i := 6) (oi := { dst := some 63, op := .call { callee := .builtin .len, args := #[.tmp 62], argTypes := #[31] }, type := _, pos := _, after := _, guard := some (3, true) }) (v := .int .i64 ((m : Int) + 1)) rfl (by kernel_rfl) (by kernel_rfl) (by kernel_rfl) (fun _ _ _ h => h) (Or.inl ⟨by rfl, fun wh hSw => ?_⟩) hHeld ?_
    · (obtain ⟨d, d0, d1, d2⟩ := hSw; simp only [Nat.zero_add] at d0 d1 d2; go_simp)
    try simp only [Act.put, List.setIfInBounds_toArray, List.set_cons_zero, List.set_cons_succ]
    refine wpAnyH_take (i := 7) (oi := { dst := some 64, op := .binOp .sub 3 (.tmp 63) (.const (.int .i64 1)) 3, type := _, pos := _, after := _, guard := some (3, true) }) (v := .int .i64 (m : Int)) rfl (by kernel_rfl) (by kernel_rfl) (by kernel_rfl) (fun _ _ _ h => h) (Or.inl ⟨by rfl, fun wh hSw => ?_⟩) hHeld ?_
    · (go_simp; rw [IntKind.wrap_i64]; omega)
    try simp only [Act.put, List.setIfInBounds_toArray, List.set_cons_zero, List.set_cons_succ]
    refine wpAnyH_take (i := 8) (oi := { dst := some 65, op := .indexAddr 31 (.tmp 61) (.tmp 64), type := _, pos := _, after := _, guard := some (3, true) }) (v := .pointer (some ⟨g5, o5 + m, none⟩)) rfl (by kernel_rfl) (by kernel_rfl) (by kernel_rfl) (fun _ _ _ h => h) (Or.inl ⟨by rfl, fun wh hSw => ?_⟩) hHeld ?_
    · (go_simp; try (intro hh; omega))
    try simp only [Act.put, List.setIfInBounds_toArray, List.set_cons_zero, List.set_cons_succ]
    refine wpAnyH_take (i := 9) (oi := { dst := some 66, op := .load 3 (.tmp 65), type := _, pos := _, after := _, guard := some (3, true) }) (v := .int .i64 x.r) rfl (by kernel_rfl) (by kernel_rfl) (by kernel_rfl) (fun _ _ _ h => h) (Or.inl ⟨by rfl, fun wh hSw => ?_⟩) hHeld ?_
    · (obtain ⟨d, d0, d1, d2⟩ := hSw; simp only [Nat.zero_add] at d0 d1 d2; go_simp)
    try simp only [Act.put, List.setIfInBounds_toArray, List.set_cons_zero, List.set_cons_succ]
    refine wpAnyH_take (i := 10) (oi := { dst := some 67, op := .fieldAddr 25 (.tmp 4) 2, type := _, pos := _, after := _, guard := some (3, true) }) (v := .pointer (some ⟨X, 2, none⟩)) rfl (by kernel_rfl) (by kernel_rfl) (by kernel_rfl) (fun _ _ _ h => h) (Or.inl ⟨by rfl, fun wh hSw => ?_⟩) hHeld ?_
    · (obtain ⟨d, d0, d1, d2⟩ := hSw; simp only [Nat.zero_add] at d0 d1 d2; go_simp)
    try simp only [Act.put, List.setIfInBounds_toArray, List.set_cons_zero, List.set_cons_succ]
    refine wpAnyH_take (i := 11) (oi := { dst := some 68, op := .load 3 (.tmp 67), type := _, pos := _, after := _, guard := some (3, true) }) (v := .int .i64 x.r) rfl (by kernel_rfl) (by kernel_rfl) (by kernel_rfl) (fun _ _ _ h => h) (Or.inl ⟨by rfl, fun wh hSw => ?_⟩) hHeld ?_
    · (obtain ⟨d, d0, d1, d2⟩ := hSw; simp only [Nat.zero_add] at d0 d1 d2; go_simp)
    try simp only [Act.put, List.setIfInBounds_toArray, List.set_cons_zero, List.set_cons_succ]
    refine wpAnyH_take (i := 12) (oi := { dst := some 69, op := .binOp .eql 3 (.tmp 66) (.tmp 68) 3, type := _, pos := _, after := _, guard := some (3, true) }) (v := .bool true) rfl (by kernel_rfl) (by kernel_rfl) (by kernel_rfl) (fun _ _ _ h => h) (Or.inl ⟨by rfl, fun wh hSw => ?_⟩) hHeld ?_
    · (obtain ⟨d, d0, d1, d2⟩ := hSw; simp only [Nat.zero_add] at d0 d1 d2; go_simp)
    try simp only [Act.put, List.setIfInBounds_toArray, List.set_cons_zero, List.set_cons_succ]
    refine wpAnyH_take (i := 13) (oi := { dst := some 70, op := .pick (.tmp 60) (.tmp 69) (.const (.bool false)), type := _, pos := _, after := _, guard := none }) (v := .bool true) rfl (by kernel_rfl) (by kernel_rfl) (by kernel_rfl) (fun _ _ _ h => h) (Or.inl ⟨by rfl, fun wh hSw => ?_⟩) hHeld ?_
    · (obtain ⟨d, d0, d1, d2⟩ := hSw; simp only [Nat.zero_add] at d0 d1 d2; go_simp)
    try simp only [Act.put, List.setIfInBounds_toArray, List.set_cons_zero, List.set_cons_succ]
    refine wpAnyH_take (i := 14) (oi := { dst := some 71, op := .move (.tmp 70), type := _, pos := _, after := _, guard := none }) (v := .bool true) rfl (by kernel_rfl) (by kernel_rfl) (by kernel_rfl) (fun _ _ _ h => h) (Or.inl ⟨by rfl, fun wh hSw => ?_⟩) hHeld ?_
    · (obtain ⟨d, d0, d1, d2⟩ := hSw; simp only [Nat.zero_add] at d0 d1 d2; go_simp)
    try simp only [Act.put, List.setIfInBounds_toArray, List.set_cons_zero, List.set_cons_succ]
    refine wpAnyH_take (i := 15) (oi := { dst := some 72, op := .move (.tmp 5), type := _, pos := _, after := _, guard := some (14, true) }) (v := .slice (some ⟨b2, o2, none⟩) (n + 1) c2'') rfl (by kernel_rfl) (by kernel_rfl) (by kernel_rfl) (fun _ _ _ h => h) (Or.inl ⟨by rfl, fun wh hSw => ?_⟩) hHeld ?_
    · (obtain ⟨d, d0, d1, d2⟩ := hSw; simp only [Nat.zero_add] at d0 d1 d2; go_simp)
    try simp only [Act.put, List.setIfInBounds_toArray, List.set_cons_zero, List.set_cons_succ]
    refine wpAnyH_take (i := 16) (oi := { dst := some 73, op := .call { callee := .builtin .len, args := #[.tmp 72], argTypes := #[23] }, type := _, pos := _, after := _, guard := some (14, true) }) (v := .int .i64 ((n : Int) + 1)) rfl (by kernel_rfl) (by kernel_rfl) (by kernel_rfl) (fun _ _ _ h => h) (Or.inl ⟨by rfl, fun wh hSw => ?_⟩) hHeld ?_
    · (obtain ⟨d, d0, d1, d2⟩ := hSw; simp only [Nat.zero_add] at d0 d1 d2; go_simp)
    try simp only [Act.put, List.setIfInBounds_toArray, List.set_cons_zero, List.set_cons_succ]
    refine wpAnyH_take (i := 17) (oi := { dst := some 74, op := .move (.tmp 3), type := _, pos := _, after := _, guard := some (14, true) }) (v := .slice (some ⟨g0, 0, none⟩) n c2) rfl (by kernel_rfl) (by kernel_rfl) (by kernel_rfl) (fun _ _ _ h => h) (Or.inl ⟨by rfl, fun wh hSw => ?_⟩) hHeld ?_
    · (obtain ⟨d, d0, d1, d2⟩ := hSw; simp only [Nat.zero_add] at d0 d1 d2; go_simp)
    try simp only [Act.put, List.setIfInBounds_toArray, List.set_cons_zero, List.set_cons_succ]
    refine wpAnyH_take (i := 18) (oi := { dst := some 75, op := .call { callee := .builtin .len, args := #[.tmp 74], argTypes := #[23] }, type := _, pos := _, after := _, guard := some (14, true) }) (v := .int .i64 (n : Int)) rfl (by kernel_rfl) (by kernel_rfl) (by kernel_rfl) (fun _ _ _ h => h) (Or.inl ⟨by rfl, fun wh hSw => ?_⟩) hHeld ?_
    · (obtain ⟨d, d0, d1, d2⟩ := hSw; simp only [Nat.zero_add] at d0 d1 d2; go_simp)
    try simp only [Act.put, List.setIfInBounds_toArray, List.set_cons_zero, List.set_cons_succ]
    refine wpAnyH_take (i := 19) (oi := { dst := some 76, op := .binOp .add 3 (.tmp 75) (.const (.int .i64 1)) 3, type := _, pos := _, after := _, guard := some (14, true) }) (v := .int .i64 ((n : Int) + 1)) rfl (by kernel_rfl) (by kernel_rfl) (by kernel_rfl) (fun _ _ _ h => h) (Or.inl ⟨by rfl, fun wh hSw => ?_⟩) hHeld ?_
    · (go_simp; rw [IntKind.wrap_i64]; omega)
    try simp only [Act.put, List.setIfInBounds_toArray, List.set_cons_zero, List.set_cons_succ]
    refine wpAnyH_take (i := 20) (oi := { dst := some 77, op := .binOp .eql 3 (.tmp 73) (.tmp 76) 3, type := _, pos := _, after := _, guard := some (14, true) }) (v := .bool true) rfl (by kernel_rfl) (by kernel_rfl) (by kernel_rfl) (fun _ _ _ h => h) (Or.inl ⟨by rfl, fun wh hSw => ?_⟩) hHeld ?_
    · (obtain ⟨d, d0, d1, d2⟩ := hSw; simp only [Nat.zero_add] at d0 d1 d2; go_simp)
    try simp only [Act.put, List.setIfInBounds_toArray, List.set_cons_zero, List.set_cons_succ]
    refine wpAnyH_take (i := 21) (oi := { dst := some 78, op := .pick (.tmp 71) (.tmp 77) (.const (.bool false)), type := _, pos := _, after := _, guard := none }) (v := .bool true) rfl (by kernel_rfl) (by kernel_rfl) (by kernel_rfl) (fun _ _ _ h => h) (Or.inl ⟨by rfl, fun wh hSw => ?_⟩) hHeld ?_
    · (obtain ⟨d, d0, d1, d2⟩ := hSw; simp only [Nat.zero_add] at d0 d1 d2; go_simp)
    try simp only [Act.put, List.setIfInBounds_toArray, List.set_cons_zero, List.set_cons_succ]
    refine wpAnyH_take (i := 22) (oi := { dst := some 79, op := .move (.tmp 78), type := _, pos := _, after := _, guard := none }) (v := .bool true) rfl (by kernel_rfl) (by kernel_rfl) (by kernel_rfl) (fun _ _ _ h => h) (Or.inl ⟨by rfl, fun wh hSw => ?_⟩) hHeld ?_
    · (obtain ⟨d, d0, d1, d2⟩ := hSw; simp only [Nat.zero_add] at d0 d1 d2; go_simp)
    try simp only [Act.put, List.setIfInBounds_toArray, List.set_cons_zero, List.set_cons_succ]
    refine wpAnyH_take (i := 23) (oi := { dst := some 80, op := .move (.tmp 5), type := _, pos := _, after := _, guard := some (22, true) }) (v := .slice (some ⟨b2, o2, none⟩) (n + 1) c2'') rfl (by kernel_rfl) (by kernel_rfl) (by kernel_rfl) (fun _ _ _ h => h) (Or.inl ⟨by rfl, fun wh hSw => ?_⟩) hHeld ?_
    · (obtain ⟨d, d0, d1, d2⟩ := hSw; simp only [Nat.zero_add] at d0 d1 d2; go_simp)
    try simp only [Act.put, List.setIfInBounds_toArray, List.set_cons_zero, List.set_cons_succ]
    refine wpAnyH_take (i := 24) (oi := { dst := some 81, op := .move (.tmp 3), type := _, pos := _, after := _, guard := some (22, true) }) (v := .slice (some ⟨g0, 0, none⟩) n c2) rfl (by kernel_rfl) (by kernel_rfl) (by kernel_rfl) (fun _ _ _ h => h) (Or.inl ⟨by rfl, fun wh hSw => ?_⟩) hHeld ?_
    · (obtain ⟨d, d0, d1, d2⟩ := hSw; simp only [Nat.zero_add] at d0 d1 d2; go_simp)
    try simp only [Act.put, List.setIfInBounds_toArray, List.set_cons_zero, List.set_cons_succ]
    refine wpAnyH_take (i := 25) (oi := { dst := some 82, op := .call { callee := .builtin .len, args := #[.tmp 81], argTypes := #[23] }, type := _, pos := _, after := _, guard := some (22, true) }) (v := .int .i64 (n : Int)) rfl (by kernel_rfl) (by kernel_rfl) (by kernel_rfl) (fun _ _ _ h => h) (Or.inl ⟨by rfl, fun wh hSw => ?_⟩) hHeld ?_
    · (obtain ⟨d, d0, d1, d2⟩ := hSw; simp only [Nat.zero_add] at d0 d1 d2; go_simp)
    try simp only [Act.put, List.setIfInBounds_toArray, List.set_cons_zero, List.set_cons_succ]
    refine wpAnyH_take (i := 26) (oi := { dst := some 83, op := .slice 23 (.tmp 80) none (some (.tmp 82)) none, type := _, pos := _, after := _, guard := some (22, true) }) (v := .slice (some ⟨b2, o2, none⟩) n c2'') rfl (by kernel_rfl) (by kernel_rfl) (by kernel_rfl) (fun _ _ _ h => h) (Or.inl ⟨by rfl, fun wh hSw => ?_⟩) hHeld ?_
    · (go_simp; try (intro hh; omega))
    try simp only [Act.put, List.setIfInBounds_toArray, List.set_cons_zero, List.set_cons_succ]
    refine wpAnyH_take (i := 27) (oi := { dst := some 84, op := .move (.tmp 3), type := _, pos := _, after := _, guard := some (22, true) }) (v := .slice (some ⟨g0, 0, none⟩) n c2) rfl (by kernel_rfl) (by kernel_rfl) (by kernel_rfl) (fun _ _ _ h => h) (Or.inl ⟨by rfl, fun wh hSw => ?_⟩) hHeld ?_
    · (obtain ⟨d, d0, d1, d2⟩ := hSw; simp only [Nat.zero_add] at d0 d1 d2; go_simp)
    try simp only [Act.put, List.setIfInBounds_toArray, List.set_cons_zero, List.set_cons_succ]
    refine wpAnyH_ready (rs := [28]) (by kernel_rfl) (by simp) ?_
    refine AllReadyH.cons (o := { dst := some 85, op := .call { callee := .value (.func 18), args := #[.tmp 83, .tmp 84], argTypes := #[23, 23] }, type := _, pos := _, after := _, guard := some (22, true) }) rfl (fun K hK => ?_) AllReadyH.nil
    go_simp
    have HBD : Hid (Below w5.heap.size w5 w5.drew) := Lib.hid (Below.refl _ _).drew
    refine (sameI _ _ _ ys (HTK.out.below HBD.out) (R5.out.below HBD.out)).mono ?_
    rintro e w6 ⟨rfl, hb6⟩
    have B6 := Lib.hid ((B5.out.trans (HBD.out.mono B5.out.size)).trans (hb6.mono (Nat.le_trans B5.out.size HBD.out.size)))
    have HB56 := Lib.hid (HBD.out.trans (hb6.mono HBD.out.size))
    clear hb6
    refine hK.out _ _ ?_ (fun hHeld => ?_)
    · exact ⟨(World.cell?_of_block (HB56.out.block g5 HL5.out)).trans HC5.out, T5.out.below HB56.out T5.out.lt⟩
    clear hK K
    try simp only [Act.put, List.setIfInBounds_toArray, List.set_cons_zero, List.set_cons_succ]
    refine wpAnyH_take (i := 29) (oi := { dst := some 86, op := .pick (.tmp 79) (.tmp 85) (.const (.bool false)), type := _, pos := _, after := _, guard := none }) (v := .bool true) rfl (by kernel_rfl) (by kernel_rfl) (by kernel_rfl) (fun _ _ _ h => h) (Or.inl ⟨by rfl, fun wh hSw => ?_⟩) hHeld ?_
    · (obtain ⟨d, d0, d1, d2⟩ := hSw; simp only [Nat.zero_add] at d0 d1 d2; go_simp)
    try simp only [Act.put, List.setIfInBounds_toArray, List.set_cons_zero, List.set_cons_succ]
    refine wpAnyH_take (i := 30) (oi := { dst := some 2, op := .assign (.tmp 86), type := _, pos := _, after := _, guard := none }) (v := .bool true) rfl (by kernel_rfl) (by kernel_rfl) (by kernel_rfl) (fun _ _ _ h => h) (Or.inl ⟨by rfl, fun wh hSw => ?_⟩) hHeld ?_
    · (obtain ⟨d, d0, d1, d2⟩ := hSw; simp only [Nat.zero_add] at d0 d1 d2; go_simp)
    try simp only [Act.put, List.setIfInBounds_toArray, List.set_cons_zero, List.set_cons_succ]
    refine wpAnyH_done (by kernel_rfl) ?_ _
    go_wp2_with fail
    go_ret
    exact ⟨rfl, B6.out⟩
end Go.Proofs.Ytachiggolgdocaa
