/- What the proofs stand on, part 47. -/
import Derived.Test.YtachiggolgdocaaRows
import Derived.Test.YtachiggolgdocaaM1
import Derived.Test.YtachiggolgdocaaM2
import Derived.Test.YtachiggolgdocaaM3
import Derived.Test.YtachiggolgdocaaM4
import Derived.Test.YtachiggolgdocaaM5
import Derived.Test.YtachiggolgdocaaM6
import Derived.Test.YtachiggolgdocaaM7
import Derived.Test.YtachiggolgdocaaM8
import Derived.Test.YtachiggolgdocaaM9
import Derived.Test.YtachiggolgdocaaM10
import Derived.Test.YtachiggolgdocaaM11
import Derived.Test.YtachiggolgdocaaM12
import Derived.Test.YtachiggolgdocaaM13
import Derived.Test.YtachiggolgdocaaM14
import Derived.Test.YtachiggolgdocaaM15
import Derived.Test.YtachiggolgdocaaM17
import Derived.Test.YtachiggolgdocaaM18
import Derived.Test.YtachiggolgdocaaM19
import Derived.Test.YtachiggolgdocaaM25
set_option linter.unusedSimpArgs false
set_option linter.unusedVariables false
namespace Go.Proofs.Ytachiggolgdocaa
open Go.ChangeShapes Go.WideShapes Go.ChangeAt Go.RowKit
set_option linter.unusedVariables false
set_option maxRecDepth 100000 in
set_option maxHeartbeats 4000000 in
theorem mailTake_walk  (W : World) (a : Option Addr) (len cap : Nat) (zs : List Int) (hr : Row .u8 W a len cap zs) :
    Calls Try.prog 5 #[.slice a len cap] W fun e w' => e = .returned (.bool true) ∧ Below W.heap.size W w' := by
  have hm := row_len hr
  by_cases hL : 1048576 < len
  · have hL1 : (1048576 : Int) < (len : Int) := by omega
    clear hr
    go_enter Try.func5, Try.ntmps5
    go_wp2_with fail
    go_ret
    exact ⟨rfl, Below.refl _ _⟩
  have hL1 : decide ((1048576 : Int) < (len : Int)) = false := by simp; omega
  have hL2 : decide (1048576 < len) = false := by simp; omega
  go_enter Try.func5, Try.ntmps5
  go_wp2_with fail
  refine (drawMailTake_any W a len cap zs hr).mono ?_
  clear hr
  rintro e w1 ⟨v, ys, t, rfl, hd⟩
  have B1 := Lib.hid hd.bel
  have R1 := Lib.hid hd.is
  have N1 := Lib.hid hd.nil
  have hl9 := hd.len
  obtain ⟨g0, c2, hv⟩ := hd.form
  clear hd
  subst hv
  have HC := Lib.hid (imt_any w1 _ ys t R1.out)
  have HS := Lib.hid (fun w h => sMailTake_any w (.slice (some ⟨g0, 0, none⟩) ys.length c2) ys t h N1.out)
  have HGY : Hid (mgot ys t = true → msok ys = true ∧ mix ys t < ys.length ∧ mrest ys t = ys.take (mix ys t) ++ ys.drop (mix ys t + 1) ∧ mtaken ys t = ys.getD (mix ys t) iz) := Lib.hid (fun h => mgot_yes h)
  generalize mrest ys t = us at HC HS HGY
  generalize mtaken ys t = x at HC HS HGY
  generalize mgot ys t = b at HC HS HGY
  obtain ⟨n, hn⟩ : ∃ n, n = ys.length := ⟨_, rfl⟩
  rw [← hn] at HC HS R1 N1 hl9 ⊢
  have HN := Lib.hid hn
  clear hn
  have hbb := neB b
  go_wp2_with fail
  refine HC.out.mono ?_
  rintro e w2 ⟨p2, rfl, hr2, hb2⟩
  obtain ⟨X, hX⟩ : ∃ X, X = w2.heap.size := ⟨_, rfl⟩
  obtain ⟨w2a, hw2a⟩ : ∃ w2a, w2a = w2.alloc (.cells #[.int .i64 x.k, .int .i64 x.g, .int .i64 x.r] 25) := ⟨_, rfl⟩
  have hb2a : Below w1.heap.size w1 w2a := by rw [hw2a]; exact hb2.alloc hb2.size _
  have T2 : Hid (Tri w2a X 0 x) := Lib.hid (by rw [hX, hw2a]; exact tri_new w2 x _)
  have B2 := Lib.hid (B1.out.trans (hb2a.mono B1.out.size))
  have R2 := Lib.hid (R1.out.below hb2a)
  have U2 := Lib.hid (hr2.is.below (w' := w2a) (by rw [hw2a]; exact (Below.refl _ _).alloc (Nat.le_refl _) _))
  have HW2 := Lib.hid hw2a
  have HX := Lib.hid hX
  clear hb2 hr2 HC R1 B1 hb2a hw2a hX
  go_wp2_with fail
  rw [← HW2.out, ← HX.out]
  refine (HS.out w2a R2.out).mono ?_
  rintro e w3 ⟨p3, rfl, hr3, hb3⟩
  obtain ⟨Y, hY⟩ : ∃ Y, Y = w3.heap.size := ⟨_, rfl⟩
  obtain ⟨w3a, hw3a⟩ : ∃ w3a, w3a = w3.alloc (.cells #[.int .i64 x.k, .int .i64 x.g, .int .i64 x.r] 25) := ⟨_, rfl⟩
  have hb3a : Below w2a.heap.size w2a w3a := by rw [hw3a]; exact hb3.alloc hb3.size _
  have TY3 : Hid (Tri w3a Y 0 x) := Lib.hid (by rw [hY, hw3a]; exact tri_new w3 x _)
  have T3 := Lib.hid (T2.out.below hb3a T2.out.lt)
  have B3 := Lib.hid (B2.out.trans (hb3a.mono B2.out.size))
  have R3 := Lib.hid (R2.out.below hb3a)
  have U23 := Lib.hid (U2.out.below hb3a)
  have U3 := Lib.hid (hr3.is.below (w' := w3a) (by rw [hw3a]; exact (Below.refl _ _).alloc (Nat.le_refl _) _))
  have HW3 := Lib.hid hw3a
  have HY := Lib.hid hY
  obtain ⟨c0, c1, c2'⟩ := T3.out
  obtain ⟨d0, d1, d2⟩ := TY3.out
  simp only [Nat.zero_add] at c0 c1 c2' d0 d1 d2
  rw [hw3a] at c0 c1 c2' d0 d1 d2
  rw [hY] at d0 d1 d2
  clear hb3 hr3 HS R2 B2 U2 hb3a hw3a hY T2
  go_wp2_with fail
  rw [← HW3.out, ← HY.out]
  clear c0 c1 c2' d0 d1 d2
  refine (sameI w3a p2 p3 us U23.out U3.out).mono ?_
  rintro e w4 ⟨rfl, hb4⟩
  have B4 := Lib.hid (B3.out.trans (hb4.mono B3.out.size))
  have R4 := Lib.hid (R3.out.below hb4)
  have U24 := Lib.hid (U23.out.below hb4)
  have U34 := Lib.hid (U3.out.below hb4)
  have T4 := Lib.hid (T3.out.below hb4 T3.out.lt)
  have TY4 := Lib.hid (TY3.out.below hb4 TY3.out.lt)
  clear hb4 B3 U23 U3 R3 T3 TY3
  cases b with
  | false =>
    obtain ⟨c0, c1, c2'⟩ := T4.out
    obtain ⟨d0, d1, d2⟩ := TY4.out
    simp only [Nat.zero_add] at c0 c1 c2' d0 d1 d2
    go_wp2_with fail
    clear c0 c1 c2' d0 d1 d2
    refine (sameI w4 p2 p3 us U24.out U34.out).mono ?_
    rintro e w9 ⟨rfl, hb9⟩
    have B9 := Lib.hid (B4.out.trans (hb9.mono B4.out.size))
    clear hb9
    go_wp2_with fail
    go_ret
    exact ⟨rfl, B9.out⟩
  | true =>
    have HG := Lib.hid (HGY.out (by first | trivial | rfl))
    clear HGY U34 TY4
    have hnc : n ≤ c2 ∧ c2 ≤ 9223372036854775807 := by
      obtain ⟨a', cap', e, h1, h2, _⟩ := R4.out
      injection e with e1 e2 e3
      subst e3
      unfold maxLen at h2
      have := HN.out
      omega
    have hn1 := hnc.1
    have hn2 := hnc.2
    clear hnc
    go_wp2
    go_loopw [11] (fun i wr => ∃ k : Nat, k ≤ n ∧ i = .int .i64 k ∧ Hid (∀ i, i < k → (ys.getD i iz).g ≠ t) ∧ wr = w4) (fun i _ => n - (intOf i).toNat)
    case atStart => exact ⟨0, Nat.zero_le _, rfl, Lib.hid (fun i hi => by omega), by first | trivial | rfl⟩
    case round =>
      obtain ⟨k, hk, rfl, HBF, rfl⟩ := hrel
      by_cases hlt : k < n
      · have hlt' : (k : Int) < (n : Int) := by omega
        obtain ⟨y, hy⟩ : ∃ y, y = ys.getD k iz := ⟨_, rfl⟩
        have HT : Hid (Tri wr g0 (k * 3) y) := Lib.hid (by
          obtain ⟨a', c', e, _, _, h3⟩ := R4.out
          injection e with e _ _
          obtain ⟨b', o', e2, h4⟩ := h3 k (by rw [← HN.out]; exact hlt)
          rw [← e] at e2
          cases e2
          rw [Nat.zero_add] at h4
          rw [hy]
          exact h4)
        have HYK := Lib.hid hy
        clear hy
        obtain ⟨e0, e1, e2⟩ := HT.out
        by_cases he : y.g = t
        · have he' : (y.g == t) = true := by simpa using he
          have HK : Hid (mix ys t = k) := Lib.hid (mix_first (by rw [← HN.out]; exact hlt) HBF.out (by rw [← HYK.out]; exact he))
          have HXY : Hid (x = y) := Lib.hid (by rw [HG.out.2.2.2, HK.out, HYK.out])
          have HUS : Hid (us = ys.take k ++ ys.drop (k + 1)) := Lib.hid (by rw [HG.out.2.2.1, HK.out])
          have hxy : x = y := HXY.out
          subst hxy
          clear he
          have hc1 : (k : Int) + 1 ≤ (n : Int) := by omega
          have hc3 : (n : Int) ≤ (c2 : Int) := by omega
          have hc4 : (k : Int) ≤ (c2 : Int) := by omega
          have hc5 : (k : Int) + 1 ≤ (c2 : Int) := by omega
          have hc6 : (c2 : Int) ≤ 9223372036854775807 := by omega
          have hk1 : k + 1 ≤ n := by omega
          have hck : ¬ c2 = k := by omega
          obtain ⟨q0, hq0⟩ : ∃ q0, q0 = if c2 = k + 1 then 0 else 0 + (k + 1) * 3 := ⟨_, rfl⟩
          have HQ0 : Hid (q0 = if c2 = k + 1 then 0 else (k + 1) * 3) := Lib.hid (by rw [hq0, Nat.zero_add])
          have HTK := Lib.hid (R4.out.take (k := k) (by omega))
          have HDR := Lib.hid (R4.out.drop (k := k + 1) (q := q0) hk1 hq0)
          clear hq0
          go_wp2_with fail
          refine wp_region_held_drew (S := fun w' => Tri w' X 0 x ∧ Tri w' g0 (k * 3) x) (by kernel_rfl) ⟨T4.out.below (Below.refl _ _).drew T4.out.lt, HT.out.below (Below.refl _ _).drew HT.out.lt⟩ (fun hHeld => ?_)
          refine anyH_gen _ (fun AZ hgen => ?_)
          have HBZ := Lib.hid (by rw [hgen]; exact (Below.refl _ _).drew : Below wr.heap.size wr AZ)
          rw [← hgen] at hHeld
          clear hgen
          refine wpAnyH_take (i := 0) (oi := { dst := some 78, op := .load 25 (.tmp 6), type := _, pos := _, after := _, guard := none }) (v := .agg #[.int .i64 x.k, .int .i64 x.g, .int .i64 x.r]) rfl (by kernel_rfl) (by kernel_rfl) (by kernel_rfl) (fun _ _ _ h => h) (Or.inl ⟨by rfl, fun wh hSw => ?_⟩) hHeld ?_
          · (obtain ⟨⟨d0, d1, d2⟩, f0, f1, f2⟩ := hSw; simp only [Nat.zero_add] at d0 d1 d2; go_simp)
          try simp only [Act.put, List.setIfInBounds_toArray, List.set_cons_zero, List.set_cons_succ]
          refine wpAnyH_take (i := 1) (oi := { dst := some 79, op := .move (.tmp 3), type := _, pos := _, after := _, guard := none }) (v := .slice (some ⟨g0, 0, none⟩) n c2) rfl (by kernel_rfl) (by kernel_rfl) (by kernel_rfl) (fun _ _ _ h => h) (Or.inl ⟨by rfl, fun wh hSw => ?_⟩) hHeld ?_
          · (obtain ⟨⟨d0, d1, d2⟩, f0, f1, f2⟩ := hSw; simp only [Nat.zero_add] at d0 d1 d2; go_simp)
          try simp only [Act.put, List.setIfInBounds_toArray, List.set_cons_zero, List.set_cons_succ]
          refine wpAnyH_take (i := 2) (oi := { dst := some 80, op := .move (.tmp 11), type := _, pos := _, after := _, guard := none }) (v := .int .i64 (k : Int)) rfl (by kernel_rfl) (by kernel_rfl) (by kernel_rfl) (fun _ _ _ h => h) (Or.inl ⟨by rfl, fun wh hSw => ?_⟩) hHeld ?_
          · (obtain ⟨⟨d0, d1, d2⟩, f0, f1, f2⟩ := hSw; simp only [Nat.zero_add] at d0 d1 d2; go_simp)
          try simp only [Act.put, List.setIfInBounds_toArray, List.set_cons_zero, List.set_cons_succ]
          refine wpAnyH_take (i := 3) (oi := { dst := some 81, op := .indexAddr 23 (.tmp 79) (.tmp 80), type := _, pos := _, after := _, guard := none }) (v := .pointer (some ⟨g0, k * 3, none⟩)) rfl (by kernel_rfl) (by kernel_rfl) (by kernel_rfl) (fun _ _ _ h => h) (Or.inl ⟨by rfl, fun wh hSw => ?_⟩) hHeld ?_
          · (go_simp; try (intro hh; omega))
          try simp only [Act.put, List.setIfInBounds_toArray, List.set_cons_zero, List.set_cons_succ]
          refine wpAnyH_take (i := 4) (oi := { dst := some 82, op := .load 25 (.tmp 81), type := _, pos := _, after := _, guard := none }) (v := .agg #[.int .i64 x.k, .int .i64 x.g, .int .i64 x.r]) rfl (by kernel_rfl) (by kernel_rfl) (by kernel_rfl) (fun _ _ _ h => h) (Or.inl ⟨by rfl, fun wh hSw => ?_⟩) hHeld ?_
          · (obtain ⟨⟨d0, d1, d2⟩, f0, f1, f2⟩ := hSw; simp only [Nat.zero_add] at d0 d1 d2; go_simp)
          try simp only [Act.put, List.setIfInBounds_toArray, List.set_cons_zero, List.set_cons_succ]
          refine wpAnyH_take (i := 5) (oi := { dst := some 83, op := .binOp .eql 25 (.tmp 78) (.tmp 82) 25, type := _, pos := _, after := _, guard := none }) (v := .bool true) rfl (by kernel_rfl) (by kernel_rfl) (by kernel_rfl) (fun _ _ _ h => h) (Or.inl ⟨by rfl, fun wh hSw => ?_⟩) hHeld ?_
          · (obtain ⟨⟨d0, d1, d2⟩, f0, f1, f2⟩ := hSw; simp only [Nat.zero_add] at d0 d1 d2; go_simp)
          try simp only [Act.put, List.setIfInBounds_toArray, List.set_cons_zero, List.set_cons_succ]
          refine wpAnyH_take (i := 6) (oi := { dst := some 84, op := .move (.tmp 83), type := _, pos := _, after := _, guard := none }) (v := .bool true) rfl (by kernel_rfl) (by kernel_rfl) (by kernel_rfl) (fun _ _ _ h => h) (Or.inl ⟨by rfl, fun wh hSw => ?_⟩) hHeld ?_
          · (obtain ⟨⟨d0, d1, d2⟩, f0, f1, f2⟩ := hSw; simp only [Nat.zero_add] at d0 d1 d2; go_simp)
          try simp only [Act.put, List.setIfInBounds_toArray, List.set_cons_zero, List.set_cons_succ]
          refine wpAnyH_take (i := 7) (oi := { dst := some 85, op := .move (.tmp 5), type := _, pos := _, after := _, guard := some (6, true) }) (v := p2) rfl (by kernel_rfl) (by kernel_rfl) (by kernel_rfl) (fun _ _ _ h => h) (Or.inl ⟨by rfl, fun wh hSw => ?_⟩) hHeld ?_
          · (obtain ⟨⟨d0, d1, d2⟩, f0, f1, f2⟩ := hSw; simp only [Nat.zero_add] at d0 d1 d2; go_simp)
          try simp only [Act.put, List.setIfInBounds_toArray, List.set_cons_zero, List.set_cons_succ]
          refine wpAnyH_take (i := 9) (oi := { dst := some 87, op := .move (.tmp 3), type := _, pos := _, after := _, guard := some (6, true) }) (v := .slice (some ⟨g0, 0, none⟩) n c2) rfl (by kernel_rfl) (by kernel_rfl) (by kernel_rfl) (fun _ _ _ h => h) (Or.inl ⟨by rfl, fun wh hSw => ?_⟩) hHeld ?_
          · (obtain ⟨⟨d0, d1, d2⟩, f0, f1, f2⟩ := hSw; simp only [Nat.zero_add] at d0 d1 d2; go_simp)
          try simp only [Act.put, List.setIfInBounds_toArray, List.set_cons_zero, List.set_cons_succ]
          refine wpAnyH_take (i := 10) (oi := { dst := some 88, op := .move (.tmp 11), type := _, pos := _, after := _, guard := some (6, true) }) (v := .int .i64 (k : Int)) rfl (by kernel_rfl) (by kernel_rfl) (by kernel_rfl) (fun _ _ _ h => h) (Or.inl ⟨by rfl, fun wh hSw => ?_⟩) hHeld ?_
          · (obtain ⟨⟨d0, d1, d2⟩, f0, f1, f2⟩ := hSw; simp only [Nat.zero_add] at d0 d1 d2; go_simp)
          try simp only [Act.put, List.setIfInBounds_toArray, List.set_cons_zero, List.set_cons_succ]
          refine wpAnyH_take (i := 11) (oi := { dst := some 89, op := .slice 23 (.tmp 87) none (some (.tmp 88)) none, type := _, pos := _, after := _, guard := some (6, true) }) (v := .slice (some ⟨g0, 0, none⟩) k c2) rfl (by kernel_rfl) (by kernel_rfl) (by kernel_rfl) (fun _ _ _ h => h) (Or.inl ⟨by rfl, fun wh hSw => ?_⟩) hHeld ?_
          · (go_simp; try (intro hh; omega))
          try simp only [Act.put, List.setIfInBounds_toArray, List.set_cons_zero, List.set_cons_succ]
          refine wpAnyH_take (i := 13) (oi := { dst := some 91, op := .move (.tmp 3), type := _, pos := _, after := _, guard := some (6, true) }) (v := .slice (some ⟨g0, 0, none⟩) n c2) rfl (by kernel_rfl) (by kernel_rfl) (by kernel_rfl) (fun _ _ _ h => h) (Or.inl ⟨by rfl, fun wh hSw => ?_⟩) hHeld ?_
          · (obtain ⟨⟨d0, d1, d2⟩, f0, f1, f2⟩ := hSw; simp only [Nat.zero_add] at d0 d1 d2; go_simp)
          try simp only [Act.put, List.setIfInBounds_toArray, List.set_cons_zero, List.set_cons_succ]
          refine wpAnyH_take (i := 14) (oi := { dst := some 92, op := .move (.tmp 11), type := _, pos := _, after := _, guard := some (6, true) }) (v := .int .i64 (k : Int)) rfl (by kernel_rfl) (by kernel_rfl) (by kernel_rfl) (fun _ _ _ h => h) (Or.inl ⟨by rfl, fun wh hSw => ?_⟩) hHeld ?_
          · (obtain ⟨⟨d0, d1, d2⟩, f0, f1, f2⟩ := hSw; simp only [Nat.zero_add] at d0 d1 d2; go_simp)
          try simp only [Act.put, List.setIfInBounds_toArray, List.set_cons_zero, List.set_cons_succ]
          refine wpAnyH_take (i := 15) (oi := { dst := some 93, op := .binOp .add 3 (.tmp 92) (.const (.int .i64 1)) 3, type := _, pos := _, after := _, guard := some (6, true) }) (v := .int .i64 ((k : Int) + 1)) rfl (by kernel_rfl) (by kernel_rfl) (by kernel_rfl) (fun _ _ _ h => h) (Or.inl ⟨by rfl, fun wh hSw => ?_⟩) hHeld ?_
          · (go_simp; rw [IntKind.wrap_i64]; omega)
          try simp only [Act.put, List.setIfInBounds_toArray, List.set_cons_zero, List.set_cons_succ]
          refine wpAnyH_take (i := 16) (oi := { dst := some 94, op := .slice 23 (.tmp 91) (some (.tmp 93)) none none, type := _, pos := _, after := _, guard := some (6, true) }) (v := .slice (some ⟨g0, q0, none⟩) (n - (k + 1)) (c2 - (k + 1))) rfl (by kernel_rfl) (by kernel_rfl) (by kernel_rfl) (fun _ _ _ h => h) (Or.inl ⟨by rfl, fun wh hSw => ?_⟩) hHeld ?_
          · (go_simp; rw [HQ0.out]; by_cases hce : c2 = k + 1 <;> (simp [hce]; try (intro hh; omega)))
          try simp only [Act.put, List.setIfInBounds_toArray, List.set_cons_zero, List.set_cons_succ]
          refine wpAnyH_ready (rs := [8]) (by kernel_rfl) (by simp) ?_
          refine AllReadyH.cons (o := { dst := some 86, op := .buildSlice 23 0 #[], type := _, pos := _, after := _, guard := some (6, true) }) rfl (fun K hK => ?_) AllReadyH.nil
          go_simp
          refine hK.out _ _ ?_ (fun hHeld => ?_)
          · exact ⟨T4.out.below (HBZ.out.alloc HBZ.out.size _) T4.out.lt, HT.out.below (HBZ.out.alloc HBZ.out.size _) HT.out.lt⟩
          clear hK K
          try simp only [Act.put, List.setIfInBounds_toArray, List.set_cons_zero, List.set_cons_succ]
          refine anyH_gen _ (fun A1 hgen => ?_)
          have HB1 : Hid (Below wr.heap.size wr A1) := Lib.hid (by rw [hgen]; exact HBZ.out.alloc HBZ.out.size _)
          have HO1 : Hid (OwnV wr (.slice (some ⟨AZ.heap.size, 0, none⟩) 0 0) [] A1) := Lib.hid (by rw [hgen]; exact (OwnV.start AZ).from HBZ.out)
          clear hgen
          refine wpAnyH_ready (rs := [12]) (by kernel_rfl) (by simp) ?_
          refine AllReadyH.cons (o := { dst := some 90, op := .call { callee := .builtin .append, args := #[.tmp 86, .tmp 89], argTypes := #[23, 23] }, type := _, pos := _, after := _, guard := some (6, true) }) rfl (fun K hK => ?_) AllReadyH.nil
          rw [if_pos (by rfl)]
          refine wp_append_is (.tmp 86) (.tmp 89) wr (.slice (some ⟨AZ.heap.size, 0, none⟩) 0 0) [] rfl HO1.out _ (ys.take k) rfl (HTK.out.below HB1.out) nilOkI_some (by simp only [List.length_nil, List.length_take]; have := HN.out; omega) ?_
          intro v2 A2 hown hnn hg
          have HO2 := Lib.hid hown
          clear hown hnn hg
          refine hK.out _ _ ?_ (fun hHeld => ?_)
          · exact ⟨T4.out.below HO2.out.bel T4.out.lt, HT.out.below HO2.out.bel HT.out.lt⟩
          clear hK K
          try simp only [Act.put, List.setIfInBounds_toArray, List.set_cons_zero, List.set_cons_succ]
          refine wpAnyH_ready (rs := [17]) (by kernel_rfl) (by simp) ?_
          refine AllReadyH.cons (o := { dst := some 95, op := .call { callee := .builtin .append, args := #[.tmp 90, .tmp 94], argTypes := #[23, 23] }, type := _, pos := _, after := _, guard := some (6, true) }) rfl (fun K hK => ?_) AllReadyH.nil
          rw [if_pos (by rfl)]
          refine wp_append_is (.tmp 90) (.tmp 94) wr v2 ([] ++ ys.take k) rfl HO2.out _ (ys.drop (k + 1)) rfl (HDR.out.below HO2.out.bel) nilOkI_some (by simp only [List.nil_append, List.length_take, List.length_drop]; have := HN.out; omega) ?_
          intro v3 A3 hown hnn hg
          have HO3 := Lib.hid hown
          clear hown hnn hg
          refine hK.out _ _ ?_ (fun hHeld => ?_)
          · exact ⟨T4.out.below HO3.out.bel T4.out.lt, HT.out.below HO3.out.bel HT.out.lt⟩
          clear hK K
          try simp only [Act.put, List.setIfInBounds_toArray, List.set_cons_zero, List.set_cons_succ]
          have HX3 : Hid (Is A3 v3 us) := Lib.hid (by rw [HUS.out]; have := HO3.out.is; rw [List.nil_append] at this; exact this)
          refine wpAnyH_ready (rs := [18]) (by kernel_rfl) (by simp) ?_
          refine AllReadyH.cons (o := { dst := some 96, op := .call { callee := .value (.func 18), args := #[.tmp 85, .tmp 95], argTypes := #[23, 23] }, type := _, pos := _, after := _, guard := some (6, true) }) rfl (fun K hK => ?_) AllReadyH.nil
          go_simp
          refine (sameI A3 p2 v3 us (U24.out.below HO3.out.bel) HX3.out).mono ?_
          rintro e w9 ⟨rfl, hb9⟩
          have HB9 := Lib.hid (HO3.out.bel.trans (hb9.mono HO3.out.bel.size))
          clear hb9
          refine hK.out _ _ ?_ (fun hHeld => ?_)
          · exact ⟨T4.out.below HB9.out T4.out.lt, HT.out.below HB9.out HT.out.lt⟩
          clear hK K
          try simp only [Act.put, List.setIfInBounds_toArray, List.set_cons_zero, List.set_cons_succ]
          refine wpAnyH_take (i := 19) (oi := { dst := some 97, op := .pick (.tmp 84) (.tmp 96) (.const (.bool false)), type := _, pos := _, after := _, guard := none }) (v := .bool true) rfl (by kernel_rfl) (by kernel_rfl) (by kernel_rfl) (fun _ _ _ h => h) (Or.inl ⟨by rfl, fun wh hSw => ?_⟩) hHeld ?_
          · (obtain ⟨⟨d0, d1, d2⟩, f0, f1, f2⟩ := hSw; simp only [Nat.zero_add] at d0 d1 d2; go_simp)
          try simp only [Act.put, List.setIfInBounds_toArray, List.set_cons_zero, List.set_cons_succ]
          refine wpAnyH_take (i := 20) (oi := { dst := some 2, op := .assign (.tmp 97), type := _, pos := _, after := _, guard := none }) (v := .bool true) rfl (by kernel_rfl) (by kernel_rfl) (by kernel_rfl) (fun _ _ _ h => h) (Or.inl ⟨by rfl, fun wh hSw => ?_⟩) hHeld ?_
          · (obtain ⟨⟨d0, d1, d2⟩, f0, f1, f2⟩ := hSw; simp only [Nat.zero_add] at d0 d1 d2; go_simp)
          try simp only [Act.put, List.setIfInBounds_toArray, List.set_cons_zero, List.set_cons_succ]
          refine wpAnyH_done (by kernel_rfl) ?_ _
          go_wp2_with fail
          go_ret
          exact ⟨rfl, B4.out.trans (HB9.out.mono B4.out.size)⟩
        · have he' : (y.g == t) = false := by simpa using he
          have HNE := Lib.hid he
          clear he
          go_wp2
          go_roundw
          case rel => exact ⟨k + 1, by omega, by go_num, Lib.hid (fun i hi => by
            by_cases h : i = k
            · rw [h, ← HYK.out]; exact HNE.out
            · exact HBF.out i (by omega)), by first | trivial | rfl⟩
          case measure => simp [intOf]; omega
      · exfalso
        have h1 := HG.out.2.1
        have h2 := mix_at h1
        exact HBF.out _ (by have := HN.out; omega) h2
end Go.Proofs.Ytachiggolgdocaa
