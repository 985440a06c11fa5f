/- The walk of the statement that a translation is that of the page, out of a contract of the program. -/
import Derived.Test.YtklclcbhghjjfaaLawCachePut
import Derived.Deep.RegionHeld
namespace Go.Proofs.Ytklclcbhghjjfaa
open Go.ChangeShapes Go.WideShapes Go.ChangeAt Go.RowKit
set_option linter.unusedVariables false

set_option maxRecDepth 100000 in
set_option maxHeartbeats 2000000 in
theorem cacheFind_walk (hF : CFind) (W : World) (a : Option Addr) (len cap : Nat) (zs : List Int) (hr : Row .u8 W a len cap zs) :
    Calls Try.prog 7 #[.slice a len cap] W fun e w' => e = .returned (.bool true) ∧ Below W.heap.size W w' := by
  have HF := Lib.hid hF
  clear hF
  have hm := row_len hr
  by_cases hL : 1048576 < len
  · have hL1 : (1048576 : Int) < (len : Int) := by omega
    clear hr
    go_enter Try.func7, Try.ntmps7
    go_wp2_with fail
    go_ret
    exact ⟨rfl, Below.refl _ _⟩
  have hL1 : decide ((1048576 : Int) < (len : Int)) = false := by simp; omega
  have hL2 : decide (1048576 < len) = false := by simp; omega
  go_enter Try.func7, Try.ntmps7
  go_wp2_with fail
  refine (drawCacheFind_any W a len cap zs hr).mono ?_
  clear hr
  rintro e w1 ⟨v, xs, n, p, hnp, rfl, hD⟩
  have B1 := Lib.hid hD.bel
  have R1 := Lib.hid hD.cs
  have HNF := Lib.hid (fun h : (cFind xs n p).b = true => find_yes h)
  have HC := Lib.hid (HF.out w1 v xs n p R1.out)
  have HS := Lib.hid (fun w => fun h : Cs w v xs => cFind_any w v xs n p h)
  clear hD hnp
  obtain ⟨r, hr⟩ : ∃ r, r = cFind xs n p := ⟨_, rfl⟩
  rw [← hr] at HC HS HNF
  clear hr
  obtain ⟨⟨xe, xp, xf, xb⟩, b⟩ := r
  go_wp2_with fail
  refine HC.out.mono ?_
  rintro e w2 ⟨rfl, hb2⟩
  unfold cvV
  dsimp only
  have R2 := Lib.hid (R1.out.below hb2)
  have B2 := Lib.hid (B1.out.trans (hb2.mono B1.out.size))
  clear hb2 HC R1 B1
  have HFX := Lib.hid (four_alloc w2 ⟨xe, xp, xf, xb⟩ 25)
  have RA := Lib.hid (R2.out.below ((Below.refl _ _).alloc (Nat.le_refl _) (.cells #[.int .i64 xe, .int .i64 xp, .int .i64 xf, .bool xb] 25)))
  have BA := Lib.hid (B2.out.alloc B2.out.size (.cells #[.int .i64 xe, .int .i64 xp, .int .i64 xf, .bool xb] 25))
  have ZA : w2.heap.size < (w2.alloc (.cells #[.int .i64 xe, .int .i64 xp, .int .i64 xf, .bool xb] 25)).heap.size := by simp
  go_wp2_with fail
  obtain ⟨X, hX⟩ : ∃ X, w2.heap.size = X := ⟨_, rfl⟩
  obtain ⟨wA, hA⟩ : ∃ wA, w2.alloc (.cells #[.int .i64 xe, .int .i64 xp, .int .i64 xf, .bool xb] 25) = wA := ⟨_, rfl⟩
  simp only [hX, hA] at HFX RA BA ZA ⊢
  clear hA B2 R2
  refine (HS.out wA RA.out).mono ?_
  rintro e w3 ⟨rfl, hb3⟩
  unfold cvV
  dsimp only
  have R3 := Lib.hid (RA.out.below hb3)
  have B3 := Lib.hid (BA.out.trans (hb3.mono BA.out.size))
  have F3 := Lib.hid (HFX.out.below hb3 ZA)
  have Z3 := Nat.lt_of_lt_of_le ZA hb3.size
  clear hb3 HS RA BA HFX
  have HFY := Lib.hid (four_alloc w3 ⟨xe, xp, xf, xb⟩ 25)
  have RB := Lib.hid (R3.out.below ((Below.refl _ _).alloc (Nat.le_refl _) (.cells #[.int .i64 xe, .int .i64 xp, .int .i64 xf, .bool xb] 25)))
  have BB := Lib.hid (B3.out.alloc B3.out.size (.cells #[.int .i64 xe, .int .i64 xp, .int .i64 xf, .bool xb] 25))
  have FX := Lib.hid (F3.out.below ((Below.refl w3.heap.size w3).alloc (Nat.le_refl _) (.cells #[.int .i64 xe, .int .i64 xp, .int .i64 xf, .bool xb] 25)) Z3)
  have ZB : w3.heap.size < (w3.alloc (.cells #[.int .i64 xe, .int .i64 xp, .int .i64 xf, .bool xb] 25)).heap.size := by simp
  obtain ⟨q0, q1, q2, q3⟩ := FX.out
  simp only [Nat.zero_add] at q0 q1 q2 q3
  cases b
  · go_wp2_with fail
    go_ret
    exact ⟨rfl, BB.out⟩
  · obtain ⟨hk1, hk2, hk3, hk4⟩ := HNF.out rfl
    subst hk3
    subst hk4
    have HMEM := Lib.hid hk2
    obtain ⟨oa, oc, rfl, hc1, hc2, hc3⟩ := RB.out
    unfold maxLen at hc2
    have HCS := Lib.hid hc3
    obtain ⟨m, hm'⟩ : ∃ m, m = xs.length := ⟨_, rfl⟩
    have HM := Lib.hid hm'
    rw [← hm'] at hc1 ⊢
    clear hk1 hk2 hc3 hm' HNF HFY
    go_wp2_with fail
    obtain ⟨wB, hB⟩ : ∃ wB, w3.alloc (.cells #[.int .i64 xe, .int .i64 xp, .int .i64 xf, .bool xb] 25) = wB := ⟨_, rfl⟩
    simp only [hB] at HCS BB FX ZB q0 q1 q2 q3 ⊢
    clear hB
    have ZXB : X < wB.heap.size := Nat.lt_trans Z3 ZB
    go_loopw [10] (fun i wr => ∃ k : Nat, k ≤ m ∧ i = .int .i64 k ∧ Hid (Below wB.heap.size wB wr) ∧ Hid (∀ j, j < k → xs.getD j c0 ≠ ⟨xe, xp, xf, xb⟩)) (fun i _ => m - (intOf i).toNat)
    case atStart => exact ⟨0, Nat.zero_le _, rfl, Lib.hid (Below.refl _ _), Lib.hid (fun j hj => by omega)⟩
    case round =>
      obtain ⟨k, hk, rfl, HBW, HNE⟩ := hrel
      by_cases hlt : k < m
      · obtain ⟨g, o, rfl, hf0⟩ := HCS.out k (by have := HM.out; omega)
        have hgl := block_lt_of_cell hf0.c0
        obtain ⟨y, hy⟩ : ∃ y, y = xs.getD k c0 := ⟨_, rfl⟩
        rw [← hy] at hf0
        have HY := Lib.hid hy
        have FA : Hid (Four wr.drew g (o + k * 4) y) := Lib.hid ((hf0.below HBW.out hgl).drew)
        have FB : Hid (Four wr.drew X 0 ⟨xe, xp, xf, xb⟩) := Lib.hid ((FX.out.below HBW.out ZXB).drew)
        have HXY := Lib.hid hlt
        clear hy hf0
        by_cases he : y = ⟨xe, xp, xf, xb⟩
        · subst he
          go_wp2_with fail
          refine wp_region_held_drew (S := fun w' => Four w' g (o + k * 4) ⟨xe, xp, xf, xb⟩ ∧ Four w' X 0 ⟨xe, xp, xf, xb⟩) (by kernel_rfl) ⟨FA.out, FB.out⟩ (fun hHeld => ?_)
          refine wpAnyH_take (i := 0) (oi := { dst := some 60, op := .move (.tmp 3), type := _, pos := _, after := _, guard := none }) (v := .slice (some ⟨g, o, none⟩) m oc) rfl (by kernel_rfl) (by kernel_rfl) (by kernel_rfl) (fun _ _ _ h => h) (Or.inl ⟨by rfl, fun wh hSw => ?_⟩) hHeld ?_
          · (obtain ⟨⟨s0, s1, s2, s3⟩, t0, t1, t2, t3⟩ := hSw; simp only [Nat.zero_add] at t0 t1 t2 t3; go_simp)
          try simp only [Act.put, List.setIfInBounds_toArray, List.set_cons_zero, List.set_cons_succ]
          refine wpAnyH_take (i := 1) (oi := { dst := some 61, op := .move (.tmp 10), type := _, pos := _, after := _, guard := none }) (v := .int .i64 (k : Int)) rfl (by kernel_rfl) (by kernel_rfl) (by kernel_rfl) (fun _ _ _ h => h) (Or.inl ⟨by rfl, fun wh hSw => ?_⟩) hHeld ?_
          · (obtain ⟨⟨s0, s1, s2, s3⟩, t0, t1, t2, t3⟩ := hSw; simp only [Nat.zero_add] at t0 t1 t2 t3; go_simp)
          try simp only [Act.put, List.setIfInBounds_toArray, List.set_cons_zero, List.set_cons_succ]
          refine wpAnyH_take (i := 2) (oi := { dst := some 62, op := .indexAddr 23 (.tmp 60) (.tmp 61), type := _, pos := _, after := _, guard := none }) (v := .pointer (some ⟨g, o + k * 4, none⟩)) rfl (by kernel_rfl) (by kernel_rfl) (by kernel_rfl) (fun _ _ _ h => h) (Or.inl ⟨by rfl, fun wh hSw => ?_⟩) hHeld ?_
          · (obtain ⟨⟨s0, s1, s2, s3⟩, t0, t1, t2, t3⟩ := hSw; simp only [Nat.zero_add] at t0 t1 t2 t3; go_simp)
          try simp only [Act.put, List.setIfInBounds_toArray, List.set_cons_zero, List.set_cons_succ]
          refine wpAnyH_take (i := 3) (oi := { dst := some 63, op := .load 25 (.tmp 62), type := _, pos := _, after := _, guard := none }) (v := .agg #[.int .i64 xe, .int .i64 xp, .int .i64 xf, .bool xb]) rfl (by kernel_rfl) (by kernel_rfl) (by kernel_rfl) (fun _ _ _ h => h) (Or.inl ⟨by rfl, fun wh hSw => ?_⟩) hHeld ?_
          · (obtain ⟨⟨s0, s1, s2, s3⟩, t0, t1, t2, t3⟩ := hSw; simp only [Nat.zero_add] at t0 t1 t2 t3; go_simp)
          try simp only [Act.put, List.setIfInBounds_toArray, List.set_cons_zero, List.set_cons_succ]
          refine wpAnyH_take (i := 4) (oi := { dst := some 64, op := .load 25 (.tmp 6), type := _, pos := _, after := _, guard := none }) (v := .agg #[.int .i64 xe, .int .i64 xp, .int .i64 xf, .bool xb]) rfl (by kernel_rfl) (by kernel_rfl) (by kernel_rfl) (fun _ _ _ h => h) (Or.inl ⟨by rfl, fun wh hSw => ?_⟩) hHeld ?_
          · (obtain ⟨⟨s0, s1, s2, s3⟩, t0, t1, t2, t3⟩ := hSw; simp only [Nat.zero_add] at t0 t1 t2 t3; go_simp)
          try simp only [Act.put, List.setIfInBounds_toArray, List.set_cons_zero, List.set_cons_succ]
          refine wpAnyH_take (i := 5) (oi := { dst := some 65, op := .binOp .eql 25 (.tmp 63) (.tmp 64) 25, type := _, pos := _, after := _, guard := none }) (v := .bool true) rfl (by kernel_rfl) (by kernel_rfl) (by kernel_rfl) (fun _ _ _ h => h) (Or.inl ⟨by rfl, fun wh hSw => ?_⟩) hHeld ?_
          · (go_simp)
          try simp only [Act.put, List.setIfInBounds_toArray, List.set_cons_zero, List.set_cons_succ]
          refine wpAnyH_done (by kernel_rfl) ?_ _
          obtain ⟨f0, f1, f2, f3⟩ := FB.out
          simp only [Nat.zero_add] at f0 f1 f2 f3
          go_wp2_with fail
          go_ret
          exact ⟨rfl, BB.out.trans ((HBW.out.drew).mono BB.out.size)⟩
        · have hE := he
          have HN2 : Hid (∀ j, j < k + 1 → xs.getD j c0 ≠ ⟨xe, xp, xf, xb⟩) := Lib.hid (fun j hj => by
            by_cases hjk : j < k
            · exact HNE.out j hjk
            · obtain rfl : j = k := by omega
              rw [← HY.out]; exact hE)
          clear he
          go_wp2_with fail
          refine wp_region_held_drew (S := fun w' => Four w' g (o + k * 4) y ∧ Four w' X 0 ⟨xe, xp, xf, xb⟩) (by kernel_rfl) ⟨FA.out, FB.out⟩ (fun hHeld => ?_)
          refine wpAnyH_take (i := 0) (oi := { dst := some 60, op := .move (.tmp 3), type := _, pos := _, after := _, guard := none }) (v := .slice (some ⟨g, o, none⟩) m oc) rfl (by kernel_rfl) (by kernel_rfl) (by kernel_rfl) (fun _ _ _ h => h) (Or.inl ⟨by rfl, fun wh hSw => ?_⟩) hHeld ?_
          · (obtain ⟨⟨s0, s1, s2, s3⟩, t0, t1, t2, t3⟩ := hSw; simp only [Nat.zero_add] at t0 t1 t2 t3; go_simp)
          try simp only [Act.put, List.setIfInBounds_toArray, List.set_cons_zero, List.set_cons_succ]
          refine wpAnyH_take (i := 1) (oi := { dst := some 61, op := .move (.tmp 10), type := _, pos := _, after := _, guard := none }) (v := .int .i64 (k : Int)) rfl (by kernel_rfl) (by kernel_rfl) (by kernel_rfl) (fun _ _ _ h => h) (Or.inl ⟨by rfl, fun wh hSw => ?_⟩) hHeld ?_
          · (obtain ⟨⟨s0, s1, s2, s3⟩, t0, t1, t2, t3⟩ := hSw; simp only [Nat.zero_add] at t0 t1 t2 t3; go_simp)
          try simp only [Act.put, List.setIfInBounds_toArray, List.set_cons_zero, List.set_cons_succ]
          refine wpAnyH_take (i := 2) (oi := { dst := some 62, op := .indexAddr 23 (.tmp 60) (.tmp 61), type := _, pos := _, after := _, guard := none }) (v := .pointer (some ⟨g, o + k * 4, none⟩)) rfl (by kernel_rfl) (by kernel_rfl) (by kernel_rfl) (fun _ _ _ h => h) (Or.inl ⟨by rfl, fun wh hSw => ?_⟩) hHeld ?_
          · (obtain ⟨⟨s0, s1, s2, s3⟩, t0, t1, t2, t3⟩ := hSw; simp only [Nat.zero_add] at t0 t1 t2 t3; go_simp)
          try simp only [Act.put, List.setIfInBounds_toArray, List.set_cons_zero, List.set_cons_succ]
          refine wpAnyH_take (i := 3) (oi := { dst := some 63, op := .load 25 (.tmp 62), type := _, pos := _, after := _, guard := none }) (v := cvV y) rfl (by kernel_rfl) (by kernel_rfl) (by kernel_rfl) (fun _ _ _ h => h) (Or.inl ⟨by rfl, fun wh hSw => ?_⟩) hHeld ?_
          · (obtain ⟨⟨s0, s1, s2, s3⟩, t0, t1, t2, t3⟩ := hSw; simp only [Nat.zero_add] at t0 t1 t2 t3; go_simp)
          try simp only [Act.put, List.setIfInBounds_toArray, List.set_cons_zero, List.set_cons_succ]
          refine wpAnyH_take (i := 4) (oi := { dst := some 64, op := .load 25 (.tmp 6), type := _, pos := _, after := _, guard := none }) (v := .agg #[.int .i64 xe, .int .i64 xp, .int .i64 xf, .bool xb]) rfl (by kernel_rfl) (by kernel_rfl) (by kernel_rfl) (fun _ _ _ h => h) (Or.inl ⟨by rfl, fun wh hSw => ?_⟩) hHeld ?_
          · (obtain ⟨⟨s0, s1, s2, s3⟩, t0, t1, t2, t3⟩ := hSw; simp only [Nat.zero_add] at t0 t1 t2 t3; go_simp)
          try simp only [Act.put, List.setIfInBounds_toArray, List.set_cons_zero, List.set_cons_succ]
          refine wpAnyH_take (i := 5) (oi := { dst := some 65, op := .binOp .eql 25 (.tmp 63) (.tmp 64) 25, type := _, pos := _, after := _, guard := none }) (v := .bool false) rfl (by kernel_rfl) (by kernel_rfl) (by kernel_rfl) (fun _ _ _ h => h) (Or.inl ⟨by rfl, fun wh hSw => ?_⟩) hHeld ?_
          · (go_simp; exact fun h1 h2 h3 h4 => hE (cv_ext.2 ⟨h1, h2, h3, h4⟩))
          try simp only [Act.put, List.setIfInBounds_toArray, List.set_cons_zero, List.set_cons_succ]
          refine wpAnyH_done (by kernel_rfl) ?_ _
          go_wp2_with fail
          go_roundw
          case rel => exact ⟨k + 1, by omega, by go_num, Lib.hid HBW.out.drew, HN2⟩
          case measure => simp [intOf]; omega
      · exfalso
        obtain ⟨j, hj, e⟩ := List.getElem_of_mem HMEM.out
        exact HNE.out j (by have := HM.out; omega) (by rw [getD_lt hj]; exact e)
end Go.Proofs.Ytklclcbhghjjfaa
