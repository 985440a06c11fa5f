/- What the proofs stand on, part 4. -/
import Derived.Test.YtcmmlgdfhkcmoaaGreatRows
import Derived.Test.YtcmmlgdfhkcmoaaGreatKe1
import Derived.Test.YtcmmlgdfhkcmoaaGreatKe2
import Derived.Test.YtcmmlgdfhkcmoaaGreatKe3
set_option linter.unusedSimpArgs false
set_option linter.unusedVariables false
namespace Go.Proofs.YtcmmlgdfhkcmoaaGreat
open Go.ChangeShapes Go.WideShapes Go.ChangeAt Go.RowKit
set_option linter.unusedVariables false
set_option maxRecDepth 100000
set_option linter.unusedSimpArgs false
set_option maxRecDepth 100000 in
set_option maxHeartbeats 2000000 in
theorem push_any (w : World) (b : Nat) (l : List CV) (x : CV) (h : RL w b l) :
    Calls Tryz.prog 169 #[.pointer (some ⟨b, 0, none⟩), cvV x] w (PushR w b (rput l x)) := by
  obtain ⟨A, f, c, h, hf, hc4, hl⟩ := h
  have HLI := Lib.hid hl
  clear hl
  obtain ⟨xe, xp, xf, xb⟩ := x
  obtain ⟨R, HR⟩ : ∃ R, Hid (R = PushR w b (rput l ⟨xe, xp, xf, xb⟩)) := ⟨_, Lib.hid rfl⟩
  rw [← HR.out]
  have HSL := Lib.hid (fun w k hk => slot_any w A f c k hf hk)
  unfold ringV at HSL
  obtain ⟨L, hL⟩ : ∃ L, L = ringC A f c := ⟨_, rfl⟩
  have HLL : Hid (L.length = 18) := Lib.hid (by rw [hL]; rfl)
  rw [← hL] at HSL
  have HL := Lib.hid hL
  clear hL
  obtain ⟨k, hk⟩ : ∃ k, k = (f + c) % 4 := ⟨_, rfl⟩
  have HKE := Lib.hid hk
  have HK4 : Hid (k < 4) := Lib.hid (by omega)
  have HRG := Lib.hid h
  have hbl := h.lt
  clear h hk
  go_enter Tryz.func169, Tryz.ntmps169
  go_wp2_with fail
  obtain ⟨X, hX⟩ : ∃ X, w.heap.size = X := ⟨_, rfl⟩
  obtain ⟨wA, hwA⟩ : ∃ wA, w.alloc (.cells #[.int .i64 xe, .int .i64 xp, .int .i64 xf, .bool xb] 55) = wA := ⟨_, rfl⟩
  have HRA : Hid (Ring wA b A f c) := Lib.hid (by rw [← hwA]; exact HRG.out.block (heap_alloc_old w _ hbl))
  have HFX : Hid (Four wA X 0 ⟨xe, xp, xf, xb⟩) := Lib.hid (by rw [← hwA, ← hX]; exact four_alloc w ⟨xe, xp, xf, xb⟩ _)
  have HXS : Hid (X < wA.heap.size) := Lib.hid (by rw [← hwA, ← hX]; simp)
  have HBX : Hid (b < X) := Lib.hid (by rw [← hX]; exact hbl)
  have HCA : Hid (Chg b (b + 1) w wA) := Lib.hid (by rw [← hwA]; exact Chg.of_bel ((Below.refl _ _).alloc (Nat.le_refl _) _))
  simp only [hX, hwA]
  clear hX hwA hbl
  refine wp_region_held_drew (S := fun w' => (w'.cell? ⟨b, 16, none⟩ = some (.int .i64 f) ∧ w'.cell? ⟨b, 17, none⟩ = some (.int .i64 c)) ∧ Four w' X 0 ⟨xe, xp, xf, xb⟩) (by kernel_rfl) ⟨⟨HRA.out.cf, HRA.out.cc⟩, HFX.out.drew⟩ (fun hHeld => ?_)
  refine wpAnyH_take (i := 0) (oi := { dst := some 4, op := .move (.tmp 0), type := _, pos := _, after := _, guard := none }) (v := .pointer (some ⟨b, 0, none⟩)) rfl (by kernel_rfl) (by kernel_rfl) (by kernel_rfl) (fun _ _ _ h => h) (Or.inl ⟨by rfl, fun wh hSw => ?_⟩) hHeld ?_
  · (obtain ⟨⟨t0, t1⟩, s0, s1, s2, s3⟩ := hSw; simp only [Nat.zero_add] at s0 s1 s2 s3; go_simp)
  try simp only [Act.put, List.setIfInBounds_toArray, List.set_cons_zero, List.set_cons_succ]
  refine wpAnyH_take (i := 1) (oi := { dst := some 5, op := .move (.tmp 0), type := _, pos := _, after := _, guard := none }) (v := .pointer (some ⟨b, 0, none⟩)) rfl (by kernel_rfl) (by kernel_rfl) (by kernel_rfl) (fun _ _ _ h => h) (Or.inl ⟨by rfl, fun wh hSw => ?_⟩) hHeld ?_
  · (obtain ⟨⟨t0, t1⟩, s0, s1, s2, s3⟩ := hSw; simp only [Nat.zero_add] at s0 s1 s2 s3; go_simp)
  try simp only [Act.put, List.setIfInBounds_toArray, List.set_cons_zero, List.set_cons_succ]
  refine wpAnyH_take (i := 2) (oi := { dst := some 6, op := .nilCheck (.tmp 5), type := _, pos := _, after := _, guard := none }) (v := .pointer (some ⟨b, 0, none⟩)) rfl (by kernel_rfl) (by kernel_rfl) (by kernel_rfl) (fun _ _ _ h => h) (Or.inl ⟨by rfl, fun wh hSw => ?_⟩) hHeld ?_
  · (obtain ⟨⟨t0, t1⟩, s0, s1, s2, s3⟩ := hSw; simp only [Nat.zero_add] at s0 s1 s2 s3; go_simp)
  try simp only [Act.put, List.setIfInBounds_toArray, List.set_cons_zero, List.set_cons_succ]
  refine wpAnyH_take (i := 4) (oi := { dst := some 8, op := .move (.tmp 0), type := _, pos := _, after := _, guard := none }) (v := .pointer (some ⟨b, 0, none⟩)) rfl (by kernel_rfl) (by kernel_rfl) (by kernel_rfl) (fun _ _ _ h => h) (Or.inl ⟨by rfl, fun wh hSw => ?_⟩) hHeld ?_
  · (obtain ⟨⟨t0, t1⟩, s0, s1, s2, s3⟩ := hSw; simp only [Nat.zero_add] at s0 s1 s2 s3; go_simp)
  try simp only [Act.put, List.setIfInBounds_toArray, List.set_cons_zero, List.set_cons_succ]
  refine wpAnyH_take (i := 5) (oi := { dst := some 9, op := .nilCheck (.tmp 8), type := _, pos := _, after := _, guard := none }) (v := .pointer (some ⟨b, 0, none⟩)) rfl (by kernel_rfl) (by kernel_rfl) (by kernel_rfl) (fun _ _ _ h => h) (Or.inl ⟨by rfl, fun wh hSw => ?_⟩) hHeld ?_
  · (obtain ⟨⟨t0, t1⟩, s0, s1, s2, s3⟩ := hSw; simp only [Nat.zero_add] at s0 s1 s2 s3; go_simp)
  try simp only [Act.put, List.setIfInBounds_toArray, List.set_cons_zero, List.set_cons_succ]
  refine wpAnyH_take (i := 6) (oi := { dst := some 10, op := .fieldAddr 99 (.tmp 9) 2, type := _, pos := _, after := _, guard := none }) (v := .pointer (some ⟨b, 17, none⟩)) rfl (by kernel_rfl) (by kernel_rfl) (by kernel_rfl) (fun _ _ _ h => h) (Or.inl ⟨by rfl, fun wh hSw => ?_⟩) hHeld ?_
  · (obtain ⟨⟨t0, t1⟩, s0, s1, s2, s3⟩ := hSw; simp only [Nat.zero_add] at s0 s1 s2 s3; go_simp)
  try simp only [Act.put, List.setIfInBounds_toArray, List.set_cons_zero, List.set_cons_succ]
  refine wpAnyH_take (i := 7) (oi := { dst := some 11, op := .load 3 (.tmp 10), type := _, pos := _, after := _, guard := none }) (v := .int .i64 (c : Int)) rfl (by kernel_rfl) (by kernel_rfl) (by kernel_rfl) (fun _ _ _ h => h) (Or.inl ⟨by rfl, fun wh hSw => ?_⟩) hHeld ?_
  · (obtain ⟨⟨t0, t1⟩, s0, s1, s2, s3⟩ := hSw; simp only [Nat.zero_add] at s0 s1 s2 s3; go_simp)
  try simp only [Act.put, List.setIfInBounds_toArray, List.set_cons_zero, List.set_cons_succ]
  refine wpAnyH_take (i := 9) (oi := { dst := some 13, op := .load 55 (.tmp 3), type := _, pos := _, after := _, guard := none }) (v := .agg #[.int .i64 xe, .int .i64 xp, .int .i64 xf, .bool xb]) rfl (by kernel_rfl) (by kernel_rfl) (by kernel_rfl) (fun _ _ _ h => h) (Or.inl ⟨by rfl, fun wh hSw => ?_⟩) hHeld ?_
  · (obtain ⟨⟨t0, t1⟩, s0, s1, s2, s3⟩ := hSw; simp only [Nat.zero_add] at s0 s1 s2 s3; go_simp)
  try simp only [Act.put, List.setIfInBounds_toArray, List.set_cons_zero, List.set_cons_succ]
  refine wpAnyH_take (i := 10) (oi := { dst := some 14, op := .nilCheck (.tmp 4), type := _, pos := _, after := _, guard := none }) (v := .pointer (some ⟨b, 0, none⟩)) rfl (by kernel_rfl) (by kernel_rfl) (by kernel_rfl) (fun _ _ _ h => h) (Or.inl ⟨by rfl, fun wh hSw => ?_⟩) hHeld ?_
  · (obtain ⟨⟨t0, t1⟩, s0, s1, s2, s3⟩ := hSw; simp only [Nat.zero_add] at s0 s1 s2 s3; go_simp)
  try simp only [Act.put, List.setIfInBounds_toArray, List.set_cons_zero, List.set_cons_succ]
  refine wpAnyH_take (i := 11) (oi := { dst := some 15, op := .fieldAddr 99 (.tmp 14) 0, type := _, pos := _, after := _, guard := none }) (v := .pointer (some ⟨b, 0, none⟩)) rfl (by kernel_rfl) (by kernel_rfl) (by kernel_rfl) (fun _ _ _ h => h) (Or.inl ⟨by rfl, fun wh hSw => ?_⟩) hHeld ?_
  · (obtain ⟨⟨t0, t1⟩, s0, s1, s2, s3⟩ := hSw; simp only [Nat.zero_add] at s0 s1 s2 s3; go_simp)
  try simp only [Act.put, List.setIfInBounds_toArray, List.set_cons_zero, List.set_cons_succ]
  refine wpAnyH_ready (rs := [3]) (by kernel_rfl) (by simp) ?_
  refine AllReadyH.cons (o := { dst := some 7, op := .load 99 (.tmp 6), type := _, pos := _, after := _, guard := none }) rfl (fun K hK => ?_) AllReadyH.nil
  rw [if_pos (by rfl)]
  refine wp_load_mid 99 (.tmp 6) rfl b 0 rfl L _ (by rw [HL.out]; exact HRA.out.drew.range) Tryz.underlying99 rfl (ring_info HLL.out) ?_
  refine hK.out _ _ ?_ (fun hHeld => ?_)
  · exact hHeld
  clear hK K
  try simp only [Act.put, List.setIfInBounds_toArray, List.set_cons_zero, List.set_cons_succ]
  refine wpAnyH_ready (rs := [8]) (by kernel_rfl) (by simp) ?_
  refine AllReadyH.cons (o := { dst := some 12, op := .call { callee := .value (.func 166), args := #[.tmp 7, .tmp 11], argTypes := #[242, 3] }, type := _, pos := _, after := _, guard := none }) rfl (fun K hK => ?_) AllReadyH.nil
  go_simp
  refine (HSL.out _ c (by omega)).mono ?_
  rintro en w4 ⟨rfl, hb4⟩
  rw [← HKE.out]
  have HB4 := Lib.hid hb4
  have HR4 : Hid (Ring w4 b A f c) := Lib.hid (HRA.out.drew.block (hb4.block _ HRA.out.drew.lt))
  have HF4 : Hid (Four w4 X 0 ⟨xe, xp, xf, xb⟩) := Lib.hid (HFX.out.drew.below hb4 HXS.out)
  clear hb4
  refine hK.out _ _ ?_ (fun hHeld => ?_)
  · exact ⟨⟨HR4.out.cf, HR4.out.cc⟩, HF4.out⟩
  clear hK K
  try simp only [Act.put, List.setIfInBounds_toArray, List.set_cons_zero, List.set_cons_succ]
  refine wpAnyH_take (i := 12) (oi := { dst := some 16, op := .indexAddr 97 (.tmp 15) (.tmp 12), type := _, pos := _, after := _, guard := none }) (v := .pointer (some ⟨b, k * 4, none⟩)) rfl (by kernel_rfl) (by kernel_rfl) (by kernel_rfl) (fun _ _ _ h => h) (Or.inl ⟨by rfl, fun wh hSw => ?_⟩) hHeld ?_
  · (go_simp; intro hh; have := HK4.out; omega)
  try simp only [Act.put, List.setIfInBounds_toArray, List.set_cons_zero, List.set_cons_succ]
  refine wpAnyH_ready (rs := [13]) (by kernel_rfl) (by simp) ?_
  refine AllReadyH.cons (o := { dst := none, op := .store 55 (.tmp 16) (.tmp 13), type := _, pos := _, after := _, guard := none }) rfl (fun K hK => ?_) AllReadyH.nil
  rw [if_pos (by rfl)]
  refine wp_store_mid 55 (.tmp 16) (.tmp 13) rfl b (k * 4) #[.int .i64 xe, .int .i64 xp, .int .i64 xf, .bool xb] rfl rfl (HR4.out.at4 k HK4.out).there (by kernel_rfl) (by simp [Value.oneCell']) ?_
  obtain ⟨w5, hw5⟩ : ∃ w5, w4.setCells b (k * 4) (cvC ⟨xe, xp, xf, xb⟩) = w5 := ⟨_, rfl⟩
  have HR5 : Hid (Ring w5 b (upd A k ⟨xe, xp, xf, xb⟩) f c) := Lib.hid (by rw [← hw5]; exact HR4.out.put HK4.out)
  have HC5 : Hid (Chg b (b + 1) w4 w5) := Lib.hid (by rw [← hw5]; exact chg_setCells _ _ _ _)
  have HF5 : Hid (Four w5 X 0 ⟨xe, xp, xf, xb⟩) := Lib.hid (HF4.out.below_chg HC5.out (by have := HBX.out; omega))
  change K _ (w4.setCells b (k * 4) (cvC ⟨xe, xp, xf, xb⟩))
  rw [hw5]
  clear hw5
  refine hK.out _ _ ?_ (fun hHeld => ?_)
  · exact ⟨⟨HR5.out.cf, HR5.out.cc⟩, HF5.out⟩
  clear hK K
  try simp only [Act.put, List.setIfInBounds_toArray, List.set_cons_zero, List.set_cons_succ]
  refine wpAnyH_done (by kernel_rfl) ?_ _
  have HC : Hid (Chg b (b + 1) w w5) := Lib.hid ((HCA.out.trans (Chg.trans (Chg.of_bel (Below.refl wA.heap.size wA).drew) (Chg.of_bel HB4.out))).trans HC5.out)
  clear HR4 HF4 HB4 HCA HC5 HF5 HRA HFX HXS HBX HRG HSL HL HLL
  obtain ⟨L2, hL⟩ : ∃ L2, L2 = ringC (upd A k ⟨xe, xp, xf, xb⟩) f c := ⟨_, rfl⟩
  have HLL : Hid (L2.length = 18) := Lib.hid (by rw [hL]; rfl)
  have HSL := Lib.hid (fun w => slot_any w (upd A k ⟨xe, xp, xf, xb⟩) f c 1 hf (by omega))
  unfold ringV at HSL
  rw [← hL] at HSL
  have HL := Lib.hid hL
  clear hL
  have hcc := HR5.out.cc
  by_cases hc : c = 4
  · subst hc
    have hc' : (((4 : Nat) : Int) == 4) = true := rfl
    go_wp2_with (first | ((with_reducible refine load_is 99 (.tmp 24) ?_); refine load_arr 99 (.tmp 24) b 0 L2 _ rfl (by rw [HL.out]; exact HR5.out.range) Tryz.underlying99 rfl (ring_info HLL.out) ?_) | fail)
    refine (HSL.out _).mono ?_
    rintro en w6 ⟨rfl, hb6⟩
    obtain ⟨s, hs⟩ : ∃ s, s = (f + 1) % 4 := ⟨_, rfl⟩
    rw [← hs]
    have HSE := Lib.hid hs
    have HR6 : Hid (Ring w6 b (upd A k ⟨xe, xp, xf, xb⟩) f 4) := Lib.hid (HR5.out.block (hb6.block _ HR5.out.lt))
    have hcf6 := HR6.out.cf
    have hff6 := HR6.out.ff
    have HC6 : Hid (Chg b (b + 1) w w6) := Lib.hid (HC.out.trans (Chg.of_bel hb6))
    clear hs hb6 hcc
    go_wp2
    go_returns
    rw [HR.out]
    refine ⟨rfl, ⟨_, _, _, HR6.out.setF s, by rw [HSE.out]; omega, by omega, ?_⟩, HC6.out.trans (chg_setCell _ _ _ _)⟩
    rw [← HLI.out, HSE.out, HKE.out]
    unfold rput
    rw [rlist_len, if_pos (by omega), show (f + 4) % 4 = f by omega]
    exact push_full A f _ hf
  · have hc3 : c < 4 := by omega
    have hc' : ((c : Int) == 4) = false := by simp; omega
    have hfc := HR5.out.fc
    go_wp2
    go_returns
    rw [HR.out]
    refine ⟨rfl, ⟨_, _, _, HR5.out.setC (c + 1), hf, by omega, ?_⟩, HC.out.trans (chg_setCell _ _ _ _)⟩
    rw [← HLI.out, HKE.out]
    unfold rput
    rw [rlist_len, if_neg (by omega)]
    exact push_room A f c _ hf hc3
end Go.Proofs.YtcmmlgdfhkcmoaaGreat
namespace Go.Proofs.YtcmmlgdfhkcmoaaGreat
open Go.ChangeShapes Go.WideShapes Go.ChangeAt Go.RowKit
set_option linter.unusedVariables false
set_option maxRecDepth 100000
set_option linter.unusedSimpArgs false
def kept (l : List CV) (p : CV → Bool) : List CV := l.filter (fun y => !p y)
theorem rput_room {l : List CV} {x : CV} (h : l.length < 4) : rput l x = l ++ [x] := by unfold rput; rw [if_neg (by omega)]
theorem RL.zero {w : World} {b : Nat} (h : Ring w b A0 0 0) : RL w b [] := ⟨A0, 0, 0, h, by omega, by omega, rfl⟩
theorem RL.block {w w' : World} {b : Nat} {l : List CV} (h : RL w b l) (e : w'.heap[b]? = w.heap[b]?) : RL w' b l := by
  obtain ⟨A, f, c, h, hf, hc, hl⟩ := h
  exact ⟨A, f, c, h.block e, hf, hc, hl⟩
theorem RL.lt {w : World} {b : Nat} {l : List CV} (h : RL w b l) : b < w.heap.size := by
  obtain ⟨A, f, c, h, _⟩ := h
  exact h.lt
theorem RL.len {w : World} {b : Nat} {l : List CV} (h : RL w b l) : l.length ≤ 4 := by
  obtain ⟨A, f, c, h, _, hc, hl⟩ := h
  rw [← hl, rlist_len]
  exact hc
end Go.Proofs.YtcmmlgdfhkcmoaaGreat
namespace Go.Proofs.YtcmmlgdfhkcmoaaGreat
open Go.ChangeShapes Go.WideShapes Go.ChangeAt Go.RowKit
set_option linter.unusedVariables false
set_option maxRecDepth 100000
def ToIs (xs : List IV) (w : World) (e : Ending) (w' : World) : Prop :=
  ∃ v, e = .returned v ∧ IsW w' w.heap.size w'.heap.size v xs ∧ Below w.heap.size w w' ∧ v = .slice (some ⟨w.heap.size, 0, none⟩) xs.length xs.length
set_option maxRecDepth 100000 in
theorem toInfo_any (w : World) (x : IV) : Calls Tryz.prog 154 #[ivV x] w fun e w' => e = .returned (ivV x) ∧ Below w.heap.size w w' := by
  obtain ⟨xk, xg, xr⟩ := x
  go_enter Tryz.func154, Tryz.ntmps154
  go_wp2
  refine bodyPost_ret (results_cell_row rfl _ _ (w.heap.size + 1) 46 #[.int .i64 xk, .string ⟨xg.toArray⟩, .int .i64 xr] (0, 0) _ rfl (by
    have h := heap_alloc_new (w.alloc (.cells #[.int .i64 xk, .string ⟨xg.toArray⟩, .int .i64 xr] 197)) (.cells #[.int .i64 xk, .string ⟨xg.toArray⟩, .int .i64 xr] 46)
    rw [World.size_alloc] at h
    exact (Below.heap_alloc _ _ _ (by simp)).trans h) Tryz.underlying46 rfl (by kernel_rfl)) rfl ?_
  exact ⟨rfl, (((Below.refl _ _).alloc (Nat.le_refl _) _).alloc (by simp) _).alloc (by simp; omega) _⟩
def part3 (xs : List IV) (k i : Nat) : IV := if i < k then xs.getD i iz else iz
set_option maxRecDepth 100000 in
set_option maxHeartbeats 1000000 in
theorem toInfoS_any (w : World) (v : Value) (xs : List IV) (h : Is w v xs) (hn : xs.length ≤ 1048576) :
    Calls Tryz.prog 97 #[v] w (ToIs xs w) := by
  obtain ⟨i0, hi, hz0, hz1, hz2⟩ := info_parts ivInfo
  have HI := Lib.hid hi
  have HZ0 := Lib.hid hz0
  have HZ1 := Lib.hid hz1
  have HZ2 := Lib.hid hz2
  clear hi hz0 hz1 hz2
  obtain ⟨a, ca, rfl, hla, hma, hxa⟩ := h
  unfold maxLen at hma
  obtain ⟨n, hN⟩ : ∃ n, n = xs.length := ⟨_, rfl⟩
  have HXA := Lib.hid hxa
  rw [← hN] at hla hn ⊢
  have HN := Lib.hid hN
  clear hN hxa
  go_enter Tryz.func97, Tryz.ntmps97
  go_wp2_with (at_make; refine wpList_make_full _ rfl (.tmp 6) (.tmp 6) 26 rfl w.heap.size 46 i0 (.agg #[.int .i64 0, .string ⟨#[]⟩, .int .i64 0]) 3 Tryz.underlying26 HI.out HZ0.out HZ1.out .i64 .i64 _ _ n rfl rfl rfl rfl (by rw [HZ2.out]; omega) (by unfold maxLen; omega) (Nat.le_refl _) ?_; intro w1 hown hg)
  have HST : Hid (∀ i, i < n → TriW w1 w.heap.size (0 + i * 3) (part3 xs 0 i)) := Lib.hid (fun i hi => by
    have hc : ∀ j v, j < 3 → (#[Value.int .i64 0, .string ⟨#[]⟩, .int .i64 0] : Array Value)[j]? = some v → w1.cell? ⟨w.heap.size, 0 + i * 3 + j, none⟩ = some v := fun j v hj hv => by
      have := hown.cells (g := w.heap.size) rfl (i * 3 + j) v (by
        rw [Array.getElem?_toList]
        unfold madeCells
        rw [Array.getElem?_map, Array.getElem?_range, if_pos (by omega)]
        simp only [Option.map_some, Value.cells]
        rw [← hv]
        have e : (i * 3 + j) % 3 = j := by omega
        simp only [List.size_toArray, List.length_cons, List.length_nil, e]
        obtain rfl | rfl | rfl : j = 0 ∨ j = 1 ∨ j = 2 := by omega
        all_goals simp)
      rw [add0] at this
      rw [Nat.zero_add]
      exact this
    exact ⟨⟨hc 0 _ (by omega) rfl, hc 1 _ (by omega) rfl, hc 2 _ (by omega) rfl⟩, fun j _ => hown.frozenAt _⟩)
  have HB1 : Hid (Below w.heap.size w w1) := Lib.hid ((Below.refl _ _).grown hg (Nat.le_refl _) (fun k e => by cases e))
  have HS1 : Hid (w.heap.size < w1.heap.size) := Lib.hid (hown.lt _ rfl).2
  clear hown hg
  go_loopw [4] (fun i wr => ∃ k : Nat, k ≤ n ∧ i = .int .i64 k ∧ Hid (Below w.heap.size w wr) ∧ Hid (w.heap.size < wr.heap.size) ∧ Hid (∀ i, i < n → TriW wr w.heap.size (0 + i * 3) (part3 xs k i))) (fun i _ => n - (intOf i).toNat)
  case atStart => exact ⟨0, Nat.zero_le _, rfl, HB1, HS1, HST⟩
  case round =>
    obtain ⟨k, hk, rfl, HBW, HSW, HFW⟩ := hrel
    by_cases hlt : k < n
    · obtain ⟨b, o, rfl, hf0⟩ := HXA.out k (by have := HN.out; omega)
      obtain ⟨x, hx⟩ : ∃ x, x = xs.getD k iz := ⟨_, rfl⟩
      rw [← hx] at hf0
      have hbl := block_lt_of_cell hf0.c0
      obtain ⟨g0, g1, g2⟩ := hf0.below HBW.out hbl
      have HX := Lib.hid hx
      have HC := Lib.hid (toInfo_any wr x)
      have hlt' : (k : Int) < (n : Int) := by omega
      clear hx hf0
      go_wp2_with fail
      refine HC.out.mono ?_
      rintro e w2 ⟨rfl, hb2⟩
      have HB2 := Lib.hid (HBW.out.trans (hb2.mono HBW.out.size))
      have HS2 : Hid (w.heap.size < w2.heap.size) := Lib.hid (Nat.lt_of_lt_of_le HSW.out hb2.size)
      have HF2 : Hid (∀ i, i < n → TriW w2 w.heap.size (0 + i * 3) (part3 xs k i)) := Lib.hid (fun i hi => (HFW.out i hi).block (hb2.block _ HSW.out))
      have HT : Hid (w2.there w.heap.size (k * 3) 3) := Lib.hid (by
        have h := HF2.out k hlt
        rw [Nat.zero_add] at h
        exact h.there)
      clear hb2
      go_wp2_with ((with_reducible refine store_is 46 (.tmp 21) (.tmp 20) ?_); refine store_arr 46 (.tmp 21) (.tmp 20) w.heap.size (k * 3) #[.int .i64 x.k, .string ⟨x.g.toArray⟩, .int .i64 x.r] rfl rfl HT.out (by kernel_rfl) (by simp [Value.oneCell']) ?_)
      go_roundw
      case rel =>
        refine ⟨k + 1, by omega, by go_num, Lib.hid (Below.setCells HB2.out _ (Nat.le_refl _) _ _ _ HB2.out), Lib.hid (by rw [size_setCells]; exact HS2.out), Lib.hid (fun i hi => ?_)⟩
        by_cases hik : i = k
        · subst hik
          have e : part3 xs (i + 1) i = x := by unfold part3; rw [if_pos (by omega), HX.out]
          rw [e, Nat.zero_add]
          exact TriW.stored HT.out
        · have e : part3 xs (k + 1) i = part3 xs k i := by
            unfold part3
            by_cases h : i < k
            · rw [if_pos h, if_pos (by omega)]
            · rw [if_neg h, if_neg (by omega)]
          rw [e]
          exact (HF2.out i hi).apart (.inr (by show 0 + i * 3 + 3 ≤ k * 3 ∨ k * 3 + 3 ≤ 0 + i * 3; omega))
      case measure => simp [intOf]; omega
    · have ek : k = n := by omega
      subst ek
      go_wp2
      go_ret
      refine ⟨_, rfl, ⟨some ⟨w.heap.size, 0, none⟩, k, by rw [← HN.out]; rfl, by rw [← HN.out]; exact Nat.le_refl _, by unfold maxLen; omega, fun i hi => ⟨w.heap.size, 0, rfl, Nat.le_refl _, HSW.out, ?_⟩⟩, HBW.out, congrArg (fun q => Value.slice (some ⟨w.heap.size, 0, none⟩) q q) HN.out⟩
      have h := HFW.out i (by have := HN.out; omega)
      have e : part3 xs k i = xs.getD i iz := by unfold part3; rw [if_pos (by have := HN.out; omega)]
      rwa [e] at h
end Go.Proofs.YtcmmlgdfhkcmoaaGreat
namespace Go.Proofs.YtcmmlgdfhkcmoaaGreat
open Go.ChangeShapes Go.WideShapes Go.ChangeAt Go.RowKit
set_option linter.unusedVariables false
set_option maxRecDepth 100000
abbrev IRV : Prop := ∀ (w : World) (s : Bs), s.length ≤ 2000000 → Calls Tryz.prog 74 #[.string ⟨s.toArray⟩] w (BRes (rv s) w)
end Go.Proofs.YtcmmlgdfhkcmoaaGreat
namespace Go.Proofs.YtcmmlgdfhkcmoaaGreat
open Go.ChangeShapes Go.WideShapes Go.ChangeAt Go.RowKit
set_option linter.unusedVariables false
set_option maxRecDepth 100000
def FitI (xs : List IV) : Prop := ∀ x ∈ xs, x.g.length ≤ maxLen
theorem FitI.at {xs : List IV} (h : FitI xs) (i : Nat) : (xs.getD i iz).g.length ≤ maxLen := by
  by_cases hi : i < xs.length
  · rw [getD_lt hi]; exact h _ (List.getElem_mem hi)
  · rw [List.getD, List.getElem?_eq_none (Nat.le_of_not_lt hi)]; exact Nat.zero_le _
def totalI (xs : List IV) : Nat := (xs.map (fun x => x.g.length)).sum
theorem totalI_snoc (xs : List IV) (k : Nat) (h : k < xs.length) : totalI (xs.take (k + 1)) = totalI (xs.take k) + (xs.getD k iz).g.length := by
  rw [take_snoc_getD xs k iz h]; simp [totalI]
theorem totalI_mem {xs : List IV} {x : IV} (h : x ∈ xs) : x.g.length ≤ totalI xs := by
  induction xs with
  | nil => cases h
  | cons y ys ih =>
    simp only [totalI, List.map_cons, List.sum_cons] at ih ⊢
    rcases List.mem_cons.1 h with e | h
    · subst e; omega
    · have := ih h; omega
def LeftI (xs : List IV) (left : Int) (w : World) (e : Ending) (w' : World) : Prop :=
  ∃ r : Int, (r < 0 ∨ (0 ≤ r ∧ r + xs.length + totalI xs = left)) ∧ e = .returned (.int .i64 r) ∧ Below w.heap.size w w'
theorem leftI_neg {xs : List IV} {left : Int} {w w' : World} (h : Below w.heap.size w w') : LeftI xs left w (.returned (.int .i64 (-1))) w' := ⟨-1, .inl (by omega), rfl, h⟩
theorem szInfo_any (w : World) (x : IV) (left : Int) (hx : x.g.length ≤ maxLen) (h0 : 0 ≤ left) (h1 : left ≤ 1048576) :
    Calls Tryz.prog 151 #[ivV x, .int .i64 left] w fun e w' => e = .returned (.int .i64 (if (x.g.length : Int) ≤ left then left - x.g.length else -1)) ∧ Below w.heap.size w w' := by
  obtain ⟨xk, xg, xr⟩ := x
  unfold maxLen at hx
  dsimp only at hx ⊢
  by_cases hc : (xg.length : Int) ≤ left
  · rw [if_pos hc]
    have hc' : ¬ left - (xg.length : Int) < 0 := by omega
    go_enter Tryz.func151, Tryz.ntmps151
    go_wp2
    go_ret
    exact ⟨rfl, (Below.refl _ _).alloc (Nat.le_refl _) _⟩
  · rw [if_neg hc]
    have hc' : left - (xg.length : Int) < 0 := by omega
    go_enter Tryz.func151, Tryz.ntmps151
    go_wp2
    go_ret
    exact ⟨rfl, (Below.refl _ _).alloc (Nat.le_refl _) _⟩
theorem szInfoS_any (w : World) (v : Value) (xs : List IV) (left : Int) (h : Is w v xs) (hf : FitI xs) (h0 : 0 ≤ left) (h1 : left ≤ 1048576) :
    Calls Tryz.prog 93 #[v, .int .i64 left] w (LeftI xs left w) := by
  obtain ⟨a, ca, rfl, hla, hma, hxa⟩ := h
  unfold maxLen at hma
  obtain ⟨n, hN⟩ : ∃ n, n = xs.length := ⟨_, rfl⟩
  rw [← hN] at hla hxa ⊢
  have HN := Lib.hid hN
  have HF := Lib.hid hf
  have HX := Lib.hid hxa
  clear hN hf hxa
  by_cases hneg : left < (n : Int)
  · have hneg' : left - (n : Int) < 0 := by omega
    go_enter Tryz.func93, Tryz.ntmps93
    go_wp2
    go_ret
    exact leftI_neg (Below.refl _ _)
  · have hpos : ¬ left - (n : Int) < 0 := by omega
    go_enter Tryz.func93, Tryz.ntmps93
    go_wp2
    go_loopw [1, 5] (fun l i wr => ∃ (k : Nat) (r : Int), k ≤ n ∧ i = .int .i64 k ∧ l = .int .i64 r ∧ 0 ≤ r ∧ r ≤ 1048576 ∧ Hid (r + n + totalI (xs.take k) = left) ∧ Hid (Below w.heap.size w wr)) (fun _ i _ => n - (intOf i).toNat)
    case atStart => exact ⟨0, left - n, Nat.zero_le _, rfl, rfl, by omega, by omega, Lib.hid (by simp [totalI]), Lib.hid (Below.refl _ _)⟩
    case round =>
      obtain ⟨k, r, hk, rfl, rfl, hr0, hr1, HT, HB⟩ := hrel
      by_cases hlt : k < n
      · obtain ⟨b, o, rfl, hc⟩ := HX.out k hlt
        have hc1 := hc.below HB.out hc.lt
        have HSZ := Lib.hid (fun w => szInfo_any w (xs.getD k iz) r (HF.out.at k) hr0 hr1)
        have HTT := Lib.hid (totalI_snoc xs k (by have := HN.out; omega))
        generalize xs.getD k iz = x at hc hc1 HSZ HTT
        have HXC := Lib.hid hc1
        obtain ⟨c0, c1, c2⟩ := hc1
        have hlt' : (k : Int) < (n : Int) := by omega
        clear hc
        by_cases hng : (x.g.length : Int) ≤ r
        · rw [if_pos hng] at HSZ
          have hrn : ¬ r - (x.g.length : Int) < 0 := by omega
          go_wp2_with fail
          refine (HSZ.out wr).mono ?_
          rintro e w1 ⟨rfl, hb1⟩
          have B1 := Lib.hid (HB.out.trans (hb1.mono HB.out.size))
          clear hb1
          go_wp2
          go_roundw
          case rel => exact ⟨k + 1, r - x.g.length, by omega, by go_num, rfl, by omega, by omega, Lib.hid (by have h1 := HT.out; have h2 := HTT.out; omega), B1⟩
          case measure => simp [intOf]; omega
        · rw [if_neg hng] at HSZ
          go_wp2_with fail
          refine (HSZ.out wr).mono ?_
          rintro e w1 ⟨rfl, hb1⟩
          have B1 := Lib.hid (HB.out.trans (hb1.mono HB.out.size))
          clear hb1
          go_wp2
          go_ret
          exact leftI_neg B1.out
      · go_wp2
        go_ret
        have e : k = n := by omega
        subst e
        exact ⟨r, .inr ⟨hr0, by have h1 := HT.out; rw [take_all HN.out] at h1; rw [← HN.out]; exact h1⟩, rfl, HB.out⟩
end Go.Proofs.YtcmmlgdfhkcmoaaGreat
namespace Go.Proofs.YtcmmlgdfhkcmoaaGreat
open Go.ChangeShapes Go.WideShapes Go.ChangeAt Go.RowKit Go.Maps
set_option linter.unusedVariables false
set_option maxRecDepth 100000
def pairT {H : Type} (s : Bs) : Lit × DataW H := (.string s, .lit (.bool true))
def SetIs {H : Type} (D : DataW H) (xs : List Bs) : Prop := ∃ es, D = .map es ∧ es.Perm (xs.map pairT) ∧ xs.Nodup
variable {H : Type} {D : DataW H} {xs ys : List Bs}
theorem SetIs.none : SetIs (.map [] : DataW H) [] := ⟨[], rfl, List.Perm.nil, List.nodup_nil⟩
theorem SetIs.size (h : SetIs D xs) : Maps.size D = xs.length := by
  obtain ⟨es, rfl, hp, _⟩ := h
  rw [Maps.size_eq, hp.length_eq, List.length_map]
theorem pairs_any (xs : List Bs) (s : Bs) : (xs.map (pairT (H := H))).any (fun p => p.1.sameKey (.string s)) = decide (s ∈ xs) := by
  rw [Bool.eq_iff_iff, List.any_eq_true, decide_eq_true_eq]
  constructor
  · rintro ⟨p, hp, hk⟩
    obtain ⟨t, ht, rfl⟩ := List.mem_map.1 hp
    have : (t == s) = true := hk
    rw [← eq_of_beq this]; exact ht
  · intro hs
    exact ⟨pairT s, List.mem_map.2 ⟨s, hs, rfl⟩, by show (s == s) = true; exact beq_self_eq_true s⟩
theorem perm_any {α : Type} {l l' : List α} (h : l.Perm l') (f : α → Bool) : l.any f = l'.any f := by
  rw [Bool.eq_iff_iff, List.any_eq_true, List.any_eq_true]
  exact ⟨fun ⟨x, hx, hf⟩ => ⟨x, h.mem_iff.1 hx, hf⟩, fun ⟨x, hx, hf⟩ => ⟨x, h.mem_iff.2 hx, hf⟩⟩
theorem SetIs.has (h : SetIs D xs) (s : Bs) : Maps.has D (.string s) = decide (s ∈ xs) := by
  obtain ⟨es, rfl, hp, _⟩ := h
  rw [Maps.has_eq, perm_any hp, pairs_any]
theorem SetIs.entry {es : List (Lit × DataW H)} (hp : es.Perm (xs.map pairT)) {p : Lit × DataW H} (hm : p ∈ es) : ∃ t ∈ xs, p = pairT t := by
  obtain ⟨t, ht, e⟩ := List.mem_map.1 (hp.mem_iff.1 hm)
  exact ⟨t, ht, e.symm⟩
theorem SetIs.atKey (h : SetIs D xs) (s : Bs) : D.atKey (.string s) (.lit (.bool false)) = .lit (.bool (decide (s ∈ xs))) := by
  have hh := h.has s
  obtain ⟨es, rfl, hp, _⟩ := h
  rw [Maps.has_eq] at hh
  unfold DataW.atKey
  cases hf : es.find? (fun p => p.1.sameKey (.string s)) with
  | none =>
    have : es.any (fun p => p.1.sameKey (.string s)) = false := by
      rw [Bool.eq_false_iff]
      intro ha
      obtain ⟨p, hp', hk⟩ := List.any_eq_true.1 ha
      exact (List.find?_eq_none.1 hf) p hp' hk
    rw [← hh, this]
    show (match es.find? (fun p => p.1.sameKey (.string s)) with | some p => p.2 | Option.none => DataW.lit (.bool false)) = _
    rw [hf]
  | some p =>
    have h1 := List.find?_some hf
    have h2 := List.mem_of_find?_eq_some hf
    obtain ⟨t, ht, rfl⟩ := SetIs.entry hp h2
    have : es.any (fun p => p.1.sameKey (.string s)) = true := List.any_eq_true.2 ⟨_, h2, h1⟩
    rw [← hh, this]
    show (match es.find? (fun p => p.1.sameKey (.string s)) with | some p => p.2 | Option.none => DataW.lit (.bool false)) = _
    rw [hf]
    rfl
theorem SetIs.put (h : SetIs D xs) {s : Bs} (hn : s ∉ xs) : SetIs (D.put (.string s) (.lit (.bool true))) (s :: xs) := by
  obtain ⟨es, rfl, hp, hd⟩ := h
  refine ⟨_, rfl, ?_, List.nodup_cons.2 ⟨hn, hd⟩⟩
  have hf : es.filter (fun p => !p.1.sameKey (.string s)) = es := by
    refine List.filter_eq_self.2 (fun p hm => ?_)
    obtain ⟨t, ht, rfl⟩ := SetIs.entry hp hm
    show (!(t == s)) = true
    have : t ≠ s := fun e => hn (e ▸ ht)
    simpa using this
  rw [hf, List.map_cons]
  exact (insert_perm _ _).trans (hp.cons _)
theorem SetIs.again (h : SetIs D xs) {s : Bs} (hn : s ∈ xs) : SetIs (D.put (.string s) (.lit (.bool true))) xs := by
  obtain ⟨es, rfl, hp, hd⟩ := h
  refine ⟨_, rfl, ?_, hd⟩
  have h1 : (es.filter (fun p => !p.1.sameKey (.string s))).Perm ((xs.map pairT).filter (fun p => !p.1.sameKey (.string s))) := hp.filter _
  have h2 : (xs.map (pairT (H := H))).filter (fun p => !p.1.sameKey (.string s)) = (xs.erase s).map pairT := by
    rw [List.filter_map, hd.erase_eq_filter]
    rfl
  rw [h2] at h1
  refine ((insert_perm _ _).trans (h1.cons _)).trans ?_
  have h3 := ((List.perm_cons_erase hn).map (pairT (H := H))).symm
  rw [List.map_cons] at h3
  exact h3
theorem SetIs.perm (h : SetIs D xs) (hp : xs.Perm ys) : SetIs D ys := by
  obtain ⟨es, rfl, h1, h2⟩ := h
  exact ⟨es, rfl, h1.trans (hp.map _), hp.nodup_iff.1 h2⟩
end Go.Proofs.YtcmmlgdfhkcmoaaGreat
namespace Go.Proofs.YtcmmlgdfhkcmoaaGreat
open Go.ChangeShapes Go.WideShapes Go.ChangeAt Go.RowKit Go.Maps
set_option linter.unusedVariables false
set_option maxRecDepth 100000
theorem keyS : Keyed Tryz.prog 9 := string_keyed Tryz.underlying9
def SetAt (w : World) (b : Nat) (xs : List Bs) : Prop := ∃ n D, n ≤ 1000 ∧ w.ownsMap (H := Unit) Tryz.prog 9 (plainElem Tryz.prog 4) b n D ∧ SetIs D xs
theorem SetAt.kept {w w' : World} {b : Nat} {xs : List Bs} {row : Option Nat} (h : SetAt w b xs) (hg : w.grownBy w' row) (hne : some b ≠ row) : SetAt w' b xs := by
  obtain ⟨n, D, hn, ho, hs⟩ := h
  exact ⟨n, D, hn, ho.kept hg hne, hs⟩
theorem SetAt.below {w w' : World} {b : Nat} {xs : List Bs} (h : SetAt w b xs) (hb : Below w.heap.size w w') : SetAt w' b xs :=
  h.kept (row := none) ⟨hb.os, hb.tape, hb.output, hb.size, fun i hi _ => hb.block i hi⟩ (by simp)
theorem SetAt.lt {w : World} {b : Nat} {xs : List Bs} (h : SetAt w b xs) : b < w.heap.size := by
  obtain ⟨n, D, hn, ho, hs⟩ := h
  exact ho.lt
theorem SetAt.perm {w : World} {b : Nat} {xs ys : List Bs} (h : SetAt w b xs) (hp : xs.Perm ys) : SetAt w b ys := by
  obtain ⟨n, D, hn, ho, hs⟩ := h
  exact ⟨n, D, hn, ho, hs.perm hp⟩
end Go.Proofs.YtcmmlgdfhkcmoaaGreat
namespace Go.Proofs.YtcmmlgdfhkcmoaaGreat
open Go.ChangeShapes Go.WideShapes Go.ChangeAt Go.RowKit Go.Maps
set_option linter.unusedVariables false
set_option maxRecDepth 100000
theorem conv_bytes (w : World) (s : Bs) : ∃ cap wA, (convert 9 22 (.string ⟨s.toArray⟩)).run Tryz.prog w = .ok (.slice (some ⟨w.heap.size, 0, none⟩) s.length cap) wA ∧
    Below w.heap.size w wA ∧ ∀ j (hj : j < s.length), wA.cell? ⟨w.heap.size, j, none⟩ = some (.int .u8 (s[j].toNat : Int)) := by
  refine ⟨_, _, run_bytes_of_string w _ _ _ _ Tryz.underlying9 Tryz.underlying22 Tryz.underlying5, ?_, fun j hj => ?_⟩
  · have := (Below.refl w.heap.size w).drew.alloc (Nat.le_refl _) (.cells (bytesRow ⟨s.toArray⟩ (grownCap w s.length 0 5)) 5 ((bytesRow ⟨s.toArray⟩ (grownCap w s.length 0 5)).size, (bytesRow ⟨s.toArray⟩ (grownCap w s.length 0 5)).size + 1))
    exact this
  · have h1 := World.cell?_alloc_mark w.drew (bytesRow ⟨s.toArray⟩ (grownCap w s.length 0 5)) 5 ((bytesRow ⟨s.toArray⟩ (grownCap w s.length 0 5)).size, (bytesRow ⟨s.toArray⟩ (grownCap w s.length 0 5)).size + 1) j
    refine h1.trans ?_
    rw [bytesRow_at ⟨s.toArray⟩ _ j (by simpa using hj)]
    rfl
theorem irv_any : IRV := by
  intro w s hs
  have hsl : (s.length : Int) ≤ 2000000 := by omega
  by_cases h4 : 4 < s.length
  · have h4' : (4 : Int) < (s.length : Int) := by omega
    have HR : Hid (rv s = false) := Lib.hid (by rw [Bool.eq_false_iff]; intro h; have := rv_len h; omega)
    rw [HR.out]
    go_enter Tryz.func74, Tryz.ntmps74
    go_wp2_with fail
    go_ret
    exact ⟨rfl, Below.refl _ _⟩
  have h4' : ¬ (4 : Int) < (s.length : Int) := by omega
  obtain ⟨cap, wA, hcv, hbA, hcA⟩ := conv_bytes w s
  have HRV := Lib.hid (fun h => okTo_all (s := s) (k := s.length) h rfl)
  have HCA := Lib.hid hcA
  have HBA := Lib.hid hbA
  clear hcA hbA
  go_enter Tryz.func74, Tryz.ntmps74
  go_wp2
  go_loop [11] (fun i => ∃ k : Nat, k ≤ s.length ∧ i = .int .i64 k ∧ Hid (okTo s k)) (fun i => s.length - (intOf i).toNat)
  case atStart => exact ⟨0, Nat.zero_le _, rfl, Lib.hid (fun b hb => by simp at hb)⟩
  case round =>
    obtain ⟨k, hk, rfl, HT⟩ := hrel
    by_cases hks : k < s.length
    · have hlt' : (k : Int) < (s.length : Int) := by omega
      have HB := Lib.hid (@lok_iff s[k])
      have hcell := HCA.out k hks
      obtain ⟨x, hx⟩ : ∃ x, x = s[k].toNat := ⟨_, rfl⟩
      rw [← hx] at hcell HB
      clear hx
      have HR := Lib.hid (fun h => rv_bad hks h)
      have HO := Lib.hid (fun h => okTo_succ HT.out hks h)
      by_cases h1 : x < 97
      · have h1' : (x : Int) < 97 := by omega
        go_wp2
        go_ret
        exact ⟨by rw [HR.out (by rw [Bool.eq_false_iff]; intro h; have := HB.out.1 h; omega)]; rfl, HBA.out⟩
      · by_cases h2 : 99 < x
        · have h1' : ¬ (x : Int) < 97 := by omega
          have h2' : (99 : Int) < (x : Int) := by omega
          go_wp2
          go_ret
          exact ⟨by rw [HR.out (by rw [Bool.eq_false_iff]; intro h; have := HB.out.1 h; omega)]; rfl, HBA.out⟩
        · have h1' : ¬ (x : Int) < 97 := by omega
          have h2' : ¬ (99 : Int) < (x : Int) := by omega
          go_wp2
          go_round
          case rel => exact ⟨k + 1, by omega, by go_num, Lib.hid (HO.out (HB.out.2 ⟨by omega, by omega⟩))⟩
          case measure => simp [intOf]; omega
    · go_wp2
      go_ret
      have e : k = s.length := by omega
      refine ⟨?_, HBA.out⟩
      rw [HRV.out (by rw [← e]; exact HT.out), decide_eq_true (by omega)]
      rfl
theorem short_max {x : Bs} (h : x.length ≤ 2000000) : x.length ≤ maxLen := by unfold maxLen; omega
end Go.Proofs.YtcmmlgdfhkcmoaaGreat
namespace Go.Proofs.YtcmmlgdfhkcmoaaGreat
open Go.ChangeShapes Go.WideShapes Go.ChangeAt Go.RowKit
set_option linter.unusedVariables false
set_option maxRecDepth 100000
theorem ibelow_any (w : World) (x n : Int) : Calls Tryz.prog 71 #[.int .i64 x, .int .i64 n] w (Says (inR x 0 (n - 1)) w) := by
  unfold inR
  by_cases h : 0 ≤ x ∧ x ≤ n - 1
  · rw [decide_eq_true h]
    obtain ⟨h1, h2⟩ := h
    have h3 : x < n := by omega
    go_enter Tryz.func71, Tryz.ntmps71
    go_wp2
    go_ret
    exact says_mk rfl
  · rw [decide_eq_false h]
    by_cases h1 : 0 ≤ x
    · have h2 : decide (x < n) = false := by simp; omega
      clear h
      go_enter Tryz.func71, Tryz.ntmps71
      go_wp2
      go_ret
      exact says_mk rfl
    · have h2 : decide (0 ≤ x) = false := by simpa using h1
      clear h
      go_enter Tryz.func71, Tryz.ntmps71
      go_wp2
      go_ret
      exact says_mk rfl
theorem iok_nz {x : IV} (h : x.k ≠ 0) : iok x = (inR x.k 0 3 && (rv x.g && inR x.r 0 50)) := by
  unfold iok
  rw [if_neg h]
  congr 1
  unfold inR
  rw [Bool.eq_iff_iff, decide_eq_true_eq, decide_eq_true_eq]
  omega
set_option maxRecDepth 100000 in
theorem ivalid1_any (w : World) (x : IV) (hx : x.g.length ≤ 2000000) : Calls Tryz.prog 117 #[ivV x] w (BRes (iok x) w) := by
  obtain ⟨xk, xg, xr⟩ := x
  have HB : Hid (Below w.heap.size w (w.alloc (.cells #[.int .i64 xk, .string ⟨xg.toArray⟩, .int .i64 xr] 46))) := Lib.hid ((Below.refl _ _).alloc (Nat.le_refl _) _)
  obtain ⟨r, hr⟩ : ∃ r, r = iok ⟨xk, xg, xr⟩ := ⟨_, rfl⟩
  rw [← hr]
  by_cases hk : xk = 0
  · subst hk
    have HR : Hid (r = decide ((⟨0, xg, xr⟩ : IV) = iz)) := Lib.hid (by rw [hr]; unfold iok; rw [if_pos rfl])
    clear hr
    by_cases hg : xg = []
    · subst hg
      by_cases hz : xr = 0
      · subst hz
        have HR2 : Hid (r = true) := Lib.hid (by rw [HR.out]; exact decide_eq_true rfl)
        clear HR
        go_enter Tryz.func117, Tryz.ntmps117
        go_wp2_with fail
        go_ret
        exact ⟨by rw [HR2.out]; rfl, HB.out⟩
      · have HR2 : Hid (r = false) := Lib.hid (by rw [HR.out]; exact decide_eq_false (fun hh => hz (iv_ext.1 hh).2.2))
        have e1 : (xr == 0) = false := by simpa using hz
        clear HR
        go_enter Tryz.func117, Tryz.ntmps117
        go_wp2_with fail
        go_ret
        exact ⟨by rw [HR2.out]; rfl, HB.out⟩
    · have HR2 : Hid (r = false) := Lib.hid (by rw [HR.out]; exact decide_eq_false (fun hh => hg (iv_ext.1 hh).2.1))
      have e1 : (xg == []) = false := by simpa using hg
      clear HR
      go_enter Tryz.func117, Tryz.ntmps117
      go_wp2_with fail
      go_ret
      exact ⟨by rw [HR2.out]; rfl, HB.out⟩
  · have hk' : (xk == 0) = false := by simpa using hk
    have HR : Hid (r = (inR xk 0 3 && (rv xg && inR xr 0 50))) := Lib.hid (by rw [hr]; exact iok_nz hk)
    have HI1 := Lib.hid (fun w => ibelow_any w xk 4)
    have HI2 := Lib.hid (fun w => ibelow_any w xr 51)
    have HV := Lib.hid (fun w => irv_any w xg hx)
    clear hr hk
    go_enter Tryz.func117, Tryz.ntmps117
    go_wp2_with fail
    refine (HI1.out _).mono ?_
    rintro e w' ⟨rfl, rfl⟩
    rw [show (4 : Int) - 1 = 3 from rfl]
    cases h1 : inR xk 0 3 with
    | false =>
      rw [h1] at HR
      clear h1
      go_wp2_with fail
      go_ret
      exact ⟨by rw [HR.out]; rfl, HB.out⟩
    | true =>
      rw [h1] at HR
      clear h1
      go_wp2_with fail
      refine (HV.out _).mono ?_
      rintro e w2 ⟨rfl, hb2⟩
      have B2 := Lib.hid (HB.out.trans (hb2.mono HB.out.size))
      obtain ⟨c0, c1, c2⟩ := (tri_new w ⟨xk, xg, xr⟩ 46).below hb2 (tri_new w ⟨xk, xg, xr⟩ 46).lt
      simp only [Nat.zero_add] at c0 c1 c2
      clear hb2
      cases h2 : rv xg with
      | false =>
        rw [h2] at HR
        clear h2
        go_wp2_with fail
        go_ret
        exact ⟨by rw [HR.out]; rfl, B2.out⟩
      | true =>
        rw [h2] at HR
        clear h2
        go_wp2_with fail
        refine (HI2.out _).mono ?_
        rintro e w' ⟨rfl, rfl⟩
        rw [show (51 : Int) - 1 = 50 from rfl]
        go_wp2_with fail
        go_ret
        exact ⟨by rw [HR.out]; rfl, B2.out⟩
end Go.Proofs.YtcmmlgdfhkcmoaaGreat
namespace Go.Proofs.YtcmmlgdfhkcmoaaGreat
open Go.ChangeShapes Go.WideShapes Go.ChangeAt Go.RowKit
set_option linter.unusedVariables false
set_option maxRecDepth 100000
def z12 : List IV := List.replicate 12 iz
theorem z12_len : z12.length = 12 := rfl
theorem zero_infos (w : World) : (zeroValue 96).run Tryz.prog w = .ok (.agg (isC z12).toArray) w := Tryz.zeroValue96 w
theorem size_info (w : World) : (sizeOf 46).run Tryz.prog w = .ok 3 w := Tryz.sizeOf46 w
theorem agg_info (w : World) : (isAgg 46).run Tryz.prog w = .ok true w := Tryz.isAgg46 w
theorem info_infos {n : Nat} (h : n = 36) : (Tryz.prog.info? 96).map (·.size) = some n := by subst h; kernel_rfl
theorem isC_all (xs : List IV) : (isC xs).toArray.all (·.oneCell') = true := all_oneCell_toArray (isC_one xs)
theorem isC_36 {xs : List IV} (h : xs.length = 12) : (isC xs).length = 36 := by rw [isC_len, h]
theorem isC_split (xs : List IV) {k : Nat} (hk : k < xs.length) : isC xs = isC (xs.take k) ++ (ivC (xs.getD k iz) ++ isC (xs.drop (k + 1))) := by
  have e : xs = xs.take k ++ ([xs.getD k iz] ++ xs.drop (k + 1)) := by
    rw [← List.append_assoc, ← take_snoc_getD xs k iz hk, List.take_append_drop]
  conv => lhs; rw [e]
  simp [isC]
theorem isC_extract (xs : List IV) {k : Nat} (hk : k < xs.length) : (isC xs).toArray.extract (k * 3) (k * 3 + 3) = (ivC (xs.getD k iz)).toArray := by
  have h1 : (isC (xs.take k)).length = k * 3 := by rw [isC_len, List.length_take]; omega
  rw [isC_split xs hk, List.extract_toArray, List.extract_eq_take_drop]
  congr 1
  rw [List.drop_append_of_le_length (by omega), List.drop_of_length_le (by omega), List.nil_append, List.take_append_of_le_length (by simp [ivC])]
  exact List.take_of_length_le (by simp [ivC])
theorem index_infos (xs : List IV) (hl : xs.length = 12) {k : Nat} (hk : k < 12) (W : World) : (Instr.index 96 (.agg (isC xs).toArray) (.int .i64 k)).run Tryz.prog W = .ok (ivV (xs.getD k iz)) W := by
  rw [run_index_arr (P := Tryz.prog) 96 12 46 3 Tryz.underlying96 agg_info size_info (isC xs).toArray k hk W, isC_extract xs (by omega)]
  rfl
theorem arrayAt_infos (W : World) (a : Option Addr) (cap : Nat) : (Instr.arrayAt 96 (.slice a 12 cap)).run Tryz.prog W = .ok (.pointer a) W := by
  unfold Instr.arrayAt
  rw [Sem.run_bind, run_underlying Tryz.underlying96]
  simp
def arrOf (xs : List IV) : List IV := if isok xs = true then xs else z12
theorem arrOf_ok {xs : List IV} (h : isok xs = true) : arrOf xs = xs := if_pos h
theorem arrOf_no {xs : List IV} (h : isok xs = false) : arrOf xs = z12 := by unfold arrOf; rw [h]; rfl
theorem arrOf_len (xs : List IV) : (arrOf xs).length = 12 := by
  unfold arrOf
  split
  · rename_i h; exact isok_len h
  · rfl
def ArrI (zs : List IV) (b : Bool) (w : World) (e : Ending) (w' : World) : Prop := e = .returned (.tuple #[.agg (isC zs).toArray, .bool b]) ∧ Below w.heap.size w w'
structure IRel (w : World) (xs : List IV) (k : Nat) (wr : World) : Prop where
  bel : Below w.heap.size w wr
  size : w.heap.size < wr.heap.size
  res : wr.there w.heap.size 0 36
  ok : ∀ i, i < k → iok (xs.getD i iz) = true
theorem IRel.start (w : World) (xs : List IV) (t : TypeId) : IRel w xs 0 (w.alloc (.cells (isC z12).toArray t)) :=
  ⟨(Below.refl _ _).alloc (Nat.le_refl _) _, by simp, there_row (heap_alloc_new w _) (by rw [List.size_toArray, isC_36 z12_len]; exact Nat.le_refl _), fun i hi => by omega⟩
theorem IRel.after {w wr w1 : World} {xs : List IV} {k : Nat} (h : IRel w xs k wr) (hb : Below wr.heap.size wr w1) : IRel w xs k w1 :=
  ⟨h.bel.trans (hb.mono (Nat.le_of_lt h.size)), by have := h.size; have := hb.size; omega, there_blocks h.res (hb.block _ h.size), h.ok⟩
theorem IRel.step {w wr : World} {xs : List IV} {k : Nat} (h : IRel w xs k wr) (hk : iok (xs.getD k iz) = true) : IRel w xs (k + 1) wr :=
  ⟨h.bel, h.size, h.res, fun i hi => by
    by_cases hik : i = k
    · subst hik; exact hk
    · exact h.ok i (by omega)⟩
end Go.Proofs.YtcmmlgdfhkcmoaaGreat
namespace Go.Proofs.YtcmmlgdfhkcmoaaGreat
open Go.ChangeShapes Go.WideShapes Go.ChangeAt Go.RowKit
set_option linter.unusedVariables false
set_option maxRecDepth 100000
set_option maxRecDepth 100000 in
set_option maxHeartbeats 1000000 in
theorem infosOf_any (w : World) (v : Value) (xs : List IV) (h : Is w v xs) (hs : ShortI xs) :
    Calls Tryz.prog 60 #[v] w (ArrI (arrOf xs) (isok xs) w) := by
  obtain ⟨a, ca, rfl, hla, hma, hxa⟩ := h
  unfold maxLen at hma
  obtain ⟨R, HRR⟩ : ∃ R : Ending → World → Prop, Hid (R = ArrI (arrOf xs) (isok xs) w) := ⟨_, Lib.hid rfl⟩
  rw [← HRR.out]
  obtain ⟨Z, hZ⟩ : ∃ Z, Z = (isC z12).toArray := ⟨_, rfl⟩
  have ZM := Lib.hid zero_infos
  have ZS : Hid (Z.size = 36) := Lib.hid (by rw [hZ, List.size_toArray, isC_36 z12_len])
  have ZO : Hid (Z.all (·.oneCell') = true) := Lib.hid (by rw [hZ]; exact isC_all _)
  have ZT := Lib.hid (IRel.start w xs)
  rw [← hZ] at ZM ZT
  have HZ := Lib.hid hZ
  clear hZ
  obtain ⟨n, hN⟩ : ∃ n, n = xs.length := ⟨_, rfl⟩
  rw [← hN] at hla ⊢
  have HN := Lib.hid hN
  have HX := Lib.hid hxa
  have HS := Lib.hid hs
  clear hN hxa hs
  by_cases hn : n = 12
  · subst hn
    have HAT := fun W => arrayAt_infos W a ca
    have HST := Lib.hid (ZT.out 96)
    obtain ⟨B, hB⟩ : ∃ B, B = w.heap.size := ⟨_, rfl⟩
    have HB := Lib.hid hB
    obtain ⟨w0, hw0⟩ : ∃ w0, w0 = w.alloc (.cells Z 96) := ⟨_, rfl⟩
    rw [← hw0] at HST
    go_enter Tryz.func60, Tryz.ntmps60
    go_wp2_with ((with_reducible refine alloc_is 96 ?_); refine alloc_arr 96 Z ZM.out ?_)
    rw [← hw0, ← hB]
    clear hw0 hB
    go_loopw [12] (fun i wr => ∃ k : Nat, k ≤ 12 ∧ i = .int .i64 k ∧ Hid (IRel w xs k wr)) (fun i _ => 12 - (intOf i).toNat)
    case atStart => exact ⟨0, Nat.zero_le _, rfl, HST⟩
    case round =>
      obtain ⟨k, hk, rfl, HRL⟩ := hrel
      by_cases hlt : k < 12
      · have hlt' : (k : Int) < 12 := by omega
        have hkx : k < xs.length := by have := HN.out; omega
        obtain ⟨b, o, rfl, hc⟩ := HX.out k hkx
        have HC := Lib.hid (hc.below HRL.out.bel hc.lt)
        obtain ⟨x, hx⟩ : ∃ x, x = xs.getD k iz := ⟨_, rfl⟩
        rw [← hx] at HC
        have HXK := Lib.hid hx
        have HV := Lib.hid (fun w => ivalid1_any w x (by rw [hx]; exact HS.out.at k))
        have HCK := Lib.hid hkx
        clear hc hx hkx
        obtain ⟨c0, c1, c2⟩ := HC.out
        obtain ⟨xk, xg, xr⟩ := x
        obtain ⟨wA, hA⟩ : ∃ wA, wA = wr.alloc (.cells #[.int .i64 xk, .string ⟨xg.toArray⟩, .int .i64 xr] 46) := ⟨_, rfl⟩
        have HRA : Hid (IRel w xs k wA) := Lib.hid (by rw [hA]; exact HRL.out.after ((Below.refl _ _).alloc (Nat.le_refl _) _))
        cases hv : iok ⟨xk, xg, xr⟩ with
        | false =>
          rw [hv] at HV
          have HF : Hid (isok xs = false) := Lib.hid (by
            rw [Bool.eq_false_iff]
            intro hh
            have := isok_at hh HCK.out
            rw [← HXK.out, hv] at this
            cases this)
          clear hv
          go_wp2_with fail
          rw [← hA]
          refine (HV.out wA).mono ?_
          rintro e w1 ⟨rfl, hb1⟩
          have HR1 := Lib.hid (HRA.out.after hb1)
          have HT := Lib.hid HR1.out.res
          have HE : Hid (∀ cs, Below w.heap.size w (w1.setCells B 0 cs)) := Lib.hid (fun cs => Below.setCells (Below.refl _ _) _ (by rw [HB.out]; exact Nat.le_refl _) _ _ _ HR1.out.bel)
          rw [← HB.out] at HT
          clear hA hb1 c0 c1 c2
          go_wp2_with (first | ((with_reducible refine build_is 96 ?_); refine build_arr 96 Z 12 46 3 ZM.out Tryz.underlying96 size_info ?_) | ((with_reducible refine store_is 96 (.tmp 2) (.tmp 19) ?_); refine store_arr 96 (.tmp 2) (.tmp 19) B 0 Z rfl rfl (by rw [ZS.out]; exact HT.out) (info_infos ZS.out) ZO.out ?_))
          refine bodyPost_ret (results_cell_mid rfl _ _ B 0 Z.toList _ rfl (World.rangeAt_setCells_same _ _ _ _ (by rw [Array.length_toList, ZS.out]; exact HT.out)) Tryz.underlying96 rfl (info_infos (by rw [Array.length_toList, ZS.out]))) rfl ?_
          rw [HRR.out, HF.out, arrOf_no HF.out]
          exact ⟨by rw [← HZ.out]; simp, HE.out _⟩
        | true =>
          rw [hv] at HV
          have HOK : Hid (iok (xs.getD k iz) = true) := Lib.hid (by rw [← HXK.out]; exact hv)
          clear hv
          go_wp2_with fail
          rw [← hA]
          refine (HV.out wA).mono ?_
          rintro e w1 ⟨rfl, hb1⟩
          have HR1 := Lib.hid ((HRA.out.after hb1).step HOK.out)
          clear hA hb1 c0 c1 c2
          go_wp2_with fail
          go_roundw
          case rel => exact ⟨k + 1, by omega, by go_num, HR1⟩
          case measure => simp [intOf]; omega
      · have e : k = 12 := by omega
        have HM : Hid (isok xs = true) := Lib.hid (isok_iff.2 ⟨fun i hi => HRL.out.ok i (by have := HN.out; omega), HN.out.symm⟩)
        have HT := Lib.hid HRL.out.res
        have HE : Hid (∀ cs, Below w.heap.size w (wr.setCells B 0 cs)) := Lib.hid (fun cs => Below.setCells (Below.refl _ _) _ (by rw [HB.out]; exact Nat.le_refl _) _ _ _ HRL.out.bel)
        rw [← HB.out] at HT
        obtain ⟨b, o, rfl, hc⟩ := HX.out 0 (by have := HN.out; omega)
        have HF : Hid (wr.rangeAt b o (isC xs)) := Lib.hid (fun j u hj => is_cells (fun i hi => by
          obtain ⟨b', o', e', hc'⟩ := HX.out i hi
          cases e'
          exact hc'.below HRL.out.bel hc'.lt) j u hj)
        clear hc
        have HO := Lib.hid (isC_all xs)
        have HL : Hid ((isC xs).length = 36) := Lib.hid (isC_36 HN.out.symm)
        have HLR : Hid (R = ArrI xs true w) := Lib.hid (by rw [HRR.out, HM.out, arrOf_ok HM.out])
        clear HRR
        obtain ⟨C, hC⟩ : ∃ C, C = isC xs := ⟨_, rfl⟩
        rw [← hC] at HF HO HL
        have HCC := Lib.hid hC
        clear hC
        go_wp2_with (first | ((with_reducible refine load_is 96 (.tmp 22) ?_); refine load_arr 96 (.tmp 22) b o C _ rfl HF.out Tryz.underlying96 rfl (info_infos HL.out) ?_) | ((with_reducible refine store_is 96 (.tmp 2) (.tmp 23) ?_); refine store_arr 96 (.tmp 2) (.tmp 23) B 0 C.toArray rfl rfl (by rw [List.size_toArray, HL.out]; exact HT.out) (info_infos (by rw [List.size_toArray, HL.out])) HO.out ?_))
        refine bodyPost_ret (results_cell_mid rfl _ _ B 0 C _ rfl (World.rangeAt_setCells_same _ _ _ _ (by rw [HL.out]; exact HT.out)) Tryz.underlying96 rfl (info_infos HL.out)) rfl ?_
        rw [HLR.out]
        exact ⟨by rw [← HCC.out]; rfl, HE.out _⟩
  · have hn' : ((n : Int) != 12) = true := by simp; omega
    have HM : Hid (isok xs = false) := Lib.hid (by
      rw [Bool.eq_false_iff]
      intro hh
      exact hn (HN.out.trans (isok_len hh)))
    have HT : Hid ((w.alloc (.cells Z 96)).there w.heap.size 0 36) := Lib.hid (ZT.out 96).res
    have HE : Hid (Below w.heap.size w ((w.alloc (.cells Z 96)).setCells w.heap.size 0 Z.toList)) := Lib.hid (Below.setCells (Below.refl _ _) _ (Nat.le_refl _) _ _ _ (ZT.out 96).bel)
    go_enter Tryz.func60, Tryz.ntmps60
    go_wp2_with (first | ((with_reducible refine alloc_is 96 ?_); refine alloc_arr 96 Z ZM.out ?_) | ((with_reducible refine build_is 96 ?_); refine build_arr 96 Z 12 46 3 ZM.out Tryz.underlying96 size_info ?_) | ((with_reducible refine store_is 96 (.tmp 2) (.tmp 9) ?_); refine store_arr 96 (.tmp 2) (.tmp 9) w.heap.size 0 Z rfl rfl (by rw [ZS.out]; exact HT.out) (info_infos ZS.out) ZO.out ?_))
    refine bodyPost_ret (results_cell_mid rfl _ _ w.heap.size 0 Z.toList _ rfl (World.rangeAt_setCells_same _ _ _ _ (by rw [Array.length_toList, ZS.out]; exact HT.out)) Tryz.underlying96 rfl (info_infos (by rw [Array.length_toList, ZS.out]))) rfl ?_
    rw [HRR.out, HM.out, arrOf_no HM.out]
    exact ⟨by rw [← HZ.out]; simp, HE.out⟩
end Go.Proofs.YtcmmlgdfhkcmoaaGreat
namespace Go.Proofs.YtcmmlgdfhkcmoaaGreat
open Go.ChangeShapes Go.WideShapes Go.ChangeAt Go.RowKit
set_option linter.unusedVariables false
set_option maxRecDepth 100000
theorem tri_of_range {w : World} {b : Nat} {xs : List IV} (h : w.rangeAt b 0 (isC xs)) {i : Nat} (hi : i < xs.length) : Tri w b (i * 3) (xs.getD i iz) := by
  have hc : ∀ j v, j < 3 → (ivC (xs.getD i iz))[j]? = some v → w.cell? ⟨b, i * 3 + j, none⟩ = some v := fun j v hj hv => by
    have := h (i * 3 + j) v (by rw [isC_get xs hi hj]; exact hv)
    rwa [Nat.zero_add] at this
  exact ⟨hc 0 _ (by omega) rfl, hc 1 _ (by omega) rfl, hc 2 _ (by omega) rfl⟩
end Go.Proofs.YtcmmlgdfhkcmoaaGreat
namespace Go.Proofs.YtcmmlgdfhkcmoaaGreat
open Go.ChangeShapes Go.WideShapes Go.ChangeAt Go.RowKit
set_option linter.unusedVariables false
set_option maxRecDepth 100000
theorem load_run {P : Program} {W : World} (ty : TypeId) (b o : Nat) (cs : List Value) (d : TypeDesc) (hc : W.rangeAt b o cs) (hu : P.underlying ty = some d) (hd : d.isRow = true) (hi : (P.info? ty).map (·.size) = some cs.length) :
    (do let l ← Instr.loadAt ty (.pointer (some ⟨b, o, none⟩)); pure (Next.value l) : Sem Next).run P W = .ok (.value (.agg cs.toArray)) W := by
  simp only [Instr.loadAt, Instr.sureAddr, Sem.run_bind, Sem.run_pure, Result.andThen_ok, run_loadVar_mid W b o ty cs d hc hu hd hi]
end Go.Proofs.YtcmmlgdfhkcmoaaGreat
namespace Go.Proofs.YtcmmlgdfhkcmoaaGreat
open Go.ChangeShapes Go.WideShapes Go.ChangeAt Go.RowKit Go.Maps
set_option linter.unusedVariables false
set_option maxRecDepth 100000
theorem plainElem_bool_inv {H : Type} {P : Program} {e : TypeId} (he : P.underlying e = some .bool) {v : Value} {z : DataW H × List MemPlace} (h : plainElem P e v = some z) : ∃ x, v = .bool x ∧ z = (.lit (.bool x), []) := by
  cases v <;> simp [plainElem, he] at h
  exact ⟨_, rfl, h.symm⟩
theorem keyOf_s (s : Bs) (hs : s.length ≤ maxLen) : keyOf Tryz.prog 9 (.string ⟨s.toArray⟩) = some (.string s) := by
  have hz : (ByteArray.mk s.toArray).size ≤ maxLen := by simpa [ByteArray.size] using hs
  simp [keyOf, Tryz.underlying9, mapKey, hz]
theorem SetAt.look {w : World} {b : Nat} {xs : List Bs} (h : SetAt w b xs) (s : Bs) (hs : s.length ≤ maxLen) : (Instr.lookup 84 (.map (some b)) (.string ⟨s.toArray⟩) false).run Tryz.prog w = .ok (.bool (decide (s ∈ xs))) w := by
  obtain ⟨n, D, hn, ho, hsi⟩ := h
  obtain ⟨v, ps, hrun, hv⟩ := ho.lookup keyS Tryz.underlying84 (Tryz.zeroValue4 w) (plainElem_bool Tryz.underlying4 false) (keyOf_s s hs)
  obtain ⟨x, rfl, hx⟩ := plainElem_bool_inv Tryz.underlying4 hv
  have := hsi.atKey s
  simp only [Prod.mk.injEq] at hx
  rw [this] at hx
  have e : decide (s ∈ xs) = x := by simpa using hx.1
  rw [e]; exact hrun
theorem SetAt.len {w : World} {b : Nat} {xs : List Bs} (h : SetAt w b xs) (ty : TypeId) : (Builtin.len_ #[84] ty #[.map (some b)]).run Tryz.prog w = .ok (.int .i64 xs.length) w := by
  obtain ⟨n, D, hn, ho, hsi⟩ := h
  rw [ho.len Tryz.underlying84 ty, hsi.size]
theorem SetAt.put {w : World} {b : Nat} {xs : List Bs} (h : SetAt w b xs) (hl : xs.length < 900) (s : Bs) (hs : s.length ≤ maxLen) : ∃ w', (Instr.mapUpdate 84 (.map (some b)) (.string ⟨s.toArray⟩) (.bool true)).run Tryz.prog w = .ok () w' ∧ SetAt w' b (if s ∈ xs then xs else s :: xs) ∧ w.grownBy w' (some b) := by
  obtain ⟨n, D, hn, ho, hsi⟩ := h
  have ho' := ho
  obtain ⟨es, clock, hb, F, hz, hD⟩ := ho
  have hz2 := hsi.size
  have ho2 : w.ownsMap (H := Unit) Tryz.prog 9 (plainElem Tryz.prog 4) b xs.length D := ⟨es, clock, hb, F, by
    have : Maps.size D = es.size := by rw [hD]; simp [Maps.size, length_sorted]
    omega, hD⟩
  obtain ⟨w', hrun, how, hg⟩ := ho2.update keyS Tryz.underlying84 (by unfold maxLen; omega) (keyOf_s s hs) (plainElem_bool Tryz.underlying4 true)
  refine ⟨w', hrun, ⟨xs.length + 1, _, by omega, how, ?_⟩, hg⟩
  by_cases hm : s ∈ xs
  · rw [if_pos hm]; exact hsi.again hm
  · rw [if_neg hm]; exact hsi.put hm
theorem SetAt.made (w : World) : SetAt (w.alloc (.map #[] 0)) w.heap.size [] := ⟨0, _, Nat.zero_le _, World.ownsMap_made w _ _ _, SetIs.none⟩
theorem getD_take {xs : List Bs} {m j : Nat} (hj : j < m) (hm : m ≤ xs.length) : (xs.take m).getD j [] = xs.getD j [] := by
  rw [getD_lt (by rw [List.length_take]; omega), getD_lt (by omega), List.getElem_take]
theorem rokTo_rok {xs : List Bs} {m : Nat} (h : rokTo xs m) (hm : m ≤ xs.length) : rok (xs.take m) = true := by
  rw [rok_iff]
  intro j hj
  rw [List.length_take] at hj
  have := h j (by omega)
  rw [getD_take (by omega) hm, getD_take (by omega) hm]
  exact this
theorem rokTo_new {xs : List Bs} {k : Nat} (h : rokTo xs (k + 1)) (hk : k < xs.length) : xs.getD k [] ∉ xs.take k := by
  have hn := asc_nodup (rok_asc (rokTo_rok h hk))
  rw [take_snoc_getD xs k [] hk] at hn
  intro hm
  exact (List.nodup_append.1 hn).2.2 _ hm _ (List.mem_singleton.2 rfl) rfl
theorem SetAt.snoc {w : World} {b : Nat} {xs : List Bs} {x : Bs} (h : SetAt w b (if x ∈ xs then xs else x :: xs)) (hn : x ∉ xs) : SetAt w b (xs ++ [x]) := by
  rw [if_neg hn] at h
  exact h.perm (List.perm_append_singleton x xs).symm
theorem take_le_six {xs : List Bs} {k : Nat} (h : k ≤ 6) : (xs.take k).length < 900 := by rw [List.length_take]; omega
def SetOf (xs : List Bs) (w : World) (e : Ending) (w' : World) : Prop :=
  Below w.heap.size w w' ∧ ∃ m, e = .returned (.tuple #[.map m, .bool (rvs xs)]) ∧ (rvs xs = true → ∃ b, m = some b ∧ w.heap.size ≤ b ∧ SetAt w' b xs)
theorem setOf_any (w : World) (v : Value) (xs : List Bs) (h : Strs w v xs) (hs : Short xs) : Calls Tryz.prog 73 #[v] w (SetOf xs w) := by
  obtain ⟨a, ca, rfl, hla, hma, hxa⟩ := h
  unfold maxLen at hma
  obtain ⟨n, hN⟩ : ∃ n, n = xs.length := ⟨_, rfl⟩
  rw [← hN] at hla hxa ⊢
  have HN := Lib.hid hN
  have HX := Lib.hid hxa
  have HS := Lib.hid hs
  clear hN hxa hs
  by_cases h6 : 6 < n
  · have h6' : (6 : Int) < (n : Int) := by omega
    have HR : Hid (rvs xs = false) := Lib.hid (by rw [Bool.eq_false_iff]; intro h; have := rvs_len h; have := HN.out; omega)
    go_enter Tryz.func73, Tryz.ntmps73
    go_wp2_with fail
    go_ret2
    exact ⟨Below.refl _ _, none, by rw [HR.out]; rfl, fun h => by rw [HR.out] at h; cases h⟩
  have h6' : ¬ (6 : Int) < (n : Int) := by omega
  have hmm := @run_makeMap Tryz.prog
  go_enter Tryz.func73, Tryz.ntmps73
  go_wp2
  go_loopw [13] (fun i wr => ∃ k : Nat, k ≤ n ∧ i = .int .i64 k ∧ Hid (rokTo xs k) ∧ Hid (SetAt wr w.heap.size (xs.take k)) ∧ Hid (Below w.heap.size w wr)) (fun i _ => n - (intOf i).toNat)
  case atStart => exact ⟨0, Nat.zero_le _, rfl, Lib.hid (fun j hj => by omega), Lib.hid (SetAt.made w), Lib.hid ((Below.refl _ _).alloc (Nat.le_refl _) _)⟩
  case round =>
    obtain ⟨k, hk, rfl, HT, HA, HB⟩ := hrel
    by_cases hlt : k < n
    · have hlt' : (k : Int) < (n : Int) := by omega
      have hkx : k < xs.length := by rw [← HN.out]; exact hlt
      obtain ⟨b, o, rfl, hc0⟩ := HX.out k hlt
      have hc := (HB.out.cell (p := ⟨b, o + k, none⟩) (cell_lt hc0)).trans hc0
      clear hc0
      have HV := Lib.hid (fun w => irv_any w (xs.getD k []) (HS.out.at k))
      have HB1 := Lib.hid (fun h => rok_bad1 hkx h)
      have HB2 := Lib.hid (fun h0 h => rok_bad2 hkx h0 h)
      have HO := Lib.hid (fun h1 h2 => rokTo_succ HT.out h1 h2)
      have HTK := Lib.hid (take_snoc_getD xs k [] hkx)
      have HNW := Lib.hid (fun h => rokTo_new (xs := xs) (k := k) h hkx)
      have HSX := Lib.hid (short_max (HS.out.at k))
      generalize xs.getD k [] = x at hc HV HB1 HB2 HO HTK HNW HSX
      clear hkx
      cases hv : rv x with
      | false =>
        have HR := Lib.hid (HB1.out hv)
        rw [hv] at HV
        clear hv
        go_wp2_with fail
        refine (HV.out wr).mono ?_
        rintro e w1 ⟨rfl, hb1⟩
        have B1 := Lib.hid (HB.out.trans (hb1.mono HB.out.size))
        clear hb1
        go_wp2
        go_ret2
        exact ⟨B1.out, none, by rw [HR.out]; rfl, fun h => by rw [HR.out] at h; cases h⟩
      | true =>
        have HW := Lib.hid hv
        rw [hv] at HV
        clear hv
        rcases Nat.eq_zero_or_pos k with h0 | hpos
        · have hgt : ¬ (0 : Int) < (k : Int) := by omega
          have hgt2 : ¬ 0 < k := by omega
          have HO2 := Lib.hid (HO.out HW.out (fun h => absurd h hgt2))
          clear h0
          go_wp2_with fail
          refine (HV.out wr).mono ?_
          rintro e w1 ⟨rfl, hb1⟩
          have B1 := Lib.hid (HB.out.trans (hb1.mono HB.out.size))
          have A1 := Lib.hid (HA.out.below hb1)
          clear hb1
          obtain ⟨w2, hrun, hset, hg⟩ := A1.out.put (take_le_six (by omega)) x HSX.out
          have A2 := Lib.hid (hset.snoc (HNW.out HO2.out))
          rw [← HTK.out] at A2
          have B2 := Lib.hid (B1.out.grown hg B1.out.size (fun j hj => by cases hj; exact Nat.le_refl _))
          clear hset hg
          go_wp2
          go_roundw
          case rel => exact ⟨k + 1, by omega, by go_num, HO2, A2, B2⟩
          case measure => simp [intOf]; omega
        · obtain ⟨q, rfl⟩ : ∃ q, k = q + 1 := ⟨k - 1, by omega⟩
          have hgt : (0 : Int) < ((q + 1 : Nat) : Int) := by omega
          simp only [Nat.add_sub_cancel] at HB2 HO
          obtain ⟨b', o', e, hcq⟩ := HX.out q (by omega)
          cases e
          have hcy := (HB.out.cell (p := ⟨b, o + q, none⟩) (cell_lt hcq)).trans hcq
          clear hcq
          generalize xs.getD q [] = y at hcy HB2 HO
          cases hb : bl y x with
          | false =>
            have HR := Lib.hid (HB2.out (Nat.succ_pos _) hb)
            have hbb : Op.bytesLess y x = false := hb
            clear hb
            go_wp2_with fail
            refine (HV.out wr).mono ?_
            rintro e w1 ⟨rfl, hb1⟩
            have B1 := Lib.hid (HB.out.trans (hb1.mono HB.out.size))
            have hc1 := (hb1.cell (p := ⟨b, o + q, none⟩) (cell_lt hcy)).trans hcy
            clear hb1 hcy
            go_wp2_with fail
            go_ret2
            exact ⟨B1.out, none, by rw [HR.out]; rfl, fun h => by rw [HR.out] at h; cases h⟩
          | true =>
            have HO2 := Lib.hid (HO.out HW.out (fun _ => hb))
            have hbb : Op.bytesLess y x = true := hb
            clear hb
            go_wp2_with fail
            refine (HV.out wr).mono ?_
            rintro e w1 ⟨rfl, hb1⟩
            have B1 := Lib.hid (HB.out.trans (hb1.mono HB.out.size))
            have hc1 := (hb1.cell (p := ⟨b, o + q, none⟩) (cell_lt hcy)).trans hcy
            have A1 := Lib.hid (HA.out.below hb1)
            clear hb1 hcy
            obtain ⟨w2, hrun, hset, hg⟩ := A1.out.put (take_le_six (by omega)) x HSX.out
            have A2 := Lib.hid (hset.snoc (HNW.out HO2.out))
            rw [← HTK.out] at A2
            have B2 := Lib.hid (B1.out.grown hg B1.out.size (fun j hj => by cases hj; exact Nat.le_refl _))
            clear hset hg
            go_wp2
            go_roundw
            case rel => exact ⟨q + 1 + 1, by omega, by go_num, HO2, A2, B2⟩
            case measure => simp [intOf]; omega
    · have e : k = n := by omega
      have HR : Hid (rvs xs = true) := Lib.hid (by rw [rvs, rokTo_all HT.out (by rw [e]; exact HN.out), decide_eq_true (by have := HN.out; omega)]; rfl)
      have HA2 := Lib.hid (show SetAt wr w.heap.size xs by have := HA.out; rwa [take_all (by rw [e]; exact HN.out)] at this)
      go_wp2
      go_ret2
      exact ⟨HB.out, _, by rw [HR.out]; rfl, fun _ => ⟨_, rfl, Nat.le_refl _, HA2.out⟩⟩
end Go.Proofs.YtcmmlgdfhkcmoaaGreat
namespace Go.Proofs.YtcmmlgdfhkcmoaaGreat
open Go.ChangeShapes Go.WideShapes Go.ChangeAt Go.RowKit Go.Maps
set_option linter.unusedVariables false
set_option maxRecDepth 100000
theorem may_yes {xs : List Bs} {s : Bs} {k : Nat} (hk : k ≤ s.length) (h : s.take k ∈ xs) : may0 xs s = true := by
  unfold may0
  refine List.any_eq_true.2 ⟨_, h, cov_iff.2 ⟨by rw [List.length_take]; omega, ?_⟩⟩
  rw [List.length_take, Nat.min_eq_left hk]
theorem may_no {xs : List Bs} {s : Bs} (h : ∀ j, j ≤ s.length → s.take j ∉ xs) : may0 xs s = false := by
  rw [Bool.eq_false_iff]
  intro hm
  obtain ⟨x, hx, hc⟩ := List.any_eq_true.1 hm
  rw [cov_iff] at hc
  exact h _ hc.1 (by rw [hc.2]; exact hx)
theorem extract_zero (s : Bs) (k : Nat) : (ByteArray.mk s.toArray).extract 0 k = ⟨(s.take k).toArray⟩ := by rw [extract_mk]; rfl
theorem allow_any (w : World) (b : Nat) (xs : List Bs) (s : Bs) (h : SetAt w b xs) (hs : s.length ≤ 2000000) : Calls Tryz.prog 75 #[.map (some b), .string ⟨s.toArray⟩] w (Says (may0 xs s) w) := by
  have hsl : (s.length : Int) ≤ 2000000 := by omega
  have H := Lib.hid h
  clear h
  go_enter Tryz.func75, Tryz.ntmps75
  go_wp2
  go_loop [9] (fun i => ∃ k : Nat, k ≤ s.length + 1 ∧ i = .int .i64 k ∧ Hid (∀ j, j < k → s.take j ∉ xs)) (fun i => s.length + 1 - (intOf i).toNat)
  case atStart => exact ⟨0, Nat.zero_le _, rfl, Lib.hid (fun j hj => by omega)⟩
  case round =>
    obtain ⟨k, hk, rfl, HT⟩ := hrel
    by_cases hks : k < s.length + 1
    · have hlt' : (k : Int) < (s.length : Int) + 1 := by omega
      have hkl : (k : Int) ≤ (s.length : Int) := by omega
      have hlook := H.out.look (s.take k) (short_max (by rw [List.length_take]; omega))
      rw [← extract_zero] at hlook
      have HY := Lib.hid (fun h => may_yes (xs := xs) (s := s) (k := k) (by omega) h)
      have HNO := Lib.hid (fun (h : s.take k ∉ xs) => (fun j hj => by
        rcases Nat.lt_succ_iff_lt_or_eq.1 hj with h1 | h1
        · exact HT.out j h1
        · rw [h1]; exact h : ∀ j, j < k + 1 → s.take j ∉ xs))
      by_cases hm : s.take k ∈ xs
      · have HR := Lib.hid (HY.out hm)
        rw [decide_eq_true hm] at hlook
        clear hm
        go_wp2
        go_ret
        exact says_mk HR.out.symm
      · have HN2 := Lib.hid (HNO.out hm)
        rw [decide_eq_false hm] at hlook
        clear hm
        go_wp2
        go_round
        case rel => exact ⟨k + 1, by omega, by go_num, HN2⟩
        case measure => simp [intOf]; omega
    · go_wp2
      go_ret
      exact says_mk (may_no (fun j hj => HT.out j (by omega))).symm
end Go.Proofs.YtcmmlgdfhkcmoaaGreat
namespace Go.Proofs.YtcmmlgdfhkcmoaaGreat
open Go.ChangeShapes Go.WideShapes Go.ChangeAt Go.RowKit
set_option linter.unusedVariables false
set_option maxRecDepth 100000
set_option linter.unusedSimpArgs false
theorem names_yesT (w : World) (x : Int) (h : goodB x) : Calls Tryz.prog 138 #[.int .i64 x] w (Says true w) := by
  obtain ⟨h0, h1, h2⟩ := h
  have hc : x % 4 = 1 ∨ x % 4 = 3 := by omega
  have h3 : 0 ≤ x := by omega
  have h4 : x / 4 < 12 := by omega
  clear h1
  rcases hc with hc | hc
  · have e1 : (x % 4 == 1) = true := by simpa using hc
    clear hc
    go_enter Tryz.func138, Tryz.ntmps138
    go_wp2
    go_ret
    exact ⟨rfl, rfl⟩
  · have e1 : (x % 4 == 1) = false := by simp; omega
    have e3 : (x % 4 == 3) = true := by simpa using hc
    clear hc
    go_enter Tryz.func138, Tryz.ntmps138
    go_wp2
    go_ret
    exact ⟨rfl, rfl⟩
theorem names_noT (w : World) (x : Int) (h : ¬ goodB x) (hb0 : 0 ≤ x) (hb1 : x ≤ 9999) : Calls Tryz.prog 138 #[.int .i64 x] w (Says false w) := by
  unfold goodB at h
  by_cases h1 : x % 4 = 1
  · have h4 : decide (x / 4 < 12) = false := by simp; omega
    have e1 : (x % 4 == 1) = true := by simpa using h1
    clear h1 h
    go_enter Tryz.func138, Tryz.ntmps138
    go_wp2
    go_ret
    exact ⟨rfl, rfl⟩
  · have e1 : (x % 4 == 1) = false := by simpa using h1
    by_cases h3 : x % 4 = 3
    · have h4 : decide (x / 4 < 12) = false := by simp; omega
      have e3 : (x % 4 == 3) = true := by simpa using h3
      clear h1 h h3
      go_enter Tryz.func138, Tryz.ntmps138
      go_wp2
      go_ret
      exact ⟨rfl, rfl⟩
    · have e3 : (x % 4 == 3) = false := by simpa using h3
      clear h1 h h3
      go_enter Tryz.func138, Tryz.ntmps138
      go_wp2
      go_ret
      exact ⟨rfl, rfl⟩
def SaysN (n : Int) (w : World) (e : Ending) (w' : World) : Prop := e = .returned (.int .i64 n) ∧ w = w'
theorem frame_ofT (w : World) (x : Int) (h : 0 ≤ x) (h1 : x ≤ 9999) : Calls Tryz.prog 139 #[.int .i64 x] w (SaysN (x / 4) w) := by
  go_enter Tryz.func139, Tryz.ntmps139
  go_wp2
  go_ret
  exact ⟨rfl, rfl⟩
def ek (x : Int) : Int := if goodB x then 1 else if x = 0 then 0 else 2
theorem kind_any (w : World) (x : Int) (h0 : 0 ≤ x) (h1 : x ≤ 9999) : Calls Tryz.prog 194 #[.int .i64 x] w (SaysN (ek x) w) := by
  by_cases hg : goodB x
  · have HN := Lib.hid (fun w => names_yesT w x hg)
    have HE : Hid (ek x = 1) := Lib.hid (if_pos hg)
    have hz : (x == 0) = false := by obtain ⟨g0, _, _⟩ := hg; simp; omega
    rw [HE.out]
    clear hg
    go_enter Tryz.func194, Tryz.ntmps194
    go_wp2_with fail
    refine (HN.out _).mono ?_
    rintro e w' ⟨rfl, rfl⟩
    go_wp2_with fail
    go_ret
    exact ⟨rfl, rfl⟩
  · by_cases hx : x = 0
    · subst hx
      have HE : Hid (ek 0 = 0) := Lib.hid (by unfold ek; rw [if_neg hg, if_pos rfl])
      rw [HE.out]
      clear hg
      go_enter Tryz.func194, Tryz.ntmps194
      go_wp2_with fail
      go_ret
      exact ⟨rfl, rfl⟩
    · have HN := Lib.hid (fun w => names_noT w x hg h0 h1)
      have HE : Hid (ek x = 2) := Lib.hid (by unfold ek; rw [if_neg hg, if_neg hx])
      have hz : (x == 0) = false := by simpa using hx
      rw [HE.out]
      clear hg hx
      go_enter Tryz.func194, Tryz.ntmps194
      go_wp2_with fail
      refine (HN.out _).mono ?_
      rintro e w' ⟨rfl, rfl⟩
      go_wp2_with fail
      go_ret
      exact ⟨rfl, rfl⟩
def tv (x : Int) : Value := if goodB x then .iface 234 (.int .i64 (x / 4)) else if x = 0 then .iface 233 (.agg #[]) else .iface 235 (.agg #[])
theorem tableWordOf_any (w : World) (x : Int) (h0 : 0 ≤ x) (h1 : x ≤ 9999) : Calls Tryz.prog 136 #[.int .i64 x] w fun e w' => e = .returned (tv x) ∧ w = w' := by
  have HK := Lib.hid (fun w => kind_any w x h0 h1)
  have HF := Lib.hid (fun w => frame_ofT w x h0 h1)
  by_cases hg : goodB x
  · have HR : Hid (tv x = .iface 234 (.int .i64 (x / 4))) := Lib.hid (if_pos hg)
    have HE : ek x = 1 := if_pos hg
    rw [HR.out]
    rw [HE] at HK
    clear hg HE
    go_enter Tryz.func136, Tryz.ntmps136
    go_wp2_with fail
    refine (HK.out _).mono ?_
    rintro e w' ⟨rfl, rfl⟩
    go_wp2_with fail
    refine (HF.out _).mono ?_
    rintro e w' ⟨rfl, rfl⟩
    go_wp2_with fail
    go_ret
    exact ⟨rfl, rfl⟩
  · by_cases hx : x = 0
    · have HR : Hid (tv x = .iface 233 (.agg #[])) := Lib.hid (by unfold tv; rw [if_neg hg, if_pos hx])
      have HE : ek x = 0 := by unfold ek; rw [if_neg hg, if_pos hx]
      rw [HR.out]
      rw [HE] at HK
      clear hg hx HE
      go_enter Tryz.func136, Tryz.ntmps136
      go_wp2_with fail
      refine (HK.out _).mono ?_
      rintro e w' ⟨rfl, rfl⟩
      go_wp2_with fail
      go_ret
      exact ⟨rfl, rfl⟩
    · have HR : Hid (tv x = .iface 235 (.agg #[])) := Lib.hid (by unfold tv; rw [if_neg hg, if_neg hx])
      have HE : ek x = 2 := by unfold ek; rw [if_neg hg, if_neg hx]
      rw [HR.out]
      rw [HE] at HK
      clear hg hx HE
      go_enter Tryz.func136, Tryz.ntmps136
      go_wp2_with fail
      refine (HK.out _).mono ?_
      rintro e w' ⟨rfl, rfl⟩
      go_wp2_with fail
      go_ret
      exact ⟨rfl, rfl⟩
theorem tneeds_any (w : World) (k : Int) : Calls Tryz.prog 26 #[.int .i64 k] w (SaysN (tneeds k) w) := by
  by_cases h3 : k = 3
  · subst h3
    have HE : Hid (tneeds 3 = 2) := Lib.hid (by decide)
    rw [HE.out]
    go_enter Tryz.func26, Tryz.ntmps26
    go_wp2_with fail
    go_ret
    exact ⟨rfl, rfl⟩
  · have h3' : (k == 3) = false := by simpa using h3
    by_cases h2 : k = 2
    · subst h2
      have HE : Hid (tneeds 2 = 1) := Lib.hid (by decide)
      rw [HE.out]
      clear h3
      go_enter Tryz.func26, Tryz.ntmps26
      go_wp2_with fail
      go_ret
      exact ⟨rfl, rfl⟩
    · have h2' : (k == 2) = false := by simpa using h2
      have HE : Hid (tneeds k = 0) := Lib.hid (by
        unfold tneeds isTab
        rw [decide_eq_false (by omega)]; rfl)
      rw [HE.out]
      clear h3 h2
      go_enter Tryz.func26, Tryz.ntmps26
      go_wp2_with fail
      go_ret
      exact ⟨rfl, rfl⟩
theorem isTable_any (w : World) (k : Int) : Calls Tryz.prog 134 #[.int .i64 k] w (Says (isTab k) w) := by
  have HN := Lib.hid (fun w => tneeds_any w k)
  have HE : Hid ((tneeds k != 0) = isTab k) := Lib.hid (by
    unfold tneeds
    by_cases h : isTab k = true
    · rw [if_pos h, h]
      have := isTab_iff.1 h
      simp; omega
    · rw [if_neg h, Bool.eq_false_iff.2 h]; rfl)
  obtain ⟨n, hn⟩ : ∃ n, n = tneeds k := ⟨_, rfl⟩
  obtain ⟨r, hr⟩ : ∃ r, r = isTab k := ⟨_, rfl⟩
  rw [← hn] at HN HE
  rw [← hr] at HE ⊢
  clear hn hr
  go_enter Tryz.func134, Tryz.ntmps134
  go_wp2_with fail
  refine (HN.out _).mono ?_
  rintro e w' ⟨rfl, rfl⟩
  go_wp2_with fail
  go_ret
  exact ⟨by rw [HE.out]; rfl, rfl⟩
end Go.Proofs.YtcmmlgdfhkcmoaaGreat
namespace Go.Proofs.YtcmmlgdfhkcmoaaGreat
open Go.ChangeShapes Go.WideShapes Go.ChangeAt Go.RowKit
set_option linter.unusedVariables false
set_option maxRecDepth 100000
def blw (x n : Int) : Bool := decide (0 ≤ x ∧ x < n)
def isw (x : Int) : Bool := blw x 10000
theorem blw_yes {x n : Int} (h : 0 ≤ x ∧ x < n) : blw x n = true := decide_eq_true h
theorem blw_no {x n : Int} (h : ¬ (0 ≤ x ∧ x < n)) : blw x n = false := decide_eq_false h
theorem below_any (w : World) (x n : Int) : Calls Tryz.prog 71 #[.int .i64 x, .int .i64 n] w fun e w' => e = .returned (.bool (blw x n)) ∧ w = w' := by
  by_cases h : 0 ≤ x ∧ x < n
  · rw [blw_yes h]
    obtain ⟨h1, h2⟩ := h
    go_enter Tryz.func71, Tryz.ntmps71
    go_wp2
    go_ret
    exact ⟨rfl, rfl⟩
  · rw [blw_no h]
    by_cases h1 : 0 ≤ x
    · have h2 : decide (x < n) = false := by simp; omega
      clear h
      go_enter Tryz.func71, Tryz.ntmps71
      go_wp2
      go_ret
      exact ⟨rfl, rfl⟩
    · have h2 : decide (0 ≤ x) = false := by simpa using h1
      clear h
      go_enter Tryz.func71, Tryz.ntmps71
      go_wp2
      go_ret
      exact ⟨rfl, rfl⟩
theorem isWord_any (w : World) (x : Int) : Calls Tryz.prog 195 #[.int .i64 x] w fun e w' => e = .returned (.bool (isw x)) ∧ w = w' := by
  go_enter Tryz.func195, Tryz.ntmps195
  go_wp2_with (go_at_call 71; refine (below_any _ _ _).mono ?_; rintro e w' ⟨rfl, rfl⟩)
  go_ret
  exact ⟨rfl, rfl⟩
theorem arrayAt_words (W : World) (a : Option Addr) (cap : Nat) : (Instr.arrayAt 92 (.slice a 4 cap)).run Tryz.prog W = .ok (.pointer a) W := by
  unfold Instr.arrayAt
  rw [Sem.run_bind, run_underlying Tryz.underlying92]
  simp
def ArrRes (w : World) (cs : Array Value) (b : Bool) (e : Ending) (w' : World) : Prop := e = .returned (.tuple #[.agg cs, .bool b]) ∧ Below w.heap.size w w'
theorem below2 {w : World} {o1 o2 : Obj} : Below w.heap.size w ((w.alloc o1).alloc o2) := ((Below.refl _ _).alloc (Nat.le_refl _) o1).alloc (by simp) o2
theorem words4 {w : World} {b o cap : Nat} {x0 x1 x2 x3 : Int} {r : Bool} (hc : 4 ≤ cap) (h0 : w.cell? ⟨b, o, none⟩ = some (.int .i64 x0)) (h1 : w.cell? ⟨b, o + 1, none⟩ = some (.int .i64 x1)) (h2 : w.cell? ⟨b, o + 2, none⟩ = some (.int .i64 x2)) (h3 : w.cell? ⟨b, o + 3, none⟩ = some (.int .i64 x3))
    (hr : (isw x0 && isw x1 && isw x2 && isw x3) = r) :
    Calls Tryz.prog 137 #[.slice (some ⟨b, o, none⟩) 4 cap] w (ArrRes w (bif r then #[.int .i64 x0, .int .i64 x1, .int .i64 x2, .int .i64 x3] else #[.int .i64 0, .int .i64 0, .int .i64 0, .int .i64 0]) r) := by
  have HA := fun W => arrayAt_words W (some ⟨b, o, none⟩) cap
  have g0 := fun ob => (World.cell?_alloc_lt w ob ⟨b, o, none⟩ (block_lt_of_cell h0)).trans h0
  have g1 := fun ob => (World.cell?_alloc_lt w ob ⟨b, o + 1, none⟩ (block_lt_of_cell h1)).trans h1
  have g2 := fun ob => (World.cell?_alloc_lt w ob ⟨b, o + 2, none⟩ (block_lt_of_cell h2)).trans h2
  have g3 := fun ob => (World.cell?_alloc_lt w ob ⟨b, o + 3, none⟩ (block_lt_of_cell h3)).trans h3
  clear h0 h1 h2 h3
  have i0 : ∀ W : World, (Instr.index 92 (.agg #[.int .i64 x0, .int .i64 x1, .int .i64 x2, .int .i64 x3]) (.int .i64 0)).run Tryz.prog W = .ok (.int .i64 x0) W := fun _ => by kernel_rfl
  have i1 : ∀ W : World, (Instr.index 92 (.agg #[.int .i64 x0, .int .i64 x1, .int .i64 x2, .int .i64 x3]) (.int .i64 1)).run Tryz.prog W = .ok (.int .i64 x1) W := fun _ => by kernel_rfl
  have i2 : ∀ W : World, (Instr.index 92 (.agg #[.int .i64 x0, .int .i64 x1, .int .i64 x2, .int .i64 x3]) (.int .i64 2)).run Tryz.prog W = .ok (.int .i64 x2) W := fun _ => by kernel_rfl
  have i3 : ∀ W : World, (Instr.index 92 (.agg #[.int .i64 x0, .int .i64 x1, .int .i64 x2, .int .i64 x3]) (.int .i64 3)).run Tryz.prog W = .ok (.int .i64 x3) W := fun _ => by kernel_rfl
  have HR := Lib.hid hr
  clear hr
  obtain ⟨R, HRR⟩ : ∃ R : Ending → World → Prop, Hid (R = ArrRes w (bif r then #[.int .i64 x0, .int .i64 x1, .int .i64 x2, .int .i64 x3] else #[.int .i64 0, .int .i64 0, .int .i64 0, .int .i64 0]) r) := ⟨_, Lib.hid rfl⟩
  rw [← HRR.out]
  go_enter Tryz.func137, Tryz.ntmps137
  go_wp2
  refine wp_loop_rounds 5 ?_
  rw [rounds_succ]
  by_cases e0 : isw x0 = true
  · go_wp2_with (go_at_call 195; refine (isWord_any _ _).mono ?_; rintro e w' ⟨rfl, rfl⟩)
    rw [rounds_succ]
    by_cases e1 : isw x1 = true
    · go_wp2_with (go_at_call 195; refine (isWord_any _ _).mono ?_; rintro e w' ⟨rfl, rfl⟩)
      rw [rounds_succ]
      by_cases e2 : isw x2 = true
      · go_wp2_with (go_at_call 195; refine (isWord_any _ _).mono ?_; rintro e w' ⟨rfl, rfl⟩)
        rw [rounds_succ]
        by_cases e3 : isw x3 = true
        · go_wp2_with (go_at_call 195; refine (isWord_any _ _).mono ?_; rintro e w' ⟨rfl, rfl⟩)
          rw [rounds_succ]
          go_wp2
          have er : r = true := by rw [← HR.out]; simp [e0, e1, e2, e3]
          refine bodyPost_ret (results_cell_mid rfl _ _ w.heap.size 0 #[.int .i64 x0, .int .i64 x1, .int .i64 x2, .int .i64 x3].toList _ rfl (range_row (heap_alloc2_old w _ _)) Tryz.underlying92 rfl (by kernel_rfl)) rfl ?_
          rw [HRR.out, er]
          exact ⟨rfl, below2⟩
        · replace e3 : isw x3 = false := by simpa using e3
          go_wp2_with (go_at_call 195; refine (isWord_any _ _).mono ?_; rintro e w' ⟨rfl, rfl⟩)
          have er : r = false := by rw [← HR.out]; simp [e3]
          refine bodyPost_ret (results_cell_mid rfl _ _ w.heap.size 0 #[.int .i64 0, .int .i64 0, .int .i64 0, .int .i64 0].toList _ rfl (range_row (heap_alloc2_old w _ _)) Tryz.underlying92 rfl (by kernel_rfl)) rfl ?_
          rw [HRR.out, er]
          exact ⟨rfl, below2⟩
      · replace e2 : isw x2 = false := by simpa using e2
        go_wp2_with (go_at_call 195; refine (isWord_any _ _).mono ?_; rintro e w' ⟨rfl, rfl⟩)
        have er : r = false := by rw [← HR.out]; simp [e2]
        refine bodyPost_ret (results_cell_mid rfl _ _ w.heap.size 0 #[.int .i64 0, .int .i64 0, .int .i64 0, .int .i64 0].toList _ rfl (range_row (heap_alloc2_old w _ _)) Tryz.underlying92 rfl (by kernel_rfl)) rfl ?_
        rw [HRR.out, er]
        exact ⟨rfl, below2⟩
    · replace e1 : isw x1 = false := by simpa using e1
      go_wp2_with (go_at_call 195; refine (isWord_any _ _).mono ?_; rintro e w' ⟨rfl, rfl⟩)
      have er : r = false := by rw [← HR.out]; simp [e1]
      refine bodyPost_ret (results_cell_mid rfl _ _ w.heap.size 0 #[.int .i64 0, .int .i64 0, .int .i64 0, .int .i64 0].toList _ rfl (range_row (heap_alloc2_old w _ _)) Tryz.underlying92 rfl (by kernel_rfl)) rfl ?_
      rw [HRR.out, er]
      exact ⟨rfl, below2⟩
  · replace e0 : isw x0 = false := by simpa using e0
    go_wp2_with (go_at_call 195; refine (isWord_any _ _).mono ?_; rintro e w' ⟨rfl, rfl⟩)
    have er : r = false := by rw [← HR.out]; simp [e0]
    refine bodyPost_ret (results_cell_mid rfl _ _ w.heap.size 0 #[.int .i64 0, .int .i64 0, .int .i64 0, .int .i64 0].toList _ rfl (range_row (heap_alloc2_old w _ _)) Tryz.underlying92 rfl (by kernel_rfl)) rfl ?_
    rw [HRR.out, er]
    exact ⟨rfl, below2⟩
theorem wordsOf_other {w : World} {v : Value} {xs : List Int} (h : Ints w v xs) (hl : xs.length ≠ 4) : Calls Tryz.prog 137 #[v] w (ArrRes w #[.int .i64 0, .int .i64 0, .int .i64 0, .int .i64 0] false) := by
  obtain ⟨a, ca, rfl, hla, hma, hxa⟩ := h
  have hl' : ((xs.length : Int) != 4) = true := by simp; omega
  obtain ⟨R, HRR⟩ : ∃ R : Ending → World → Prop, Hid (R = ArrRes w #[.int .i64 0, .int .i64 0, .int .i64 0, .int .i64 0] false) := ⟨_, Lib.hid rfl⟩
  rw [← HRR.out]
  go_enter Tryz.func137, Tryz.ntmps137
  go_wp2
  refine bodyPost_ret (results_cell_mid rfl _ _ w.heap.size 0 #[.int .i64 0, .int .i64 0, .int .i64 0, .int .i64 0].toList _ rfl (range_row (heap_alloc_new w _)) Tryz.underlying92 rfl (by kernel_rfl)) rfl ?_
  rw [HRR.out]
  exact ⟨rfl, (Below.refl _ _).alloc (Nat.le_refl _) _⟩
def rowC (xs : List Int) : Array Value := (xs.map (Value.int .i64)).toArray
theorem words_isw {x0 x1 x2 x3 : Int} : wordsOk [x0, x1, x2, x3] = (isw x0 && isw x1 && isw x2 && isw x3) := by
  unfold wordsOk isw blw
  rw [Bool.eq_iff_iff]
  simp
  omega
theorem wordsOf_any {w : World} {v : Value} {xs : List Int} (h : Ints w v xs) : Calls Tryz.prog 137 #[v] w (ArrRes w (bif wordsOk xs then rowC xs else rowC [0, 0, 0, 0]) (wordsOk xs)) := by
  by_cases hl : xs.length = 4
  · obtain ⟨a, ca, rfl, hla, hma, hxa⟩ := h
    match xs, hl with
    | [x0, x1, x2, x3], _ =>
      obtain ⟨b, o, rfl, h0⟩ := hxa 0 (by simp)
      obtain ⟨_, _, e1, h1⟩ := hxa 1 (by simp)
      obtain ⟨_, _, e2, h2⟩ := hxa 2 (by simp)
      obtain ⟨_, _, e3, h3⟩ := hxa 3 (by simp)
      cases e1; cases e2; cases e3
      exact words4 hla h0 h1 h2 h3 words_isw.symm
  · have e : wordsOk xs = false := decide_eq_false (fun hh => hl hh.2)
    rw [e]
    exact wordsOf_other h hl
end Go.Proofs.YtcmmlgdfhkcmoaaGreat
namespace Go.Proofs.YtcmmlgdfhkcmoaaGreat
open Go.ChangeShapes Go.WideShapes Go.ChangeAt Go.RowKit
set_option linter.unusedVariables false
set_option maxRecDepth 100000
def flatL (xss : List (List Int)) : List Value := xss.flatten.map (Value.int .i64)
def zero48 : Array Value := Array.replicate 48 (.int .i64 0)
theorem zero_mem (w : World) : (zeroValue 94).run Tryz.prog w = .ok (.agg zero48) w := Tryz.zeroValue94 w
theorem zero_size : zero48.size = 48 := by simp [zero48]
theorem zero_one : zero48.all (·.oneCell') = true := by kernel_rfl
theorem size_words (w : World) : (sizeOf 92).run Tryz.prog w = .ok 4 w := Tryz.sizeOf92 w
theorem info_mem {n : Nat} (h : n = 48) : (Tryz.prog.info? 94).map (·.size) = some n := by subst h; kernel_rfl
theorem info_words : (Tryz.prog.info? 92).map (·.size) = some 4 := by kernel_rfl
theorem flat_one (xss : List (List Int)) : (flatL xss).toArray.all (·.oneCell') = true := all_oneCell_toArray (fun v hv => by
  obtain ⟨x, _, rfl⟩ := List.mem_map.1 hv
  rfl)
theorem flat_take_len (xss : List (List Int)) (h : ∀ i, i < xss.length → (xss.getD i []).length = 4) : ∀ k, k ≤ xss.length → (flatL (xss.take k)).length = k * 4
  | 0, _ => by simp [flatL]
  | k + 1, hk => by
    have ih := flat_take_len xss h k (by omega)
    rw [take_snoc_getD xss k [] (by omega)]
    simp only [flatL, List.flatten_append, List.map_append, List.length_append] at ih ⊢
    rw [ih]
    have := h k (by omega)
    simp at this ⊢
    omega
theorem flat_len {xss : List (List Int)} (hm : memOk xss = true) : (flatL xss).length = 48 := by
  have hl := mem_len hm
  have := flat_take_len xss (fun i hi => mem_row hm (by omega)) 12 (by omega)
  rwa [take_all hl.symm] at this
theorem flat_snoc (xss : List (List Int)) (k : Nat) (xs : List Int) (hk : k < xss.length) (hx : xs = xss.getD k []) : flatL (xss.take (k + 1)) = flatL (xss.take k) ++ xs.map (Value.int .i64) := by
  subst hx
  rw [take_snoc_getD xss k [] hk]
  simp [flatL]
structure MRel (w : World) (xss : List (List Int)) (k : Nat) (wr : World) : Prop where
  bel : Below w.heap.size w wr
  size : w.heap.size + 2 ≤ wr.heap.size
  res : wr.there w.heap.size 0 48
  mem : wr.there (w.heap.size + 1) 0 48
  row : wr.rangeAt (w.heap.size + 1) 0 (flatL (xss.take k))
  ok : ∀ i, i < k → wordsOk (xss.getD i []) = true
theorem MRel.start (w : World) (xss : List (List Int)) (t : TypeId) : MRel w xss 0 ((w.alloc (.cells zero48 t)).alloc (.cells zero48 t)) :=
  ⟨below2, by simp, there_row (heap_alloc2_old w _ _) (by rw [zero_size]; omega), there_row (heap_alloc2_new w _ _) (by rw [zero_size]; omega), by rw [List.take_zero]; exact range_nil, fun i hi => by omega⟩
theorem MRel.lens {w wr : World} {xss : List (List Int)} {k : Nat} (h : MRel w xss k wr) (hk : k ≤ xss.length) : (flatL (xss.take k)).length = k * 4 := by
  have h1 : ∀ i, i < (xss.take k).length → ((xss.take k).getD i []).length = 4 := fun i hi => by
    have hi' : i < k := by simp at hi; omega
    have := of_decide_eq_true (h.ok i hi')
    have e : (xss.take k).getD i [] = xss.getD i [] := by simp [List.getD, hi']
    rw [e]; exact this.2
  have h2 := flat_take_len (xss.take k) h1 (xss.take k).length (Nat.le_refl _)
  rw [List.take_length] at h2
  rw [h2, List.length_take]
  congr 1
  omega
theorem MRel.step {w wr w1 : World} {xss : List (List Int)} {k : Nat} {xs : List Int} {o1 : Obj} (h : MRel w xss k wr) (hl : xss.length = 12) (hk : k < 12) (hx : xs = xss.getD k []) (hw : wordsOk xs = true) (hb : Below wr.heap.size wr w1) :
    MRel w xss (k + 1) ((w1.alloc o1).setCells (w.heap.size + 1) (k * 4) (xs.map (Value.int .i64))) := by
  have hs := h.size
  have hs1 := hb.size
  have hx4 : xs.length = 4 := (of_decide_eq_true hw).2
  have e : ∀ b, b < wr.heap.size → (w1.alloc o1).heap[b]? = wr.heap[b]? := fun b hlt => (Below.heap_alloc _ _ _ (by omega)).trans (hb.block b hlt)
  have b1 : Below w.heap.size w w1 := h.bel.trans (hb.mono (by omega))
  have tm : (w1.alloc o1).there (w.heap.size + 1) 0 48 := there_blocks h.mem (e _ (by omega))
  have tr : (w1.alloc o1).there w.heap.size 0 48 := there_blocks h.res (e _ (by omega))
  have hrow := range_blocks h.row (e _ (by omega))
  have hlen := h.lens (by omega)
  refine ⟨Below.setCells (Below.refl _ _) _ (by omega) _ _ _ (b1.alloc (by omega) o1), by rw [size_setCells]; simp; omega, World.there_setCells tr _ _ _, World.there_setCells tm _ _ _, ?_, fun i hi => ?_⟩
  · rw [flat_snoc xss k xs (by omega) hx]
    exact range_append (World.rangeAt_setCells_apart hrow _ _ _ (.inr (.inl (by omega)))) (World.rangeAt_setCells_same _ _ _ _ (there_part tm (by simp; omega))) (by omega)
  · by_cases hik : i = k
    · subst hik; rw [← hx]; exact hw
    · exact h.ok i (by omega)
theorem row4 {xs : List Int} (h : wordsOk xs = true) : ∃ x0 x1 x2 x3, xs = [x0, x1, x2, x3] := by
  have hl := (of_decide_eq_true h).2
  match xs, hl with
  | [x0, x1, x2, x3], _ => exact ⟨x0, x1, x2, x3, rfl⟩
theorem MRel.bad {w wr w1 w3 : World} {xss : List (List Int)} {k : Nat} (h : MRel w xss k wr) (hb : Below wr.heap.size wr w1) (hs : w1.heap.size ≤ w3.heap.size) (e : ∀ b, b < w1.heap.size → w3.heap[b]? = w1.heap[b]?) (ht : w3.os = w1.os ∧ w3.tape = w1.tape ∧ w3.output = w1.output) :
    w3.there w.heap.size 0 48 ∧ ∀ cs, Below w.heap.size w (w3.setCells w.heap.size 0 cs) := by
  have hs0 := h.size
  have hs1 := hb.size
  have e3 : Below wr.heap.size wr w3 := ⟨ht.1.trans hb.os, ht.2.1.trans hb.tape, ht.2.2.trans hb.output, by omega, fun b hlt => (e b (by omega)).trans (hb.block b hlt)⟩
  refine ⟨there_blocks h.res (e3.block _ (by omega)), fun cs => ?_⟩
  have b1 : Below w.heap.size w w3 := h.bel.trans (e3.mono (by omega))
  exact Below.setCells (Below.refl _ _) _ (Nat.le_refl _) _ _ _ b1
set_option maxHeartbeats 1000000 in
theorem memoryOf_any {w : World} {v : Value} {xss : List (List Int)} (h : Rows2 w v xss) :
    Calls Tryz.prog 79 #[v] w (ArrRes w (bif memOk xss then (flatL xss).toArray else zero48) (memOk xss)) := by
  obtain ⟨a, ca, rfl, hla, hma, hxa⟩ := h
  unfold maxLen at hma
  obtain ⟨R, HRR⟩ : ∃ R : Ending → World → Prop, Hid (R = ArrRes w (bif memOk xss then (flatL xss).toArray else zero48) (memOk xss)) := ⟨_, Lib.hid rfl⟩
  rw [← HRR.out]
  obtain ⟨z48, hz48⟩ : ∃ z, z = zero48 := ⟨_, rfl⟩
  have ZM := Lib.hid zero_mem
  have ZS := Lib.hid zero_size
  have ZO := Lib.hid zero_one
  have ZT := Lib.hid (fun t => MRel.start w xss t)
  rw [← hz48] at HRR ZM ZS ZO ZT
  clear hz48
  obtain ⟨n, hN⟩ : ∃ n, n = xss.length := ⟨_, rfl⟩
  rw [← hN] at hla hxa ⊢
  have HN := Lib.hid hN
  clear hN
  obtain ⟨B0, hB0⟩ : ∃ B0, B0 = w.heap.size := ⟨_, rfl⟩
  have HB0 := Lib.hid hB0
  by_cases hn : n = 12
  · have hn' : ((n : Int) != 12) = false := by simp; omega
    obtain ⟨w2, hw2⟩ : ∃ w2, w2 = (w.alloc (.cells z48 94)).alloc (.cells z48 94) := ⟨_, rfl⟩
    have HS := Lib.hid (ZT.out 94)
    rw [← hw2] at HS
    go_enter Tryz.func79, Tryz.ntmps79
    go_wp2_with ((with_reducible refine alloc_is 94 ?_); refine alloc_arr 94 z48 ZM.out ?_)
    rw [← hB0, ← hw2]
    have HW2 := Lib.hid hw2
    clear hw2 hB0
    go_loopw [15] (fun i wr => ∃ k : Nat, k ≤ n ∧ i = .int .i64 k ∧ MRel w xss k wr) (fun i _ => n - (intOf i).toNat)
    case atStart => exact ⟨0, Nat.zero_le _, rfl, HS.out⟩
    case round =>
      obtain ⟨k, hk, rfl, hrel⟩ := hrel
      by_cases hlt : k < n
      · obtain ⟨b, o, ur, rfl, hc, hur⟩ := hxa k hlt
        have hb := cell_lt hc
        have hcr := (hrel.bel.cell (p := ⟨b, o + k, none⟩) hb).trans hc
        have HC := Lib.hid (wordsOf_any (Ints.below (B := 0) hur hrel.bel))
        have HREL := Lib.hid hrel
        have hlt' : (k : Int) < (n : Int) := by omega
        clear hc hur hxa hrel
        have HIX := run_indexAt_arr (P := Tryz.prog) 94 12 92 4 Tryz.underlying94 size_words (by omega) (B0 + 1) k (by omega)
        obtain ⟨xs, hxs⟩ : ∃ xs, xs = xss.getD k [] := ⟨_, rfl⟩
        rw [← hxs] at HC
        have HXS := Lib.hid hxs
        clear hxs
        by_cases hok : wordsOk xs = true
        · have HOK := Lib.hid hok
          obtain ⟨x0, x1, x2, x3, rfl⟩ := row4 hok
          rw [hok] at HC
          clear hok
          have HC' : Hid (Calls Tryz.prog 137 #[ur] wr (ArrRes wr #[.int .i64 x0, .int .i64 x1, .int .i64 x2, .int .i64 x3] true)) := Lib.hid HC.out
          clear HC
          go_wp2_with fail
          refine HC'.out.mono ?_
          rintro e w1 ⟨rfl, hb1⟩
          have HT : Hid (∀ ob, (w1.alloc ob).there (B0 + 1) (k * 4) 4) := Lib.hid (fun ob => by
            have hs := HREL.out.size
            have hs1 := hb1.size
            have e0 := HB0.out
            have := there_blocks HREL.out.mem ((Below.heap_alloc w1 ob _ (by omega)).trans (hb1.block _ (by omega)))
            rw [← e0] at this
            exact there_part this (by omega))
          have HST : Hid (∀ ob, MRel w xss (k + 1) ((w1.alloc ob).setCells (B0 + 1) (k * 4) ([x0, x1, x2, x3].map (Value.int .i64)))) := Lib.hid (fun ob => by
            rw [HB0.out]
            exact HREL.out.step (o1 := ob) (by have := HN.out; omega) (by omega) HXS.out HOK.out hb1)
          go_wp2_with ((with_reducible refine store_is 92 (.tmp 30) (.tmp 29) ?_); refine store_arr 92 (.tmp 30) (.tmp 29) (B0 + 1) (k * 4) #[.int .i64 x0, .int .i64 x1, .int .i64 x2, .int .i64 x3] rfl rfl (HT.out _) info_words (by kernel_rfl) ?_)
          exact ⟨⟨k + 1, by omega, by go_num, HST.out _⟩, by simp [intOf]; omega⟩
        · have hno : wordsOk xs = false := by simpa using hok
          have HM : Hid (memOk xss = false) := Lib.hid (mem_no (k := k) (by have := HN.out; omega) (by rw [← HXS.out]; exact hno))
          rw [hno] at HC
          clear hok hno
          have HC' : Hid (Calls Tryz.prog 137 #[ur] wr (ArrRes wr #[.int .i64 0, .int .i64 0, .int .i64 0, .int .i64 0] false)) := Lib.hid HC.out
          clear HC
          go_wp2_with fail
          refine HC'.out.mono ?_
          rintro e w1 ⟨rfl, hb1⟩
          have HT : Hid (∀ ob, (w1.alloc ob).there B0 0 48 ∧ ∀ cs, Below w.heap.size w ((w1.alloc ob).setCells B0 0 cs)) := Lib.hid (fun ob => by
            rw [HB0.out]
            exact HREL.out.bad hb1 (by simp) (fun b hlt => Below.heap_alloc _ _ _ hlt) ⟨rfl, rfl, rfl⟩)
          go_wp2_with (first | ((with_reducible refine build_is 94 ?_); refine build_arr 94 z48 12 92 4 ZM.out Tryz.underlying94 size_words ?_) | ((with_reducible refine store_is 94 (.tmp 2) (.tmp 27) ?_); refine store_arr 94 (.tmp 2) (.tmp 27) B0 0 z48 rfl rfl (by rw [ZS.out]; exact (HT.out _).1) (info_mem ZS.out) ZO.out ?_))
          refine bodyPost_ret (results_cell_mid rfl _ _ B0 0 z48.toList _ rfl (World.rangeAt_setCells_same _ _ _ _ (by rw [Array.length_toList, ZS.out]; exact (HT.out _).1)) Tryz.underlying94 rfl (info_mem (by rw [Array.length_toList, ZS.out]))) rfl ?_
          rw [HRR.out, HM.out]
          exact ⟨by simp, (HT.out _).2 _⟩
      · have e : k = n := by omega
        subst e
        have HM : Hid (memOk xss = true) := Lib.hid (by rw [mem_end HN.out hrel.ok, hn]; rfl)
        have HT : Hid (wr.there B0 0 48) := Lib.hid (by rw [HB0.out]; exact hrel.res)
        have HF : Hid (wr.rangeAt (B0 + 1) 0 (flatL xss)) := Lib.hid (by rw [HB0.out, ← take_all (l := xss) HN.out]; exact hrel.row)
        have HL := Lib.hid (flat_len HM.out)
        have HE : Hid (Below w.heap.size w (wr.setCells B0 0 (flatL xss))) := Lib.hid (Below.setCells (Below.refl _ _) _ (by rw [HB0.out]; omega) _ _ _ hrel.bel)
        clear hrel
        have HO := Lib.hid (flat_one xss)
        obtain ⟨L, hL⟩ : ∃ L, L = flatL xss := ⟨_, rfl⟩
        have HLR : Hid (R = ArrRes w L.toArray true) := Lib.hid (by rw [HRR.out, HM.out, hL]; rfl)
        rw [← hL] at HF HL HE HO
        clear hL HRR
        go_wp2_with (first | ((with_reducible refine load_is 94 (.tmp 4) ?_); refine load_arr 94 (.tmp 4) (B0 + 1) 0 L _ rfl HF.out Tryz.underlying94 rfl (info_mem HL.out) ?_) | ((with_reducible refine store_is 94 (.tmp 2) (.tmp 32) ?_); refine store_arr 94 (.tmp 2) (.tmp 32) B0 0 L.toArray rfl rfl (by rw [List.size_toArray, HL.out]; exact HT.out) (info_mem (by rw [List.size_toArray, HL.out])) HO.out ?_))
        refine bodyPost_ret (results_cell_mid rfl _ _ B0 0 L _ rfl (World.rangeAt_setCells_same _ _ _ _ (by rw [HL.out]; exact HT.out)) Tryz.underlying94 rfl (info_mem HL.out)) rfl ?_
        rw [HLR.out]
        exact ⟨rfl, HE.out⟩
  · have hn' : ((n : Int) != 12) = true := by simp; omega
    have HM : Hid (memOk xss = false) := Lib.hid (by
      refine decide_eq_false (fun hh => hn (HN.out.trans hh.2)))
    clear hxa
    obtain ⟨w2, hw2⟩ : ∃ w2, w2 = (w.alloc (.cells z48 94)).alloc (.cells z48 94) := ⟨_, rfl⟩
    have HS := Lib.hid (ZT.out 94)
    have hT := HS.out.res
    have HT := Lib.hid hT
    have HE : Hid (Below w.heap.size w (((w.alloc (.cells z48 94)).alloc (.cells z48 94)).setCells w.heap.size 0 z48.toList)) := Lib.hid (Below.setCells (Below.refl _ _) _ (Nat.le_refl _) _ _ _ below2)
    clear hT
    go_enter Tryz.func79, Tryz.ntmps79
    go_wp2_with (first | ((with_reducible refine alloc_is 94 ?_); refine alloc_arr 94 z48 ZM.out ?_) | ((with_reducible refine build_is 94 ?_); refine build_arr 94 z48 12 92 4 ZM.out Tryz.underlying94 size_words ?_) | ((with_reducible refine store_is 94 (.tmp 2) (.tmp 12) ?_); refine store_arr 94 (.tmp 2) (.tmp 12) w.heap.size 0 z48 rfl rfl (by rw [ZS.out]; exact HT.out) (info_mem ZS.out) ZO.out ?_))
    refine bodyPost_ret (results_cell_mid rfl _ _ w.heap.size 0 z48.toList _ rfl (World.rangeAt_setCells_same _ _ _ _ (by rw [Array.length_toList, ZS.out]; exact HT.out)) Tryz.underlying94 rfl (info_mem (by rw [Array.length_toList, ZS.out]))) rfl ?_
    rw [HRR.out, HM.out]
    exact ⟨by simp, HE.out⟩
end Go.Proofs.YtcmmlgdfhkcmoaaGreat
namespace Go.Proofs.YtcmmlgdfhkcmoaaGreat
open Go.ChangeShapes Go.WideShapes Go.ChangeAt Go.RowKit
set_option linter.unusedVariables false
set_option maxRecDepth 100000
set_option linter.unusedSimpArgs false
def Us (w : World) (b : Nat) (u : Nat → Int) : Prop := ∀ i, i < 12 → w.cell? ⟨b, i, none⟩ = some (.int .i64 (u i)) ∧ w.frozen? ⟨b, i, none⟩ = false
theorem Us.block {w w' : World} {b : Nat} {u : Nat → Int} (h : Us w b u) (e : w'.heap[b]? = w.heap[b]?) : Us w' b u := fun i hi =>
  ⟨(World.cell?_of_block e).trans (h i hi).1, (World.frozen?_of_block e).trans (h i hi).2⟩
theorem Us.lt {w : World} {b : Nat} {u : Nat → Int} (h : Us w b u) : b < w.heap.size := block_lt_of_cell (h 0 (by omega)).1
def inc1 (u : Nat → Int) (i : Nat) : Nat → Int := fun j => if j = i then u j + 1 else u j
theorem Us.incr {w : World} {b : Nat} {u : Nat → Int} (h : Us w b u) {i : Nat} (hi : i < 12) : Us (w.setCell ⟨b, i, none⟩ (.int .i64 (u i + 1))) b (inc1 u i) := fun j hj => by
  refine ⟨?_, (frozen_set _).trans (h j hj).2⟩
  unfold inc1
  by_cases e : j = i
  · subst e
    rw [if_pos rfl]
    exact cell_set_same (h j hj).1
  · rw [if_neg e]
    exact (cell_set_other (.inr e)).trans (h j hj).1
theorem Us.ext {w : World} {b : Nat} {u v : Nat → Int} (h : Us w b u) (e : ∀ i, i < 12 → v i = u i) : Us w b v := fun i hi => by rw [e i hi]; exact h i hi
def Cnt (b : Nat) (u : Nat → Int) (w : World) (e : Ending) (w' : World) : Prop := e = .returned (.tuple #[]) ∧ Us w' b u ∧ Chg b (b + 1) w w'
def cx (x : Nat → Int) (i : Nat) : Nat → Int
  | 0 => 0
  | t + 1 => cx x i t + (if goodB (x t) ∧ x t / 4 = (i : Int) then 1 else 0)
theorem cx_bound (x : Nat → Int) (i : Nat) : ∀ t, 0 ≤ cx x i t ∧ cx x i t ≤ t
  | 0 => by simp [cx]
  | t + 1 => by
    have := cx_bound x i t
    unfold cx
    split <;> omega
theorem cx_row {row : List Int} (h4 : row.length = 4) (i : Nat) : ∀ t, t ≤ 4 → cx (fun j => row.getD j 0) i t = (cnt1 (row.take t) i : Int)
  | 0, _ => by simp [cx, cnt1, named]
  | t + 1, ht => by
    have ih := cx_row h4 i t (by omega)
    unfold cx
    rw [ih]
    unfold cnt1
    rw [named_snoc row t (by omega), List.count_append]
    show ((named (row.take t)).count (i : Int) : Int) + (if goodB (row.getD t 0) ∧ row.getD t 0 / 4 = (i : Int) then 1 else 0) = _
    by_cases hg : goodB (row.getD t 0)
    · rw [if_pos hg]
      by_cases he : row.getD t 0 / 4 = (i : Int)
      · rw [if_pos ⟨hg, he⟩, he]; simp
      · rw [if_neg (fun h => he h.2), List.count_cons]
        have : (row.getD t 0 / 4 == (i : Int)) = false := by simpa using he
        rw [this]; simp
    · rw [if_neg hg, if_neg (fun h => hg h.1)]; simp
theorem cx_all {row : List Int} (h4 : row.length = 4) (i : Nat) : cx (fun j => row.getD j 0) i 4 = (cnt1 row i : Int) := by
  rw [cx_row h4 i 4 (Nat.le_refl _), List.take_of_length_le (by omega)]
theorem method_frame (w : World) (n : Int) : (method 255 234 (.int .i64 n) "loop.example/exopager/impl.countIn").run Tryz.prog w = .ok (313, .int .i64 n) w := by kernel_rfl
theorem method_empty (w : World) : (method 255 233 (.agg #[]) "loop.example/exopager/impl.countIn").run Tryz.prog w = .ok (312, .agg #[]) w := by kernel_rfl
theorem method_strange (w : World) : (method 255 235 (.agg #[]) "loop.example/exopager/impl.countIn").run Tryz.prog w = .ok (314, .agg #[]) w := by kernel_rfl
theorem emptyCount_any (w : World) (b : Nat) (u : Nat → Int) (h : Us w b u) : Calls Tryz.prog 312 #[.agg #[], .pointer (some ⟨b, 0, none⟩)] w (Cnt b u w) := by
  have H := Lib.hid h
  have HL : Hid (b < w.heap.size) := Lib.hid h.lt
  clear h
  go_enter Tryz.func312, Tryz.ntmps312
  go_wp2
  go_returns
  refine ⟨rfl, H.out.block (heap_alloc_old w _ HL.out), Chg.of_bel ((Below.refl _ _).alloc (Nat.le_refl _) _)⟩
theorem strangeCount_any (w : World) (b : Nat) (u : Nat → Int) (h : Us w b u) : Calls Tryz.prog 314 #[.agg #[], .pointer (some ⟨b, 0, none⟩)] w (Cnt b u w) := by
  have H := Lib.hid h
  have HL : Hid (b < w.heap.size) := Lib.hid h.lt
  clear h
  go_enter Tryz.func314, Tryz.ntmps314
  go_wp2
  go_returns
  refine ⟨rfl, H.out.block (heap_alloc_old w _ HL.out), Chg.of_bel ((Below.refl _ _).alloc (Nat.le_refl _) _)⟩
theorem frameCount_any (w : World) (b i : Nat) (u : Nat → Int) (hi : i < 12) (h : Us w b u) (hu : 0 ≤ u i ∧ u i ≤ 100000) : Calls Tryz.prog 313 #[.int .i64 i, .pointer (some ⟨b, 0, none⟩)] w (Cnt b (inc1 u i) w) := by
  have H := Lib.hid h
  have HL : Hid (b < w.heap.size) := Lib.hid h.lt
  have HI := Lib.hid hi
  have hc := (h i hi).1
  have hf := (h i hi).2
  have HIX := fun W => run_indexAt_part (P := Tryz.prog) 140 12 _ Tryz.underlying140 (fun w => Tryz.sizeOf3 w) (by omega) b 0 i hi W
  simp only [Nat.zero_add] at HIX
  obtain ⟨n, hn⟩ : ∃ n, n = u i := ⟨_, rfl⟩
  rw [← hn] at hc hu
  have HN := Lib.hid hn
  have hi0 : (0 : Int) ≤ (i : Int) := by omega
  have hi1 : (i : Int) < 12 := by omega
  clear hn h hi
  go_enter Tryz.func313, Tryz.ntmps313
  go_wp2
  refine wp_region_held_drew (S := fun _ => True) (by kernel_rfl) trivial (fun hHeld => ?_)
  refine wpAnyH_take (i := 0) (oi := { dst := some 4, op := .move (.tmp 1), type := _, pos := _, after := _, guard := none }) (v := .pointer (some ⟨b, 0, none⟩)) rfl (by kernel_rfl) (by kernel_rfl) (by kernel_rfl) (fun _ _ _ h => h) (Or.inl ⟨by rfl, fun wh hSw => ?_⟩) hHeld ?_
  · (dsimp only at hSw; go_simp)
  try simp only [Act.put, List.setIfInBounds_toArray, List.set_cons_zero, List.set_cons_succ]
  refine wpAnyH_take (i := 1) (oi := { dst := some 5, op := .move (.tmp 0), type := _, pos := _, after := _, guard := none }) (v := .int .i64 (i : Int)) rfl (by kernel_rfl) (by kernel_rfl) (by kernel_rfl) (fun _ _ _ h => h) (Or.inl ⟨by rfl, fun wh hSw => ?_⟩) hHeld ?_
  · (dsimp only at hSw; go_simp)
  try simp only [Act.put, List.setIfInBounds_toArray, List.set_cons_zero, List.set_cons_succ]
  refine wpAnyH_take (i := 2) (oi := { dst := some 6, op := .nilCheck (.tmp 4), type := _, pos := _, after := _, guard := none }) (v := .pointer (some ⟨b, 0, none⟩)) rfl (by kernel_rfl) (by kernel_rfl) (by kernel_rfl) (fun _ _ _ h => h) (Or.inl ⟨by rfl, fun wh hSw => ?_⟩) hHeld ?_
  · (dsimp only at hSw; go_simp)
  try simp only [Act.put, List.setIfInBounds_toArray, List.set_cons_zero, List.set_cons_succ]
  refine wpAnyH_take (i := 3) (oi := { dst := some 7, op := .indexAddr 140 (.tmp 6) (.tmp 5), type := _, pos := _, after := _, guard := none }) (v := .pointer (some ⟨b, i, none⟩)) rfl (by kernel_rfl) (by kernel_rfl) (by kernel_rfl) (fun _ _ _ h => h) (Or.inl ⟨by rfl, fun wh hSw => ?_⟩) hHeld ?_
  · (dsimp only at hSw; go_simp)
  try simp only [Act.put, List.setIfInBounds_toArray, List.set_cons_zero, List.set_cons_succ]
  refine wpAnyH_take (i := 6) (oi := { dst := some 10, op := .nilCheck (.tmp 4), type := _, pos := _, after := _, guard := none }) (v := .pointer (some ⟨b, 0, none⟩)) rfl (by kernel_rfl) (by kernel_rfl) (by kernel_rfl) (fun _ _ _ h => h) (Or.inl ⟨by rfl, fun wh hSw => ?_⟩) hHeld ?_
  · (dsimp only at hSw; go_simp)
  try simp only [Act.put, List.setIfInBounds_toArray, List.set_cons_zero, List.set_cons_succ]
  refine wpAnyH_ready (rs := [4]) (by kernel_rfl) (by simp) ?_
  refine AllReadyH.cons (o := { dst := some 8, op := .load 3 (.tmp 7), type := _, pos := _, after := _, guard := none }) rfl (fun K hK => ?_) AllReadyH.nil
  go_simp
  refine hK.out _ _ ?_ (fun hHeld => ?_)
  · trivial
  clear hK K
  try simp only [Act.put, List.setIfInBounds_toArray, List.set_cons_zero, List.set_cons_succ]
  refine wpAnyH_take (i := 5) (oi := { dst := some 9, op := .binOp .add 3 (.tmp 8) (.const (.int .i64 1)) 3, type := _, pos := _, after := _, guard := none }) (v := .int .i64 (n + 1)) rfl (by kernel_rfl) (by kernel_rfl) (by kernel_rfl) (fun _ _ _ h => h) (Or.inl ⟨by rfl, fun wh hSw => ?_⟩) hHeld ?_
  · (go_simp; rw [IntKind.wrap_i64]; omega)
  try simp only [Act.put, List.setIfInBounds_toArray, List.set_cons_zero, List.set_cons_succ]
  refine wpAnyH_take (i := 7) (oi := { dst := some 11, op := .indexAddr 140 (.tmp 10) (.tmp 5), type := _, pos := _, after := _, guard := none }) (v := .pointer (some ⟨b, i, none⟩)) rfl (by kernel_rfl) (by kernel_rfl) (by kernel_rfl) (fun _ _ _ h => h) (Or.inl ⟨by rfl, fun wh hSw => ?_⟩) hHeld ?_
  · (dsimp only at hSw; go_simp)
  try simp only [Act.put, List.setIfInBounds_toArray, List.set_cons_zero, List.set_cons_succ]
  refine wpAnyH_ready (rs := [8]) (by kernel_rfl) (by simp) ?_
  refine AllReadyH.cons (o := { dst := none, op := .store 3 (.tmp 11) (.tmp 9), type := _, pos := _, after := _, guard := none }) rfl (fun K hK => ?_) AllReadyH.nil
  go_simp
  refine hK.out _ _ ?_ (fun hHeld => ?_)
  · trivial
  clear hK K
  try simp only [Act.put, List.setIfInBounds_toArray, List.set_cons_zero, List.set_cons_succ]
  refine wpAnyH_done (by kernel_rfl) ?_ _
  go_returns
  rw [HN.out]
  have h1 := H.out.incr HI.out
  have h2 := chg_setCell w b i (.int .i64 (u i + 1))
  exact ⟨rfl, h1.block rfl, ⟨h2.os, h2.tape, h2.output, h2.size, h2.block⟩⟩
theorem words_index (row : List Int) (h4 : row.length = 4) {k : Nat} (hk : k < 4) (W : World) : (Instr.index 92 (.agg (rowC row)) (.int .i64 k)).run Tryz.prog W = .ok (.int .i64 (row.getD k 0)) W := by
  obtain ⟨x0, x1, x2, x3, rfl⟩ : ∃ x0 x1 x2 x3, row = [x0, x1, x2, x3] := by
    match row, h4 with
    | [x0, x1, x2, x3], _ => exact ⟨x0, x1, x2, x3, rfl⟩
  rcases (by omega : k = 0 ∨ k = 1 ∨ k = 2 ∨ k = 3) with rfl | rfl | rfl | rfl <;> kernel_rfl
def addx (u x : Nat → Int) (t : Nat) : Nat → Int := fun i => u i + cx x i t
theorem addx_none (u x : Nat → Int) {t : Nat} (h : ¬ goodB (x t)) (i : Nat) : addx u x (t + 1) i = addx u x t i := by
  unfold addx
  rw [show cx x i (t + 1) = cx x i t + (if goodB (x t) ∧ x t / 4 = (i : Int) then 1 else 0) from rfl, if_neg (fun hh => h hh.1), Int.add_zero]
theorem addx_one (u x : Nat → Int) {t k : Nat} (h : goodB (x t)) (hk : x t / 4 = (k : Int)) (i : Nat) : addx u x (t + 1) i = inc1 (addx u x t) k i := by
  show u i + (cx x i t + (if goodB (x t) ∧ x t / 4 = (i : Int) then 1 else 0)) = (if i = k then (u i + cx x i t) + 1 else u i + cx x i t)
  by_cases e : i = k
  · rw [if_pos e, if_pos ⟨h, by rw [hk, e]⟩]; omega
  · rw [if_neg e, if_neg (fun hh => e (by have := hh.2; omega))]; omega
set_option maxRecDepth 100000 in
set_option maxHeartbeats 4000000 in
theorem wordsCount_any (w : World) (b : Nat) (u : Nat → Int) (row : List Int) (h4 : row.length = 4) (hb : ∀ i, i < 4 → 0 ≤ row.getD i 0 ∧ row.getD i 0 ≤ 9999) (h : Us w b u) (hu : ∀ i, i < 12 → 0 ≤ u i ∧ u i ≤ 90000) :
    Calls Tryz.prog 141 #[.agg (rowC row), .pointer (some ⟨b, 0, none⟩)] w (Cnt b (fun i => u i + (cnt1 row i : Int)) w) := by
  have HFin : Hid (∀ w', Us w' b (addx u (fun j => row.getD j 0) 4) → Us w' b (fun i => u i + (cnt1 row i : Int))) := Lib.hid (fun w' hh => hh.ext (fun i hi => by unfold addx; rw [cx_all h4]))
  have HIX : Hid (∀ k : Nat, k < 4 → ∀ W, (Instr.index 92 (.agg (rowC row)) (.int .i64 k)).run Tryz.prog W = .ok (.int .i64 (row.getD k 0)) W) := Lib.hid (fun k hk W => words_index row h4 hk W)
  unfold rowC at HIX ⊢
  have HL : Hid ((row.map (Value.int .i64)).length = 4) := Lib.hid (by rw [List.length_map, h4])
  obtain ⟨L, hL⟩ : ∃ L, L = row.map (Value.int .i64) := ⟨_, rfl⟩
  obtain ⟨x, hx⟩ : ∃ x : Nat → Int, x = (fun j => row.getD j 0) := ⟨_, rfl⟩
  have hxe : ∀ k, row.getD k 0 = x k := fun k => by rw [hx]
  simp only [hxe] at HIX hb
  rw [← hL] at HIX HL ⊢
  rw [← hx] at HFin
  have HIW : Hid ((Tryz.prog.info? 92).map (·.size) = some L.length) := Lib.hid (by rw [HL.out]; exact info_words)
  obtain ⟨R, hR⟩ : ∃ R, R = Cnt b (fun i => u i + (cnt1 row i : Int)) w := ⟨_, rfl⟩
  have HR : Hid (∀ w', Us w' b (addx u x 4) → Chg b (b + 1) w w' → R (.returned (.tuple #[])) w') := Lib.hid (fun w' h1 h2 => by rw [hR]; exact ⟨rfl, HFin.out w' h1, h2⟩)
  rw [← hR]
  have HX := Lib.hid hb
  have HU : Hid (∀ t i, t ≤ 4 → i < 12 → 0 ≤ addx u x t i ∧ addx u x t i ≤ 100000) := Lib.hid (fun t i ht hi => by
    have h1 := hu i hi
    have h2 := cx_bound x i t
    unfold addx; omega)
  have HS : Hid (∀ t, (w.alloc (.cells L.toArray t)).rangeAt w.heap.size 0 L) := Lib.hid (fun t => range_row (heap_alloc_new w _))
  have H1 : Hid (∀ o, Us (w.alloc o) b (addx u x 0)) := Lib.hid (fun o => (h.block (heap_alloc_old w _ h.lt)).ext (fun i hi => by unfold addx cx; omega))
  have HC1 : Hid (∀ o, Chg b (b + 1) w (w.alloc o)) := Lib.hid (fun o => Chg.of_bel ((Below.refl _ _).alloc (Nat.le_refl _) _))
  clear hx hxe hL hR hb hu h h4 HFin HL
  go_enter Tryz.func141, Tryz.ntmps141
  go_wp2_with (first | ((with_reducible refine box_is 92 (.tmp 0) ?_); refine box_arr 92 (.tmp 0) L.toArray rfl ?_) | ((with_reducible refine load_is 92 (.tmp 2) ?_); refine load_arr 92 (.tmp 2) w.heap.size 0 L _ rfl (HS.out _) Tryz.underlying92 rfl HIW.out ?_))
  obtain ⟨w0, hw0⟩ : ∃ w0, w0 = w.alloc (.cells L.toArray 92) := ⟨_, rfl⟩
  have H0 : Hid (Us w0 b (addx u x 0)) := Lib.hid (by rw [hw0]; exact H1.out _)
  have HC0 : Hid (Chg b (b + 1) w w0) := Lib.hid (by rw [hw0]; exact HC1.out _)
  obtain ⟨X, hX⟩ : ∃ X, X = w.heap.size := ⟨_, rfl⟩
  rw [← hw0, ← hX]
  clear hw0 hX HS H1 HC1
  go_loopw [7] (fun i wr => ∃ t : Nat, t ≤ 4 ∧ i = .int .i64 t ∧ Hid (Us wr b (addx u x t)) ∧ Hid (Chg b (b + 1) w wr)) (fun i _ => 4 - (intOf i).toNat)
  case atStart => exact ⟨0, Nat.zero_le _, rfl, H0, HC0⟩
  case round =>
    obtain ⟨t, ht, rfl, HUW, HCW⟩ := hrel
    by_cases hlt : t < 4
    · have hlt' : (t : Int) < 4 := by omega
      have HIX' := HIX.out t hlt
      have hxb := HX.out t hlt
      have HTW := Lib.hid (fun w => tableWordOf_any w (x t) hxb.1 hxb.2)
      obtain ⟨y, hy⟩ : ∃ y, y = x t := ⟨_, rfl⟩
      rw [← hy] at HIX' HTW
      have HY := Lib.hid hy
      clear hxb hy
      by_cases hg : goodB y
      · have hfr := good_frame hg
        obtain ⟨i, hi⟩ : ∃ i : Nat, y / 4 = (i : Int) := ⟨(y / 4).toNat, by omega⟩
        have hi12 : i < 12 := by omega
        have HTV : tv y = .iface 234 (.int .i64 (i : Int)) := by unfold tv; rw [if_pos hg, hi]
        rw [HTV] at HTW
        have HCT := Lib.hid (frameCount_any wr b i _ hi12 HUW.out (HU.out t i (by omega) hi12))
        have HNX : Hid (∀ w', Us w' b (inc1 (addx u x t) i) → Us w' b (addx u x (t + 1))) := Lib.hid (fun w' hh => hh.ext (fun j hj => addx_one u x (by rw [← HY.out]; exact hg) (by rw [← HY.out]; exact hi) j))
        have hmf := fun w => method_frame w (i : Int)
        clear hg hfr hi HTV
        go_wp2_with fail
        refine (HTW.out _).mono ?_
        rintro e w' ⟨rfl, rfl⟩
        go_wp2_with fail
        refine HCT.out.mono ?_
        rintro e w5 ⟨rfl, hu5, hc5⟩
        have HU5 := Lib.hid (HNX.out w5 hu5)
        have HC5 := Lib.hid (HCW.out.trans hc5)
        clear hu5 hc5
        go_wp2_with fail
        go_roundw
        case rel => exact ⟨t + 1, by omega, by go_num, HU5, HC5⟩
        case measure => simp [intOf]; omega
      · have HNX : Hid (∀ w', Us w' b (addx u x t) → Us w' b (addx u x (t + 1))) := Lib.hid (fun w' hh => hh.ext (fun j hj => addx_none u x (by rw [← HY.out]; exact hg) j))
        by_cases h0 : y = 0
        · have HTV : tv y = .iface 233 (.agg #[]) := by unfold tv; rw [if_neg hg, if_pos h0]
          rw [HTV] at HTW
          have HCT := Lib.hid (emptyCount_any wr b _ HUW.out)
          have hmf := method_empty
          clear hg h0 HTV
          go_wp2_with fail
          refine (HTW.out _).mono ?_
          rintro e w' ⟨rfl, rfl⟩
          go_wp2_with fail
          refine HCT.out.mono ?_
          rintro e w5 ⟨rfl, hu5, hc5⟩
          have HU5 := Lib.hid (HNX.out w5 hu5)
          have HC5 := Lib.hid (HCW.out.trans hc5)
          clear hu5 hc5
          go_wp2_with fail
          go_roundw
          case rel => exact ⟨t + 1, by omega, by go_num, HU5, HC5⟩
          case measure => simp [intOf]; omega
        · have HTV : tv y = .iface 235 (.agg #[]) := by unfold tv; rw [if_neg hg, if_neg h0]
          rw [HTV] at HTW
          have HCT := Lib.hid (strangeCount_any wr b _ HUW.out)
          have hmf := method_strange
          clear hg h0 HTV
          go_wp2_with fail
          refine (HTW.out _).mono ?_
          rintro e w' ⟨rfl, rfl⟩
          go_wp2_with fail
          refine HCT.out.mono ?_
          rintro e w5 ⟨rfl, hu5, hc5⟩
          have HU5 := Lib.hid (HNX.out w5 hu5)
          have HC5 := Lib.hid (HCW.out.trans hc5)
          clear hu5 hc5
          go_wp2_with fail
          go_roundw
          case rel => exact ⟨t + 1, by omega, by go_num, HU5, HC5⟩
          case measure => simp [intOf]; omega
    · have e : t = 4 := by omega
      subst e
      have HF := Lib.hid (HR.out _ HUW.out HCW.out)
      go_wp2_with fail
      go_returns
      exact HF.out
end Go.Proofs.YtcmmlgdfhkcmoaaGreat
namespace Go.Proofs.YtcmmlgdfhkcmoaaGreat
open Go.ChangeShapes Go.WideShapes Go.ChangeAt Go.RowKit Go.Maps
set_option linter.unusedVariables false
set_option maxRecDepth 100000
set_option linter.unusedSimpArgs false
theorem run_indexAt_off {P : Program} (t : TypeId) (n : Nat) (e : TypeId) (s : Nat) (hu : P.underlying t = some (.array n e)) (hs : ∀ w, (sizeOf e).run P w = .ok s w) (hn : 1 < n)
    (b o : Nat) (k : Nat) (hk : k < n) (W : World) : (Instr.indexAt t (.pointer (some ⟨b, o, none⟩)) (.int .i64 k)).run P W = .ok (.pointer (some ⟨b, o + k * s, none⟩)) W := by
  have h1 : (0 : Int) ≤ (k : Int) ∧ (k : Int) < (n : Int) := by omega
  unfold Instr.indexAt
  simp only [asIntOf, Instr.sureAddr, Sem.run_bind, Sem.run_pure, Result.andThen_ok, run_underlying hu, hs, if_pos h1, Int.toNat_natCast, Addr.add_mid]
theorem range_left {w : World} {b o : Nat} {l1 l2 : List Value} (h : w.rangeAt b o (l1 ++ l2)) : w.rangeAt b o l1 := fun j v hv => h j v (by
  rw [List.getElem?_append_left (List.getElem?_eq_some_iff.1 hv).1]; exact hv)
theorem range_right {w : World} {b o o2 : Nat} {l1 l2 : List Value} (h : w.rangeAt b o (l1 ++ l2)) (ho : o2 = o + l1.length) : w.rangeAt b o2 l2 := fun j v hv => by
  have := h (l1.length + j) v (by rw [List.getElem?_append_right (by omega)]; rw [show l1.length + j - l1.length = j by omega]; exact hv)
  rw [ho]
  rwa [← Nat.add_assoc] at this
def rcC (zs : List IV) (f nd : Int) (m : Option Nat) : List Value := isC zs ++ [.int .i64 f, .int .i64 nd, .map m]
theorem rcC_len {zs : List IV} (hz : zs.length = 12) (f nd : Int) (m : Option Nat) : (rcC zs f nd m).length = 39 := by
  unfold rcC
  rw [List.length_append, isC_36 hz]; rfl
theorem rcC_one (zs : List IV) (f nd : Int) (m : Option Nat) : (rcC zs f nd m).toArray.all (·.oneCell') = true := all_oneCell_toArray (fun v hv => by
  unfold rcC at hv
  rcases List.mem_append.1 hv with h | h
  · exact isC_one zs v h
  · simp only [List.mem_cons, List.not_mem_nil, or_false] at h
    rcases h with rfl | rfl | rfl <;> rfl)
structure RuleAt (w : World) (b : Nat) (zs : List IV) (f nd : Int) (m : Option Nat) : Prop where
  inf : ∀ i, i < 12 → Tri w b (i * 3) (zs.getD i iz)
  c36 : w.cell? ⟨b, 36, none⟩ = some (.int .i64 f)
  c37 : w.cell? ⟨b, 37, none⟩ = some (.int .i64 nd)
  c38 : w.cell? ⟨b, 38, none⟩ = some (.map m)
theorem RuleAt.of_range {w : World} {b : Nat} {zs : List IV} {f nd : Int} {m : Option Nat} (hz : zs.length = 12) (h : w.rangeAt b 0 (rcC zs f nd m)) : RuleAt w b zs f nd m := by
  have h2 := range_right (o2 := 36) h (by rw [isC_36 hz])
  exact ⟨fun i hi => tri_of_range (range_left h) (by omega), h2 0 _ rfl, h2 1 _ rfl, h2 2 _ rfl⟩
theorem RuleAt.block {w w' : World} {b : Nat} {zs : List IV} {f nd : Int} {m : Option Nat} (h : RuleAt w b zs f nd m) (e : w'.heap[b]? = w.heap[b]?) : RuleAt w' b zs f nd m :=
  ⟨fun i hi => (h.inf i hi).block e, (World.cell?_of_block e).trans h.c36, (World.cell?_of_block e).trans h.c37, (World.cell?_of_block e).trans h.c38⟩
theorem info_rule {n : Nat} (h : n = 39) : (Tryz.prog.info? 130).map (·.size) = some n := by subst h; kernel_rfl
def rfr (zs : List IV) (f nd : Int) (rs : List Bs) (i : Nat) : Bool := !decide ((i : Int) = f) && (decide ((zs.getD i iz).k = nd) && may0 rs (zs.getD i iz).g)
set_option maxRecDepth 100000 in
set_option maxHeartbeats 2000000 in
theorem allowsFrame_any (w : World) (zs : List IV) (hz : zs.length = 12) (hs : ShortI zs) (i : Nat) (hi : i < 12) (f nd : Int) (b : Nat) (rs : List Bs) (h : SetAt w b rs) :
    Calls Tryz.prog 193 #[.agg (rcC zs f nd (some b)).toArray, .int .i64 i] w (BRes (rfr zs f nd rs i) w) := by
  have HG := Lib.hid (hs.at i)
  have HR : Hid (∀ t, RuleAt (w.alloc (.cells (rcC zs f nd (some b)).toArray t)) w.heap.size zs f nd (some b)) := Lib.hid (fun t => RuleAt.of_range hz (range_row (heap_alloc_new w _)))
  have HS : Hid (∀ o, SetAt (w.alloc o) b rs) := Lib.hid (fun o => h.below ((Below.refl _ _).alloc (Nat.le_refl _) _))
  have HB : Hid (∀ o, Below w.heap.size w (w.alloc o)) := Lib.hid (fun o => (Below.refl _ _).alloc (Nat.le_refl _) _)
  unfold rfr
  obtain ⟨L, hL⟩ : ∃ L, L = (rcC zs f nd (some b)).toArray := ⟨_, rfl⟩
  rw [← hL] at HR ⊢
  obtain ⟨y, hy⟩ : ∃ y, y = zs.getD i iz := ⟨_, rfl⟩
  have HT := Lib.hid (fun t => (HR.out t).inf i hi)
  have H6 := Lib.hid (fun t => (HR.out t).c36)
  have H7 := Lib.hid (fun t => (HR.out t).c37)
  have H8 := Lib.hid (fun t => (HR.out t).c38)
  rw [← hy] at HT HG ⊢
  have HAL := Lib.hid (fun w h => allow_any w b rs y.g h HG.out)
  have HIX := run_indexAt_off (P := Tryz.prog) 96 12 46 3 Tryz.underlying96 size_info (by omega) w.heap.size 0 i hi
  simp only [Nat.zero_add] at HIX
  have hi0 : (0 : Int) ≤ (i : Int) := by omega
  have hi12 : (i : Int) < 12 := by omega
  clear hL hy h hs hz HR HG
  have HTX := Lib.hid (HT.out 130)
  have c6 := H6.out 130
  have c7 := H7.out 130
  have c8 := H8.out 130
  obtain ⟨c0, c1, c2⟩ := HTX.out
  obtain ⟨w0, hw0⟩ : ∃ w0, w0 = w.alloc (.cells L 130) := ⟨_, rfl⟩
  have HB0 : Hid (Below w.heap.size w w0) := Lib.hid (by rw [hw0]; exact HB.out _)
  have HS0 : Hid (SetAt w0 b rs) := Lib.hid (by rw [hw0]; exact HS.out _)
  have HW0 := Lib.hid hw0
  have hlt : w.heap.size < w0.heap.size := by rw [hw0]; simp
  rw [← hw0] at c0 c1 c2 c6 c7 c8
  clear hw0 HTX HT H6 H7 H8 HB HS
  by_cases hf : (i : Int) = f
  · subst hf
    have HR : Hid ((!decide ((i : Int) = (i : Int)) && (decide (y.k = nd) && may0 rs y.g)) = false) := Lib.hid (by simp)
    rw [HR.out]
    go_enter Tryz.func193, Tryz.ntmps193
    go_wp2_with ((with_reducible refine box_is 130 (.tmp 0) ?_); refine box_arr 130 (.tmp 0) L rfl ?_; rw [← HW0.out])
    go_ret
    exact ⟨rfl, HB0.out.trans (((Below.refl _ _).alloc (Nat.le_refl _) _).mono HB0.out.size)⟩
  · have hf' : ((i : Int) != f) = true := by simpa using hf
    by_cases hk : y.k = nd
    · have hk' : (y.k == nd) = true := by simpa using hk
      have HR : Hid ((!decide ((i : Int) = f) && (decide (y.k = nd) && may0 rs y.g)) = may0 rs y.g) := Lib.hid (by rw [decide_eq_false hf, decide_eq_true hk]; rfl)
      rw [HR.out]
      obtain ⟨m, hm⟩ : ∃ m, m = may0 rs y.g := ⟨_, rfl⟩
      rw [← hm] at HAL ⊢
      clear hm hk hf
      go_enter Tryz.func193, Tryz.ntmps193
      go_wp2_with ((with_reducible refine box_is 130 (.tmp 0) ?_); refine box_arr 130 (.tmp 0) L rfl ?_; rw [← HW0.out])
      refine (HAL.out _ (HS0.out.below ((Below.refl _ _).alloc (Nat.le_refl _) _))).mono ?_
      rintro e w' ⟨rfl, rfl⟩
      go_wp2_with fail
      go_ret
      exact ⟨rfl, HB0.out.trans (((Below.refl _ _).alloc (Nat.le_refl _) _).mono HB0.out.size)⟩
    · have hk' : (y.k == nd) = false := by simpa using hk
      have HR : Hid ((!decide ((i : Int) = f) && (decide (y.k = nd) && may0 rs y.g)) = false) := Lib.hid (by rw [decide_eq_false hk, Bool.false_and, Bool.and_false])
      rw [HR.out]
      clear hk hf
      go_enter Tryz.func193, Tryz.ntmps193
      go_wp2_with ((with_reducible refine box_is 130 (.tmp 0) ?_); refine box_arr 130 (.tmp 0) L rfl ?_; rw [← HW0.out])
      go_ret
      exact ⟨rfl, HB0.out.trans (((Below.refl _ _).alloc (Nat.le_refl _) _).mono HB0.out.size)⟩
end Go.Proofs.YtcmmlgdfhkcmoaaGreat
namespace Go.Proofs.YtcmmlgdfhkcmoaaGreat
open Go.ChangeShapes Go.WideShapes Go.ChangeAt Go.RowKit Go.Maps
set_option linter.unusedVariables false
set_option maxRecDepth 100000
set_option linter.unusedSimpArgs false
theorem as_empty_e (w : World) : (Instr.typeAssert (.iface 233 (.agg #[])) 186 233 true).run Tryz.prog w = .ok (.tuple #[.agg #[], .bool true]) w := by kernel_rfl
theorem as_empty_f (w : World) (n : Int) : (Instr.typeAssert (.iface 234 (.int .i64 n)) 186 233 true).run Tryz.prog w = .ok (.tuple #[.agg #[], .bool false]) w := by kernel_rfl
theorem as_empty_s (w : World) : (Instr.typeAssert (.iface 235 (.agg #[])) 186 233 true).run Tryz.prog w = .ok (.tuple #[.agg #[], .bool false]) w := by kernel_rfl
theorem as_frame_f (w : World) (n : Int) : (Instr.typeAssert (.iface 234 (.int .i64 n)) 186 234 true).run Tryz.prog w = .ok (.tuple #[.int .i64 n, .bool true]) w := by kernel_rfl
theorem as_frame_s (w : World) : (Instr.typeAssert (.iface 235 (.agg #[])) 186 234 true).run Tryz.prog w = .ok (.tuple #[.int .i64 0, .bool false]) w := by kernel_rfl
def rwd (zs : List IV) (f nd x : Int) (rs : List Bs) : Bool := if goodB x then rfr zs f nd rs (fr x) else decide (x = 0)
set_option maxRecDepth 100000 in
set_option maxHeartbeats 2000000 in
theorem allows_any (w : World) (zs : List IV) (hz : zs.length = 12) (hs : ShortI zs) (f nd x : Int) (b : Nat) (rs : List Bs) (h : SetAt w b rs) :
    Calls Tryz.prog 135 #[.agg (rcC zs f nd (some b)).toArray, tv x] w (BRes (rwd zs f nd x rs) w) := by
  have HB : Hid (∀ o, Below w.heap.size w (w.alloc o)) := Lib.hid (fun o => (Below.refl _ _).alloc (Nat.le_refl _) _)
  have HL : Hid ((rcC zs f nd (some b)).length = 39) := Lib.hid (rcC_len hz _ _ _)
  have HAF := Lib.hid (fun i hi w' hh => allowsFrame_any w' zs hz hs i hi f nd b rs hh)
  have HS : Hid (∀ o, SetAt (w.alloc o) b rs) := Lib.hid (fun o => h.below ((Below.refl _ _).alloc (Nat.le_refl _) _))
  obtain ⟨L, hL⟩ : ∃ L, L = rcC zs f nd (some b) := ⟨_, rfl⟩
  rw [← hL] at HAF HL ⊢
  have HRG : Hid (∀ t, (w.alloc (.cells L.toArray t)).rangeAt w.heap.size 0 L) := Lib.hid (fun t => range_row (heap_alloc_new w _))
  clear hL h
  by_cases hg : goodB x
  · have hfr := good_frame hg
    obtain ⟨i, hi⟩ : ∃ i : Nat, x / 4 = (i : Int) := ⟨(x / 4).toNat, by omega⟩
    have hi12 : i < 12 := by omega
    have HTV : tv x = .iface 234 (.int .i64 (i : Int)) := by unfold tv; rw [if_pos hg, hi]
    have HR : rwd zs f nd x rs = rfr zs f nd rs i := by unfold rwd fr; rw [if_pos hg, hi, Int.toNat_natCast]
    rw [HTV, HR]
    have HA := Lib.hid (fun o => HAF.out i hi12 _ (HS.out o))
    obtain ⟨r, hr⟩ : ∃ r, r = rfr zs f nd rs i := ⟨_, rfl⟩
    rw [← hr] at HA ⊢
    have h1 := as_empty_f
    have h2 := as_frame_f
    clear hr hg hfr hi HTV HR hz hs HAF
    go_enter Tryz.func135, Tryz.ntmps135
    go_wp2_with (first | ((with_reducible refine box_is 130 (.tmp 0) ?_); refine box_arr 130 (.tmp 0) L.toArray rfl ?_) | ((with_reducible refine load_is 130 (.tmp 2) ?_); refine load_arr 130 (.tmp 2) w.heap.size 0 L _ rfl (HRG.out _) Tryz.underlying130 rfl (info_rule HL.out) ?_))
    refine (HA.out _).mono ?_
    rintro e w1 ⟨rfl, hb1⟩
    have B1 := Lib.hid ((HB.out _).trans (hb1.mono (HB.out _).size))
    clear hb1
    go_wp2_with fail
    go_ret
    exact ⟨rfl, B1.out⟩
  · by_cases h0 : x = 0
    · have HTV : tv x = .iface 233 (.agg #[]) := by unfold tv; rw [if_neg hg, if_pos h0]
      have HR : rwd zs f nd x rs = true := by unfold rwd; rw [if_neg hg, decide_eq_true h0]
      rw [HTV, HR]
      have h1 := as_empty_e
      clear hg h0 HTV HR hz hs HAF
      go_enter Tryz.func135, Tryz.ntmps135
      go_wp2_with ((with_reducible refine box_is 130 (.tmp 0) ?_); refine box_arr 130 (.tmp 0) L.toArray rfl ?_)
      go_ret
      exact ⟨rfl, ((Below.refl _ _).alloc (Nat.le_refl _) _).alloc (by simp) _⟩
    · have HTV : tv x = .iface 235 (.agg #[]) := by unfold tv; rw [if_neg hg, if_neg h0]
      have HR : rwd zs f nd x rs = false := by unfold rwd; rw [if_neg hg, decide_eq_false h0]
      rw [HTV, HR]
      have h1 := as_empty_s
      have h2 := as_frame_s
      clear hg h0 HTV HR hz hs HAF
      go_enter Tryz.func135, Tryz.ntmps135
      go_wp2_with ((with_reducible refine box_is 130 (.tmp 0) ?_); refine box_arr 130 (.tmp 0) L.toArray rfl ?_)
      go_ret
      exact ⟨rfl, HB.out _⟩
def rall (zs : List IV) (f nd : Int) (row : List Int) (rs : List Bs) : Bool := (List.range 4).all (fun i => rwd zs f nd (row.getD i 0) rs)
set_option maxRecDepth 100000 in
set_option maxHeartbeats 4000000 in
theorem allowsAll_any (w : World) (zs : List IV) (hz : zs.length = 12) (hs : ShortI zs) (f nd : Int) (row : List Int) (h4 : row.length = 4) (hb : ∀ i, i < 4 → 0 ≤ row.getD i 0 ∧ row.getD i 0 ≤ 9999) (b : Nat) (rs : List Bs) (h : SetAt w b rs) :
    Calls Tryz.prog 78 #[.agg (rcC zs f nd (some b)).toArray, .agg (rowC row)] w (BRes (rall zs f nd row rs) w) := by
  have HL : Hid ((rcC zs f nd (some b)).length = 39) := Lib.hid (rcC_len hz _ _ _)
  have HAL := Lib.hid (fun x w' hh => allows_any w' zs hz hs f nd x b rs hh)
  have HIX : Hid (∀ k : Nat, k < 4 → ∀ W, (Instr.index 92 (.agg (rowC row)) (.int .i64 k)).run Tryz.prog W = .ok (.int .i64 (row.getD k 0)) W) := Lib.hid (fun k hk W => words_index row h4 hk W)
  unfold rowC at HIX ⊢
  have HLM : Hid ((row.map (Value.int .i64)).length = 4) := Lib.hid (by rw [List.length_map, h4])
  obtain ⟨M, hM⟩ : ∃ M, M = row.map (Value.int .i64) := ⟨_, rfl⟩
  obtain ⟨x, hx⟩ : ∃ x : Nat → Int, x = (fun j => row.getD j 0) := ⟨_, rfl⟩
  have hxe : ∀ k, row.getD k 0 = x k := fun k => by rw [hx]
  unfold rall
  simp only [hxe] at HIX hb ⊢
  rw [← hM] at HIX HLM ⊢
  have HIW : Hid ((Tryz.prog.info? 92).map (·.size) = some M.length) := Lib.hid (by rw [HLM.out]; exact info_words)
  obtain ⟨L, hL⟩ : ∃ L, L = rcC zs f nd (some b) := ⟨_, rfl⟩
  rw [← hL] at HAL HL ⊢
  have HX := Lib.hid hb
  have HRL : Hid (∀ t o, ((w.alloc (.cells L.toArray t)).alloc o).rangeAt w.heap.size 0 L) := Lib.hid (fun t o => range_blocks (range_row (heap_alloc_new w _)) (heap_alloc_old _ _ (by simp)))
  have HRM : Hid (∀ o t, ((w.alloc o).alloc (.cells M.toArray t)).rangeAt (w.heap.size + 1) 0 M) := Lib.hid (fun o t => by
    have := range_row (heap_alloc_new (w.alloc o) (.cells M.toArray t))
    rwa [World.size_alloc] at this)
  have HB0 : Hid (∀ o1 o2, Below w.heap.size w ((w.alloc o1).alloc o2)) := Lib.hid (fun o1 o2 => ((Below.refl _ _).alloc (Nat.le_refl _) _).alloc (by simp) _)
  have HS0 : Hid (∀ o1 o2, SetAt ((w.alloc o1).alloc o2) b rs) := Lib.hid (fun o1 o2 => h.below (HB0.out _ _))
  obtain ⟨R, hR⟩ : ∃ R : Bool, R = (List.range 4).all (fun i => rwd zs f nd (x i) rs) := ⟨_, rfl⟩
  have HRT : Hid ((∀ j, j < 4 → rwd zs f nd (x j) rs = true) → R = true) := Lib.hid (fun hh => by
    rw [hR, List.all_eq_true]
    exact fun j hj => hh j (List.mem_range.1 hj))
  have HRF : Hid (∀ t, t < 4 → rwd zs f nd (x t) rs = false → R = false) := Lib.hid (fun t ht hh => by
    rw [hR, List.all_eq_false]
    exact ⟨t, List.mem_range.2 ht, by rw [hh]; simp⟩)
  rw [← hR]
  clear hx hxe hL hM hR hb h h4 HLM
  go_enter Tryz.func78, Tryz.ntmps78
  go_wp2_with (first | ((with_reducible refine box_is 130 (.tmp 0) ?_); refine box_arr 130 (.tmp 0) L.toArray rfl ?_) | ((with_reducible refine box_is 92 (.tmp 1) ?_); refine box_arr 92 (.tmp 1) M.toArray rfl ?_) | ((with_reducible refine load_is 92 (.tmp 3) ?_); refine load_arr 92 (.tmp 3) (w.heap.size + 1) 0 M _ rfl (HRM.out _ _) Tryz.underlying92 rfl HIW.out ?_))
  obtain ⟨w0, hw0⟩ : ∃ w0, w0 = (w.alloc (.cells L.toArray 130)).alloc (.cells M.toArray 92) := ⟨_, rfl⟩
  have HB1 : Hid (Below w.heap.size w w0) := Lib.hid (by rw [hw0]; exact HB0.out _ _)
  have HS1 : Hid (SetAt w0 b rs) := Lib.hid (by rw [hw0]; exact HS0.out _ _)
  have HR1 : Hid (w0.rangeAt w.heap.size 0 L ∧ w.heap.size < w0.heap.size) := Lib.hid (by rw [hw0]; exact ⟨HRL.out _ _, by simp; omega⟩)
  obtain ⟨X, hX⟩ : ∃ X, X = w.heap.size := ⟨_, rfl⟩
  rw [← hX] at HR1
  rw [← hw0, ← hX]
  clear hw0 hX HRL HRM HB0 HS0
  go_loopw [8] (fun i wr => ∃ t : Nat, t ≤ 4 ∧ i = .int .i64 t ∧ Hid (Below w0.heap.size w0 wr) ∧ Hid (∀ j, j < t → rwd zs f nd (x j) rs = true)) (fun i _ => 4 - (intOf i).toNat)
  case atStart => exact ⟨0, Nat.zero_le _, rfl, Lib.hid (Below.refl _ _), Lib.hid (fun j hj => by omega)⟩
  case round =>
    obtain ⟨t, ht, rfl, HBW, HP⟩ := hrel
    by_cases hlt : t < 4
    · have hlt' : (t : Int) < 4 := by omega
      have HIX' := HIX.out t hlt
      have hxb := HX.out t hlt
      have HTW := Lib.hid (fun w => tableWordOf_any w (x t) hxb.1 hxb.2)
      have HSW : Hid (SetAt wr.drew b rs) := Lib.hid (HS1.out.below HBW.out.drew)
      have HA := Lib.hid (HAL.out (x t) wr.drew HSW.out)
      have HRW : Hid (wr.rangeAt X 0 L) := Lib.hid (range_blocks HR1.out.1 (HBW.out.block _ HR1.out.2))
      obtain ⟨y, hy⟩ : ∃ y, y = x t := ⟨_, rfl⟩
      obtain ⟨r, hr⟩ : ∃ r, r = rwd zs f nd (x t) rs := ⟨_, rfl⟩
      rw [← hr] at HA
      rw [← hy] at HIX' HTW HA
      have HRR := Lib.hid hr
      obtain ⟨V, hV⟩ : ∃ V, V = tv y := ⟨_, rfl⟩
      rw [← hV] at HTW HA
      clear hxb hy hr hV
      go_wp2_with fail
      cases r with
      | true =>
        have HPN : Hid (∀ j, j < t + 1 → rwd zs f nd (x j) rs = true) := Lib.hid (fun j hj => by
          by_cases e : j = t
          · rw [e]; exact HRR.out.symm
          · exact HP.out j (by omega))
        refine wp_region_held_drew (S := fun w' => w'.rangeAt X 0 L) (by kernel_rfl) HRW.out (fun hHeld => ?_)
        refine wpAnyH_take (i := 0) (oi := { dst := some 11, op := .load 130 (.tmp 2), type := _, pos := _, after := _, guard := none }) (v := .agg L.toArray) rfl (by kernel_rfl) (by kernel_rfl) (by kernel_rfl) (fun _ _ _ h => h) (Or.inl ⟨by rfl, fun wh hSw => ?_⟩) hHeld ?_
        · (simp only [execOp]; exact load_run 130 X 0 L _ hSw Tryz.underlying130 rfl (info_rule HL.out))
        try simp only [Act.put, List.setIfInBounds_toArray, List.set_cons_zero, List.set_cons_succ]
        refine wpAnyH_take (i := 1) (oi := { dst := some 12, op := .move (.tmp 6), type := _, pos := _, after := _, guard := none }) (v := .int .i64 y) rfl (by kernel_rfl) (by kernel_rfl) (by kernel_rfl) (fun _ _ _ h => h) (Or.inl ⟨by rfl, fun wh hSw => ?_⟩) hHeld ?_
        · (dsimp only at hSw; go_simp)
        try simp only [Act.put, List.setIfInBounds_toArray, List.set_cons_zero, List.set_cons_succ]
        refine wpAnyH_ready (rs := [2]) (by kernel_rfl) (by simp) ?_
        refine AllReadyH.cons (o := { dst := some 13, op := .call { callee := .value (.func 136), args := #[.tmp 12], argTypes := #[3] }, type := _, pos := _, after := _, guard := none }) rfl (fun K hK => ?_) AllReadyH.nil
        go_simp
        refine (HTW.out _).mono ?_
        rintro e w' ⟨rfl, rfl⟩
        try go_simp
        refine hK.out _ _ ?_ (fun hHeld => ?_)
        · exact hHeld
        clear hK K
        try simp only [Act.put, List.setIfInBounds_toArray, List.set_cons_zero, List.set_cons_succ]
        refine wpAnyH_ready (rs := [3]) (by kernel_rfl) (by simp) ?_
        refine AllReadyH.cons (o := { dst := some 14, op := .call { callee := .value (.func 135), args := #[.tmp 11, .tmp 13], argTypes := #[130, 186] }, type := _, pos := _, after := _, guard := none }) rfl (fun K hK => ?_) AllReadyH.nil
        go_simp
        refine HA.out.mono ?_
        rintro e w5 ⟨rfl, hb5⟩
        have HB5 := Lib.hid hb5
        clear hb5
        try go_simp
        refine hK.out _ _ ?_ (fun hHeld => ?_)
        · exact range_blocks hHeld (HB5.out.block X (Nat.lt_of_lt_of_le HR1.out.2 HBW.out.size))
        clear hK K
        try simp only [Act.put, List.setIfInBounds_toArray, List.set_cons_zero, List.set_cons_succ]
        refine wpAnyH_take (i := 4) (oi := { dst := some 15, op := .unOp .not 4 (.tmp 14), type := _, pos := _, after := _, guard := none }) (v := .bool false) rfl (by kernel_rfl) (by kernel_rfl) (by kernel_rfl) (fun _ _ _ h => h) (Or.inl ⟨by rfl, fun wh hSw => ?_⟩) hHeld ?_
        · (dsimp only at hSw; go_simp)
        try simp only [Act.put, List.setIfInBounds_toArray, List.set_cons_zero, List.set_cons_succ]
        refine wpAnyH_done (by kernel_rfl) ?_ _
        have HBN : Hid (Below w0.heap.size w0 w5) := Lib.hid (HBW.out.drew.trans (HB5.out.mono HBW.out.size))
        go_wp2_with fail
        go_roundw
        case rel => exact ⟨t + 1, by omega, by go_num, HBN, HPN⟩
        case measure => simp [intOf]; omega
      | false =>
        have HF := Lib.hid (HRF.out t hlt HRR.out.symm)
        refine wp_region_held_drew (S := fun w' => w'.rangeAt X 0 L) (by kernel_rfl) HRW.out (fun hHeld => ?_)
        refine wpAnyH_take (i := 0) (oi := { dst := some 11, op := .load 130 (.tmp 2), type := _, pos := _, after := _, guard := none }) (v := .agg L.toArray) rfl (by kernel_rfl) (by kernel_rfl) (by kernel_rfl) (fun _ _ _ h => h) (Or.inl ⟨by rfl, fun wh hSw => ?_⟩) hHeld ?_
        · (simp only [execOp]; exact load_run 130 X 0 L _ hSw Tryz.underlying130 rfl (info_rule HL.out))
        try simp only [Act.put, List.setIfInBounds_toArray, List.set_cons_zero, List.set_cons_succ]
        refine wpAnyH_take (i := 1) (oi := { dst := some 12, op := .move (.tmp 6), type := _, pos := _, after := _, guard := none }) (v := .int .i64 y) rfl (by kernel_rfl) (by kernel_rfl) (by kernel_rfl) (fun _ _ _ h => h) (Or.inl ⟨by rfl, fun wh hSw => ?_⟩) hHeld ?_
        · (dsimp only at hSw; go_simp)
        try simp only [Act.put, List.setIfInBounds_toArray, List.set_cons_zero, List.set_cons_succ]
        refine wpAnyH_ready (rs := [2]) (by kernel_rfl) (by simp) ?_
        refine AllReadyH.cons (o := { dst := some 13, op := .call { callee := .value (.func 136), args := #[.tmp 12], argTypes := #[3] }, type := _, pos := _, after := _, guard := none }) rfl (fun K hK => ?_) AllReadyH.nil
        go_simp
        refine (HTW.out _).mono ?_
        rintro e w' ⟨rfl, rfl⟩
        try go_simp
        refine hK.out _ _ ?_ (fun hHeld => ?_)
        · exact hHeld
        clear hK K
        try simp only [Act.put, List.setIfInBounds_toArray, List.set_cons_zero, List.set_cons_succ]
        refine wpAnyH_ready (rs := [3]) (by kernel_rfl) (by simp) ?_
        refine AllReadyH.cons (o := { dst := some 14, op := .call { callee := .value (.func 135), args := #[.tmp 11, .tmp 13], argTypes := #[130, 186] }, type := _, pos := _, after := _, guard := none }) rfl (fun K hK => ?_) AllReadyH.nil
        go_simp
        refine HA.out.mono ?_
        rintro e w5 ⟨rfl, hb5⟩
        have HB5 := Lib.hid hb5
        clear hb5
        try go_simp
        refine hK.out _ _ ?_ (fun hHeld => ?_)
        · exact range_blocks hHeld (HB5.out.block X (Nat.lt_of_lt_of_le HR1.out.2 HBW.out.size))
        clear hK K
        try simp only [Act.put, List.setIfInBounds_toArray, List.set_cons_zero, List.set_cons_succ]
        refine wpAnyH_take (i := 4) (oi := { dst := some 15, op := .unOp .not 4 (.tmp 14), type := _, pos := _, after := _, guard := none }) (v := .bool true) rfl (by kernel_rfl) (by kernel_rfl) (by kernel_rfl) (fun _ _ _ h => h) (Or.inl ⟨by rfl, fun wh hSw => ?_⟩) hHeld ?_
        · (dsimp only at hSw; go_simp)
        try simp only [Act.put, List.setIfInBounds_toArray, List.set_cons_zero, List.set_cons_succ]
        refine wpAnyH_done (by kernel_rfl) ?_ _
        have HBN : Hid (Below w0.heap.size w0 w5) := Lib.hid (HBW.out.drew.trans (HB5.out.mono HBW.out.size))
        have HBR := Lib.hid (HB1.out.trans (HBN.out.mono HB1.out.size))
        go_wp2_with fail
        go_ret
        exact ⟨by rw [HF.out]; rfl, HBR.out⟩
    · have e : t = 4 := by omega
      subst e
      have HF := Lib.hid (HRT.out HP.out)
      have HBN := Lib.hid (HB1.out.trans (HBW.out.mono HB1.out.size))
      go_wp2_with fail
      go_ret
      exact ⟨by rw [HF.out]; rfl, HBN.out⟩
end Go.Proofs.YtcmmlgdfhkcmoaaGreat
namespace Go.Proofs.YtcmmlgdfhkcmoaaGreat
open Go.ChangeShapes Go.WideShapes Go.ChangeAt Go.RowKit
set_option linter.unusedVariables false
set_option maxRecDepth 100000
section
theorem foldl_zip (off : Nat) : ∀ (c : List Value) (k : Nat) (p z : List Value), off + k = p.length → c.length ≤ z.length →
    (c.zipIdx k).foldl (fun (cs : Array Value) (x : Value × Nat) => cs.setIfInBounds (off + x.2) x.1) (p ++ z).toArray = (p ++ (c ++ z.drop c.length)).toArray
  | [], k, p, z, _, _ => by simp
  | v :: c, k, p, [], _, h => by simp at h
  | v :: c, k, p, y :: z, hk, h => by
    rw [List.zipIdx_cons, List.foldl_cons]
    have e : (p ++ y :: z).toArray.setIfInBounds (off + k) v = ((p ++ [v]) ++ z).toArray := by
      rw [List.setIfInBounds_toArray, hk]
      congr 1
      simp
    show (c.zipIdx (k + 1)).foldl _ ((p ++ y :: z).toArray.setIfInBounds (off + k) v) = _
    rw [e, foldl_zip off c (k + 1) (p ++ [v]) z (by simp; omega) (by simp at h; omega)]
    simp
theorem fill_step {place : Nat → Option (Nat × Nat)} {i : Nat} {v : Value} {rest : List (Nat × Value)} {p c z : List Value} {s : Nat} (hp : place i = some (p.length, s)) (hv : v.cells = c.toArray) (hs : c.length = s) (hz : c.length ≤ z.length) :
    Instr.fill place (p ++ z).toArray ((i, v) :: rest) = Instr.fill place ((p ++ c) ++ z.drop c.length).toArray rest := by
  have h1 : ¬ (v.cells.size ≠ s ∨ p.length + v.cells.size > (p ++ z).toArray.size) := by
    rw [hv]
    simp only [List.size_toArray, List.length_append]
    omega
  rw [Instr.fill, hp]
  simp only [Bool.or_eq_true, decide_eq_true_eq]
  rw [if_neg (by simpa using h1), hv]
  congr 1
  have := foldl_zip p.length c 0 p z (by omega) hz
  rw [List.append_assoc, ← this]
  simp [Array.zipIdx, List.mapIdx_eq_zipIdx_map]
end
theorem wpList_build_run {P : Program} {ops : Array Oper} {rest : List Oper} {op : Oper} {a : Act} {w : World} {Q : Exit → Act → World → Prop} (hgd : op.guard = none) (t : TypeId) (parts : Array (Nat × Operand)) (ho : op.op = .build t parts)
    (z : Array Value) (hz : ∀ w, (Instr.build t (parts.map fun (i, x) => (i, a.eval x))).run P w = .ok (.agg z) w)
    (h : wpList P ops Q rest (a.put op.dst (.agg z)) w) : wpList P ops Q (op :: rest) a w :=
  wpList_plain hgd fun _ hK => by
    unfold Oper.wp execOp
    simp only [ho, Sem.run_bind, Sem.run_pure, Result.andThen_ok, hz]
    exact hK _ _ h
theorem build_run {P : Program} {ops : Array Oper} {rest : List Oper} {a : Act} {w : World} {Q : Exit → Act → World → Prop} {dst : Option Nat} {tt : TypeId} {pos : String} {after : Array Edge} (t : TypeId) (parts : Array (Nat × Operand))
    (z : Array Value) (hz : ∀ w, (Instr.build t (parts.map fun (i, x) => (i, a.eval x))).run P w = .ok (.agg z) w)
    (h : wpList P ops Q rest (a.put dst (.agg z)) w) : wpList P ops Q ({ dst := dst, op := .build t parts, type := tt, pos := pos, after := after, guard := none } :: rest) a w :=
  wpList_build_run rfl t parts rfl z hz h
theorem build_run0 {P : Program} {ops : Array Oper} {rest : List Oper} {a : Act} {w : World} {Q : Exit → Act → World → Prop} {dst : Option Nat} {tt : TypeId} {pos : String} {after : Array Edge} (t : TypeId)
    (z : Array Value) (hz : ∀ w, (Instr.build t #[]).run P w = .ok (.agg z) w)
    (h : wpList P ops Q rest (a.put dst (.agg z)) w) : wpList P ops Q ({ dst := dst, op := .build t #[], type := tt, pos := pos, after := after, guard := none } :: rest) a w :=
  build_run t _ z (fun w => by
    have e : (#[] : Array (Nat × Operand)).map (fun (i, x) => (i, a.eval x)) = #[] := by simp
    rw [e]; exact hz w) h
theorem build_run2 {P : Program} {ops : Array Oper} {rest : List Oper} {a : Act} {w : World} {Q : Exit → Act → World → Prop} {dst : Option Nat} {tt : TypeId} {pos : String} {after : Array Edge} (t : TypeId) (x y : Operand) (vx vy : Value) (hx : a.eval x = vx) (hy : a.eval y = vy)
    (z : Array Value) (hz : ∀ w, (Instr.build t #[(0, vx), (1, vy)]).run P w = .ok (.agg z) w)
    (h : wpList P ops Q rest (a.put dst (.agg z)) w) : wpList P ops Q ({ dst := dst, op := .build t #[(0, x), (1, y)], type := tt, pos := pos, after := after, guard := none } :: rest) a w :=
  build_run t _ z (fun w => by
    have e : (#[(0, x), (1, y)] : Array (Nat × Operand)).map (fun (i, x) => (i, a.eval x)) = #[(0, vx), (1, vy)] := by simp [hx, hy]
    rw [e]; exact hz w) h
theorem build_run4 {P : Program} {ops : Array Oper} {rest : List Oper} {a : Act} {w : World} {Q : Exit → Act → World → Prop} {dst : Option Nat} {tt : TypeId} {pos : String} {after : Array Edge} (t : TypeId) (x y u v : Operand) (vx vy vu vv : Value) (hx : a.eval x = vx) (hy : a.eval y = vy) (hu : a.eval u = vu) (hv : a.eval v = vv)
    (z : Array Value) (hz : ∀ w, (Instr.build t #[(0, vx), (1, vy), (2, vu), (3, vv)]).run P w = .ok (.agg z) w)
    (h : wpList P ops Q rest (a.put dst (.agg z)) w) : wpList P ops Q ({ dst := dst, op := .build t #[(0, x), (1, y), (2, u), (3, v)], type := tt, pos := pos, after := after, guard := none } :: rest) a w :=
  build_run t _ z (fun w => by
    have e : (#[(0, x), (1, y), (2, u), (3, v)] : Array (Nat × Operand)).map (fun (i, x) => (i, a.eval x)) = #[(0, vx), (1, vy), (2, vu), (3, vv)] := by simp [hx, hy, hu, hv]
    rw [e]; exact hz w) h
theorem buildp_is {P : Program} {ops : Array Oper} {rest : List Oper} {a : Act} {w : World} {Q : Exit → Act → World → Prop} {dst : Option Nat} {tt : TypeId} {pos : String} {after : Array Edge} (ty : TypeId) (parts : Array (Nat × Operand)) (h : wpList P ops Q ({ dst := dst, op := .build ty parts, type := tt, pos := pos, after := after, guard := none } :: rest) a w) : wpList P ops Q ({ dst := dst, op := .build ty parts, type := tt, pos := pos, after := after, guard := none } :: rest) a w := h
def Z84 : List Value := List.replicate 48 (Value.int .i64 0) ++ isC z12
theorem Z84_len : Z84.length = 84 := rfl
theorem run_build_tables (A B : List Value) (hA : A.length = 48) (hB : B.length = 36) (w : World) : (Instr.build 126 #[(0, .agg A.toArray), (1, .agg B.toArray)]).run Tryz.prog w = .ok (.agg (A ++ B).toArray) w := by
  have hb : ∀ X Y : Value, Tryz.prog.built 126 [(0, X), (1, Y)] = Instr.fill ((#[(0, 48), (48, 36)] : Array (Nat × Nat))[·]?) Z84.toArray [(0, X), (1, Y)] := fun X Y => by kernel_rfl
  refine run_build w _ _ _ ((hb _ _).trans ?_)
  have hz := Z84_len
  rw [show Z84.toArray = ([] ++ Z84).toArray from rfl, fill_step (p := []) (c := A) (s := 48) rfl rfl hA (by omega), fill_step (c := B) (s := 36) (by rw [List.nil_append, hA]; rfl) rfl hB (by rw [List.length_drop]; omega)]
  rw [Instr.fill, List.nil_append, List.drop_of_length_le (by rw [List.length_drop]; omega), List.append_nil]
def Z39 : List Value := isC z12 ++ [Value.int .i64 0, Value.int .i64 0, Value.map none]
theorem run_build_rule (B : List Value) (hB : B.length = 36) (f n : Int) (m : Option Nat) (w : World) : (Instr.build 130 #[(0, .agg B.toArray), (1, .int .i64 f), (2, .int .i64 n), (3, .map m)]).run Tryz.prog w = .ok (.agg (B ++ [Value.int .i64 f, Value.int .i64 n, Value.map m]).toArray) w := by
  have hb : ∀ X Y Z U : Value, Tryz.prog.built 130 [(0, X), (1, Y), (2, Z), (3, U)] = Instr.fill ((#[(0, 36), (36, 1), (37, 1), (38, 1)] : Array (Nat × Nat))[·]?) Z39.toArray [(0, X), (1, Y), (2, Z), (3, U)] := fun X Y Z U => by kernel_rfl
  refine run_build w _ _ _ ((hb _ _ _ _).trans ?_)
  have hz : Z39.length = 39 := rfl
  rw [show Z39.toArray = ([] ++ Z39).toArray from rfl, fill_step (p := []) (c := B) (s := 36) rfl rfl hB (by omega),
    fill_step (c := [Value.int .i64 f]) (s := 1) (by rw [List.nil_append, hB]; rfl) rfl rfl (by simp only [List.length_drop, List.length_cons, List.length_nil]; omega),
    fill_step (c := [Value.int .i64 n]) (s := 1) (by rw [List.nil_append, List.length_append, hB]; rfl) rfl rfl (by simp only [List.length_drop, List.length_cons, List.length_nil]; omega),
    fill_step (c := [Value.map m]) (s := 1) (by rw [List.nil_append, List.length_append, List.length_append, hB]; rfl) rfl rfl (by simp only [List.length_drop, List.length_cons, List.length_nil]; omega)]
  rw [Instr.fill, List.nil_append, List.drop_of_length_le (by simp only [List.length_drop, List.length_cons, List.length_nil]; omega), List.append_nil, List.append_assoc, List.append_assoc]
  rfl
theorem run_zero_rule (w : World) : (Instr.build 130 #[]).run Tryz.prog w = .ok (.agg Z39.toArray) w := run_build w _ _ _ (by kernel_rfl)
theorem build_val {P : Program} {W : World} (t : TypeId) (parts : Array (Nat × Value)) (z : Array Value) (hz : (Instr.build t parts).run P W = .ok (.agg z) W) :
    ((do let l ← Instr.build t parts; pure (Next.value l)) : Sem Next).run P W = .ok (.value (.agg z)) W := by
  simp only [Sem.run_bind, hz, Result.andThen_ok, Sem.run_pure]
end Go.Proofs.YtcmmlgdfhkcmoaaGreat
namespace Go.Proofs.YtcmmlgdfhkcmoaaGreat
open Go.ChangeShapes Go.WideShapes Go.ChangeAt Go.RowKit
set_option linter.unusedVariables false
set_option maxRecDepth 100000
set_option linter.unusedSimpArgs false
theorem zero_tables (w : World) : (zeroValue 126).run Tryz.prog w = .ok (.agg Z84.toArray) w := Tryz.zeroValue126 w
theorem info_tables {n : Nat} (h : n = 84) : (Tryz.prog.info? 126).map (·.size) = some n := by subst h; kernel_rfl
def mC (xss : List (List Int)) : List Value := if memOk xss = true then flatL xss else List.replicate 48 (Value.int .i64 0)
theorem mC_ok {xss : List (List Int)} (h : memOk xss = true) : mC xss = flatL xss := if_pos h
theorem mC_len (xss : List (List Int)) : (mC xss).length = 48 := by
  unfold mC
  split
  · rename_i h; exact flat_len h
  · rw [List.length_replicate]
theorem mC_arr (xss : List (List Int)) : (bif memOk xss then (flatL xss).toArray else zero48) = (mC xss).toArray := by
  unfold mC
  cases memOk xss
  · show zero48 = _
    unfold zero48
    rw [if_neg (by simp)]; rfl
  · rfl
theorem mC_one (xss : List (List Int)) : (mC xss).toArray.all (·.oneCell') = true := by
  unfold mC
  split
  · exact flat_one xss
  · exact all_oneCell_toArray (fun v hv => by rw [List.eq_of_mem_replicate hv]; rfl)
def tC (xss : List (List Int)) (zs : List IV) : List Value := mC xss ++ isC zs
theorem tC_len (xss : List (List Int)) {zs : List IV} (hz : zs.length = 12) : (tC xss zs).length = 84 := by
  unfold tC
  rw [List.length_append, mC_len, isC_36 hz]
theorem tC_one (xss : List (List Int)) (zs : List IV) : (tC xss zs).toArray.all (·.oneCell') = true := all_oneCell_toArray (fun v hv => by
  unfold tC at hv
  rcases List.mem_append.1 hv with h | h
  · have := mC_one xss
    rw [List.all_toArray, List.all_eq_true] at this
    exact this v h
  · exact isC_one zs v h)
structure VarL (w : World) (B : Nat) (L : List Value) (W : World) : Prop where
  bel : Below w.heap.size w W
  lo : w.heap.size ≤ B
  hi : B < W.heap.size
  at0 : W.rangeAt B 0 L
  th : W.there B 0 L.length
theorem VarL.after {w W W2 : World} {B : Nat} {L : List Value} (h : VarL w B L W) (hb : Below W.heap.size W W2) : VarL w B L W2 :=
  ⟨h.bel.trans (hb.mono h.bel.size), h.lo, by have := h.hi; have := hb.size; omega, range_blocks h.at0 (hb.block _ h.hi), there_blocks h.th (hb.block _ h.hi)⟩
theorem VarL.make {w w1 : World} {L : List Value} {Z : Array Value} (t : TypeId) (hb : Below w.heap.size w w1) (hZ : Z.size = L.length) : (w1.alloc (.cells Z t)).there w1.heap.size 0 L.length ∧ VarL w w1.heap.size L ((w1.alloc (.cells Z t)).setCells w1.heap.size 0 L) := by
  have ht : (w1.alloc (.cells Z t)).there w1.heap.size 0 L.length := there_row (heap_alloc_new w1 _) (by omega)
  exact ⟨ht, Below.setCells (Below.refl _ _) _ hb.size _ _ _ (hb.alloc hb.size _), hb.size, by rw [size_setCells]; simp, World.rangeAt_setCells_same _ _ _ _ ht, fun j hj => by
    have h0 := World.there_setCells ht w1.heap.size 0 L
    exact h0 j hj⟩
theorem VarL.new {w w1 : World} (L : List Value) (t : TypeId) (hb : Below w.heap.size w w1) : VarL w w1.heap.size L (w1.alloc (.cells L.toArray t)) :=
  ⟨hb.alloc hb.size _, hb.size, by simp, range_row (heap_alloc_new w1 _), there_row (heap_alloc_new w1 _) (by simp)⟩
theorem VarL.set {w W : World} {B : Nat} {L : List Value} (h : VarL w B L W) {M : List Value} (hm : M.length = L.length) : VarL w B M (W.setCells B 0 M) := by
  have ht : W.there B 0 M.length := by rw [hm]; exact h.th
  exact ⟨Below.setCells (Below.refl _ _) _ h.lo _ _ _ h.bel, h.lo, by rw [size_setCells]; exact h.hi, World.rangeAt_setCells_same _ _ _ _ ht, World.there_setCells ht B 0 M⟩
theorem VarL.other {w W : World} {B C : Nat} {L : List Value} (h : VarL w B L W) (hc : w.heap.size ≤ C) (hne : B ≠ C) (o : Nat) (M : List Value) : VarL w B L (W.setCells C o M) :=
  ⟨Below.setCells (Below.refl _ _) _ hc _ _ _ h.bel, h.lo, by rw [size_setCells]; exact h.hi, range_blocks h.at0 (heap_setCells_other W _ _ _ _ _ hne), there_blocks h.th (heap_setCells_other W _ _ _ _ _ hne)⟩
def ArrT (L : List Value) (b : Bool) (w : World) (e : Ending) (w' : World) : Prop := e = .returned (.tuple #[.agg L.toArray, .bool b]) ∧ Below w.heap.size w w'
set_option maxRecDepth 100000 in
set_option maxHeartbeats 2000000 in
theorem tablesOf_any (w : World) (vm vl : Value) (xss : List (List Int)) (ys : List IV) (hm : Rows2 w vm xss) (hl : Is w vl ys) (hs : ShortI ys) :
    Calls Tryz.prog 76 #[vm, vl] w (ArrT (tC xss (arrOf ys)) (memOk xss && isok ys) w) := by
  have HCM : Hid (∀ w', Below w.heap.size w w' → Calls Tryz.prog 79 #[vm] w' (ArrRes w' (mC xss).toArray (memOk xss))) := Lib.hid (fun w' hb => by
    rw [← mC_arr]; exact memoryOf_any (hm.below hb))
  have HCI : Hid (∀ w', Below w.heap.size w w' → Calls Tryz.prog 60 #[vl] w' (ArrI (arrOf ys) (isok ys) w')) := Lib.hid (fun w' hb => infosOf_any w' vl ys (hl.below hb) hs)
  unfold ArrRes at HCM
  unfold ArrI at HCI
  unfold tC
  have HBT := Lib.hid (fun w => run_build_tables (mC xss) (isC (arrOf ys)) (mC_len xss) (isC_36 (arrOf_len ys)) w)
  have HA : Hid ((mC xss).length = 48) := Lib.hid (mC_len xss)
  have HB : Hid ((isC (arrOf ys)).length = 36) := Lib.hid (isC_36 (arrOf_len ys))
  have HOA : Hid ((mC xss).toArray.all (·.oneCell') = true) := Lib.hid (mC_one xss)
  have HOB : Hid ((isC (arrOf ys)).toArray.all (·.oneCell') = true) := Lib.hid (isC_all _)
  have HOT : Hid ((mC xss ++ isC (arrOf ys)).toArray.all (·.oneCell') = true) := Lib.hid (tC_one _ _)
  obtain ⟨A, hA⟩ : ∃ A, A = mC xss := ⟨_, rfl⟩
  obtain ⟨B, hB⟩ : ∃ B, B = isC (arrOf ys) := ⟨_, rfl⟩
  rw [← hA] at HCM HBT HA HOA HOT ⊢
  rw [← hB] at HCI HBT HB HOB HOT ⊢
  obtain ⟨a, ha⟩ : ∃ a, a = memOk xss := ⟨_, rfl⟩
  obtain ⟨b, hb⟩ : ∃ b, b = isok ys := ⟨_, rfl⟩
  rw [← ha] at HCM ⊢
  rw [← hb] at HCI ⊢
  have HAZ : Hid (A.toArray.size = A.length) := Lib.hid (by simp)
  have HBZ : Hid (B.toArray.size = B.length) := Lib.hid (by simp)
  obtain ⟨T, hT⟩ : ∃ T, T = A ++ B := ⟨_, rfl⟩
  have HT : Hid (T.length = 84) := Lib.hid (by rw [hT, List.length_append, HA.out, HB.out])
  rw [← hT] at HBT HOT ⊢
  have ZM := Lib.hid zero_mem
  have ZI := Lib.hid zero_infos
  have ZT := Lib.hid zero_tables
  have ZMS : Hid (zero48.size = A.length) := Lib.hid (by rw [HA.out]; exact zero_size)
  have ZIS : Hid ((isC z12).toArray.size = B.length) := Lib.hid (by rw [HB.out, List.size_toArray, isC_36 z12_len])
  have ZTS : Hid (Z84.length = T.length) := Lib.hid (by rw [HT.out]; rfl)
  obtain ⟨zm, hzm⟩ : ∃ z, z = zero48 := ⟨_, rfl⟩
  obtain ⟨zi, hzi⟩ : ∃ z, z = (isC z12).toArray := ⟨_, rfl⟩
  obtain ⟨zt, hzt⟩ : ∃ z, z = Z84 := ⟨_, rfl⟩
  rw [← hzm] at ZM ZMS
  rw [← hzi] at ZI ZIS
  rw [← hzt] at ZT ZTS
  clear hzm hzi hzt hT ha hb hA hB hm hl hs
  go_enter Tryz.func76, Tryz.ntmps76
  go_wp2_with (first | ((with_reducible refine alloc_is 126 ?_); refine alloc_arr 126 zt.toArray ZT.out ?_) | fail)
  have HV0 := Lib.hid (VarL.new zt 126 (Below.refl w.heap.size w))
  obtain ⟨X, hX⟩ : ∃ X, X = w.heap.size := ⟨_, rfl⟩
  obtain ⟨w0, hw0⟩ : ∃ w0, w0 = w.alloc (.cells zt.toArray 126) := ⟨_, rfl⟩
  rw [← hw0, ← hX] at HV0 ⊢
  have HXE := Lib.hid hX
  clear hX hw0
  refine (HCM.out _ HV0.out.bel).mono ?_
  rintro e w1 ⟨rfl, hb1⟩
  have HM := Lib.hid (VarL.make 94 (HV0.out.bel.trans (hb1.mono HV0.out.bel.size)) ZMS.out)
  have HV1 := Lib.hid ((HV0.out.after hb1).after ((Below.refl w1.heap.size w1).alloc (Nat.le_refl _) (.cells zm 94)))
  have HNE : Hid (X ≠ w1.heap.size) := Lib.hid (by have := (HV0.out.after hb1).hi; omega)
  obtain ⟨Y, hY⟩ : ∃ Y, Y = w1.heap.size := ⟨_, rfl⟩
  have HYL : Hid (w.heap.size ≤ Y) := Lib.hid (by rw [hY]; exact (HV0.out.after hb1).bel.size)
  have HYE := Lib.hid hY
  rw [← hY] at HM HNE
  obtain ⟨w2, hw2⟩ : ∃ w2, w2 = (w1.alloc (.cells zm 94)).setCells Y 0 A := ⟨_, rfl⟩
  have HX2 := Lib.hid (HV1.out.other HYL.out HNE.out 0 A)
  have HM2 := Lib.hid HM.out.2
  have HTH : Hid ((w1.alloc (.cells zm 94)).there w1.heap.size 0 A.toArray.size) := Lib.hid (by rw [← HYE.out, HAZ.out]; exact HM.out.1)
  rw [← hw2] at HX2 HM2
  have HW2 := Lib.hid hw2
  clear hY hw2 HM hb1
  go_wp2_with (first | ((with_reducible refine alloc_is 94 ?_); refine alloc_arr 94 zm ZM.out ?_) | ((with_reducible refine store_is 94 (.tmp 6) (.tmp 13) ?_); refine store_arr 94 (.tmp 6) (.tmp 13) w1.heap.size 0 A.toArray rfl rfl HTH.out (info_mem (HAZ.out.trans HA.out)) HOA.out ?_; rw [show A.toArray.toList = A from rfl, ← HYE.out, ← HW2.out]) | fail)
  refine (HCI.out _ HM2.out.bel).mono ?_
  rintro e w3 ⟨rfl, hb3⟩
  have HI := Lib.hid (VarL.make 96 (HM2.out.after hb3).bel ZIS.out)
  have HX3 := Lib.hid ((HX2.out.after hb3).after ((Below.refl w3.heap.size w3).alloc (Nat.le_refl _) (.cells zi 96)))
  have HM3 := Lib.hid ((HM2.out.after hb3).after ((Below.refl w3.heap.size w3).alloc (Nat.le_refl _) (.cells zi 96)))
  have HN3 : Hid (X ≠ w3.heap.size ∧ Y ≠ w3.heap.size) := Lib.hid (by have := (HX2.out.after hb3).hi; have := (HM2.out.after hb3).hi; omega)
  obtain ⟨V, hV⟩ : ∃ V, V = w3.heap.size := ⟨_, rfl⟩
  have HVL : Hid (w.heap.size ≤ V) := Lib.hid (by rw [hV]; exact (HX2.out.after hb3).bel.size)
  have HVE := Lib.hid hV
  rw [← hV] at HI HN3
  obtain ⟨w4, hw4⟩ : ∃ w4, w4 = (w3.alloc (.cells zi 96)).setCells V 0 B := ⟨_, rfl⟩
  have HX4 := Lib.hid (HX3.out.other HVL.out HN3.out.1 0 B)
  have HM4 := Lib.hid (HM3.out.other HVL.out HN3.out.2 0 B)
  have HI4 := Lib.hid HI.out.2
  have HTI : Hid ((w3.alloc (.cells zi 96)).there w3.heap.size 0 B.toArray.size) := Lib.hid (by rw [← HVE.out, HBZ.out]; exact HI.out.1)
  rw [← hw4] at HX4 HM4 HI4
  have HW4 := Lib.hid hw4
  clear hV hw4 HI hb3
  have HX5 := Lib.hid (HX4.out.set (M := T) (by rw [ZTS.out]))
  have HTX : Hid (w4.there X 0 T.toArray.size) := Lib.hid (by rw [List.size_toArray, ← ZTS.out]; exact HX4.out.th)
  obtain ⟨w5, hw5⟩ : ∃ w5, w5 = w4.setCells X 0 T := ⟨_, rfl⟩
  rw [← hw5] at HX5
  have HW5 := Lib.hid hw5
  have HTS : Hid (T.toArray.size = 84) := Lib.hid (by rw [List.size_toArray, HT.out])
  clear hw5
  cases a <;> cases b
  all_goals
    go_wp2_with (first | ((with_reducible refine alloc_is 96 ?_); refine alloc_arr 96 zi ZI.out ?_) | ((with_reducible refine store_is 96 (.tmp 8) (.tmp 18) ?_); refine store_arr 96 (.tmp 8) (.tmp 18) w3.heap.size 0 B.toArray rfl rfl HTI.out (info_infos (HBZ.out.trans HB.out)) HOB.out ?_; rw [show B.toArray.toList = B from rfl, ← HVE.out, ← HW4.out]) | ((with_reducible refine load_is 94 (.tmp 6) ?_); refine load_arr 94 (.tmp 6) Y 0 A _ rfl HM4.out.at0 Tryz.underlying94 rfl (info_mem HA.out) ?_) | ((with_reducible refine load_is 96 (.tmp 8) ?_); refine load_arr 96 (.tmp 8) V 0 B _ rfl HI4.out.at0 Tryz.underlying96 rfl (info_infos HB.out) ?_) | ((with_reducible refine buildp_is 126 #[(0, .tmp 20), (1, .tmp 21)] ?_); refine build_run2 126 (.tmp 20) (.tmp 21) (.agg A.toArray) (.agg B.toArray) rfl rfl T.toArray HBT.out ?_) | ((with_reducible refine store_is 126 (.tmp 4) (.tmp 22) ?_); refine store_arr 126 (.tmp 4) (.tmp 22) X 0 T.toArray rfl rfl HTX.out (info_tables HTS.out) HOT.out ?_; rw [show T.toArray.toList = T from rfl, ← HW5.out]) | fail)
    refine bodyPost_ret (results_cell_mid rfl _ _ X 0 T _ rfl HX5.out.at0 Tryz.underlying126 rfl (info_tables HT.out)) rfl ?_
    exact ⟨rfl, HX5.out.bel⟩
end Go.Proofs.YtcmmlgdfhkcmoaaGreat
namespace Go.Proofs.YtcmmlgdfhkcmoaaGreat
open Go.ChangeShapes Go.WideShapes Go.ChangeAt Go.RowKit Go.Maps
set_option linter.unusedVariables false
set_option maxRecDepth 100000
set_option linter.unusedSimpArgs false
theorem zero_rule (w : World) : (zeroValue 130).run Tryz.prog w = .ok (.agg Z39.toArray) w := Tryz.zeroValue130 w
theorem Z39_len : Z39.length = 39 := rfl
theorem Z39_one : Z39.toArray.all (·.oneCell') = true := by kernel_rfl
theorem grown_set9 (w : World) (B : Nat) (C : List Value) : w.grownBy (w.drew.setCells B 0 C) (some B) := by
  have h := Below.setCells (Below.refl B w) B (Nat.le_refl _) C 0 w.drew ((Below.refl _ _).drew)
  exact ⟨h.os, h.tape, h.output, h.size, fun i hi hne => (heap_setCells_other w B C 0 w.drew i (fun e => hne (by rw [e])))⟩
def rok8 (f k : Int) (rs : List Bs) : Bool := rvs rs && (inR f 0 11 && isTab k)
def RuleR (zs : List IV) (f k : Int) (rs : List Bs) (w : World) (e : Ending) (w' : World) : Prop :=
  ∃ C : List Value, e = .returned (.tuple #[.agg C.toArray, .bool (rok8 f k rs)]) ∧ C.length = 39 ∧ C.toArray.all (·.oneCell') = true ∧ (rok8 f k rs = true → ∃ b, C = rcC zs f (tneeds k) (some b) ∧ SetAt w' b rs) ∧ Below w.heap.size w w'
set_option maxRecDepth 100000 in
set_option maxHeartbeats 2000000 in
theorem rule_any (w : World) (xss : List (List Int)) (zs : List IV) (hz : zs.length = 12) (vr : Value) (rs : List Bs) (f k : Int) (hr : Strs w vr rs) (hs : Short rs) :
    Calls Tryz.prog 77 #[.agg (tC xss zs).toArray, .int .i64 f, .int .i64 k, vr] w (RuleR zs f k rs w) := by
  have HSO : Hid (∀ w', Below w.heap.size w w' → Calls Tryz.prog 73 #[vr] w' (SetOf rs w')) := Lib.hid (fun w' hb => setOf_any w' vr rs (hr.below hb) hs)
  have HBL : Hid (∀ w, Calls Tryz.prog 71 #[.int .i64 f, .int .i64 12] w (Says (inR f 0 11) w)) := Lib.hid (fun w => ibelow_any w f 12)
  have HIT := Lib.hid (fun w => isTable_any w k)
  have HTN := Lib.hid (fun w => tneeds_any w k)
  have HT : Hid ((tC xss zs).length = 84) := Lib.hid (tC_len xss hz)
  have HB : Hid ((isC zs).length = 36) := Lib.hid (isC_36 hz)
  have HRB := Lib.hid (fun n m w => run_build_rule (isC zs) HB.out f n m w)
  have HOO : Hid (∀ n m, (isC zs ++ [Value.int .i64 f, Value.int .i64 n, Value.map m]).toArray.all (·.oneCell') = true) := Lib.hid (fun n m => rcC_one zs f n m)
  have HTI : Hid (∀ (W : World) b, W.rangeAt b 0 (tC xss zs) → W.rangeAt b 48 (isC zs)) := Lib.hid (fun W b h => range_right h (by rw [mC_len]))
  unfold RuleR rok8 rcC
  unfold SetOf at HSO
  have ZR := Lib.hid zero_rule
  have RZ := Lib.hid run_zero_rule
  have ZRS := Lib.hid Z39_len
  have ZRO := Lib.hid Z39_one
  obtain ⟨zr, hzr⟩ : ∃ z, z = Z39 := ⟨_, rfl⟩
  rw [← hzr] at ZR RZ ZRS ZRO
  obtain ⟨T, hT⟩ : ∃ T, T = tC xss zs := ⟨_, rfl⟩
  rw [← hT] at HT HTI ⊢
  obtain ⟨B, hB⟩ : ∃ B, B = isC zs := ⟨_, rfl⟩
  rw [← hB] at HB HRB HTI HOO ⊢
  obtain ⟨nd, hnd⟩ : ∃ n, n = tneeds k := ⟨_, rfl⟩
  rw [← hnd] at HTN ⊢
  obtain ⟨r1, hr1⟩ : ∃ r, r = rvs rs := ⟨_, rfl⟩
  obtain ⟨r2, hr2⟩ : ∃ r, r = inR f 0 11 := ⟨_, rfl⟩
  obtain ⟨r3, hr3⟩ : ∃ r, r = isTab k := ⟨_, rfl⟩
  rw [← hr1] at HSO ⊢
  rw [← hr2] at HBL ⊢
  rw [← hr3] at HIT ⊢
  have HV0 := Lib.hid ((VarL.new T 126 (Below.refl w.heap.size w)).after ((Below.refl _ _).alloc (Nat.le_refl _) (.cells zr.toArray 130)))
  have HV1 := Lib.hid (VarL.new zr 130 ((Below.refl w.heap.size w).alloc (Nat.le_refl _) (.cells T.toArray 126)))
  clear hT hB hnd hr1 hr2 hr3 hzr hr hs hz
  go_enter Tryz.func77, Tryz.ntmps77
  go_wp2_with (first | ((with_reducible refine box_is 126 (.tmp 0) ?_); refine box_arr 126 (.tmp 0) T.toArray rfl ?_) | ((with_reducible refine alloc_is 130 ?_); refine alloc_arr 130 zr.toArray ZR.out ?_) | fail)
  refine (HSO.out _ HV1.out.bel).mono ?_
  rintro e w1 ⟨hb1, m, rfl, hm⟩
  have HM := Lib.hid hm
  have HV2 := Lib.hid (HV0.out.after hb1)
  have HR2 := Lib.hid (HV1.out.after hb1)
  obtain ⟨X, hX⟩ : ∃ X, X = w.heap.size := ⟨_, rfl⟩
  rw [World.size_alloc, ← hX] at HR2
  rw [← hX] at HV2 ⊢
  have HXE := Lib.hid hX
  have HR3 := Lib.hid (HR2.out.set (M := zr) rfl)
  obtain ⟨w2, hw2⟩ : ∃ w2, w2 = w1.setCells (X + 1) 0 zr := ⟨_, rfl⟩
  have HW2 := Lib.hid hw2
  rw [← hw2] at HR3
  have HTH : Hid (w1.there (X + 1) 0 zr.toArray.size) := Lib.hid (by rw [List.size_toArray]; exact HR2.out.th)
  have ZRZ : Hid (zr.toArray.size = 39) := Lib.hid (by rw [List.size_toArray, ZRS.out])
  clear hb1 hm HV0 HV1 hX hw2
  cases r1 with
  | false =>
    go_wp2_with (first | ((with_reducible refine build_is 130 ?_); refine build_run0 130 zr.toArray RZ.out ?_) | ((with_reducible refine store_is 130 (.tmp 8) (.tmp 29) ?_); refine store_arr 130 (.tmp 8) (.tmp 29) (X + 1) 0 zr.toArray rfl rfl HTH.out (info_rule ZRZ.out) ZRO.out ?_; rw [show zr.toArray.toList = zr from rfl, ← HW2.out]) | fail)
    refine bodyPost_ret (results_cell_mid rfl _ _ (X + 1) 0 zr _ rfl HR3.out.at0 Tryz.underlying130 rfl (info_rule ZRS.out)) rfl ?_
    exact ⟨zr, rfl, ZRS.out, ZRO.out, fun h => by simp at h, HR3.out.bel⟩
  | true =>
    cases r2 with
    | false =>
      go_wp2_with fail
      refine (HBL.out _).mono ?_
      rintro e w' ⟨rfl, rfl⟩
      go_wp2_with (first | ((with_reducible refine build_is 130 ?_); refine build_run0 130 zr.toArray RZ.out ?_) | ((with_reducible refine store_is 130 (.tmp 8) (.tmp 29) ?_); refine store_arr 130 (.tmp 8) (.tmp 29) (X + 1) 0 zr.toArray rfl rfl HTH.out (info_rule ZRZ.out) ZRO.out ?_; rw [show zr.toArray.toList = zr from rfl, ← HW2.out]) | fail)
      refine bodyPost_ret (results_cell_mid rfl _ _ (X + 1) 0 zr _ rfl HR3.out.at0 Tryz.underlying130 rfl (info_rule ZRS.out)) rfl ?_
      exact ⟨zr, rfl, ZRS.out, ZRO.out, fun h => by simp at h, HR3.out.bel⟩
    | true =>
      cases r3 with
      | false =>
        go_wp2_with fail
        refine (HBL.out _).mono ?_
        rintro e w' ⟨rfl, rfl⟩
        go_wp2_with fail
        refine (HIT.out _).mono ?_
        rintro e w' ⟨rfl, rfl⟩
        go_wp2_with (first | ((with_reducible refine build_is 130 ?_); refine build_run0 130 zr.toArray RZ.out ?_) | ((with_reducible refine store_is 130 (.tmp 8) (.tmp 29) ?_); refine store_arr 130 (.tmp 8) (.tmp 29) (X + 1) 0 zr.toArray rfl rfl HTH.out (info_rule ZRZ.out) ZRO.out ?_; rw [show zr.toArray.toList = zr from rfl, ← HW2.out]) | fail)
        refine bodyPost_ret (results_cell_mid rfl _ _ (X + 1) 0 zr _ rfl HR3.out.at0 Tryz.underlying130 rfl (info_rule ZRS.out)) rfl ?_
        exact ⟨zr, rfl, ZRS.out, ZRO.out, fun h => by simp at h, HR3.out.bel⟩
      | true =>
        go_wp2_with fail
        refine (HBL.out _).mono ?_
        rintro e w' ⟨rfl, rfl⟩
        go_wp2_with fail
        refine (HIT.out _).mono ?_
        rintro e w' ⟨rfl, rfl⟩
        go_wp2_with fail
        obtain ⟨b, rfl, hb0, hset⟩ := HM.out trivial
        have HSE := Lib.hid hset
        have HRBB := Lib.hid (HRB.out nd (some b))
        obtain ⟨C, hC⟩ : ∃ C, C = B ++ [Value.int .i64 f, Value.int .i64 nd, Value.map (some b)] := ⟨_, rfl⟩
        rw [← hC] at HRBB
        have HCL : Hid (C.length = zr.length) := Lib.hid (by rw [hC, List.length_append, HB.out, ZRS.out]; rfl)
        have HOC : Hid (C.toArray.all (·.oneCell') = true) := Lib.hid (by rw [hC]; exact HOO.out nd (some b))
        have HCE := Lib.hid hC
        clear hC HM
        have HR4 := Lib.hid ((HR2.out.after (Below.refl _ _).drew).set (M := C) HCL.out)
        have HTH2 : Hid (w1.drew.there (X + 1) 0 C.toArray.size) := Lib.hid (by rw [List.size_toArray, HCL.out]; exact there_blocks HR2.out.th rfl)
        have HCZ : Hid (C.toArray.size = 39) := Lib.hid (by rw [List.size_toArray, HCL.out, ZRS.out])
        have HS5 : Hid (SetAt (w1.drew.setCells (X + 1) 0 C) b rs) := Lib.hid (HSE.out.kept (row := some (X + 1)) (grown_set9 w1 (X + 1) C) (by have h1 := HXE.out; have h2 := hb0; rw [World.size_alloc, World.size_alloc] at h2; intro e; injection e with e; omega))
        have HT0 : Hid (w1.rangeAt X 48 B) := Lib.hid (HTI.out _ _ HV2.out.at0)
        refine wp_region_held_drew (S := fun w' => w'.rangeAt X 48 B) (by kernel_rfl) HT0.out (fun hHeld => ?_)
        refine wpAnyH_take (i := 0) (oi := { dst := some 30, op := .fieldAddr 126 (.tmp 4) 1, type := _, pos := _, after := _, guard := none }) (v := .pointer (some ⟨X, 48, none⟩)) rfl (by kernel_rfl) (by kernel_rfl) (by kernel_rfl) (fun _ _ _ h => h) (Or.inl ⟨by rfl, fun wh hSw => ?_⟩) hHeld ?_
        · (dsimp only at hSw; go_simp)
        try simp only [Act.put, List.setIfInBounds_toArray, List.set_cons_zero, List.set_cons_succ]
        refine wpAnyH_take (i := 1) (oi := { dst := some 31, op := .load 96 (.tmp 30), type := _, pos := _, after := _, guard := none }) (v := .agg B.toArray) rfl (by kernel_rfl) (by kernel_rfl) (by kernel_rfl) (fun _ _ _ h => h) (Or.inl ⟨by rfl, fun wh hSw => ?_⟩) hHeld ?_
        · (simp only [execOp]; exact load_run 96 X 48 B _ hSw Tryz.underlying96 rfl (info_infos HB.out))
        try simp only [Act.put, List.setIfInBounds_toArray, List.set_cons_zero, List.set_cons_succ]
        refine wpAnyH_take (i := 2) (oi := { dst := some 32, op := .move (.tmp 1), type := _, pos := _, after := _, guard := none }) (v := .int .i64 f) rfl (by kernel_rfl) (by kernel_rfl) (by kernel_rfl) (fun _ _ _ h => h) (Or.inl ⟨by rfl, fun wh hSw => ?_⟩) hHeld ?_
        · (dsimp only at hSw; go_simp)
        try simp only [Act.put, List.setIfInBounds_toArray, List.set_cons_zero, List.set_cons_succ]
        refine wpAnyH_take (i := 3) (oi := { dst := some 33, op := .move (.tmp 2), type := _, pos := _, after := _, guard := none }) (v := .int .i64 k) rfl (by kernel_rfl) (by kernel_rfl) (by kernel_rfl) (fun _ _ _ h => h) (Or.inl ⟨by rfl, fun wh hSw => ?_⟩) hHeld ?_
        · (dsimp only at hSw; go_simp)
        try simp only [Act.put, List.setIfInBounds_toArray, List.set_cons_zero, List.set_cons_succ]
        refine wpAnyH_take (i := 5) (oi := { dst := some 35, op := .move (.tmp 10), type := _, pos := _, after := _, guard := none }) (v := .map (some b)) rfl (by kernel_rfl) (by kernel_rfl) (by kernel_rfl) (fun _ _ _ h => h) (Or.inl ⟨by rfl, fun wh hSw => ?_⟩) hHeld ?_
        · (dsimp only at hSw; go_simp)
        try simp only [Act.put, List.setIfInBounds_toArray, List.set_cons_zero, List.set_cons_succ]
        refine wpAnyH_ready (rs := [4]) (by kernel_rfl) (by simp) ?_
        refine AllReadyH.cons (o := { dst := some 34, op := .call { callee := .value (.func 26), args := #[.tmp 33], argTypes := #[3] }, type := _, pos := _, after := _, guard := none }) rfl (fun K hK => ?_) AllReadyH.nil
        go_simp
        refine (HTN.out _).mono ?_
        rintro e w' ⟨rfl, rfl⟩
        try go_simp
        refine hK.out _ _ ?_ (fun hHeld => ?_)
        · exact hHeld
        clear hK K
        try simp only [Act.put, List.setIfInBounds_toArray, List.set_cons_zero, List.set_cons_succ]
        refine wpAnyH_take (i := 6) (oi := { dst := some 36, op := .build 130 #[(0, .tmp 31), (1, .tmp 32), (2, .tmp 34), (3, .tmp 35)], type := _, pos := _, after := _, guard := none }) (v := .agg C.toArray) rfl (by kernel_rfl) (by kernel_rfl) (by kernel_rfl) (fun _ _ _ h => h) (Or.inl ⟨by rfl, fun wh hSw => ?_⟩) hHeld ?_
        · (simp only [execOp, List.map_toArray, List.map_cons, List.map_nil]; exact build_val _ _ _ (HRBB.out _))
        try simp only [Act.put, List.setIfInBounds_toArray, List.set_cons_zero, List.set_cons_succ]
        refine wpAnyH_ready (rs := [7]) (by kernel_rfl) (by simp) ?_
        refine AllReadyH.cons (o := { dst := none, op := .store 130 (.tmp 8) (.tmp 36), type := _, pos := _, after := _, guard := none }) rfl (fun K hK => ?_) AllReadyH.nil
        rw [if_pos (by rfl)]
        refine wp_store_mid 130 (.tmp 8) (.tmp 36) rfl (X + 1) 0 C.toArray rfl rfl HTH2.out (info_rule HCZ.out) HOC.out ?_
        rw [show C.toArray.toList = C from rfl]
        refine hK.out _ _ ?_ (fun hHeld => ?_)
        · exact range_blocks hHeld (heap_setCells_other w1 _ _ _ _ _ (by omega))
        clear hK K
        try simp only [Act.put, List.setIfInBounds_toArray, List.set_cons_zero, List.set_cons_succ]
        refine wpAnyH_take (i := 8) (oi := { dst := some 9, op := .assign (.const (.bool true)), type := _, pos := _, after := _, guard := none }) (v := .bool true) rfl (by kernel_rfl) (by kernel_rfl) (by kernel_rfl) (fun _ _ _ h => h) (Or.inl ⟨by rfl, fun wh hSw => ?_⟩) hHeld ?_
        · (dsimp only at hSw; go_simp)
        try simp only [Act.put, List.setIfInBounds_toArray, List.set_cons_zero, List.set_cons_succ]
        refine wpAnyH_done (by kernel_rfl) ?_ _
        go_wp2_with fail
        refine bodyPost_ret (results_cell_mid rfl _ _ (X + 1) 0 C _ rfl HR4.out.at0 Tryz.underlying130 rfl (info_rule (HCL.out.trans ZRS.out))) rfl ?_
        exact ⟨C, rfl, HCL.out.trans ZRS.out, HOC.out, fun _ => ⟨b, HCE.out, HS5.out⟩, HR4.out.bel⟩
end Go.Proofs.YtcmmlgdfhkcmoaaGreat
namespace Go.Proofs.YtcmmlgdfhkcmoaaGreat
open Go.ChangeShapes Go.WideShapes Go.ChangeAt Go.RowKit
set_option linter.unusedVariables false
set_option maxRecDepth 100000
theorem flat_get (xss : List (List Int)) (h : ∀ i, i < xss.length → (xss.getD i []).length = 4) {i j : Nat} (hi : i < xss.length) (hj : j < 4) :
    (flatL xss)[i * 4 + j]? = some (.int .i64 ((xss.getD i []).getD j 0)) := by
  have h1 := flat_take_len xss h i (by omega)
  have h4 := h i hi
  have e : flatL xss = flatL (xss.take i) ++ ((xss.getD i []).map (Value.int .i64) ++ flatL (xss.drop (i + 1))) := by
    rw [← List.append_assoc, ← flat_snoc xss i _ hi rfl]
    unfold flatL
    rw [← List.map_append, ← List.flatten_append, List.take_append_drop]
  rw [e, List.getElem?_append_right (by omega), h1, List.getElem?_append_left (by rw [List.length_map]; omega)]
  have e2 : i * 4 + j - i * 4 = j := by omega
  rw [e2, List.getElem?_map, getD_lt (l := xss.getD i []) (i := j) (by omega), List.getElem?_eq_getElem (by omega)]
  rfl
theorem MatW.lower {w : World} {B0 B0' B1 : Nat} {v : Value} {xss : List (List Int)} (h : MatW w B0 B1 v xss) (hB : B0' ≤ B0) : MatW w B0' B1 v xss := by
  obtain ⟨a, cap, A, C, rfl, h1, h2, h3⟩ := h
  refine ⟨a, cap, A, C, rfl, h1, h2, ⟨fun k hk => ?_, fun k hk m hm => ?_, h3.apart⟩⟩
  · obtain ⟨b, o, e, p1, p2, p3⟩ := h3.top k hk
    exact ⟨b, o, e, by omega, p2, p3⟩
  · obtain ⟨g, p, e, p1, p2, p3⟩ := h3.row k hk m hm
    exact ⟨g, p, e, by omega, p2, p3⟩
end Go.Proofs.YtcmmlgdfhkcmoaaGreat
namespace Go.Proofs.YtcmmlgdfhkcmoaaGreat
open Go.ChangeShapes Go.WideShapes Go.ChangeAt Go.RowKit
set_option linter.unusedVariables false
set_option maxRecDepth 100000
set_option linter.unusedSimpArgs false
def uC (u : Nat → Int) : List Value := (List.range 12).map (fun i => Value.int .i64 (u i))
theorem uC_len (u : Nat → Int) : (uC u).length = 12 := by simp [uC]
theorem uC_get (u : Nat → Int) {i : Nat} (hi : i < 12) : (uC u)[i]? = some (.int .i64 (u i)) := by simp [uC, hi]
theorem uC_one (u : Nat → Int) : (uC u).toArray.all (·.oneCell') = true := all_oneCell_toArray (fun v hv => by
  unfold uC at hv
  obtain ⟨i, _, rfl⟩ := List.mem_map.1 hv
  rfl)
theorem Us.range {w : World} {b : Nat} {u : Nat → Int} (h : Us w b u) : w.rangeAt b 0 (uC u) := fun j v hv => by
  have hj : j < 12 := by have := (List.getElem?_eq_some_iff.1 hv).1; rwa [uC_len] at this
  rw [uC_get u hj] at hv
  cases hv
  rw [Nat.zero_add]
  exact (h j hj).1
theorem Us.of_range {w : World} {b : Nat} {u : Nat → Int} (h : w.rangeAt b 0 (uC u)) (ht : w.there b 0 12) : Us w b u := fun i hi => by
  have h1 := h i _ (uC_get u hi)
  have h2 := (ht i hi).2
  rw [Nat.zero_add] at h1 h2
  exact ⟨h1, h2⟩
theorem zero_uses (w : World) : (zeroValue 140).run Tryz.prog w = .ok (.agg (uC (fun _ => 0)).toArray) w := Tryz.zeroValue140 w
theorem info_uses {n : Nat} (h : n = 12) : (Tryz.prog.info? 140).map (·.size) = some n := by subst h; kernel_rfl
theorem mC_get {xss : List (List Int)} (hm : memOk xss = true) {i j : Nat} (hi : i < 12) (hj : j < 4) : (mC xss)[i * 4 + j]? = some (.int .i64 (wd xss i j)) := by
  rw [mC_ok hm]
  have h := flat_get xss (fun k hk => mem_row hm (by rw [mem_len hm] at hk; exact hk)) (by rw [mem_len hm]; exact hi) hj
  exact h
theorem row_range {xss : List (List Int)} {ys : List IV} {W : World} {X : Nat} (hm : memOk xss = true) (h : W.rangeAt X 0 (tC xss ys)) {t : Nat} (ht : t < 12) : W.rangeAt X (t * 4) ((xss.getD t []).map (Value.int .i64)) := fun j v hv => by
  have hj : j < 4 := by have := (List.getElem?_eq_some_iff.1 hv).1; rwa [List.length_map, mem_row hm ht] at this
  have h1 := range_left h (t * 4 + j) _ (mC_get hm ht hj)
  rw [Nat.zero_add] at h1
  rw [h1, ← hv, List.getElem?_map, List.getElem?_eq_getElem (by rw [mem_row hm ht]; exact hj)]
  unfold wd
  rw [getD_lt (by rw [mem_row hm ht]; exact hj)]
  rfl
theorem cnt1_le {row : List Int} (h4 : row.length = 4) (f : Nat) : cnt1 row f ≤ 4 := by
  unfold cnt1
  exact Nat.le_trans List.count_le_length (by rw [← h4]; exact named_len row)
theorem cntN_le4 {xss : List (List Int)} {ys : List IV} (hm : memOk xss = true) (f : Nat) : ∀ n, n ≤ 12 → cntN xss ys f n ≤ 4 * n
  | 0, _ => by simp [cntN]
  | n + 1, h => by
    have := cntN_le4 (ys := ys) hm f n (by omega)
    have := cnt1_le (mem_row hm (show n < 12 by omega)) f
    unfold cntN
    split <;> omega
def cu (xss : List (List Int)) (ys : List IV) (t : Nat) : Nat → Int := fun f => (cntN xss ys f t : Int)
theorem cu_yes {xss : List (List Int)} {ys : List IV} {t : Nat} (h : isTab (ys.getD t iz).k = true) (f : Nat) : cu xss ys (t + 1) f = cu xss ys t f + (cnt1 (xss.getD t []) f : Int) := by
  show ((cntN xss ys f t + (if isTab (ys.getD t iz).k = true then cnt1 (xss.getD t []) f else 0) : Nat) : Int) = (cntN xss ys f t : Int) + _
  rw [if_pos h]; omega
theorem cu_no {xss : List (List Int)} {ys : List IV} {t : Nat} (h : isTab (ys.getD t iz).k = false) (f : Nat) : cu xss ys (t + 1) f = cu xss ys t f := by
  show ((cntN xss ys f t + (if isTab (ys.getD t iz).k = true then cnt1 (xss.getD t []) f else 0) : Nat) : Int) = (cntN xss ys f t : Int)
  rw [if_neg (by rw [h]; simp)]; omega
theorem VarL.chg {w W W2 : World} {B lo hi : Nat} {L : List Value} (h : VarL w B L W) (c : Chg lo hi W W2) (hlo : w.heap.size ≤ lo) (hB : B < lo ∨ hi ≤ B) : VarL w B L W2 := by
  have e := c.block B h.hi hB
  exact ⟨Below.chg h.bel c h.bel.size (.inl hlo), h.lo, Nat.lt_of_lt_of_le h.hi c.size, range_blocks h.at0 e, there_blocks h.th e⟩
def ArrU (u : Nat → Int) (w : World) (e : Ending) (w' : World) : Prop := e = .returned (.agg (uC u).toArray) ∧ Below w.heap.size w w'
set_option maxRecDepth 100000 in
set_option maxHeartbeats 4000000 in
theorem count_any (w : World) (xss : List (List Int)) (ys : List IV) (hm : memOk xss = true) (hi : isok ys = true) :
    Calls Tryz.prog 82 #[.agg (tC xss ys).toArray] w (ArrU (cu xss ys 12) w) := by
  have hz := isok_len hi
  have ZU := Lib.hid zero_uses
  have HT : Hid ((tC xss ys).length = 84) := Lib.hid (tC_len xss hz)
  have HB : Hid ((isC ys).length = 36) := Lib.hid (isC_36 hz)
  have HTI : Hid (∀ (W : World) b, W.rangeAt b 0 (tC xss ys) → W.rangeAt b 48 (isC ys)) := Lib.hid (fun W b h => range_right h (by rw [mC_len]))
  have HTR : Hid (∀ (W : World) X t, t < 12 → W.rangeAt X 0 (tC xss ys) → W.rangeAt X (t * 4) ((xss.getD t []).map (Value.int .i64))) := Lib.hid (fun W X t ht h => row_range hm h ht)
  have HR4 : Hid (∀ t, t < 12 → (xss.getD t []).length = 4 ∧ ∀ i, i < 4 → 0 ≤ (xss.getD t []).getD i 0 ∧ (xss.getD t []).getD i 0 ≤ 9999) := Lib.hid (fun t ht => ⟨mem_row hm ht, fun i hi => mem_word hm ht hi⟩)
  have HCB : Hid (∀ t, t ≤ 12 → ∀ i, i < 12 → 0 ≤ cu xss ys t i ∧ cu xss ys t i ≤ 90000) := Lib.hid (fun t ht i _ => by
    have := cntN_le4 (ys := ys) hm i t ht
    show 0 ≤ (cntN xss ys i t : Int) ∧ (cntN xss ys i t : Int) ≤ 90000
    omega)
  have HXI : Hid (∀ k : Nat, k < 12 → ∀ W, (Instr.index 96 (.agg (isC ys).toArray) (.int .i64 k)).run Tryz.prog W = .ok (ivV (ys.getD k iz)) W) := Lib.hid (fun k hk W => index_infos ys hz hk W)
  obtain ⟨T, hT⟩ : ∃ T, T = tC xss ys := ⟨_, rfl⟩
  obtain ⟨B, hB⟩ : ∃ B, B = isC ys := ⟨_, rfl⟩
  rw [← hT] at HT HTI HTR ⊢
  rw [← hB] at HB HTI HXI
  have ZC : Hid (∀ w : World, w.rangeAt 0 0 [] → True) := Lib.hid (fun _ _ => trivial)
  obtain ⟨zu, hzu⟩ : ∃ z, z = uC (fun _ => 0) := ⟨_, rfl⟩
  have HZU := Lib.hid hzu
  rw [← hzu] at ZU
  have HZL : Hid (zu.length = 12) := Lib.hid (by rw [hzu]; exact uC_len _)
  obtain ⟨X, hX⟩ : ∃ X, X = w.heap.size := ⟨_, rfl⟩
  have h1 := VarL.new T 126 (Below.refl w.heap.size w)
  have h2 := VarL.new zu 140 h1.bel
  have h3 := VarL.new zu 140 h2.bel
  have HV0 := Lib.hid ((h1.after ((Below.refl _ _).alloc (Nat.le_refl _) (.cells zu.toArray 140))).after ((Below.refl _ _).alloc (Nat.le_refl _) (.cells zu.toArray 140)))
  have HV1 := Lib.hid (h2.after ((Below.refl _ _).alloc (Nat.le_refl _) (.cells zu.toArray 140)))
  have HV2 := Lib.hid h3
  clear h1 h2 h3 hT hB hzu ZC
  have HIT := Lib.hid (fun w k => isTable_any w k)
  obtain ⟨R, hR⟩ : ∃ R, R = ArrU (cu xss ys 12) w := ⟨_, rfl⟩
  have HRR : Hid (∀ w', Below w.heap.size w w' → R (.returned (.agg (uC (cu xss ys 12)).toArray)) w') := Lib.hid (fun w' h => by rw [hR]; exact ⟨rfl, h⟩)
  rw [← hR]
  clear hR hm hi hz
  go_enter Tryz.func82, Tryz.ntmps82
  obtain ⟨w0, hw0⟩ : ∃ w0, w0 = ((w.alloc (.cells T.toArray 126)).alloc (.cells zu.toArray 140)).alloc (.cells zu.toArray 140) := ⟨_, rfl⟩
  rw [← hw0] at HV0 HV1 HV2
  rw [World.size_alloc] at HV1
  rw [World.size_alloc, World.size_alloc] at HV2
  rw [← hX] at HV0 HV1 HV2
  have HXE := Lib.hid hX
  have HW0 := Lib.hid hw0
  clear hw0 hX
  go_wp2_with (first | ((with_reducible refine box_is 126 (.tmp 0) ?_); refine box_arr 126 (.tmp 0) T.toArray rfl ?_) | ((with_reducible refine alloc_is 140 ?_); refine alloc_arr 140 zu.toArray ZU.out ?_) | ((with_reducible refine load_is 96 (.tmp 6) ?_); refine load_arr 96 (.tmp 6) w.heap.size 48 B _ rfl (by rw [← HW0.out, ← HXE.out]; exact HTI.out _ _ HV0.out.at0) Tryz.underlying96 rfl (info_infos HB.out) ?_) | fail)
  rw [← HW0.out, ← HXE.out]
  have HU0 : Hid (Us w0 (X + 1 + 1) (cu xss ys 0)) := Lib.hid (Us.of_range (by have := HV2.out.at0; rw [HZU.out] at this; exact this) (by have := HV2.out.th; rwa [HZL.out] at this))
  go_loopw [8] (fun i wr => ∃ t : Nat, t ≤ 12 ∧ i = .int .i64 t ∧ Hid (Us wr (X + 1 + 1) (cu xss ys t)) ∧ Hid (Chg (X + 1 + 1) (X + 1 + 1 + 1) w0 wr)) (fun i _ => 12 - (intOf i).toNat)
  case atStart => exact ⟨0, Nat.zero_le _, rfl, HU0, Lib.hid (Chg.of_bel (Below.refl _ _))⟩
  case round =>
    obtain ⟨t, ht, rfl, HUW, HCW⟩ := hrel
    have HVW := Lib.hid (HV0.out.chg HCW.out (by rw [HXE.out]; omega) (.inl (by omega)))
    by_cases hlt : t < 12
    · have hlt' : (t : Int) < 12 := by omega
      have hlt0 : (0 : Int) ≤ (t : Int) := by omega
      have HIX' := HXI.out t hlt
      have HXM := run_indexAt_arr (P := Tryz.prog) 94 12 92 4 Tryz.underlying94 size_words (by omega) X t hlt
      obtain ⟨y, hy⟩ : ∃ y, y = ys.getD t iz := ⟨_, rfl⟩
      rw [← hy] at HIX'
      have HY := Lib.hid hy
      obtain ⟨r, hr⟩ : ∃ r, r = isTab y.k := ⟨_, rfl⟩
      have HIT' : Hid (∀ w, Calls Tryz.prog 134 #[.int .i64 y.k] w (Says r w)) := Lib.hid (fun w => by rw [hr]; exact HIT.out w y.k)
      have HRE := Lib.hid hr
      have HAB : Hid (∀ o, Below wr.heap.size wr (wr.alloc o)) := Lib.hid (fun o => (Below.refl _ _).alloc (Nat.le_refl _) _)
      clear hy hr
      go_wp2_with fail
      refine (HIT'.out _).mono ?_
      rintro e w' ⟨rfl, rfl⟩
      obtain ⟨w1, hw1⟩ : ∃ w1, w1 = wr.alloc (.cells #[.int .i64 y.k, .string ⟨y.g.toArray⟩, .int .i64 y.r] 46) := ⟨_, rfl⟩
      have HB1 : Hid (Below wr.heap.size wr w1) := Lib.hid (by rw [hw1]; exact HAB.out _)
      rw [← hw1]
      clear hw1 HAB HIT'
      have HVX := Lib.hid (HVW.out.after HB1.out)
      have HUX := Lib.hid (HUW.out.block (HB1.out.block _ HUW.out.lt))
      have HCX := Lib.hid (HCW.out.trans (Chg.of_bel HB1.out))
      cases r with
      | true =>
        have HRW := Lib.hid (HTR.out w1 X t hlt HVX.out.at0)
        have HWC := Lib.hid (wordsCount_any w1 (X + 1 + 1) _ (xss.getD t []) (HR4.out t hlt).1 (HR4.out t hlt).2 HUX.out (HCB.out t (by omega)))
        have HNX : Hid (∀ w', Us w' (X + 1 + 1) (fun i => cu xss ys t i + (cnt1 (xss.getD t []) i : Int)) → Us w' (X + 1 + 1) (cu xss ys (t + 1))) := Lib.hid (fun w' hh => hh.ext (fun j hj => cu_yes (by rw [← HY.out]; exact HRE.out.symm) j))
        unfold rowC at HWC
        have HLW : Hid (((xss.getD t []).map (Value.int .i64)).length = 4) := Lib.hid (by rw [List.length_map]; exact (HR4.out t hlt).1)
        obtain ⟨M, hM⟩ : ∃ M, M = (xss.getD t []).map (Value.int .i64) := ⟨_, rfl⟩
        rw [← hM] at HRW HWC HLW
        have HIW : Hid ((Tryz.prog.info? 92).map (·.size) = some M.length) := Lib.hid (by rw [HLW.out]; exact info_words)
        clear hM
        go_wp2_with (first | ((with_reducible refine load_is 92 (.tmp 17) ?_); refine load_arr 92 (.tmp 17) X (t * 4) M _ rfl HRW.out Tryz.underlying92 rfl HIW.out ?_) | fail)
        refine HWC.out.mono ?_
        rintro e w5 ⟨rfl, hu5, hc5⟩
        have HU5 := Lib.hid (HNX.out w5 hu5)
        have HC5 := Lib.hid (HCX.out.trans hc5)
        clear hu5 hc5
        go_wp2_with fail
        go_roundw
        case rel => exact ⟨t + 1, by omega, by go_num, HU5, HC5⟩
        case measure => simp [intOf]; omega
      | false =>
        have HU5 : Hid (Us w1 (X + 1 + 1) (cu xss ys (t + 1))) := Lib.hid (HUX.out.ext (fun j hj => cu_no (by rw [← HY.out]; exact HRE.out.symm) j))
        go_wp2_with fail
        go_roundw
        case rel => exact ⟨t + 1, by omega, by go_num, HU5, HCX⟩
        case measure => simp [intOf]; omega
    · have e : t = 12 := by omega
      subst e
      have HW1 := Lib.hid (HV1.out.chg HCW.out (by rw [HXE.out]; omega) (.inl (by omega)))
      have HUR := Lib.hid HUW.out.range
      have HUL : Hid ((uC (cu xss ys 12)).length = 12) := Lib.hid (uC_len _)
      have HUO : Hid ((uC (cu xss ys 12)).toArray.all (·.oneCell') = true) := Lib.hid (uC_one _)
      obtain ⟨U, hU⟩ : ∃ U, U = uC (cu xss ys 12) := ⟨_, rfl⟩
      rw [← hU] at HUR HUL HUO HRR
      have HW2 := Lib.hid (HW1.out.set (M := U) (by rw [HUL.out, HZL.out]))
      have HTH : Hid (wr.there (X + 1) 0 U.toArray.size) := Lib.hid (by rw [List.size_toArray, HUL.out, ← HZL.out]; exact HW1.out.th)
      have HUZ : Hid (U.toArray.size = 12) := Lib.hid (by rw [List.size_toArray, HUL.out])
      obtain ⟨w5, hw5⟩ : ∃ w5, w5 = wr.setCells (X + 1) 0 U := ⟨_, rfl⟩
      rw [← hw5] at HW2
      have HW5 := Lib.hid hw5
      clear hU hw5
      go_wp2_with (first | ((with_reducible refine load_is 140 (.tmp 3) ?_); refine load_arr 140 (.tmp 3) (X + 1 + 1) 0 U _ rfl HUR.out Tryz.underlying140 rfl (info_uses HUL.out) ?_) | ((with_reducible refine store_is 140 (.tmp 2) (.tmp 21) ?_); refine store_arr 140 (.tmp 2) (.tmp 21) (X + 1) 0 U.toArray rfl rfl HTH.out (info_uses HUZ.out) HUO.out ?_; rw [show U.toArray.toList = U from rfl, ← HW5.out]) | fail)
      refine bodyPost_ret (results_one_mid rfl _ _ (X + 1) 0 U _ rfl HW2.out.at0 Tryz.underlying140 rfl (info_uses HUL.out)) rfl ?_
      exact HRR.out _ HW2.out.bel
end Go.Proofs.YtcmmlgdfhkcmoaaGreat
namespace Go.Proofs.YtcmmlgdfhkcmoaaGreat
open Go.ChangeShapes Go.WideShapes Go.ChangeAt Go.RowKit
set_option linter.unusedVariables false
set_option maxRecDepth 100000
set_option linter.unusedSimpArgs false
theorem VarL.one {w W : World} {B C : Nat} {L : List Value} (h : VarL w B L W) (hc : w.heap.size ≤ C) (hne : B ≠ C) (o : Nat) (v : Value) : VarL w B L (W.setCell ⟨C, o, none⟩ v) := h.other hc hne o [v]
end Go.Proofs.YtcmmlgdfhkcmoaaGreat
namespace Go.Proofs.YtcmmlgdfhkcmoaaGreat
open Go.ChangeShapes Go.WideShapes Go.ChangeAt Go.RowKit Go.Maps
set_option linter.unusedVariables false
set_option maxRecDepth 100000
set_option linter.unusedSimpArgs false
theorem rall_good {xss : List (List Int)} {ys : List IV} {n : Nat} {k : Int} {rs : List Bs} (hk : isTab k = true) : rall ys (n : Int) (tneeds k) (xss.getD n []) rs = tgood xss ys (n : Int) k rs := by
  unfold rall tgood
  congr 1
  funext i
  unfold rwd tent rfr
  rw [Int.toNat_natCast]
  show (if goodB (wd xss n i) then _ else _) = _
  have e : tneeds k = k - 1 := by unfold tneeds; rw [if_pos hk]
  by_cases hg : goodB (wd xss n i)
  · rw [if_pos hg, if_pos hg, e]
    have h := good_frame hg
    show (!decide (((fr (wd xss n i) : Nat) : Int) = (n : Int)) && _) = _
    rw [show ((fr (wd xss n i) : Nat) : Int) = wd xss n i / 4 by unfold fr; omega]
    rfl
  · rw [if_neg hg, if_neg hg]; rfl
end Go.Proofs.YtcmmlgdfhkcmoaaGreat
namespace Go.Proofs.YtcmmlgdfhkcmoaaGreat
open Go.Shelf
def laySort_ren : Go.Shelf.Ren := ⟨fun | 189 => 199 | 125 => 220 | 257 => 219 | 128 => 249 | 129 => 250 | 294 => 240 | 295 => 241 | 296 => 242 | 297 => 243 | 298 => 244 | 299 => 245 | 216 => 246 | 300 => 247 | 301 => 248 | 328 => 268 | 329 => 269 | 330 => 270 | 331 => 271 | 332 => 272 | 215 => 273 | 343 => 286 | n => n,
  fun | 28 => 42 | 3 => 3 | 46 => 255 | 0 => 0 | 51 => 268 | 53 => 270 | 4 => 4 | 183 => 262 | 182 => 261 | 131 => 65 | 5 => 5 | 9 => 9 | 218 => 290 | 222 => 294 | 228 => 305 | 229 => 306 | n => n,
  fun n => n⟩
theorem laySort : Lays.n189 Tryz.prog laySort_ren := {
  mixed := by kernel_rfl,
  f125 := Tryz.func220.trans (congrArg some (by kernel_rfl)),
  f128 := Tryz.func249.trans (congrArg some (by kernel_rfl)),
  f129 := Tryz.func250.trans (congrArg some (by kernel_rfl)),
  f189 := Tryz.func199.trans (congrArg some (by kernel_rfl)),
  f215 := Tryz.func273.trans (congrArg some (by kernel_rfl)),
  f216 := Tryz.func246.trans (congrArg some (by kernel_rfl)),
  f257 := Tryz.func219.trans (congrArg some (by kernel_rfl)),
  f294 := Tryz.func240.trans (congrArg some (by kernel_rfl)),
  f295 := Tryz.func241.trans (congrArg some (by kernel_rfl)),
  f296 := Tryz.func242.trans (congrArg some (by kernel_rfl)),
  f297 := Tryz.func243.trans (congrArg some (by kernel_rfl)),
  f298 := Tryz.func244.trans (congrArg some (by kernel_rfl)),
  f299 := Tryz.func245.trans (congrArg some (by kernel_rfl)),
  f300 := Tryz.func247.trans (congrArg some (by kernel_rfl)),
  f301 := Tryz.func248.trans (congrArg some (by kernel_rfl)),
  f328 := Tryz.func268.trans (congrArg some (by kernel_rfl)),
  f329 := Tryz.func269.trans (congrArg some (by kernel_rfl)),
  f330 := Tryz.func270.trans (congrArg some (by kernel_rfl)),
  f331 := Tryz.func271.trans (congrArg some (by kernel_rfl)),
  f332 := Tryz.func272.trans (congrArg some (by kernel_rfl)),
  f343 := Tryz.func286.trans (congrArg some (by kernel_rfl)),
  t0 := Tryz.underlying0,
  a0 := Tryz.isAgg0,
  z0 := Tryz.sizeOf0,
  v0 := Tryz.zeroValue0,
  t3 := Tryz.underlying3,
  a3 := Tryz.isAgg3,
  z3 := Tryz.sizeOf3,
  v3 := Tryz.zeroValue3,
  t4 := Tryz.underlying4,
  a4 := Tryz.isAgg4,
  z4 := Tryz.sizeOf4,
  v4 := Tryz.zeroValue4,
  t5 := Tryz.underlying5,
  a5 := Tryz.isAgg5,
  z5 := Tryz.sizeOf5,
  v5 := Tryz.zeroValue5,
  t9 := Tryz.underlying9,
  a9 := Tryz.isAgg9,
  z9 := Tryz.sizeOf9,
  v9 := Tryz.zeroValue9,
  t28 := Tryz.underlying42,
  a28 := Tryz.isAgg42,
  z28 := Tryz.sizeOf42,
  v28 := Tryz.zeroValue42,
  t46 := Tryz.underlying255,
  a46 := Tryz.isAgg255,
  z46 := Tryz.sizeOf255,
  v46 := Tryz.zeroValue255,
  t51 := Tryz.underlying268,
  a51 := Tryz.isAgg268,
  z51 := Tryz.sizeOf268,
  v51 := Tryz.zeroValue268,
  t53 := Tryz.underlying270,
  a53 := Tryz.isAgg270,
  z53 := Tryz.sizeOf270,
  v53 := Tryz.zeroValue270,
  t131 := Tryz.underlying65,
  a131 := Tryz.isAgg65,
  z131 := Tryz.sizeOf65,
  v131 := Tryz.zeroValue65,
  t182 := Tryz.underlying261,
  a182 := Tryz.isAgg261,
  z182 := Tryz.sizeOf261,
  v182 := Tryz.zeroValue261,
  t183 := Tryz.underlying262,
  a183 := Tryz.isAgg262,
  z183 := Tryz.sizeOf262,
  v183 := Tryz.zeroValue262,
  t218 := Tryz.underlying290,
  a218 := Tryz.isAgg290,
  z218 := Tryz.sizeOf290,
  v218 := Tryz.zeroValue290,
  t222 := Tryz.underlying294,
  a222 := Tryz.isAgg294,
  z222 := Tryz.sizeOf294,
  v222 := Tryz.zeroValue294,
  t228 := Tryz.underlying305,
  a228 := Tryz.isAgg305,
  z228 := Tryz.sizeOf305,
  v228 := Tryz.zeroValue305,
  t229 := Tryz.underlying306,
  a229 := Tryz.isAgg306,
  z229 := Tryz.sizeOf306,
  v229 := Tryz.zeroValue306 }
def layCompact_ren : Go.Shelf.Ren := ⟨fun | 20 => 145 | n => n,
  fun | 22 => 42 | 3 => 3 | 4 => 4 | 0 => 0 | n => n,
  fun n => n⟩
theorem layCompact : Lays2.n20 Tryz.prog layCompact_ren := {
  mixed := by kernel_rfl,
  f20 := Tryz.func145.trans (congrArg some (by kernel_rfl)),
  t0 := Tryz.underlying0,
  a0 := Tryz.isAgg0,
  z0 := Tryz.sizeOf0,
  v0 := Tryz.zeroValue0,
  t3 := Tryz.underlying3,
  a3 := Tryz.isAgg3,
  z3 := Tryz.sizeOf3,
  v3 := Tryz.zeroValue3,
  t4 := Tryz.underlying4,
  a4 := Tryz.isAgg4,
  z4 := Tryz.sizeOf4,
  v4 := Tryz.zeroValue4,
  t22 := Tryz.underlying42,
  a22 := Tryz.isAgg42,
  z22 := Tryz.sizeOf42,
  v22 := Tryz.zeroValue42,
  i3 := by kernel_rfl }
end Go.Proofs.YtcmmlgdfhkcmoaaGreat
namespace Go.Proofs.YtcmmlgdfhkcmoaaGreat
open Go.ChangeShapes Go.WideShapes Go.ChangeAt Go.RowKit Go.Shelf
set_option linter.unusedVariables false
set_option maxRecDepth 100000
theorem asc_same : ∀ {a b : List Int}, a.Pairwise (· < ·) → b.Pairwise (· < ·) → (∀ x, x ∈ a ↔ x ∈ b) → a = b
  | [], [], _, _, _ => rfl
  | [], y :: b, _, _, h => by have := (h y).2 (List.mem_cons_self ..); cases this
  | x :: a, [], _, _, h => by have := (h x).1 (List.mem_cons_self ..); cases this
  | x :: a, y :: b, ha, hb, h => by
    obtain ⟨ha1, ha2⟩ := List.pairwise_cons.1 ha
    obtain ⟨hb1, hb2⟩ := List.pairwise_cons.1 hb
    have e : x = y := by
      rcases List.mem_cons.1 ((h x).1 (List.mem_cons_self ..)) with e | e
      · exact e
      · rcases List.mem_cons.1 ((h y).2 (List.mem_cons_self ..)) with e' | e'
        · exact e'.symm
        · have := ha1 _ e'
          have := hb1 _ e
          omega
    subst e
    refine congrArg _ (asc_same ha2 hb2 (fun z => ?_))
    constructor
    · intro hz
      rcases List.mem_cons.1 ((h z).1 (List.mem_cons_of_mem _ hz)) with e | e
      · have := ha1 _ hz
        omega
      · exact e
    · intro hz
      rcases List.mem_cons.1 ((h z).2 (List.mem_cons_of_mem _ hz)) with e | e
      · have := hb1 _ hz
        omega
      · exact e
theorem srt_lt (l : List Int) (k : Nat) : (srt l k).Pairwise (· < ·) := by
  unfold srt
  rw [List.pairwise_map]
  exact (List.pairwise_lt_range.filter _).imp (fun h => by omega)
end Go.Proofs.YtcmmlgdfhkcmoaaGreat
