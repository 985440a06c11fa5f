/- Putting one more translation into a ring. -/
import Derived.Test.YtklclcbhghjjfaaCRl
import Derived.Test.YtklclcbhghjjfaaLawCachePut
import Derived.Deep.RegionHeld3
namespace Go.Proofs.Ytklclcbhghjjfaa
open Go.ChangeShapes Go.WideShapes Go.ChangeAt Go.RowKit
set_option linter.unusedVariables false
set_option linter.unusedSimpArgs false

theorem Chg.trans {lo hi : Nat} {a b c : World} (h : Chg lo hi a b) (k : Chg lo hi b c) : Chg lo hi a c :=
  ⟨k.os.trans h.os, k.tape.trans h.tape, k.output.trans h.output, Nat.le_trans h.size k.size, fun i hi hb => (k.block i (Nat.lt_of_lt_of_le hi h.size) hb).trans (h.block i hi hb)⟩
theorem Chg.of_bel {lo hi : Nat} {w w' : World} (h : Below w.heap.size w w') : Chg lo hi w w' := ⟨h.os, h.tape, h.output, h.size, fun b hb _ => h.block b hb⟩
theorem chg_setCells (w : World) (b o : Nat) (vs : List Value) : Chg b (b + 1) w (w.setCells b o vs) := by
  have h := Below.setCells (Below.refl (b) w) b (Nat.le_refl _) vs o w (Below.refl _ _)
  exact ⟨h.os, h.tape, h.output, h.size, fun i _ hb => heap_setCells_other w b vs o w i (by omega)⟩
theorem chg_setCell (w : World) (b o : Nat) (v : Value) : Chg b (b + 1) w (w.setCell ⟨b, o, none⟩ v) := chg_setCells w b o [v]
theorem Four.below_chg {w w' : World} {lo hi b o : Nat} {x : CV} (h : Four w b o x) (hc : Chg lo hi w w') (hb : b < lo ∨ hi ≤ b) : Four w' b o x := by
  have e := hc.block b (block_lt_of_cell h.c0) hb
  exact ⟨(World.cell?_of_block e).trans h.c0, (World.cell?_of_block e).trans h.c1, (World.cell?_of_block e).trans h.c2, (World.cell?_of_block e).trans h.c3⟩
theorem cell_setCells_apart {w : World} {b o j : Nat} {vs : List Value} {v : Value} (h : w.cell? ⟨b, j, none⟩ = some v) (ha : j < o ∨ o + vs.length ≤ j) : (w.setCells b o vs).cell? ⟨b, j, none⟩ = some v := by
  have hr : w.rangeAt b j [v] := fun i u hu => by
    have hi : i < 1 := (List.getElem?_eq_some_iff.1 hu).1
    obtain rfl : i = 0 := by omega
    cases hu
    exact h
  exact World.rangeAt_setCells_apart hr b o vs (.inr (by simp; omega)) 0 _ rfl
theorem Ring.put {w : World} {b : Nat} {A : Nat → CV} {f c k : Nat} {x : CV} (h : Ring w b A f c) (hk : k < 4) : Ring (w.setCells b (k * 4) (cvC x)) b (upd A k x) f c := by
  refine ⟨fun i hi => ?_, cell_setCells_apart h.cf (by simp [cvC]; omega), cell_setCells_apart h.cc (by simp [cvC]; omega), ?_, ?_⟩
  · unfold upd
    by_cases hik : i = k
    · rw [if_pos hik, hik]
      exact FourW.stored (h.at4 k hk).there
    · rw [if_neg hik]
      exact (h.at4 i hi).apart (by simp [cvC]; omega)
  · rw [World.frozen?_setCells]; exact h.ff
  · rw [World.frozen?_setCells]; exact h.fc
theorem Ring.setF {w : World} {b : Nat} {A : Nat → CV} {f c : Nat} (f' : Nat) (h : Ring w b A f c) : Ring (w.setCell ⟨b, 16, none⟩ (.int .i64 (f' : Int))) b A f' c := by
  have e : w.setCell ⟨b, 16, none⟩ (.int .i64 (f' : Int)) = w.setCells b 16 [.int .i64 (f' : Int)] := rfl
  rw [e]
  refine ⟨fun i hi => (h.at4 i hi).apart (by simp; omega), ?_, cell_setCells_apart h.cc (by simp), ?_, ?_⟩
  · exact World.rangeAt_setCells_same w b 16 [.int .i64 (f' : Int)] (fun j hj => h.there (16 + j) (by simp at hj; omega) |> (fun z => by rw [Nat.zero_add] at z; exact z)) 0 _ rfl
  · rw [World.frozen?_setCells]; exact h.ff
  · rw [World.frozen?_setCells]; exact h.fc
theorem Ring.setC {w : World} {b : Nat} {A : Nat → CV} {f c : Nat} (c' : Nat) (h : Ring w b A f c) : Ring (w.setCell ⟨b, 17, none⟩ (.int .i64 (c' : Int))) b A f c' := by
  have e : w.setCell ⟨b, 17, none⟩ (.int .i64 (c' : Int)) = w.setCells b 17 [.int .i64 (c' : Int)] := rfl
  rw [e]
  refine ⟨fun i hi => (h.at4 i hi).apart (by simp; omega), cell_setCells_apart h.cf (by simp), ?_, ?_, ?_⟩
  · exact World.rangeAt_setCells_same w b 17 [.int .i64 (c' : Int)] (fun j hj => h.there (17 + j) (by simp at hj; omega) |> (fun z => by rw [Nat.zero_add] at z; exact z)) 0 _ rfl
  · rw [World.frozen?_setCells]; exact h.ff
  · rw [World.frozen?_setCells]; exact h.fc
/-- a ring in block b that holds these translations -/
def RL (w : World) (b : Nat) (l : List CV) : Prop := ∃ A f c, Ring w b A f c ∧ f < 4 ∧ c ≤ 4 ∧ rlist A f c = l
/-- what putting one more does -/
def PushR (w : World) (b : Nat) (l : List CV) (e : Ending) (w' : World) : Prop := e = .returned (.tuple #[]) ∧ RL w' b l ∧ Chg b (b + 1) w w'
set_option maxRecDepth 100000 in
set_option maxHeartbeats 2000000 in
theorem push_any (w : World) (b : Nat) (l : List CV) (x : CV) (h : RL w b l) :
    Calls Try.prog 42 #[.pointer (some ⟨b, 0, none⟩), cvV x] w (PushR w b (rput l x)) := by
  obtain ⟨A, f, c, h, hf, hc4, hl⟩ := h
  have HLI := Lib.hid hl
  clear hl
  obtain ⟨xe, xp, xf, xb⟩ := x
  obtain ⟨R, HR⟩ : ∃ R, Hid (R = PushR w b (rput l ⟨xe, xp, xf, xb⟩)) := ⟨_, Lib.hid rfl⟩
  rw [← HR.out]
  have HSL := Lib.hid (fun w k hk => slot_any w A f c k hf hk)
  unfold ringV at HSL
  obtain ⟨L, hL⟩ : ∃ L, L = ringC A f c := ⟨_, rfl⟩
  have HLL : Hid (L.length = 18) := Lib.hid (by rw [hL]; rfl)
  rw [← hL] at HSL
  have HL := Lib.hid hL
  clear hL
  obtain ⟨k, hk⟩ : ∃ k, k = (f + c) % 4 := ⟨_, rfl⟩
  have HKE := Lib.hid hk
  have HK4 : Hid (k < 4) := Lib.hid (by omega)
  have HRG := Lib.hid h
  have hbl := h.lt
  clear h hk
  go_enter Try.func42, Try.ntmps42
  go_wp2_with fail
  obtain ⟨X, hX⟩ : ∃ X, w.heap.size = X := ⟨_, rfl⟩
  obtain ⟨wA, hwA⟩ : ∃ wA, w.alloc (.cells #[.int .i64 xe, .int .i64 xp, .int .i64 xf, .bool xb] 25) = wA := ⟨_, rfl⟩
  have HRA : Hid (Ring wA b A f c) := Lib.hid (by rw [← hwA]; exact HRG.out.block (heap_alloc_old w _ hbl))
  have HFX : Hid (Four wA X 0 ⟨xe, xp, xf, xb⟩) := Lib.hid (by rw [← hwA, ← hX]; exact four_alloc w ⟨xe, xp, xf, xb⟩ _)
  have HXS : Hid (X < wA.heap.size) := Lib.hid (by rw [← hwA, ← hX]; simp)
  have HBX : Hid (b < X) := Lib.hid (by rw [← hX]; exact hbl)
  have HCA : Hid (Chg b (b + 1) w wA) := Lib.hid (by rw [← hwA]; exact Chg.of_bel ((Below.refl _ _).alloc (Nat.le_refl _) _))
  simp only [hX, hwA]
  clear hX hwA hbl
  refine wp_region_held_drew (S := fun w' => (w'.cell? ⟨b, 16, none⟩ = some (.int .i64 f) ∧ w'.cell? ⟨b, 17, none⟩ = some (.int .i64 c)) ∧ Four w' X 0 ⟨xe, xp, xf, xb⟩) (by kernel_rfl) ⟨⟨HRA.out.cf, HRA.out.cc⟩, HFX.out.drew⟩ (fun hHeld => ?_)
  refine wpAnyH_take (i := 0) (oi := { dst := some 4, op := .move (.tmp 0), type := _, pos := _, after := _, guard := none }) (v := .pointer (some ⟨b, 0, none⟩)) rfl (by kernel_rfl) (by kernel_rfl) (by kernel_rfl) (fun _ _ _ h => h) (Or.inl ⟨by rfl, fun wh hSw => ?_⟩) hHeld ?_
  · (obtain ⟨⟨t0, t1⟩, s0, s1, s2, s3⟩ := hSw; simp only [Nat.zero_add] at s0 s1 s2 s3; go_simp)
  try simp only [Act.put, List.setIfInBounds_toArray, List.set_cons_zero, List.set_cons_succ]
  refine wpAnyH_take (i := 1) (oi := { dst := some 5, op := .move (.tmp 0), type := _, pos := _, after := _, guard := none }) (v := .pointer (some ⟨b, 0, none⟩)) rfl (by kernel_rfl) (by kernel_rfl) (by kernel_rfl) (fun _ _ _ h => h) (Or.inl ⟨by rfl, fun wh hSw => ?_⟩) hHeld ?_
  · (obtain ⟨⟨t0, t1⟩, s0, s1, s2, s3⟩ := hSw; simp only [Nat.zero_add] at s0 s1 s2 s3; go_simp)
  try simp only [Act.put, List.setIfInBounds_toArray, List.set_cons_zero, List.set_cons_succ]
  refine wpAnyH_take (i := 2) (oi := { dst := some 6, op := .nilCheck (.tmp 5), type := _, pos := _, after := _, guard := none }) (v := .pointer (some ⟨b, 0, none⟩)) rfl (by kernel_rfl) (by kernel_rfl) (by kernel_rfl) (fun _ _ _ h => h) (Or.inl ⟨by rfl, fun wh hSw => ?_⟩) hHeld ?_
  · (obtain ⟨⟨t0, t1⟩, s0, s1, s2, s3⟩ := hSw; simp only [Nat.zero_add] at s0 s1 s2 s3; go_simp)
  try simp only [Act.put, List.setIfInBounds_toArray, List.set_cons_zero, List.set_cons_succ]
  refine wpAnyH_take (i := 4) (oi := { dst := some 8, op := .move (.tmp 0), type := _, pos := _, after := _, guard := none }) (v := .pointer (some ⟨b, 0, none⟩)) rfl (by kernel_rfl) (by kernel_rfl) (by kernel_rfl) (fun _ _ _ h => h) (Or.inl ⟨by rfl, fun wh hSw => ?_⟩) hHeld ?_
  · (obtain ⟨⟨t0, t1⟩, s0, s1, s2, s3⟩ := hSw; simp only [Nat.zero_add] at s0 s1 s2 s3; go_simp)
  try simp only [Act.put, List.setIfInBounds_toArray, List.set_cons_zero, List.set_cons_succ]
  refine wpAnyH_take (i := 5) (oi := { dst := some 9, op := .nilCheck (.tmp 8), type := _, pos := _, after := _, guard := none }) (v := .pointer (some ⟨b, 0, none⟩)) rfl (by kernel_rfl) (by kernel_rfl) (by kernel_rfl) (fun _ _ _ h => h) (Or.inl ⟨by rfl, fun wh hSw => ?_⟩) hHeld ?_
  · (obtain ⟨⟨t0, t1⟩, s0, s1, s2, s3⟩ := hSw; simp only [Nat.zero_add] at s0 s1 s2 s3; go_simp)
  try simp only [Act.put, List.setIfInBounds_toArray, List.set_cons_zero, List.set_cons_succ]
  refine wpAnyH_take (i := 6) (oi := { dst := some 10, op := .fieldAddr 59 (.tmp 9) 2, type := _, pos := _, after := _, guard := none }) (v := .pointer (some ⟨b, 17, none⟩)) rfl (by kernel_rfl) (by kernel_rfl) (by kernel_rfl) (fun _ _ _ h => h) (Or.inl ⟨by rfl, fun wh hSw => ?_⟩) hHeld ?_
  · (obtain ⟨⟨t0, t1⟩, s0, s1, s2, s3⟩ := hSw; simp only [Nat.zero_add] at s0 s1 s2 s3; go_simp)
  try simp only [Act.put, List.setIfInBounds_toArray, List.set_cons_zero, List.set_cons_succ]
  refine wpAnyH_take (i := 7) (oi := { dst := some 11, op := .load 3 (.tmp 10), type := _, pos := _, after := _, guard := none }) (v := .int .i64 (c : Int)) rfl (by kernel_rfl) (by kernel_rfl) (by kernel_rfl) (fun _ _ _ h => h) (Or.inl ⟨by rfl, fun wh hSw => ?_⟩) hHeld ?_
  · (obtain ⟨⟨t0, t1⟩, s0, s1, s2, s3⟩ := hSw; simp only [Nat.zero_add] at s0 s1 s2 s3; go_simp)
  try simp only [Act.put, List.setIfInBounds_toArray, List.set_cons_zero, List.set_cons_succ]
  refine wpAnyH_take (i := 9) (oi := { dst := some 13, op := .load 25 (.tmp 3), type := _, pos := _, after := _, guard := none }) (v := .agg #[.int .i64 xe, .int .i64 xp, .int .i64 xf, .bool xb]) rfl (by kernel_rfl) (by kernel_rfl) (by kernel_rfl) (fun _ _ _ h => h) (Or.inl ⟨by rfl, fun wh hSw => ?_⟩) hHeld ?_
  · (obtain ⟨⟨t0, t1⟩, s0, s1, s2, s3⟩ := hSw; simp only [Nat.zero_add] at s0 s1 s2 s3; go_simp)
  try simp only [Act.put, List.setIfInBounds_toArray, List.set_cons_zero, List.set_cons_succ]
  refine wpAnyH_take (i := 10) (oi := { dst := some 14, op := .nilCheck (.tmp 4), type := _, pos := _, after := _, guard := none }) (v := .pointer (some ⟨b, 0, none⟩)) rfl (by kernel_rfl) (by kernel_rfl) (by kernel_rfl) (fun _ _ _ h => h) (Or.inl ⟨by rfl, fun wh hSw => ?_⟩) hHeld ?_
  · (obtain ⟨⟨t0, t1⟩, s0, s1, s2, s3⟩ := hSw; simp only [Nat.zero_add] at s0 s1 s2 s3; go_simp)
  try simp only [Act.put, List.setIfInBounds_toArray, List.set_cons_zero, List.set_cons_succ]
  refine wpAnyH_take (i := 11) (oi := { dst := some 15, op := .fieldAddr 59 (.tmp 14) 0, type := _, pos := _, after := _, guard := none }) (v := .pointer (some ⟨b, 0, none⟩)) rfl (by kernel_rfl) (by kernel_rfl) (by kernel_rfl) (fun _ _ _ h => h) (Or.inl ⟨by rfl, fun wh hSw => ?_⟩) hHeld ?_
  · (obtain ⟨⟨t0, t1⟩, s0, s1, s2, s3⟩ := hSw; simp only [Nat.zero_add] at s0 s1 s2 s3; go_simp)
  try simp only [Act.put, List.setIfInBounds_toArray, List.set_cons_zero, List.set_cons_succ]
  refine wpAnyH_ready (rs := [3]) (by kernel_rfl) (by simp) ?_
  refine AllReadyH.cons (o := { dst := some 7, op := .load 59 (.tmp 6), type := _, pos := _, after := _, guard := none }) rfl (fun K hK => ?_) AllReadyH.nil
  rw [if_pos (by rfl)]
  refine wp_load_mid 59 (.tmp 6) rfl b 0 rfl L _ (by rw [HL.out]; exact HRA.out.drew.range) Try.underlying59 rfl (ring_info HLL.out) ?_
  refine hK.out _ _ ?_ (fun hHeld => ?_)
  · exact hHeld
  clear hK K
  try simp only [Act.put, List.setIfInBounds_toArray, List.set_cons_zero, List.set_cons_succ]
  refine wpAnyH_ready (rs := [8]) (by kernel_rfl) (by simp) ?_
  refine AllReadyH.cons (o := { dst := some 12, op := .call { callee := .value (.func 53), args := #[.tmp 7, .tmp 11], argTypes := #[76, 3] }, type := _, pos := _, after := _, guard := none }) rfl (fun K hK => ?_) AllReadyH.nil
  go_simp
  refine (HSL.out _ c (by omega)).mono ?_
  rintro en w4 ⟨rfl, hb4⟩
  rw [← HKE.out]
  have HB4 := Lib.hid hb4
  have HR4 : Hid (Ring w4 b A f c) := Lib.hid (HRA.out.drew.block (hb4.block _ HRA.out.drew.lt))
  have HF4 : Hid (Four w4 X 0 ⟨xe, xp, xf, xb⟩) := Lib.hid (HFX.out.drew.below hb4 HXS.out)
  clear hb4
  refine hK.out _ _ ?_ (fun hHeld => ?_)
  · exact ⟨⟨HR4.out.cf, HR4.out.cc⟩, HF4.out⟩
  clear hK K
  try simp only [Act.put, List.setIfInBounds_toArray, List.set_cons_zero, List.set_cons_succ]
  refine wpAnyH_take (i := 12) (oi := { dst := some 16, op := .indexAddr 57 (.tmp 15) (.tmp 12), type := _, pos := _, after := _, guard := none }) (v := .pointer (some ⟨b, k * 4, none⟩)) rfl (by kernel_rfl) (by kernel_rfl) (by kernel_rfl) (fun _ _ _ h => h) (Or.inl ⟨by rfl, fun wh hSw => ?_⟩) hHeld ?_
  · (go_simp; intro hh; have := HK4.out; omega)
  try simp only [Act.put, List.setIfInBounds_toArray, List.set_cons_zero, List.set_cons_succ]
  refine wpAnyH_ready (rs := [13]) (by kernel_rfl) (by simp) ?_
  refine AllReadyH.cons (o := { dst := none, op := .store 25 (.tmp 16) (.tmp 13), type := _, pos := _, after := _, guard := none }) rfl (fun K hK => ?_) AllReadyH.nil
  rw [if_pos (by rfl)]
  refine wp_store_mid 25 (.tmp 16) (.tmp 13) rfl b (k * 4) #[.int .i64 xe, .int .i64 xp, .int .i64 xf, .bool xb] rfl rfl (HR4.out.at4 k HK4.out).there (by kernel_rfl) (by simp [Value.oneCell']) ?_
  obtain ⟨w5, hw5⟩ : ∃ w5, w4.setCells b (k * 4) (cvC ⟨xe, xp, xf, xb⟩) = w5 := ⟨_, rfl⟩
  have HR5 : Hid (Ring w5 b (upd A k ⟨xe, xp, xf, xb⟩) f c) := Lib.hid (by rw [← hw5]; exact HR4.out.put HK4.out)
  have HC5 : Hid (Chg b (b + 1) w4 w5) := Lib.hid (by rw [← hw5]; exact chg_setCells _ _ _ _)
  have HF5 : Hid (Four w5 X 0 ⟨xe, xp, xf, xb⟩) := Lib.hid (HF4.out.below_chg HC5.out (by have := HBX.out; omega))
  change K _ (w4.setCells b (k * 4) (cvC ⟨xe, xp, xf, xb⟩))
  rw [hw5]
  clear hw5
  refine hK.out _ _ ?_ (fun hHeld => ?_)
  · exact ⟨⟨HR5.out.cf, HR5.out.cc⟩, HF5.out⟩
  clear hK K
  try simp only [Act.put, List.setIfInBounds_toArray, List.set_cons_zero, List.set_cons_succ]
  refine wpAnyH_done (by kernel_rfl) ?_ _
  have HC : Hid (Chg b (b + 1) w w5) := Lib.hid ((HCA.out.trans (Chg.trans (Chg.of_bel (Below.refl wA.heap.size wA).drew) (Chg.of_bel HB4.out))).trans HC5.out)
  clear HR4 HF4 HB4 HCA HC5 HF5 HRA HFX HXS HBX HRG HSL HL HLL
  obtain ⟨L2, hL⟩ : ∃ L2, L2 = ringC (upd A k ⟨xe, xp, xf, xb⟩) f c := ⟨_, rfl⟩
  have HLL : Hid (L2.length = 18) := Lib.hid (by rw [hL]; rfl)
  have HSL := Lib.hid (fun w => slot_any w (upd A k ⟨xe, xp, xf, xb⟩) f c 1 hf (by omega))
  unfold ringV at HSL
  rw [← hL] at HSL
  have HL := Lib.hid hL
  clear hL
  have hcc := HR5.out.cc
  by_cases hc : c = 4
  · subst hc
    have hc' : (((4 : Nat) : Int) == 4) = true := rfl
    go_wp2_with (first | ((with_reducible refine load_is 59 (.tmp 24) ?_); refine load_arr 59 (.tmp 24) b 0 L2 _ rfl (by rw [HL.out]; exact HR5.out.range) Try.underlying59 rfl (ring_info HLL.out) ?_) | fail)
    refine (HSL.out _).mono ?_
    rintro en w6 ⟨rfl, hb6⟩
    obtain ⟨s, hs⟩ : ∃ s, s = (f + 1) % 4 := ⟨_, rfl⟩
    rw [← hs]
    have HSE := Lib.hid hs
    have HR6 : Hid (Ring w6 b (upd A k ⟨xe, xp, xf, xb⟩) f 4) := Lib.hid (HR5.out.block (hb6.block _ HR5.out.lt))
    have hcf6 := HR6.out.cf
    have hff6 := HR6.out.ff
    have HC6 : Hid (Chg b (b + 1) w w6) := Lib.hid (HC.out.trans (Chg.of_bel hb6))
    clear hs hb6 hcc
    go_wp2
    go_returns
    rw [HR.out]
    refine ⟨rfl, ⟨_, _, _, HR6.out.setF s, by rw [HSE.out]; omega, by omega, ?_⟩, HC6.out.trans (chg_setCell _ _ _ _)⟩
    rw [← HLI.out, HSE.out, HKE.out]
    unfold rput
    rw [rlist_len, if_pos (by omega), show (f + 4) % 4 = f by omega]
    exact push_full A f _ hf
  · have hc3 : c < 4 := by omega
    have hc' : ((c : Int) == 4) = false := by simp; omega
    have hfc := HR5.out.fc
    go_wp2
    go_returns
    rw [HR.out]
    refine ⟨rfl, ⟨_, _, _, HR5.out.setC (c + 1), hf, by omega, ?_⟩, HC.out.trans (chg_setCell _ _ _ _)⟩
    rw [← HLI.out, HKE.out]
    unfold rput
    rw [rlist_len, if_neg (by omega)]
    exact push_room A f c _ hf hc3
end Go.Proofs.Ytklclcbhghjjfaa
