/- What a ring finds. -/
import Derived.Test.YtklclcbhghjjfaaCRv
namespace Go.Proofs.Ytklclcbhghjjfaa
open Go.ChangeShapes Go.WideShapes Go.ChangeAt Go.RowKit
set_option linter.unusedVariables false

/-- what is found of a page in a list of translations -/
def findL (l : List CV) (e p : Int) : FV := if 0 ≤ fnd l e p then ⟨l.getD (fnd l e p).toNat c0, true⟩ else ⟨c0, false⟩
theorem findL_no {l : List CV} {e p : Int} (h : ∀ j, j < l.length → same (l.getD j c0) e p = false) : findL l e p = ⟨c0, false⟩ := by
  unfold findL
  rw [fnd_no h, if_neg (by omega)]
theorem findL_yes {l : List CV} {e p : Int} {k : Nat} (hk : k < l.length) (hy : same (l.getD k c0) e p = true) (h : ∀ j, j < k → same (l.getD j c0) e p = false) : findL l e p = ⟨l.getD k c0, true⟩ := by
  unfold findL
  rw [fnd_yes hk hy h, if_pos (by omega)]
  rfl
theorem ring_info {L : List Value} (h : L.length = 18) : (Try.prog.info? 59).map (·.size) = some L.length := by rw [h]; kernel_rfl
theorem fourW_row {w : World} {b : Nat} {x : CV} {t : TypeId} (h : w.heap[b]? = some (.cells #[.int .i64 x.e, .int .i64 x.p, .int .i64 x.f, .bool x.b] t (0, 0))) : FourW w b 0 x :=
  ⟨⟨(cell_of_row w b _ _ t (0, 0) h).trans rfl, (cell_of_row w b _ _ t (0, 0) h).trans rfl, (cell_of_row w b _ _ t (0, 0) h).trans rfl, (cell_of_row w b _ _ t (0, 0) h).trans rfl⟩, fun j hj => frozen_of_row w b _ _ t h⟩
theorem cells_stored4 (w : World) (b : Nat) (x : CV) (h : w.there b 0 4) : FourW (w.setCells b 0 (cvC x)) b 0 x := FourW.stored h

set_option maxRecDepth 100000 in
set_option maxHeartbeats 1000000 in
theorem ringFind_any (w : World) (A : Nat → CV) (f c : Nat) (e p : Int) (hf : f < 4) (hc : c ≤ 4) :
    Calls Try.prog 46 #[ringV A f c, .int .i64 e, .int .i64 p] w (FindRes w (findL (rlist A f c) e p)) := by
  obtain ⟨R, HR⟩ : ∃ R, Hid (R = findL (rlist A f c) e p) := ⟨_, Lib.hid rfl⟩
  rw [← HR.out]
  have HSL := Lib.hid (fun w k hk => slot_any w A f c k hf hk)
  have HLE := Lib.hid (rlist_len A f c)
  have HGE := Lib.hid (fun i (hi : i < c) => rlist_get A f c hi)
  unfold ringV at HSL ⊢
  obtain ⟨L, hL⟩ : ∃ L, L = ringC A f c := ⟨_, rfl⟩
  have HLL : Hid (L.length = 18) := Lib.hid (by rw [hL]; rfl)
  have hL17 : L[17]? = some (.int .i64 (c : Int)) := by rw [hL]; rfl
  have HRG0 : Hid (Ring (w.alloc (.cells L.toArray 59)) w.heap.size A f c) := Lib.hid (by rw [hL]; exact Ring.boxed w A f c _)
  rw [← hL] at HSL ⊢
  have HL := Lib.hid hL
  clear hL
  go_enter Try.func46, Try.ntmps46
  go_wp2_with ((with_reducible refine box_is _ (.tmp 0) ?_); refine box_arr _ (.tmp 0) L.toArray rfl ?_)
  obtain ⟨X, hX⟩ : ∃ X, w.heap.size = X := ⟨_, rfl⟩
  obtain ⟨w0, hw0⟩ : ∃ w0, (w.alloc (.cells L.toArray 59)).alloc (.cells #[.int .i64 0, .int .i64 0, .int .i64 0, .bool false] 25) = w0 := ⟨_, rfl⟩
  have HRG : Hid (Ring w0 X A f c) := Lib.hid (by rw [← hw0, ← hX]; exact HRG0.out.block (heap_alloc_old _ _ (by simp)))
  have HZ : Hid (FourW w0 (X + 1) 0 c0) := Lib.hid (by
    rw [← hw0, ← hX]
    have h := heap_alloc_new (w.alloc (.cells L.toArray 59)) (.cells #[.int .i64 0, .int .i64 0, .int .i64 0, .bool false] 25)
    rw [World.size_alloc] at h
    exact fourW_row h)
  have HB : Hid (Below X w w0) := Lib.hid (by rw [← hw0, ← hX]; exact ((Below.refl _ _).alloc (Nat.le_refl _) _).alloc (by simp) _)
  have HS : Hid (X + 2 ≤ w0.heap.size) := Lib.hid (by rw [← hw0, ← hX]; simp)
  have HXW := Lib.hid hX
  simp only [hX, hw0]
  clear hw0 HRG0 hX
  have HUN := Lib.hid (show X + 1 = X + 1 from rfl)
  go_loopw [12] (fun i wr => ∃ k : Nat, k ≤ c ∧ i = .int .i64 k ∧ Hid (Ring wr X A f c) ∧ Hid (FourW wr (X + 1) 0 c0) ∧ Hid (Below X w wr) ∧ Hid (X + 2 ≤ wr.heap.size) ∧ Hid (∀ j, j < k → same ((rlist A f c).getD j c0) e p = false)) (fun i _ => c - (intOf i).toNat)
  case atStart => exact ⟨0, Nat.zero_le _, rfl, HRG, HZ, HB, HS, Lib.hid (fun j hj => by omega)⟩
  case round =>
    obtain ⟨k, hk, rfl, HRG, HZ, HB, HS, HNO⟩ := hrel
    have HRR := Lib.hid HRG.out.range
    by_cases hlt : k < c
    · have hlt' : (k : Int) < (c : Int) := by omega
      go_wp2_with (first | ((with_reducible refine load_is 59 (.tmp 3) ?_); refine load_arr 59 (.tmp 3) X 0 L _ rfl (by rw [HL.out]; exact HRR.out) Try.underlying59 rfl (ring_info HLL.out) ?_) | fail)
      refine (HSL.out _ k (by omega)).mono ?_
      rintro en w1 ⟨rfl, hb1⟩
      obtain ⟨s, hs⟩ : ∃ s, s = (f + k) % 4 := ⟨_, rfl⟩
      have hs4 : (s : Int) < 4 := by omega
      have hs4n : s < 4 := by omega
      obtain ⟨x, hx⟩ : ∃ x, x = A s := ⟨_, rfl⟩
      have HX : Hid (x = (rlist A f c).getD k c0) := Lib.hid (by rw [hx, hs]; exact (HGE.out k hlt).symm)
      have hbl := HRG.out.lt
      have hf4 := ((HRG.out.at4 s hs4n).block (hb1.block _ hbl)).at4
      rw [← hx] at hf4
      obtain ⟨g0, g1, g2, g3⟩ := hf4
      rw [← hs]
      have HBS := Lib.hid hb1
      clear hs hx hb1
      go_wp2_with fail
      obtain ⟨Y, hY⟩ : ∃ Y, w1.heap.size = Y := ⟨_, rfl⟩
      obtain ⟨w2, hw2⟩ : ∃ w2, w1.alloc (.cells #[.int .i64 x.e, .int .i64 x.p, .int .i64 x.f, .bool x.b] 25) = w2 := ⟨_, rfl⟩
      have hb2 : Below wr.heap.size wr w2 := by rw [← hw2]; exact HBS.out.alloc HBS.out.size _
      have HYX : Hid (X + 2 ≤ Y) := Lib.hid (by rw [← hY]; exact Nat.le_trans HS.out HBS.out.size)
      have HF2 : Hid (FourW w2 Y 0 x ∧ Y < w2.heap.size) := Lib.hid (by
        rw [← hw2, ← hY]
        exact ⟨fourW_row (heap_alloc_new w1 (.cells #[.int .i64 x.e, .int .i64 x.p, .int .i64 x.f, .bool x.b] 25)), by simp⟩)
      have HBS2 := Lib.hid hb2
      simp only [hY, hw2]
      clear hw2 hY hb2 HBS g0 g1 g2 g3
      refine (isOf_any w2 x e p).mono ?_
      rintro en w3 ⟨rfl, hb3⟩
      have HB3 : Hid (Below wr.heap.size wr w3) := Lib.hid (HBS2.out.trans (hb3.mono HBS2.out.size))
      have HF3 : Hid (FourW w3 Y 0 x) := Lib.hid (HF2.out.1.block (hb3.block _ HF2.out.2))
      have HRG3 : Hid (Ring w3 X A f c) := Lib.hid (HRG.out.block (HB3.out.block _ (by have := HS.out; omega)))
      have HZ3 : Hid (FourW w3 (X + 1) 0 c0) := Lib.hid (HZ.out.block (HB3.out.block _ (by have := HS.out; omega)))
      have HBB3 : Hid (Below X w w3) := Lib.hid (HB.out.trans (HB3.out.mono (by have := HS.out; omega)))
      have HS3 : Hid (X + 2 ≤ w3.heap.size) := Lib.hid (Nat.le_trans HS.out HB3.out.size)
      clear hb3 HB3 HBS2 HF2
      cases hsm : same x e p
      · have HN2 : Hid (∀ j, j < k + 1 → same ((rlist A f c).getD j c0) e p = false) := Lib.hid (fun j hj => by
          by_cases hjk : j < k
          · exact HNO.out j hjk
          · obtain rfl : j = k := by omega
            rw [← HX.out]; exact hsm)
        clear hsm
        go_wp2
        go_roundw
        case rel => exact ⟨k + 1, by omega, by go_num, HRG3, HZ3, HBB3, HS3, HN2⟩
        case measure => simp [intOf]; omega
      · have HR2 : Hid (R = ⟨x, true⟩) := Lib.hid (by
          rw [HR.out, HX.out]
          exact findL_yes (by rw [HLE.out]; exact hlt) (by rw [← HX.out]; exact hsm) HNO.out)
        clear hsm
        obtain ⟨q0, q1, q2, q3⟩ := HF3.out.at4
        rw [Nat.zero_add] at q1 q2 q3
        have HT := Lib.hid HZ3.out.there
        go_wp2_with (first | ((with_reducible refine store_is 25 (.tmp 6) (.tmp 25) ?_); refine store_arr 25 (.tmp 6) (.tmp 25) (X + 1) 0 #[.int .i64 x.e, .int .i64 x.p, .int .i64 x.f, .bool x.b] rfl rfl HT.out (by kernel_rfl) (by simp [Value.oneCell']) ?_) | fail)
        refine bodyPost_ret (results_cell_mid rfl _ _ (X + 1) 0 [.int .i64 x.e, .int .i64 x.p, .int .i64 x.f, .bool x.b] _ rfl (World.rangeAt_setCells_same _ _ _ _ HT.out) Try.underlying25 rfl (by kernel_rfl)) rfl ?_
        rw [HR2.out]
        exact ⟨rfl, by rw [HXW.out]; exact Below.setCells HBB3.out _ (by omega) _ _ _ HBB3.out⟩
    · have ek : k = c := by omega
      subst ek
      have HR2 : Hid (R = ⟨c0, false⟩) := Lib.hid (by
        rw [HR.out]
        exact findL_no (fun j hj => HNO.out j (by rw [HLE.out] at hj; exact hj)))
      have HT := Lib.hid HZ.out.there
      go_wp2_with (first | ((with_reducible refine store_is 25 (.tmp 6) (.tmp 27) ?_); refine store_arr 25 (.tmp 6) (.tmp 27) (X + 1) 0 #[.int .i64 0, .int .i64 0, .int .i64 0, .bool false] rfl rfl HT.out (by kernel_rfl) (by kernel_rfl) ?_) | fail)
      refine bodyPost_ret (results_cell_mid rfl _ _ (X + 1) 0 [.int .i64 0, .int .i64 0, .int .i64 0, .bool false] _ rfl (World.rangeAt_setCells_same _ _ _ _ HT.out) Try.underlying25 rfl (by kernel_rfl)) rfl ?_
      rw [HR2.out]
      exact ⟨rfl, by rw [HXW.out]; exact Below.setCells HB.out _ (by omega) _ _ _ HB.out⟩
end Go.Proofs.Ytklclcbhghjjfaa
