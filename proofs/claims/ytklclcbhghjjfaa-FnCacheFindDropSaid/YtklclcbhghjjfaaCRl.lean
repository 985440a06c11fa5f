/- The list of a ring. -/
import Derived.Test.YtklclcbhghjjfaaCRf
namespace Go.Proofs.Ytklclcbhghjjfaa
open Go.ChangeShapes Go.WideShapes Go.ChangeAt Go.RowKit
set_option linter.unusedVariables false

theorem OwnC.made {w w' : World} {n : Nat} (h : w'.ownsRow w.heap.size 25 4 (.slice (some ⟨w.heap.size, 0, none⟩) 0 n) 0 []) (hg : w.grownBy w' none) : OwnC w (.slice (some ⟨w.heap.size, 0, none⟩) 0 n) [] w' :=
  ⟨h, (Below.refl _ _).grown hg (Nat.le_refl _) (fun k e => by cases e), fun h => by cases h⟩
theorem OwnC.later {w w1 w2 : World} {v : Value} {ys : List CV} (h : OwnC w v ys w1) (hb : Below w1.heap.size w1 w2) : OwnC w v ys w2 :=
  ⟨by
    refine ⟨h.own.1, ?_⟩
    rcases h.own.2 with hn | ⟨g, cap, cur, e, hg, hbl, rest⟩
    · exact .inl hn
    · exact .inr ⟨g, cap, cur, e, hg, (hb.block _ (Array.getElem?_eq_some_iff.1 hbl).1).trans hbl, rest⟩, h.bel.trans (hb.mono h.bel.size), h.nn⟩
set_option maxRecDepth 100000 in
set_option maxHeartbeats 1000000 in
theorem ringList_any (w : World) (A : Nat → CV) (f c : Nat) (hf : f < 4) (hc : c ≤ 4) :
    Calls Try.prog 43 #[ringV A f c] w (NewC (rlist A f c) w) := by
  obtain ⟨i0, hi, hz0, hz1, hz2⟩ := info_parts cvInfo
  have HI := Lib.hid hi
  have HZ0 := Lib.hid hz0
  have HZ1 := Lib.hid hz1
  have HZ2 := Lib.hid hz2
  clear hi hz0 hz1 hz2
  obtain ⟨R, HR⟩ : ∃ R, Hid (R = rlist A f c) := ⟨_, Lib.hid rfl⟩
  rw [← HR.out]
  have HSL := Lib.hid (fun w k hk => slot_any w A f c k hf hk)
  have HSN := Lib.hid (fun k => rlist_snoc A f k)
  have HLN := Lib.hid (fun k => rlist_len A f k)
  unfold ringV at HSL ⊢
  obtain ⟨L, hL⟩ : ∃ L, L = ringC A f c := ⟨_, rfl⟩
  have HLL : Hid (L.length = 18) := Lib.hid (by rw [hL]; rfl)
  have hL17 : L[17]? = some (.int .i64 (c : Int)) := by rw [hL]; rfl
  have HRG0 : Hid (Ring (w.alloc (.cells L.toArray 59)) w.heap.size A f c) := Lib.hid (by rw [hL]; exact Ring.boxed w A f c _)
  rw [← hL] at HSL ⊢
  have HL := Lib.hid hL
  clear hL
  go_enter Try.func43, Try.ntmps43
  go_wp2_with (first | ((with_reducible refine box_is _ (.tmp 0) ?_); refine box_arr _ (.tmp 0) L.toArray rfl ?_) | (at_make; refine wpList_make_own _ rfl (.const (.int .i64 0)) (.tmp 6) 23 rfl (w.heap.size + 1) 25 i0 (.agg #[.int .i64 0, .int .i64 0, .int .i64 0, .bool false]) 4 Try.underlying23 HI.out HZ0.out HZ1.out .i64 .i64 _ c rfl rfl rfl (by rw [HZ2.out]; omega) (by unfold maxLen; omega) (by simp) ?_; intro wm hown hgrow; have hcm : wm.cell? ⟨w.heap.size, 17, none⟩ = some (.int .i64 (c : Int)) := (World.cell?_of_block (hgrow.block _ (by simp) (by simp))).trans HRG0.out.cc) | fail)
  obtain ⟨X, hX⟩ : ∃ X, w.heap.size = X := ⟨_, rfl⟩
  obtain ⟨w0, hw0⟩ : ∃ w0, w.alloc (.cells L.toArray 59) = w0 := ⟨_, rfl⟩
  have hX1 : w0.heap.size = X + 1 := by rw [← hw0, ← hX]; simp
  have HRG : Hid (Ring w0 X A f c) := Lib.hid (by rw [← hw0, ← hX]; exact HRG0.out)
  have HBW : Hid (Below X w w0) := Lib.hid (by rw [← hw0, ← hX]; exact (Below.refl _ _).alloc (Nat.le_refl _) _)
  simp only [hX, hw0] at hown hgrow ⊢
  simp only [hX1] at hown ⊢
  have HST : Hid (OwnC w0 (.slice (some ⟨X + 1, 0, none⟩) 0 c) [] wm) := Lib.hid (by
    have h := @OwnC.made w0 wm c
    rw [hX1] at h
    exact h hown hgrow)
  have HXX := Lib.hid hX1
  have HXW := Lib.hid hX
  clear hown hgrow hX1 hX hw0 HRG0 hcm
  go_loopw [3, 10] (fun u i wr => ∃ k : Nat, k ≤ c ∧ i = .int .i64 k ∧ OwnC w0 u (rlist A f k) wr) (fun _ i _ => c - (intOf i).toNat)
  case atStart => exact ⟨0, Nat.zero_le _, rfl, HST.out⟩
  case round =>
    obtain ⟨k, hk, rfl, hrel⟩ := hrel
    have HREL := Lib.hid hrel
    clear hrel
    have HRGR : Hid (Ring wr X A f c) := Lib.hid (HRG.out.block (HREL.out.bel.block _ HRG.out.lt))
    have HRR := Lib.hid HRGR.out.range
    have HXR : Hid (X < wr.heap.size) := Lib.hid HRGR.out.lt
    by_cases hlt : k < c
    · have hlt' : (k : Int) < (c : Int) := by omega
      go_wp2_with (first | ((with_reducible refine load_is 59 (.tmp 1) ?_); refine load_arr 59 (.tmp 1) X 0 L _ rfl (by rw [HL.out]; exact HRR.out) Try.underlying59 rfl (ring_info HLL.out) ?_) | fail)
      refine (HSL.out _ k (by omega)).mono ?_
      rintro en w1 ⟨rfl, hb1⟩
      obtain ⟨s, hs⟩ : ∃ s, s = (f + k) % 4 := ⟨_, rfl⟩
      have hs4 : (s : Int) < 4 := by omega
      have hs4n : s < 4 := by omega
      obtain ⟨x, hx⟩ : ∃ x, x = A s := ⟨_, rfl⟩
      have HX : Hid (rlist A f (k + 1) = rlist A f k ++ [x]) := Lib.hid (by rw [HSN.out, hx, hs])
      have hf4 := ((HRGR.out.at4 s hs4n).block (hb1.block _ HXR.out)).at4
      rw [← hx] at hf4
      obtain ⟨g0, g1, g2, g3⟩ := hf4
      rw [← hs]
      have HOWN1 : Hid (OwnC w0 u3 (rlist A f k) w1) := Lib.hid (HREL.out.later hb1)
      clear hs hx hb1
      go_wp2_with (first | (at_builtin; refine wpList_append_own _ rfl (.tmp 13) (.tmp 20) 23 rfl w0.heap.size 25 i0 (.agg #[.int .i64 0, .int .i64 0, .int .i64 0, .bool false]) 4 32 Try.underlying23 HI.out HZ0.out HZ1.out HZ2.out rfl (by decide) _ _ _ rfl (HOWN1.out.own.alloc _) ⟨w1.heap.size, 0, none⟩ 1 1 (cvC x) rfl rfl (cell_four_new _ _ _) (by intro u hu; simp [cvC] at hu; rcases hu with rfl | rfl | rfl | rfl <;> rfl) (by rw [HLN.out]; unfold maxLen; omega) (by rw [HLN.out]; omega) (by have := HOWN1.out.bel.size; simp; omega) ?_; intro v2 w2 hown2 hgrow2 hnn2) | fail)
      have HR2 : Hid (OwnC w0 v2 (rlist A f (k + 1)) w2) := Lib.hid (by
        rw [HX.out]
        exact HOWN1.out.grow (zs := [x]) rfl (by rw [show csC [x] = cvC x from by simp [csC]]; exact hown2) hgrow2 (fun e => (hnn2.1 e).1))
      clear hown2 hgrow2 hnn2
      go_wp2
      go_roundw
      case rel => exact ⟨k + 1, by omega, by go_num, HR2.out⟩
      case measure => simp [intOf]; omega
    · have ek : k = c := by omega
      subst ek
      go_wp2
      go_ret
      refine ⟨_, rfl, ?_⟩
      rw [HR.out]
      exact HREL.out.from (by rw [HXW.out]; exact HBW.out)
end Go.Proofs.Ytklclcbhghjjfaa
