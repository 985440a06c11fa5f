/- What the reference's Walk returns at all arguments. -/
import Derived.Test.YtdockkmodjbfpaaWBase
namespace Go.Proofs.Ytdockkmodjbfpaa
open Go.ChangeShapes Go.WideShapes Go.ChangeAt Go.RowKit
set_option linter.unusedVariables false

theorem l1Address_yes (w : World) (a : Int) (h : 0 ≤ a ∧ a < 64) : Calls Try.prog 42 #[.int .i64 a] w fun e w' => e = .returned (.bool true) ∧ w = w' := by
  go_enter Try.func42, Try.ntmps42
  go_wp2_with (go_at_call 62; refine (in_yes _ _ _ _ (by omega)).mono ?_; rintro e w' ⟨rfl, rfl⟩)
  go_ret
  exact ⟨rfl, rfl⟩
theorem l1Address_no (w : World) (a : Int) (h : ¬ (0 ≤ a ∧ a < 64)) : Calls Try.prog 42 #[.int .i64 a] w fun e w' => e = .returned (.bool false) ∧ w = w' := by
  go_enter Try.func42, Try.ntmps42
  go_wp2_with (go_at_call 62; refine (in_no _ _ _ _ (by omega)).mono ?_; rintro e w' ⟨rfl, rfl⟩)
  go_ret
  exact ⟨rfl, rfl⟩

theorem l3Walk_any (w : World) (v : Value) (xss : List (List Int)) (r a : Int) (h : Rows2 w v xss) (hk : wOk xss r a) :
    Calls Try.prog 48 #[v, .int .i64 r, .int .i64 a] w (WalkRes w (walkF xss r a)) := by
  by_cases ht : goodB (top xss r a)
  · by_cases hl : goodB (low xss r a)
    · rw [show walkF xss r a = ⟨low xss r a / 4, a % 4, decide (top xss r a % 4 = 3) && decide (low xss r a % 4 = 3), 0⟩ from by unfold walkF; rw [if_pos hk, if_pos ht, if_pos hl]]
      exact l3Walk_done w v xss r a h hk ht hl
    · rw [show walkF xss r a = ⟨0, 0, false, 2⟩ from by unfold walkF; rw [if_pos hk, if_pos ht, if_neg hl]]
      exact l3Walk_low w v xss r a h hk ht hl
  · rw [show walkF xss r a = ⟨0, 0, false, 1⟩ from by unfold walkF; rw [if_pos hk, if_neg ht]]
    exact l3Walk_top w v xss r a h hk ht
theorem walkF_no {xss : List (List Int)} {r a : Int} (h : ¬ wOk xss r a) : walkF xss r a = ⟨0, 0, false, 3⟩ := by unfold walkF; rw [if_neg h]

theorem swalk_any (w : World) (v : Value) (xss : List (List Int)) (r a : Int) (h : Rows2 w v xss) :
    Calls Try.prog 14 #[v, .int .i64 r, .int .i64 a] w (WalkRes w (walkF xss r a)) := by
  by_cases hk : wOk xss r a
  · obtain ⟨p, hp⟩ : ∃ p, p = walkF xss r a := ⟨_, rfl⟩
    have HW := Lib.hid (fun w v h => l3Walk_any w v xss r a h hk)
    rw [← hp] at HW ⊢
    clear hp
    obtain ⟨f, t, bb, c⟩ := p
    have HC := Lib.hid (fun ob => l2Ok_yes (w.alloc ob) v xss r (Rows2.below h ((Below.refl _ _).alloc (Nat.le_refl _) ob)) hk.1 hk.2.1)
    have HA := Lib.hid (fun w => l1Address_yes w a hk.2.2)
    have HR := Lib.hid (fun ob => Rows2.below h ((Below.refl w.heap.size w).alloc (Nat.le_refl _) ob))
    clear h hk
    obtain ⟨R, HRR⟩ : ∃ R : Ending → World → Prop, Hid (R = WalkRes w ⟨f, t, bb, c⟩) := ⟨_, Lib.hid rfl⟩
    rw [← HRR.out]
    go_enter Try.func14, Try.ntmps14
    go_wp2_with fail
    refine (HC.out _).mono ?_
    rintro e w' ⟨rfl, rfl⟩
    go_wp2_with fail
    refine (HA.out _).mono ?_
    rintro e w' ⟨rfl, rfl⟩
    go_wp2_with fail
    refine (HW.out _ _ (HR.out _)).mono ?_
    rintro e w1 ⟨rfl, hb1⟩
    unfold plV
    have HT : Hid (w1.there w.heap.size 0 3) := Lib.hid (there_row ((hb1.block w.heap.size (by simp)).trans (heap_alloc_new w _)) (Nat.le_refl _))
    have HB : Hid (∀ cs, Below w.heap.size w (w1.setCells w.heap.size 0 cs)) := Lib.hid (fun cs => Below.setCells (Below.refl _ _) _ (Nat.le_refl _) _ _ _ (((Below.refl _ _).alloc (Nat.le_refl _) _).trans (hb1.mono (by simp))))
    go_wp2_with (((with_reducible refine store_is 27 (.tmp 6) (.tmp 22) ?_); refine store_arr 27 (.tmp 6) (.tmp 22) w.heap.size 0 #[.int .i64 f, .int .i64 t, .bool bb] rfl rfl HT.out (by kernel_rfl) (by kernel_rfl) ?_))
    refine bodyPost_ret (results_cell_mid rfl _ _ w.heap.size 0 [.int .i64 f, .int .i64 t, .bool bb] _ rfl (World.rangeAt_setCells_same _ _ _ _ HT.out) Try.underlying27 rfl (by kernel_rfl)) rfl ?_
    rw [HRR.out]
    exact ⟨rfl, HB.out _⟩
  · rw [walkF_no hk]
    obtain ⟨R, HRR⟩ : ∃ R : Ending → World → Prop, Hid (R = WalkRes w ⟨0, 0, false, 3⟩) := ⟨_, Lib.hid rfl⟩
    rw [← HRR.out]
    by_cases h1 : memOk xss = true ∧ 0 ≤ r ∧ r < 12
    · have HC := Lib.hid (fun ob => l2Ok_yes (w.alloc ob) v xss r (Rows2.below h ((Below.refl _ _).alloc (Nat.le_refl _) ob)) h1.1 h1.2)
      have HA := Lib.hid (fun w => l1Address_no w a (fun hh => hk ⟨h1.1, h1.2, hh⟩))
      clear h hk h1
      go_enter Try.func14, Try.ntmps14
      go_wp2_with fail
      refine (HC.out _).mono ?_
      rintro e w' ⟨rfl, rfl⟩
      go_wp2_with fail
      refine (HA.out _).mono ?_
      rintro e w' ⟨rfl, rfl⟩
      go_wp2_with fail
      refine bodyPost_ret (results_cell_mid rfl _ _ w.heap.size 0 [.int .i64 0, .int .i64 0, .bool false] _ rfl (range_row (heap_alloc_new w _)) Try.underlying27 rfl (by kernel_rfl)) rfl ?_
      rw [HRR.out]
      exact ⟨rfl, (Below.refl _ _).alloc (Nat.le_refl _) _⟩
    · have HC := Lib.hid (fun ob => l2Ok_no (w.alloc ob) v xss r (Rows2.below h ((Below.refl _ _).alloc (Nat.le_refl _) ob)) h1)
      clear h hk h1
      go_enter Try.func14, Try.ntmps14
      go_wp2_with fail
      refine (HC.out _).mono ?_
      rintro e w' ⟨rfl, rfl⟩
      go_wp2_with fail
      refine bodyPost_ret (results_cell_mid rfl _ _ w.heap.size 0 [.int .i64 0, .int .i64 0, .bool false] _ rfl (range_row (heap_alloc_new w _)) Try.underlying27 rfl (by kernel_rfl)) rfl ?_
      rw [HRR.out]
      exact ⟨rfl, (Below.refl _ _).alloc (Nat.le_refl _) _⟩
end Go.Proofs.Ytdockkmodjbfpaa
