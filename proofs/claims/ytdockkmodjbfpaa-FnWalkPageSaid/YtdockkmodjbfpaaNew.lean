/- What the reference's new memory is: twelve rows of four zeros in new blocks. -/
import Derived.Test.YtdockkmodjbfpaaSpecMem
namespace Go.Proofs.Ytdockkmodjbfpaa
open Go.ChangeShapes Go.WideShapes Go.ChangeAt Go.RowKit
set_option linter.unusedVariables false

def zeros : List (List Int) := List.replicate 12 [0, 0, 0, 0]
theorem zeros_get {k : Nat} (h : k < 12) : zeros.getD k [] = [0, 0, 0, 0] := by
  unfold zeros
  rw [getD_lt (by simpa using h), List.getElem_replicate]
theorem made_owns (w : World) : (w.alloc (.cells (madeCells #[.int .i64 0] 4) 3)).ownsRow w.heap.size 3 1 (.slice (some ⟨w.heap.size, 0, none⟩) 4 4) 4 (([0, 0, 0, 0] : List Int).map (.int .i64)) :=
  ⟨rfl, .inr ⟨w.heap.size, 4, madeCells #[.int .i64 0] 4, rfl, Nat.le_refl _, by show (w.heap.push _)[w.heap.size]? = _; simp, Nat.le_refl _, by unfold maxLen; omega, size_madeCells _ _, by kernel_rfl⟩⟩

theorem l2New_any (w : World) : Calls Try.prog 60 #[] w (ToMat zeros w) := by
  obtain ⟨i1, hj, hy0, hy1, hy2⟩ := info_parts intsInfo
  have HJ := Lib.hid hj
  have HY0 := Lib.hid hy0
  have HY1 := Lib.hid hy1
  have HY2 := Lib.hid hy2
  clear hj hy0 hy1 hy2
  have hmk : ∀ W : World, (Instr.makeSlice 34 (.int .i64 4) (.int .i64 4)).run Try.prog W = .ok (.slice (some ⟨W.heap.size, 0, none⟩) 4 4) (W.alloc (.cells (madeCells #[.int .i64 0] 4) 3)) := fun W =>
    run_make_row' (P := Try.prog) 34 3 (.int .i64 0) 8 Try.underlying34 intInfo rfl .i64 .i64 4 (by omega) (by omega) W
  go_enter Try.func60, Try.ntmps60
  go_wp2
  go_loopw [1, 2] (fun u i wr => ∃ (k : Nat) (V : Nat → Value) (G : Nat → Nat), k ≤ 12 ∧ i = .int .i64 k ∧ CRel w zeros k u wr V G) (fun _ i _ => 12 - (intOf i).toNat)
  case atStart => exact ⟨0, _, _, Nat.zero_le _, rfl, CRel.start w zeros⟩
  case round =>
    obtain ⟨k, V, G, hk, rfl, hrel⟩ := hrel
    by_cases hlt : k < 12
    · have hlt' : (k : Int) < 12 := by omega
      have hsz := hrel.bel.size
      have hmk' := hmk wr
      have hown1 := made_owns wr
      obtain ⟨w1, hw1⟩ : ∃ w1, w1 = wr.alloc (.cells (madeCells #[.int .i64 0] 4) 3) := ⟨_, rfl⟩
      have hg1 : (wr.alloc (.cells #[] 3)).grownBy w1 (some wr.heap.size) := by
        subst hw1
        exact ⟨rfl, rfl, rfl, by simp, fun q hq hne => by
          have : q < wr.heap.size := by
            have : q ≠ wr.heap.size := fun e => hne (by rw [e])
            simp at hq
            omega
          rw [Below.heap_alloc _ _ _ this, Below.heap_alloc _ _ _ this]⟩
      rw [← hw1] at hown1 hmk'
      have hs1 : w.heap.size ≤ w1.heap.size := by rw [hw1]; simp; omega
      clear hmk hw1
      have HO := Lib.hid hown1
      have HG := Lib.hid hg1
      clear hown1 hg1
      go_wp2_with (at_builtin; refine wpList_append_own _ rfl (.tmp 8) (.tmp 10) 23 rfl w.heap.size 34 i1 (.slice none 0 0) 1 24 Try.underlying23 HJ.out HY0.out HY1.out HY2.out rfl (by decide) _ _ _ rfl (hrel.own_mid HG.out) ⟨w1.heap.size, 0, none⟩ 1 1 [.slice (some ⟨wr.heap.size, 0, none⟩) 4 4] rfl rfl (cell_one_new _ _ _) (by intro u hu; simp at hu; subst hu; rfl) (by unfold maxLen; omega) (by omega) (by simp; omega) ?_; intro v2 w2 hown2 hgrow2 _)
      have HREL : Hid (∃ V' G', CRel w zeros (k + 1) v2 w2 V' G') := Lib.hid (hrel.step (zeros_get hlt) (by simp) HO.out HG.out hown2 hgrow2)
      clear hown2 hgrow2 hrel
      go_wp2
      go_roundw
      case rel =>
        obtain ⟨V', G', hR⟩ := HREL.out
        exact ⟨k + 1, V', G', by omega, by go_num, hR⟩
      case measure => simp [intOf]; omega
    · have hge : decide ((k : Int) < 12) = false := by simp; omega
      go_wp2
      go_ret
      have e : k = 12 := by omega
      subst e
      exact ⟨_, rfl, hrel.mat (by simp [zeros]) (by omega) (fun j hj => by rw [zeros_get hj]; simp), hrel.bel⟩
end Go.Proofs.Ytdockkmodjbfpaa
