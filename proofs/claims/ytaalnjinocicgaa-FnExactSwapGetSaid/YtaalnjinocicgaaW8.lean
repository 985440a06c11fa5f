/- What the proofs stand on, part 8. -/
import Derived.Test.YtaalnjinocicgaaRows
import Derived.Test.YtaalnjinocicgaaW1
import Derived.Test.YtaalnjinocicgaaW3
import Derived.Test.YtaalnjinocicgaaW5
set_option linter.unusedSimpArgs false
set_option linter.unusedVariables false
namespace Go.Proofs.Ytaalnjinocicgaa
open Go.ChangeShapes Go.WideShapes Go.ChangeAt Go.RowKit
set_option linter.unusedVariables false
set_option linter.unusedSimpArgs false
def NewRB (ys : List Int) (b : Bool) (w : World) (e : Ending) (w' : World) : Prop := ∃ v, e = .returned (.tuple #[v, .bool b]) ∧ IntsW w' w.heap.size w'.heap.size v ys ∧ Below w.heap.size w w'
theorem intsW_wide {w : World} {B0 B1 C0 : Nat} {v : Value} {xs : List Int} (h : IntsW w B0 B1 v xs) (h0 : C0 ≤ B0) : IntsW w C0 B1 v xs := by
  obtain ⟨a, cap, e, h1, h2, h3⟩ := h
  refine ⟨a, cap, e, h1, h2, fun i hi => ?_⟩
  obtain ⟨g, p, e, hg0, r⟩ := h3 i hi
  exact ⟨g, p, e, by omega, r⟩
end Go.Proofs.Ytaalnjinocicgaa
namespace Go.Proofs.Ytaalnjinocicgaa
set_option linter.unusedVariables false
set_option linter.unusedSimpArgs false
def ISG : Prop := ∀ w v xss f, Rows2 w v xss → Calls Try.prog 17 #[v, .int .i64 f] w (NewRB (sget xss f) (sgetB xss f) w)
end Go.Proofs.Ytaalnjinocicgaa
namespace Go.Proofs.Ytaalnjinocicgaa
open Go.ChangeShapes Go.WideShapes Go.ChangeAt Go.RowKit
set_option linter.unusedVariables false
set_option linter.unusedSimpArgs false
theorem none_ints (w : World) (B0 B1 : Nat) : IntsW w B0 B1 (.slice none 0 0) [] := ⟨none, 0, rfl, Nat.le_refl _, Nat.zero_le _, fun i hi => by simp at hi⟩
set_option maxRecDepth 100000 in
set_option maxHeartbeats 2000000 in
theorem isg : ISG := fun w v xss f h => by
  have HSO := Lib.hid (swapOf_any w v xss h)
  obtain ⟨Z, hZ⟩ : ∃ Z, Z = (cells Z0).toArray := ⟨_, rfl⟩
  have HAL : Hid (∀ w, (zeroValue 60).run Try.prog w = .ok (.agg Z) w) := Lib.hid (by rw [hZ]; exact Z0_zero)
  have HZS : Hid (Z.size = 97) := Lib.hid (by rw [hZ]; exact cells_size _)
  clear hZ
  obtain ⟨ys, hys⟩ : ∃ ys, ys = sget xss f := ⟨_, rfl⟩
  rw [← hys]
  have HYS := Lib.hid hys
  clear hys h
  cases hok : swOk xss with
  | false =>
    rw [hok] at HSO
    have HF : Hid (sgetB xss f = false) := Lib.hid (by rw [sgetB, hok]; rfl)
    have HY : Hid (ys = []) := Lib.hid (by rw [HYS.out, sget, if_neg (by rw [HF.out]; exact Bool.false_ne_true)])
    rw [HF.out, HY.out]
    clear hok
    go_enter Try.func17, Try.ntmps17
    go_wp2_with fail
    refine HSO.out.mono ?_
    rintro e w1 ⟨C, rfl, hone, hst, hb1⟩
    have HLV := Lib.hid (laid_var hb1 C Z HZS.out 60)
    have HONE := Lib.hid hone
    have HST := Lib.hid hst
    obtain ⟨L, hL⟩ : ∃ L, L = cells C := ⟨_, rfl⟩
    have HLE := Lib.hid hL
    have HLL : Hid (L.length = 97) := Lib.hid (by rw [hL]; exact cells_len _)
    have HLS : Hid (L.toArray.size = 97) := Lib.hid (by rw [hL]; exact cells_size _)
    have HLO : Hid (L.toArray.all (·.oneCell') = true) := Lib.hid (by rw [hL]; exact hone.all)
    rw [← hL] at HLV ⊢
    obtain ⟨w2, hw2⟩ : ∃ w2, (w1.alloc (.cells Z 60)).setCells w1.heap.size 0 L = w2 := ⟨_, rfl⟩
    obtain ⟨X, hX⟩ : ∃ X, w1.heap.size = X := ⟨_, rfl⟩
    have HW2 := Lib.hid hw2
    rw [hw2] at HLV
    have HXX := Lib.hid hX
    have HB1S := Lib.hid hb1.size
    clear hb1 hst hone hL hw2 hX
    go_wp2_with (first | ((with_reducible refine alloc_is 60 ?_); refine alloc_arr 60 Z HAL.out ?_; try simp only [Act.put, List.setIfInBounds_toArray, List.set_cons_zero, List.set_cons_succ]) | ((with_reducible refine store_is 60 (.tmp 6) (.tmp 11) ?_); refine store_arr 60 (.tmp 6) (.tmp 11) w1.heap.size 0 L.toArray rfl rfl (by rw [HLS.out]; exact HLV.out.2.2) (swap_info' HLL.out) HLO.out ?_; rw [show L.toArray.toList = L from rfl, HW2.out]) | fail)
    go_ret2
    exact ⟨_, rfl, none_ints _ _ _, HLV.out.2.1⟩
  | true =>
    rw [hok] at HSO
    have HOK := Lib.hid hok
    have HLN := Lib.hid (sw_len hok)
    clear hok
    go_enter Try.func17, Try.ntmps17
    go_wp2_with fail
    refine HSO.out.mono ?_
    rintro e w1 ⟨C, rfl, hone, hst, hb1⟩
    have HLV := Lib.hid (laid_var hb1 C Z HZS.out 60)
    have HONE := Lib.hid hone
    have HST := Lib.hid hst
    obtain ⟨L, hL⟩ : ∃ L, L = cells C := ⟨_, rfl⟩
    have HLE := Lib.hid hL
    have HLL : Hid (L.length = 97) := Lib.hid (by rw [hL]; exact cells_len _)
    have HLS : Hid (L.toArray.size = 97) := Lib.hid (by rw [hL]; exact cells_size _)
    have HLO : Hid (L.toArray.all (·.oneCell') = true) := Lib.hid (by rw [hL]; exact hone.all)
    rw [← hL] at HLV ⊢
    obtain ⟨w2, hw2⟩ : ∃ w2, (w1.alloc (.cells Z 60)).setCells w1.heap.size 0 L = w2 := ⟨_, rfl⟩
    obtain ⟨X, hX⟩ : ∃ X, w1.heap.size = X := ⟨_, rfl⟩
    have HW2 := Lib.hid hw2
    rw [hw2] at HLV
    have HXX := Lib.hid hX
    have HB1S := Lib.hid hb1.size
    clear hb1 hst hone hL hw2 hX
    have HSS : Hid (∃ c, SwSt xss 16 c C) := Lib.hid (HST.out rfl)
    have HHAS : Hid (Calls Try.prog 45 #[.agg L.toArray, .int .i64 f] w2 (HasR w2 (sgetB xss f))) := Lib.hid (by
      obtain ⟨c, hs⟩ := HSS.out
      rw [HLE.out]
      exact has_any w2 C xss f hs.sw HLN.out HOK.out)
    go_wp2_with (first | ((with_reducible refine alloc_is 60 ?_); refine alloc_arr 60 Z HAL.out ?_; try simp only [Act.put, List.setIfInBounds_toArray, List.set_cons_zero, List.set_cons_succ]) | ((with_reducible refine store_is 60 (.tmp 6) (.tmp 11) ?_); refine store_arr 60 (.tmp 6) (.tmp 11) w1.heap.size 0 L.toArray rfl rfl (by rw [HLS.out]; exact HLV.out.2.2) (swap_info' HLL.out) HLO.out ?_; rw [show L.toArray.toList = L from rfl, HW2.out]) | ((with_reducible refine load_is_g 60 (.tmp 6) ?_); refine load_arr_g 60 (.tmp 6) (by rfl) w1.heap.size 0 L _ rfl (by rw [HLE.out]; exact HLV.out.1.range) Try.underlying60 rfl (swap_info HLL.out) ?_) | fail)
    refine HHAS.out.mono ?_
    rintro e w3 ⟨rfl, hb3⟩
    have HB3 := Lib.hid (HLV.out.2.1.trans (hb3.mono HLV.out.2.1.size))
    have HK3 : Hid (Blk w3 w1.heap.size C) := Lib.hid (HLV.out.1.below hb3 HLV.out.1.lt)
    clear hb3
    cases hg : sgetB xss f with
    | false =>
      have HY : Hid (ys = []) := Lib.hid (by rw [HYS.out, sget, if_neg (by rw [hg]; exact Bool.false_ne_true)])
      have HG := Lib.hid hg
      clear hg
      go_wp2_with fail
      go_ret2
      exact ⟨_, by rw [HG.out]; rfl, by rw [HY.out]; exact none_ints _ _ _, HB3.out⟩
    | true =>
      obtain ⟨k, hk⟩ := get_yes hg
      have hk16 := hk.lt
      obtain rfl : f = (k : Int) := hk.ix
      have HY : Hid (ys = xss.getD k []) := Lib.hid (by rw [HYS.out]; exact hk.y)
      have h4 : (xss.getD k []).length = 4 := by rw [← hk.y]; exact hk.four
      have H4 := Lib.hid h4
      have HI : Hid (Ints w3 (.slice (some ⟨w1.heap.size, k * 5, none⟩) 4 4) (xss.getD k [])) := Lib.hid (by
        obtain ⟨c, hs⟩ := HSS.out
        refine ⟨some ⟨w1.heap.size, k * 5, none⟩, 4, by rw [h4], by rw [h4]; exact Nat.le_refl _, by unfold maxLen; omega, fun j hj => ⟨w1.heap.size, k * 5, rfl, ?_⟩⟩
        have hj4 : j < 4 := by omega
        have hne : xss.getD k [] ≠ [] := by intro e; rw [e] at h4; simp at h4
        rw [← (hs.sw k hk16).2 hne j hj4]
        exact HK3.out.cell (k * 5 + j) (by omega))
      have HCL := Lib.hid (clone_at h4 HI.out)
      have hk16' : (k : Int) < 16 := by omega
      have HIX := run_indexAt_arr (P := Try.prog) 55 16 54 5 Try.underlying55 slot_size (by omega) w1.heap.size k (by omega)
      have HG := Lib.hid hg
      clear hg hk h4
      go_wp2_with fail
      refine HCL.out.mono ?_
      rintro e w4 ⟨v4, rfl, ho4⟩
      have HW4 := Lib.hid (IntsW.of_own ho4)
      have HB4 := Lib.hid (HB3.out.trans (ho4.bel.mono HB3.out.size))
      clear ho4
      go_wp2_with fail
      go_ret2
      exact ⟨_, by rw [HG.out]; rfl, by rw [HY.out]; exact intsW_wide HW4.out HB3.out.size, HB4.out⟩
end Go.Proofs.Ytaalnjinocicgaa
