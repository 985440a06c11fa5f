/- What the proofs stand on, part 7. -/
import Derived.Test.YtaalnjinocicgaaRows
import Derived.Test.YtaalnjinocicgaaW1
import Derived.Test.YtaalnjinocicgaaW3
import Derived.Test.YtaalnjinocicgaaW5
import Derived.Test.YtaalnjinocicgaaW6
set_option linter.unusedSimpArgs false
set_option linter.unusedVariables false
namespace Go.Proofs.Ytaalnjinocicgaa
open Go.ChangeShapes Go.WideShapes Go.ChangeAt Go.RowKit
set_option linter.unusedVariables false
def NewMem (yss : List (List Int)) (b : Bool) (w : World) (e : Ending) (w' : World) : Prop := ∃ v, e = .returned (.tuple #[v, .bool b]) ∧ MatW w' w.heap.size w'.heap.size v yss ∧ Below w.heap.size w w'
end Go.Proofs.Ytaalnjinocicgaa
namespace Go.Proofs.Ytaalnjinocicgaa
set_option linter.unusedVariables false
set_option linter.unusedSimpArgs false
def ISD : Prop := ∀ w v xss f, Rows2 w v xss → Calls Try.prog 20 #[v, .int .i64 f] w (NewMem (sdrop xss f) (sgetB xss f) w)
end Go.Proofs.Ytaalnjinocicgaa
namespace Go.Proofs.Ytaalnjinocicgaa
open Go.ChangeShapes Go.WideShapes Go.ChangeAt Go.RowKit
set_option linter.unusedVariables false
set_option linter.unusedSimpArgs false
theorem Sw.drop {C : Nat → Value} {xss : Rs} (h : Sw C xss) (hl : xss.length = 16) {k : Nat} (hk : k < 16) {vs : List Value} (hv : vs.length = 5) (h4 : vs[4]? = some (.bool false)) : Sw (putC C (k * 5) vs) (xss.set k []) := fun i hi => by
  rw [getD_set]
  by_cases hik : i = k
  · subst hik
    rw [if_pos ⟨rfl, by omega⟩]
    exact PlaceC.free C i h4
  · rw [if_neg (by omega)]
    exact (h i hi).put hv hik
end Go.Proofs.Ytaalnjinocicgaa
namespace Go.Proofs.Ytaalnjinocicgaa
open Go.ChangeShapes Go.WideShapes Go.ChangeAt Go.RowKit
set_option linter.unusedVariables false
set_option linter.unusedSimpArgs false
set_option maxRecDepth 100000 in
set_option maxHeartbeats 1000000 in
theorem drop_any (w : World) (b : Nat) (C : Nat → Value) (h : Blk w b C) (hn : Nums C) (ho : One C) (c k : Nat) (hc : C 96 = .int .i64 (c : Int)) (hc15 : c < 16) (hk : k < 16) :
    Calls Try.prog 47 #[.pointer (some ⟨b, 0, none⟩), .int .i64 (k : Int)] w
      (SetR w b C k [.int .i64 0, .int .i64 0, .int .i64 0, .int .i64 0, .bool false] (.tuple #[])) := by
  have HIX := run_indexAt_arr (P := Try.prog) 55 16 54 5 Try.underlying55 slot_size (by omega) b k (by omega)
  have HT := Lib.hid (h.part (k * 5) 5 (by omega))
  have hB := h.put (k * 5) [.int .i64 0, .int .i64 0, .int .i64 0, .int .i64 0, .bool false] (by simp; omega)
  have HP := Lib.hid (hpush_any _ b _ hB (hn.put hk rfl) c (by rw [putC_out (by simp; omega)]; exact hc) hc15 (k : Int))
  have HO : Hid (One (putC C (k * 5) [.int .i64 0, .int .i64 0, .int .i64 0, .int .i64 0, .bool false])) := Lib.hid (ho.put _ (by simp [Value.oneCell']))
  clear h hn hc ho hB
  go_enter Try.func47, Try.ntmps47
  go_wp2_with (first | ((with_reducible refine store_is 54 (.tmp 9) (.tmp 6) ?_); refine store_arr 54 (.tmp 9) (.tmp 6) b (k * 5) #[.int .i64 0, .int .i64 0, .int .i64 0, .int .i64 0, .bool false] rfl rfl HT.out slot_info (by kernel_rfl) ?_) | fail)
  refine HP.out.mono ?_
  rintro e w2 ⟨rfl, C2, h2, -⟩
  have H2 := Lib.hid h2
  clear h2
  go_wp2_with fail
  refine bodyPost_end (results_none rfl _ _ _) rfl ?_
  exact ⟨rfl, C2, H2.out.blk, H2.out.one HO.out, H2.out.low, (chg_setCells w b _ _).trans H2.out.chg⟩
end Go.Proofs.Ytaalnjinocicgaa
namespace Go.Proofs.Ytaalnjinocicgaa
open Go.ChangeShapes Go.WideShapes Go.ChangeAt Go.RowKit
set_option linter.unusedVariables false
set_option linter.unusedSimpArgs false
set_option maxRecDepth 100000 in
set_option maxHeartbeats 2000000 in
theorem isd : ISD := fun w v xss f h => by
  have HSO := Lib.hid (swapOf_any w v xss h)
  obtain ⟨Z, hZ⟩ : ∃ Z, Z = (cells Z0).toArray := ⟨_, rfl⟩
  have HAL : Hid (∀ w, (zeroValue 60).run Try.prog w = .ok (.agg Z) w) := Lib.hid (by rw [hZ]; exact Z0_zero)
  have HZS : Hid (Z.size = 97) := Lib.hid (by rw [hZ]; exact cells_size _)
  clear hZ
  obtain ⟨ys, hys⟩ : ∃ ys, ys = sdrop xss f := ⟨_, rfl⟩
  rw [← hys]
  have HYS := Lib.hid hys
  clear hys h
  cases hok : swOk xss with
  | false =>
    rw [hok] at HSO
    have HF : Hid (sgetB xss f = false) := Lib.hid (by rw [sgetB, hok]; rfl)
    have HY : Hid (ys = []) := Lib.hid (by rw [HYS.out, sdrop, if_neg (by rw [HF.out]; exact Bool.false_ne_true)])
    rw [HF.out, HY.out]
    clear hok
    go_enter Try.func20, Try.ntmps20
    go_wp2_with fail
    refine HSO.out.mono ?_
    rintro e w1 ⟨C, rfl, hone, hst, hb1⟩
    have HLV := Lib.hid (laid_var hb1 C Z HZS.out 60)
    have HONE := Lib.hid hone
    have HST := Lib.hid hst
    obtain ⟨L, hL⟩ : ∃ L, L = cells C := ⟨_, rfl⟩
    have HLE := Lib.hid hL
    have HLL : Hid (L.length = 97) := Lib.hid (by rw [hL]; exact cells_len _)
    have HLS : Hid (L.toArray.size = 97) := Lib.hid (by rw [hL]; exact cells_size _)
    have HLO : Hid (L.toArray.all (·.oneCell') = true) := Lib.hid (by rw [hL]; exact hone.all)
    rw [← hL] at HLV ⊢
    obtain ⟨w2, hw2⟩ : ∃ w2, (w1.alloc (.cells Z 60)).setCells w1.heap.size 0 L = w2 := ⟨_, rfl⟩
    obtain ⟨X, hX⟩ : ∃ X, w1.heap.size = X := ⟨_, rfl⟩
    have HW2 := Lib.hid hw2
    rw [hw2] at HLV
    have HXX := Lib.hid hX
    have HB1S := Lib.hid hb1.size
    clear hb1 hst hone hL hw2 hX
    go_wp2_with (first | ((with_reducible refine alloc_is 60 ?_); refine alloc_arr 60 Z HAL.out ?_; try simp only [Act.put, List.setIfInBounds_toArray, List.set_cons_zero, List.set_cons_succ]) | ((with_reducible refine store_is 60 (.tmp 6) (.tmp 11) ?_); refine store_arr 60 (.tmp 6) (.tmp 11) w1.heap.size 0 L.toArray rfl rfl (by rw [HLS.out]; exact HLV.out.2.2) (swap_info' HLL.out) HLO.out ?_; rw [show L.toArray.toList = L from rfl, HW2.out]) | fail)
    go_ret2
    exact ⟨_, rfl, mat_nil _ _ _ _, HLV.out.2.1⟩
  | true =>
    rw [hok] at HSO
    have HOK := Lib.hid hok
    have HLN := Lib.hid (sw_len hok)
    clear hok
    go_enter Try.func20, Try.ntmps20
    go_wp2_with fail
    refine HSO.out.mono ?_
    rintro e w1 ⟨C, rfl, hone, hst, hb1⟩
    have HLV := Lib.hid (laid_var hb1 C Z HZS.out 60)
    have HONE := Lib.hid hone
    have HST := Lib.hid hst
    obtain ⟨L, hL⟩ : ∃ L, L = cells C := ⟨_, rfl⟩
    have HLE := Lib.hid hL
    have HLL : Hid (L.length = 97) := Lib.hid (by rw [hL]; exact cells_len _)
    have HLS : Hid (L.toArray.size = 97) := Lib.hid (by rw [hL]; exact cells_size _)
    have HLO : Hid (L.toArray.all (·.oneCell') = true) := Lib.hid (by rw [hL]; exact hone.all)
    rw [← hL] at HLV ⊢
    obtain ⟨w2, hw2⟩ : ∃ w2, (w1.alloc (.cells Z 60)).setCells w1.heap.size 0 L = w2 := ⟨_, rfl⟩
    obtain ⟨X, hX⟩ : ∃ X, w1.heap.size = X := ⟨_, rfl⟩
    have HW2 := Lib.hid hw2
    rw [hw2] at HLV
    have HXX := Lib.hid hX
    have HB1S := Lib.hid hb1.size
    clear hb1 hst hone hL hw2 hX
    have HSS : Hid (∃ c, SwSt xss 16 c C) := Lib.hid (HST.out rfl)
    have HHAS : Hid (Calls Try.prog 45 #[.agg L.toArray, .int .i64 f] w2 (HasR w2 (sgetB xss f))) := Lib.hid (by
      obtain ⟨c, hs⟩ := HSS.out
      rw [HLE.out]
      exact has_any w2 C xss f hs.sw HLN.out HOK.out)
    go_wp2_with (first | ((with_reducible refine alloc_is 60 ?_); refine alloc_arr 60 Z HAL.out ?_; try simp only [Act.put, List.setIfInBounds_toArray, List.set_cons_zero, List.set_cons_succ]) | ((with_reducible refine store_is 60 (.tmp 6) (.tmp 11) ?_); refine store_arr 60 (.tmp 6) (.tmp 11) w1.heap.size 0 L.toArray rfl rfl (by rw [HLS.out]; exact HLV.out.2.2) (swap_info' HLL.out) HLO.out ?_; rw [show L.toArray.toList = L from rfl, HW2.out]) | ((with_reducible refine load_is_g 60 (.tmp 6) ?_); refine load_arr_g 60 (.tmp 6) (by rfl) w1.heap.size 0 L _ rfl (by rw [HLE.out]; exact HLV.out.1.range) Try.underlying60 rfl (swap_info HLL.out) ?_) | fail)
    refine HHAS.out.mono ?_
    rintro e w3 ⟨rfl, hb3⟩
    have HB3 := Lib.hid (HLV.out.2.1.trans (hb3.mono HLV.out.2.1.size))
    have HK3 : Hid (Blk w3 w1.heap.size C) := Lib.hid (HLV.out.1.below hb3 HLV.out.1.lt)
    clear hb3
    cases hg : sgetB xss f with
    | false =>
      have HY : Hid (ys = []) := Lib.hid (by rw [HYS.out, sdrop, if_neg (by rw [hg]; exact Bool.false_ne_true)])
      have HG := Lib.hid hg
      clear hg
      go_wp2_with fail
      go_ret2
      exact ⟨_, by rw [HG.out]; rfl, by rw [HY.out]; exact mat_nil _ _ _ _, HB3.out⟩
    | true =>
      obtain ⟨k, hk⟩ := get_yes hg
      have hk16 := hk.lt
      obtain rfl : f = (k : Int) := hk.ix
      have HY : Hid (ys = xss.set k []) := Lib.hid (by rw [HYS.out, sdrop, if_pos hg, Int.toNat_natCast])
      have hne : xss.getD k [] ≠ [] := by
        intro e
        have h4 := hk.four
        rw [hk.y, e] at h4
        simp at h4
      obtain ⟨c, hs⟩ := HSS.out
      have hc16 : c < 16 := by
        have h1 := hs.hp.le
        by_cases h2 : c = 16
        · exact absurd (hs.hp.full h2 k hk16) hne
        · omega
      have HD := Lib.hid (drop_any w3 w1.heap.size C HK3.out hs.nums hs.one c k hs.hp.cnt hc16 hk16)
      have HSW := Lib.hid (hs.sw.drop HLN.out hk16 (vs := [.int .i64 0, .int .i64 0, .int .i64 0, .int .i64 0, .bool false]) rfl rfl)
      have HOK2 := Lib.hid (swOk_set HOK.out (ys := []) rfl k)
      have HG := Lib.hid hg
      clear hg hk hne hs hc16
      go_wp2_with fail
      refine HD.out.mono ?_
      rintro e w4 ⟨rfl, C4, hk4, ho4, hl4, hc4⟩
      have HB4 := Lib.hid (Chg.bel HB3.out hc4 HB1S.out (Nat.le_refl _))
      have HLI := Lib.hid (lists_any w4 C4 (xss.set k []) ho4 (HSW.out.low hl4) (by rw [List.length_set]; exact HLN.out) HOK2.out)
      obtain ⟨L4, hL4⟩ : ∃ L4, L4 = cells C4 := ⟨_, rfl⟩
      have HLL4 : Hid (L4.length = 97) := Lib.hid (by rw [hL4]; exact cells_len _)
      have HLR4 : Hid (w4.rangeAt w1.heap.size 0 L4) := Lib.hid (by rw [hL4]; exact hk4.range)
      rw [← hL4] at HLI
      clear hk4 ho4 hl4 hc4 hL4
      go_wp2_with (first | ((with_reducible refine load_is 60 (.tmp 6) ?_); refine load_arr 60 (.tmp 6) w1.heap.size 0 L4 _ rfl HLR4.out Try.underlying60 rfl (swap_info HLL4.out) ?_) | fail)
      refine HLI.out.mono ?_
      rintro e w5 hm5
      obtain ⟨v5, rfl, hm, hbm⟩ := ToMat.bel HB4.out hm5
      have HM := Lib.hid hm
      have HBM := Lib.hid hbm
      clear hm hbm hm5
      go_wp2_with fail
      go_ret2
      exact ⟨_, by rw [HG.out]; rfl, by rw [HY.out]; exact HM.out, HBM.out⟩
end Go.Proofs.Ytaalnjinocicgaa
