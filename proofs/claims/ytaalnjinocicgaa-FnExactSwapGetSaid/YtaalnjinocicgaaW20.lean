/- What the proofs stand on, part 20. -/
import Derived.Test.YtaalnjinocicgaaRows
import Derived.Test.YtaalnjinocicgaaW1
import Derived.Test.YtaalnjinocicgaaW2
import Derived.Test.YtaalnjinocicgaaW3
import Derived.Test.YtaalnjinocicgaaW5
import Derived.Test.YtaalnjinocicgaaW8
import Derived.Test.YtaalnjinocicgaaW14
set_option linter.unusedSimpArgs false
set_option linter.unusedVariables false
namespace Go.Proofs.Ytaalnjinocicgaa
open Go.ChangeShapes Go.WideShapes Go.ChangeAt Go.RowKit
set_option linter.unusedVariables false
set_option linter.unusedSimpArgs false
set_option maxRecDepth 100000 in
set_option maxHeartbeats 1000000 in
theorem sSwapGet_any (w : World) (v : Value) (xss : Rs) (f : Int) (h : Rows2 w v xss) :
    Calls Try.prog 23 #[v, .int .i64 f] w (NewRB (sget xss f) (sgetB xss f) w) := by
  have HV := Lib.hid (sSwapValid_any w v xss h)
  have H := Lib.hid h
  obtain ⟨a, ca, rfl, hla, hma, -⟩ := h
  unfold maxLen at hma
  obtain ⟨b, hb⟩ : ∃ b, b = sgetB xss f := ⟨_, rfl⟩
  obtain ⟨ys, hys⟩ : ∃ ys, ys = sget xss f := ⟨_, rfl⟩
  rw [← hb, ← hys]
  have HB := Lib.hid hb
  have HYS : Hid (ys = if b = true then xss.getD f.toNat [] else []) := Lib.hid (by rw [hys, sget, ← hb])
  clear hb hys
  have HST := Lib.hid (OwnI.start w)
  have no : b = false → NewRB ys b w (.returned (.tuple #[.slice (some ⟨w.heap.size, 0, none⟩) 0 0, .bool false])) (w.alloc (.cells #[] 3)) := fun hb => by
    have e : ys = [] := by rw [HYS.out, hb]; rfl
    rw [hb, e]
    exact ⟨_, rfl, IntsW.of_own HST.out, HST.out.bel⟩
  have NO := Lib.hid no
  clear no
  cases h1 : swOk xss with
  | false =>
    have HF : Hid (b = false) := Lib.hid (by rw [HB.out, sgetB, h1]; rfl)
    rw [h1] at HV
    clear h1
    go_enter Try.func23, Try.ntmps23
    go_wp2_with fail
    refine HV.out.mono ?_
    rintro e w' ⟨rfl, rfl⟩
    go_wp2_with fail
    go_ret2
    exact NO.out HF.out
  | true =>
    have hl16 := sw_len h1
    rw [hl16] at HV H hla ⊢
    by_cases hf : 0 ≤ f ∧ f ≤ 15
    · obtain ⟨k, rfl⟩ : ∃ k : Nat, f = (k : Int) := ⟨f.toNat, by omega⟩
      have hk16 : k < 16 := by omega
      have hk16' : (k : Int) < 16 := by omega
      have HI := Lib.hid (in_yes w (k : Int) 0 15 hf)
      obtain ⟨bb, o, ra, rc, rfl, hc, hu⟩ := H.out.at hk16
      obtain ⟨xs, hxs⟩ : ∃ xs, xs = xss.getD k [] := ⟨_, rfl⟩
      rw [← hxs] at hc hu
      have hro := sw_row h1 (i := k) (by omega)
      have HBB : Hid (b = decide (0 < xs.length)) := Lib.hid (by rw [HB.out, sgetB, h1, inR_iff.2 hf, Int.toNat_natCast, ← hxs]; rfl)
      have hx4 : xs.length ≤ 4 := by rw [hxs]; exact row_len4 hro
      have HYX : Hid (b = true → ys = xs) := Lib.hid (fun hh => by rw [HYS.out, if_pos hh, Int.toNat_natCast, hxs])
      have HU := Lib.hid hu
      have HX4 := Lib.hid hx4
      rw [h1] at HV
      clear h1 hro hxs hf hu
      by_cases hz : xs.length = 0
      · have HF : Hid (b = false) := Lib.hid (by rw [HBB.out, hz]; rfl)
        rw [hz] at hc
        go_enter Try.func23, Try.ntmps23
        go_wp2_with fail
        refine HV.out.mono ?_
        rintro e w' ⟨rfl, rfl⟩
        go_wp2_with fail
        refine HI.out.mono ?_
        rintro e w' ⟨rfl, rfl⟩
        go_wp2_with fail
        go_ret2
        exact NO.out HF.out
      · have HF : Hid (b = true) := Lib.hid (by rw [HBB.out]; exact decide_eq_true (by omega))
        obtain ⟨m, hm⟩ : ∃ m, m = xs.length := ⟨_, rfl⟩
        rw [← hm] at hc HU hz
        have hz' : ((m : Int) == 0) = false := by simp; omega
        have HM := Lib.hid hm
        clear hm hx4
        have hcl := cell_lt hc
        go_enter Try.func23, Try.ntmps23
        go_wp2_with fail
        refine HV.out.mono ?_
        rintro e w' ⟨rfl, rfl⟩
        go_wp2_with fail
        refine HI.out.mono ?_
        rintro e w' ⟨rfl, rfl⟩
        go_wp2_with (at_builtin; refine wpList_append_ints (.tmp 23) (.tmp 27) w _ [] rfl HST.out _ xs rfl (HU.out.below (B := 0) HST.out.bel) (by simp only [List.length_nil]; have := HX4.out; omega) ?_; intro v2 w2 hown2 _)
        rw [List.nil_append] at hown2
        have HO := Lib.hid hown2
        clear hown2
        go_wp2_with fail
        go_ret2
        exact ⟨_, by rw [HF.out]; rfl, by rw [HYX.out HF.out]; exact IntsW.of_own HO.out, HO.out.bel⟩
    · have HI := Lib.hid (in_no w f 0 15 hf)
      have HF : Hid (b = false) := Lib.hid (by
        have e : inR f 0 15 = false := by cases hh : inR f 0 15 with | false => rfl | true => exact absurd (inR_iff.1 hh) hf
        rw [HB.out, sgetB, e, Bool.false_and, Bool.and_false])
      rw [h1] at HV
      clear h1
      go_enter Try.func23, Try.ntmps23
      go_wp2_with fail
      refine HV.out.mono ?_
      rintro e w' ⟨rfl, rfl⟩
      go_wp2_with fail
      refine HI.out.mono ?_
      rintro e w' ⟨rfl, rfl⟩
      go_wp2_with fail
      go_ret2
      exact NO.out HF.out
end Go.Proofs.Ytaalnjinocicgaa
