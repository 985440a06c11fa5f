/- What the proofs stand on, part 44. -/
import Derived.Test.YtfnmnegddhggaaaRows
import Derived.Test.YtfnmnegddhggaaaT1
import Derived.Test.YtfnmnegddhggaaaT2
import Derived.Test.YtfnmnegddhggaaaT3
import Derived.Test.YtfnmnegddhggaaaT4
import Derived.Test.YtfnmnegddhggaaaT5
import Derived.Test.YtfnmnegddhggaaaT6
import Derived.Test.YtfnmnegddhggaaaT7
import Derived.Test.YtfnmnegddhggaaaT8
import Derived.Test.YtfnmnegddhggaaaT9
import Derived.Test.YtfnmnegddhggaaaT10
import Derived.Test.YtfnmnegddhggaaaT11
import Derived.Test.YtfnmnegddhggaaaT12
import Derived.Test.YtfnmnegddhggaaaT13
import Derived.Test.YtfnmnegddhggaaaT15
import Derived.Test.YtfnmnegddhggaaaT16
import Derived.Test.YtfnmnegddhggaaaT17
import Derived.Test.YtfnmnegddhggaaaT18
import Derived.Test.YtfnmnegddhggaaaT20
import Derived.Test.YtfnmnegddhggaaaT26
import Derived.Test.YtfnmnegddhggaaaT28
import Derived.Test.YtfnmnegddhggaaaT32
set_option linter.unusedSimpArgs false
set_option linter.unusedVariables false
namespace Go.Proofs.Ytfnmnegddhggaaa
set_option linter.unusedVariables false
set_option linter.unusedSimpArgs false
theorem fTakeFilter {x y : Int} : ∀ {L : List Int} {k : Nat}, L.Nodup → y ∈ (L.filter (fun y => decide (y ≠ x))).take k → y ∈ L.take (k + 1)
  | [], _, _, h => by simp at h
  | z :: L, k, hL, h => by
    have hL' := List.nodup_cons.1 hL
    by_cases hz : z = x
    · rw [List.filter_cons_of_neg (by simpa using hz)] at h
      have e : L.filter (fun y => decide (y ≠ x)) = L := List.filter_eq_self.2 (fun a ha => by
        rw [decide_eq_true_eq]; intro e; exact hL'.1 (by rw [hz, ← e]; exact ha))
      rw [e] at h
      rw [List.take_succ_cons]
      exact List.mem_cons_of_mem _ h
    · rw [List.filter_cons_of_pos (by simpa using hz)] at h
      cases k with
      | zero => simp at h
      | succ k =>
        rw [List.take_succ_cons] at h ⊢
        rcases List.mem_cons.1 h with h | h
        · exact List.mem_cons.2 (.inl h)
        · exact List.mem_cons_of_mem _ (fTakeFilter hL'.2 h)
theorem costL_run {f : Nat} (hf : 0 < f) : ∀ (l p : List Int), FRun f ((rcp p).take f) l (costL f p l)
  | [], _ => trivial
  | x :: r, p => by
    obtain ⟨g, rfl⟩ : ∃ g, f = g + 1 := ⟨f - 1, by omega⟩
    refine ⟨(rcp (x :: p)).take (g + 1), _, List.length_take_le _ _, by simp [rcp], fun y hy => ?_, costL_run hf r (x :: p), Nat.le_refl _⟩
    simp only [rcp, List.take_succ_cons] at hy
    rcases List.mem_cons.1 hy with h | h
    · exact .inl h
    · exact .inr (fTakeFilter (rcp_nodup p) h)
theorem costB_L {ev : List Int → List Int → Nat} (hev : FLate ev) {f : Nat} (hf : 0 < f) (l : List Int) : costB ev f [] l ≤ costL f [] l := by
  have h := costL_run hf l []
  simp only [rcp, List.take_nil] at h
  exact costB_le hev hf l [] _ List.nodup_nil (Nat.zero_le _) h
end Go.Proofs.Ytfnmnegddhggaaa
namespace Go.Proofs.Ytfnmnegddhggaaa
open Go.ChangeShapes Go.WideShapes Go.ChangeAt Go.RowKit
set_option linter.unusedVariables false
set_option linter.unusedSimpArgs false
theorem fact_best {xs : List Int} {f : Int} (h : 0 ≤ fbest xs f) : fbest xs f ≤ flast xs f ∧ fbest xs f ≤ ffirst xs f := by
  obtain ⟨F, q⟩ := ft_of (.inr (.inr h))
  rw [q.first, q.last, q.best]
  have h1 := costB_L evL_late (show 0 < F by have := q.lo; omega) xs
  have h2 := costB_F evL_late (show 0 < F by have := q.lo; omega) xs
  omega
end Go.Proofs.Ytfnmnegddhggaaa
namespace Go.Proofs.Ytfnmnegddhggaaa
open Go.ChangeShapes Go.WideShapes Go.ChangeAt Go.RowKit
set_option linter.unusedVariables false
set_option linter.unusedSimpArgs false
set_option maxRecDepth 100000 in
set_option maxHeartbeats 2000000 in
theorem faultsBest_walk (ctv : CTV) (cts : CTS) (cff : CFF) (cfl : CFL) (cfb : CFB) (W : World) (a : Option Addr) (len cap : Nat) (zs : List Int) (hr : Row .u8 W a len cap zs) :
    Calls Try.prog 6 #[.slice a len cap] W fun e w' => e = .returned (.bool true) ∧ Below W.heap.size W w' := by
  have hm := row_len hr
  by_cases hL : 1048576 < len
  · have hL1 : (1048576 : Int) < (len : Int) := by omega
    clear hr
    go_enter Try.func6, Try.ntmps6
    go_wp2_with fail
    go_ret
    exact ⟨rfl, Below.refl _ _⟩
  have hL1 : decide ((1048576 : Int) < (len : Int)) = false := by simp; omega
  have hL2 : decide (1048576 < len) = false := by simp; omega
  go_enter Try.func6, Try.ntmps6
  go_wp2_with fail
  refine (drawFaultsBest_any W a len cap zs hr).mono ?_
  clear hr
  rintro e w1 ⟨v, ys, f, rfl, hf, hd⟩
  have B1 := Lib.hid hd.bel
  have R1 := Lib.hid hd.ints
  have hl25 := hd.len
  obtain ⟨g, c, hv⟩ := hd.form
  clear hd
  subst hv
  have HB := Lib.hid (fun (w : World) (h : Ints w (.slice (some ⟨g, 0, none⟩) ys.length c) ys) => cfb w _ ys f h)
  have SB := Lib.hid (fun (w : World) (h : Ints w (.slice (some ⟨g, 0, none⟩) ys.length c) ys) => sFaultsBest_any w _ ys f h)
  have HL := Lib.hid (fun (w : World) (h : Ints w (.slice (some ⟨g, 0, none⟩) ys.length c) ys) => cfl w _ ys f h)
  have HF := Lib.hid (fun (w : World) (h : Ints w (.slice (some ⟨g, 0, none⟩) ys.length c) ys) => cff w _ ys f h)
  have FA := Lib.hid ((fun h => fact_best h : 0 ≤ fbest ys f → _))
  have HYN : Hid (ys.length ≤ 25) := Lib.hid hl25
  obtain ⟨n, hn⟩ : ∃ n, n = ys.length := ⟨_, rfl⟩
  rw [← hn] at hl25 R1 HB SB HL HF ⊢
  have HN := Lib.hid hn
  clear hn
  generalize fbest ys f = zb at HB SB FA
  generalize flast ys f = zl at HL FA
  generalize ffirst ys f = zf at HF FA
  go_wp2_with fail
  refine (HB.out w1 R1.out).mono ?_
  rintro e w2 ⟨rfl, hb⟩
  have B2 := Lib.hid (B1.out.trans (hb.mono B1.out.size))
  have R2 := Lib.hid (Ints.below (B := 0) R1.out hb)
  clear hb
  go_wp2_with fail
  refine (SB.out w2 R2.out).mono ?_
  rintro e w3 ⟨rfl, hb⟩
  have B3 := Lib.hid (B2.out.trans (hb.mono B2.out.size))
  have R3 := Lib.hid (Ints.below (B := 0) R2.out hb)
  clear hb
  by_cases hz : zb < 0
  · go_wp2_with fail
    go_ret
    exact ⟨rfl, B3.out⟩
  · have hz1 : decide (zb < 0) = false := by simp; omega
    obtain ⟨h1, h2⟩ := FA.out (by omega)
    go_wp2_with fail
    refine (HL.out w3 R3.out).mono ?_
    rintro e w4 ⟨rfl, hb⟩
    have B4 := Lib.hid (B3.out.trans (hb.mono B3.out.size))
    have R4 := Lib.hid (Ints.below (B := 0) R3.out hb)
    clear hb
    go_wp2_with fail
    refine (HF.out w4 R4.out).mono ?_
    rintro e w5 ⟨rfl, hb⟩
    have B5 := Lib.hid (B4.out.trans (hb.mono B4.out.size))
    have R5 := Lib.hid (Ints.below (B := 0) R4.out hb)
    clear hb
    go_wp2_with fail
    go_ret
    exact ⟨rfl, B5.out⟩
end Go.Proofs.Ytfnmnegddhggaaa
