/- What the proofs stand on, part 43. -/
import Derived.Test.YtfnmnegddhggaaaRows
import Derived.Test.YtfnmnegddhggaaaT1
import Derived.Test.YtfnmnegddhggaaaT2
import Derived.Test.YtfnmnegddhggaaaT3
import Derived.Test.YtfnmnegddhggaaaT4
import Derived.Test.YtfnmnegddhggaaaT5
import Derived.Test.YtfnmnegddhggaaaT6
import Derived.Test.YtfnmnegddhggaaaT7
import Derived.Test.YtfnmnegddhggaaaT8
import Derived.Test.YtfnmnegddhggaaaT9
import Derived.Test.YtfnmnegddhggaaaT10
import Derived.Test.YtfnmnegddhggaaaT11
import Derived.Test.YtfnmnegddhggaaaT12
import Derived.Test.YtfnmnegddhggaaaT13
import Derived.Test.YtfnmnegddhggaaaT15
import Derived.Test.YtfnmnegddhggaaaT16
import Derived.Test.YtfnmnegddhggaaaT17
import Derived.Test.YtfnmnegddhggaaaT18
import Derived.Test.YtfnmnegddhggaaaT23
set_option linter.unusedSimpArgs false
set_option linter.unusedVariables false
namespace Go.Proofs.Ytfnmnegddhggaaa
set_option linter.unusedVariables false
set_option linter.unusedSimpArgs false
theorem FRun.front {f : Nat} : ∀ {l r S : List Int} {n : Nat}, FRun f S (l ++ r) n → FRun f S l n
  | [], _, _, _, _ => trivial
  | x :: l, r, S, n, ⟨T, k, h1, h2, h3, h4, h5⟩ => ⟨T, k, h1, h2, h3, FRun.front h4, h5⟩
theorem costF_front (f : Nat) (r : List Int) : ∀ (l K : List Int), costF f K l ≤ costF f K (l ++ r)
  | [], _ => Nat.zero_le _
  | x :: l, K => by
    have := costF_front f r l (stepF f K x)
    simp only [List.cons_append, costF]; omega
theorem costL_front (f : Nat) (r : List Int) : ∀ (l p : List Int), costL f p l ≤ costL f p (l ++ r)
  | [], _ => Nat.zero_le _
  | x :: l, p => by
    have := costL_front f r l (x :: p)
    simp only [List.cons_append, costL]; omega
theorem costB_front {ev : List Int → List Int → Nat} (hev : FLate ev) {f : Nat} (hf : 0 < f) (l r : List Int) : costB ev f [] l ≤ costB ev f [] (l ++ r) :=
  costB_le hev hf l [] _ List.nodup_nil (Nat.zero_le _) (FRun.front (costB_run hev hf (l ++ r) [] (Nat.zero_le _)))
end Go.Proofs.Ytfnmnegddhggaaa
namespace Go.Proofs.Ytfnmnegddhggaaa
open Go.ChangeShapes Go.WideShapes Go.ChangeAt Go.RowKit
set_option linter.unusedVariables false
set_option linter.unusedSimpArgs false
theorem ints_take {w : World} {a : Option Addr} {n c : Nat} {xs : List Int} (h : Ints w (.slice a n c) xs) (j : Nat) (hj : j ≤ n) : Ints w (.slice a j c) (xs.take j) := by
  obtain ⟨a', c', e, h1, h2, h3⟩ := h
  injection e with e1 e2 e3
  subst e1
  subst e3
  have hl : (xs.take j).length = j := by rw [List.length_take]; omega
  refine ⟨_, _, by rw [hl], by rw [hl]; omega, h2, fun i hi => ?_⟩
  rw [hl] at hi
  obtain ⟨b, o, e, hc⟩ := h3 i (by omega)
  refine ⟨b, o, e, ?_⟩
  rw [hc, List.getD_eq_getElem?_getD, List.getD_eq_getElem?_getD, List.getElem?_take, if_pos hi]
end Go.Proofs.Ytfnmnegddhggaaa
namespace Go.Proofs.Ytfnmnegddhggaaa
open Go.ChangeShapes Go.WideShapes Go.ChangeAt Go.RowKit
set_option linter.unusedVariables false
set_option linter.unusedSimpArgs false
theorem fact_begin {xs : List Int} {f : Int} (h : 0 ≤ ffirst xs f) (k : Nat) : ffirst (xs.take k) f ≤ ffirst xs f ∧ flast (xs.take k) f ≤ flast xs f ∧ fbest (xs.take k) f ≤ fbest xs f := by
  obtain ⟨F, q⟩ := ft_of (.inl h)
  have hF : 0 < F := by have := q.lo; omega
  have ho := trOk_iff.1 q.ok
  have hok : trOk (xs.take k) = true := trOk_iff.2 ⟨fun x hx => ho.1 x (List.mem_of_mem_take hx), by rw [List.length_take]; have := ho.2; omega⟩
  have q2 := ft_mk hok q.lo q.hi
  have hf := q.eq
  rw [q.first, q.last, q.best]
  subst hf
  rw [q2.first, q2.last, q2.best]
  have a1 := costF_front F (xs.drop k) (xs.take k) []
  have a2 := costL_front F (xs.drop k) (xs.take k) []
  have a3 := costB_front evL_late hF (xs.take k) (xs.drop k)
  rw [List.take_append_drop] at a1 a2 a3
  omega
end Go.Proofs.Ytfnmnegddhggaaa
namespace Go.Proofs.Ytfnmnegddhggaaa
open Go.ChangeShapes Go.WideShapes Go.ChangeAt Go.RowKit
set_option linter.unusedVariables false
set_option linter.unusedSimpArgs false
set_option maxRecDepth 100000 in
set_option maxHeartbeats 2000000 in
theorem faultsBegin_walk (ctv : CTV) (cts : CTS) (cff : CFF) (cfl : CFL) (cfb : CFB) (W : World) (a : Option Addr) (len cap : Nat) (zs : List Int) (a1 : Option Addr) (len1 cap1 : Nat) (zs1 : List Int) (hr : Row .u8 W a len cap zs) (hr1 : Row .u8 W a1 len1 cap1 zs1) :
    Calls Try.prog 10 #[.slice a len cap, .slice a1 len1 cap1] W fun e w' => e = .returned (.bool true) ∧ Below W.heap.size W w' := by
  have hm := row_len hr
  have hm1 := row_len hr1
  by_cases hL : 1048576 < len
  · have hL1 : (1048576 : Int) < (len : Int) := by omega
    clear hr
    go_enter Try.func10, Try.ntmps10
    go_wp2_with fail
    go_ret
    exact ⟨rfl, Below.refl _ _⟩
  have hL1 : decide ((1048576 : Int) < (len : Int)) = false := by simp; omega
  have hL2 : decide (1048576 < len) = false := by simp; omega
  by_cases hM : 1048576 < len1
  · have hM1 : (1048576 : Int) < (len1 : Int) := by omega
    clear hr
    go_enter Try.func10, Try.ntmps10
    go_wp2_with fail
    go_ret
    exact ⟨rfl, Below.refl _ _⟩
  have hM1 : decide ((1048576 : Int) < (len1 : Int)) = false := by simp; omega
  have hM2 : decide (1048576 < len1) = false := by simp; omega
  go_enter Try.func10, Try.ntmps10
  go_wp2_with fail
  refine (drawFaultsFirst_any W a len cap zs hr).mono ?_
  clear hr
  rintro e w1 ⟨v, ys, f, rfl, hf, hd⟩
  have B1 := Lib.hid hd.bel
  have R1 := Lib.hid hd.ints
  have hl25 := hd.len
  obtain ⟨g, c, hv⟩ := hd.form
  clear hd
  subst hv
  have HF := Lib.hid (fun (w : World) (h : Ints w (.slice (some ⟨g, 0, none⟩) ys.length c) ys) => cff w _ ys f h)
  have SF := Lib.hid (fun (w : World) (h : Ints w (.slice (some ⟨g, 0, none⟩) ys.length c) ys) => sFaultsFirst_any w _ ys f h)
  have HL := Lib.hid (fun (w : World) (h : Ints w (.slice (some ⟨g, 0, none⟩) ys.length c) ys) => cfl w _ ys f h)
  have HB := Lib.hid (fun (w : World) (h : Ints w (.slice (some ⟨g, 0, none⟩) ys.length c) ys) => cfb w _ ys f h)
  have HYN : Hid (ys.length ≤ 25) := Lib.hid hl25
  obtain ⟨n, hn⟩ : ∃ n, n = ys.length := ⟨_, rfl⟩
  rw [← hn] at hl25 R1 HF SF HL HB ⊢
  have HN := Lib.hid hn
  clear hn
  obtain ⟨j, hj⟩ : ∃ j : Nat, j = len1 % (n + 1) := ⟨_, rfl⟩
  have hjn : j ≤ n := by rw [hj]; exact Nat.le_of_lt_succ (Nat.mod_lt _ (Nat.succ_pos n))
  have hrem : (len1 : Int) % ((n : Int) + 1) = (j : Int) := by subst hj; simp
  have hrem2 : (len1 : Int).tmod ((n : Int) + 1) = (j : Int) := by rw [Int.tmod_eq_emod_of_nonneg (by omega)]; exact hrem
  have hne0 : ((n : Int) + 1 == 0) = false := by rw [beq_eq_false_iff_ne]; omega
  have hnc : n ≤ c := by obtain ⟨a', c', e, q1, _⟩ := R1.out; injection e with _ e2 e3; omega
  have hjc : (j : Int) ≤ (c : Int) := by omega
  have X1 := Lib.hid (ints_take R1.out j hjn)
  have FA := Lib.hid (fun h => fact_begin h j : 0 ≤ ffirst ys f → _)
  clear hj
  have XF := Lib.hid (fun (w : World) (h : Ints w (.slice (some ⟨g, 0, none⟩) j c) (ys.take j)) => cff w _ (ys.take j) f h)
  have XL := Lib.hid (fun (w : World) (h : Ints w (.slice (some ⟨g, 0, none⟩) j c) (ys.take j)) => cfl w _ (ys.take j) f h)
  have XB := Lib.hid (fun (w : World) (h : Ints w (.slice (some ⟨g, 0, none⟩) j c) (ys.take j)) => cfb w _ (ys.take j) f h)
  generalize ffirst (ys.take j) f = yf at XF FA
  generalize flast (ys.take j) f = yl at XL FA
  generalize fbest (ys.take j) f = yb at XB FA
  generalize ffirst ys f = zf at HF SF FA
  generalize flast ys f = zl at HL FA
  generalize fbest ys f = zb at HB FA
  go_wp2_with fail
  refine (HF.out w1 R1.out).mono ?_
  rintro e w2 ⟨rfl, hb⟩
  have B2 := Lib.hid (B1.out.trans (hb.mono B1.out.size))
  have R2 := Lib.hid (Ints.below (B := 0) R1.out hb)
  have X2 := Lib.hid (Ints.below (B := 0) X1.out hb)
  clear hb
  go_wp2_with fail
  refine (SF.out w2 R2.out).mono ?_
  rintro e w3 ⟨rfl, hb⟩
  have B3 := Lib.hid (B2.out.trans (hb.mono B2.out.size))
  have R3 := Lib.hid (Ints.below (B := 0) R2.out hb)
  have X3 := Lib.hid (Ints.below (B := 0) X2.out hb)
  clear hb
  by_cases hz : zf < 0
  · go_wp2_with fail
    go_ret
    exact ⟨rfl, B3.out⟩
  · have hz1 : decide (zf < 0) = false := by simp; omega
    obtain ⟨h1, h2, h3⟩ := FA.out (by omega)
    go_wp2_with fail
    refine (XF.out w3 X3.out).mono ?_
    rintro e w4 ⟨rfl, hb⟩
    have B4 := Lib.hid (B3.out.trans (hb.mono B3.out.size))
    have R4 := Lib.hid (Ints.below (B := 0) R3.out hb)
    have X4 := Lib.hid (Ints.below (B := 0) X3.out hb)
    clear hb
    go_wp2_with fail
    refine (XL.out w4 X4.out).mono ?_
    rintro e w5 ⟨rfl, hb⟩
    have B5 := Lib.hid (B4.out.trans (hb.mono B4.out.size))
    have R5 := Lib.hid (Ints.below (B := 0) R4.out hb)
    have X5 := Lib.hid (Ints.below (B := 0) X4.out hb)
    clear hb
    go_wp2_with fail
    refine (HL.out w5 R5.out).mono ?_
    rintro e w6 ⟨rfl, hb⟩
    have B6 := Lib.hid (B5.out.trans (hb.mono B5.out.size))
    have R6 := Lib.hid (Ints.below (B := 0) R5.out hb)
    have X6 := Lib.hid (Ints.below (B := 0) X5.out hb)
    clear hb
    go_wp2_with fail
    refine (XB.out w6 X6.out).mono ?_
    rintro e w7 ⟨rfl, hb⟩
    have B7 := Lib.hid (B6.out.trans (hb.mono B6.out.size))
    have R7 := Lib.hid (Ints.below (B := 0) R6.out hb)
    have X7 := Lib.hid (Ints.below (B := 0) X6.out hb)
    clear hb
    go_wp2_with fail
    refine (HB.out w7 R7.out).mono ?_
    rintro e w8 ⟨rfl, hb⟩
    have B8 := Lib.hid (B7.out.trans (hb.mono B7.out.size))
    have R8 := Lib.hid (Ints.below (B := 0) R7.out hb)
    have X8 := Lib.hid (Ints.below (B := 0) X7.out hb)
    clear hb
    go_wp2_with fail
    go_ret
    exact ⟨rfl, B8.out⟩
end Go.Proofs.Ytfnmnegddhggaaa
