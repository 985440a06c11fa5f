/- What the proofs stand on, part 47. -/
import Derived.Test.YtfnmnegddhggaaaRows
import Derived.Test.YtfnmnegddhggaaaT1
import Derived.Test.YtfnmnegddhggaaaT2
import Derived.Test.YtfnmnegddhggaaaT3
import Derived.Test.YtfnmnegddhggaaaT4
import Derived.Test.YtfnmnegddhggaaaT5
import Derived.Test.YtfnmnegddhggaaaT6
import Derived.Test.YtfnmnegddhggaaaT7
import Derived.Test.YtfnmnegddhggaaaT8
import Derived.Test.YtfnmnegddhggaaaT9
import Derived.Test.YtfnmnegddhggaaaT10
import Derived.Test.YtfnmnegddhggaaaT11
import Derived.Test.YtfnmnegddhggaaaT12
import Derived.Test.YtfnmnegddhggaaaT13
import Derived.Test.YtfnmnegddhggaaaT14
import Derived.Test.YtfnmnegddhggaaaT15
import Derived.Test.YtfnmnegddhggaaaT16
import Derived.Test.YtfnmnegddhggaaaT17
import Derived.Test.YtfnmnegddhggaaaT18
import Derived.Test.YtfnmnegddhggaaaT20
import Derived.Test.YtfnmnegddhggaaaT26
import Derived.Test.YtfnmnegddhggaaaT28
import Derived.Test.YtfnmnegddhggaaaT32
import Derived.Test.YtfnmnegddhggaaaT35
set_option linter.unusedSimpArgs false
set_option linter.unusedVariables false
namespace Go.Proofs.Ytfnmnegddhggaaa
set_option linter.unusedVariables false
set_option linter.unusedSimpArgs false
theorem FRun.least {f : Nat} : ∀ {l S : List Int} {n : Nat}, FRun f S l n → ((rcp l).filter (fun y => decide (y ∉ S))).length ≤ n
  | [], _, _, _ => by simp [rcp]
  | x :: r, S, n, ⟨T, m, h1, h2, h3, h4, h5⟩ => by
    have ih := FRun.least h4
    have key : ((rcp (x :: r)).filter (fun y => decide (y ∉ S))).length ≤ fMiss x S + ((rcp r).filter (fun y => decide (y ∉ T))).length := by
      simp only [rcp]
      have h' : ((((rcp r).filter (fun y => decide (y ≠ x))).filter (fun y => decide (y ∉ S)))).length ≤ ((rcp r).filter (fun y => decide (y ∉ T))).length := by
        rw [List.filter_filter]
        have hs : ∀ L : List Int, (L.filter (fun a => decide (a ∉ S) && decide (a ≠ x))).length ≤ (L.filter (fun y => decide (y ∉ T))).length := fun L => by
          induction L with
          | nil => simp
          | cons z L ih =>
            by_cases hz : z ∉ T
            · rw [List.filter_cons_of_pos (p := fun y => decide (y ∉ T)) (by simpa using hz)]
              by_cases hq : (decide (z ∉ S) && decide (z ≠ x)) = true
              · rw [List.filter_cons_of_pos (p := fun a => decide (a ∉ S) && decide (a ≠ x)) hq]; simp only [List.length_cons]; omega
              · rw [List.filter_cons_of_neg (p := fun a => decide (a ∉ S) && decide (a ≠ x)) hq]; simp only [List.length_cons]; omega
            · have hzT : z ∈ T := Classical.byContradiction hz
              rw [List.filter_cons_of_neg (p := fun y => decide (y ∉ T)) (by simpa using hzT), List.filter_cons_of_neg (p := fun a => decide (a ∉ S) && decide (a ≠ x)) (by
                rw [Bool.and_eq_true, decide_eq_true_eq, decide_eq_true_eq]
                rintro ⟨q1, q2⟩
                rcases h3 z hzT with h | h
                · exact q2 h
                · exact q1 h)]
              exact ih
        exact hs (rcp r)
      by_cases hx : x ∈ S
      · rw [List.filter_cons_of_neg (by simpa using hx), fMiss_in hx]; omega
      · rw [List.filter_cons_of_pos (by simpa using hx), fMiss_out hx, List.length_cons]; omega
    omega
theorem FRun.least0 {f : Nat} {l : List Int} {n : Nat} (h : FRun f [] l n) : (rcp l).length ≤ n := by
  have := FRun.least h
  rwa [List.filter_eq_self.2 (fun a _ => by simp)] at this
def fFresh (S l : List Int) : Nat := ((rcp l).filter (fun y => decide (y ∉ S))).length
theorem fFresh_cons {S T : List Int} {x : Int} {r : List Int} (h : ∀ y, y ∈ T ↔ y = x ∨ y ∈ S) : fFresh S (x :: r) = fFresh T r + fMiss x S := by
  unfold fFresh
  simp only [rcp]
  have e : ((rcp r).filter (fun y => decide (y ≠ x))).filter (fun y => decide (y ∉ S)) = (rcp r).filter (fun y => decide (y ∉ T)) := by
    rw [List.filter_filter]
    refine List.filter_congr (fun a _ => ?_)
    rw [Bool.eq_iff_iff, Bool.and_eq_true, decide_eq_true_eq, decide_eq_true_eq, decide_eq_true_eq, h]
    constructor
    · rintro ⟨h1, h2⟩ (h3 | h3)
      · exact h2 h3
      · exact h1 h3
    · intro h1
      exact ⟨fun h2 => h1 (.inr h2), fun h2 => h1 (.inl h2)⟩
  by_cases hx : x ∈ S
  · rw [List.filter_cons_of_neg (by simpa using hx), e, fMiss_in hx]; rfl
  · rw [List.filter_cons_of_pos (by simpa using hx), e, fMiss_out hx]; rfl
theorem fFresh_nil (l : List Int) : fFresh [] l = (rcp l).length := by
  unfold fFresh
  rw [List.filter_eq_self.2 (fun a _ => by simp)]
theorem costF_fresh {f : Nat} : ∀ (l K : List Int), K.length + fFresh K l ≤ f → costF f K l = fFresh K l
  | [], _, _ => rfl
  | x :: r, K, h => by
    by_cases hx : x ∈ K
    · have e := fFresh_cons (S := K) (T := K) (x := x) (r := r) (fun y => ⟨.inr, fun h => h.elim (fun e => e ▸ hx) id⟩)
      have hs : stepF f K x = K := if_pos hx
      rw [e, fMiss_in hx] at h
      rw [costF, hs, costF_fresh r K (by omega), e]
    · have e := fFresh_cons (S := K) (T := K ++ [x]) (x := x) (r := r) (fun y => by simp [or_comm])
      rw [e, fMiss_out hx] at h
      have hs : stepF f K x = K ++ [x] := by unfold stepF; rw [if_neg hx, if_neg (by omega)]
      rw [costF, hs, costF_fresh r _ (by rw [List.length_append]; simp; omega), e]
theorem costL_fresh {f : Nat} {D : List Int} (hD : D.length ≤ f) : ∀ (l p : List Int), (∀ y ∈ p, y ∈ D) → (∀ y ∈ l, y ∈ D) → costL f p l = fFresh p l
  | [], _, _, _ => rfl
  | x :: r, p, hp, hl => by
    have e := fFresh_cons (S := p) (T := x :: p) (x := x) (r := r) (fun y => List.mem_cons)
    have ht : (rcp p).take f = rcp p := List.take_of_length_le (Nat.le_trans (fLenSub (rcp_nodup p) (fun y hy => hp y (rcp_mem.1 hy))) hD)
    have hm : fMiss x (rcp p) = fMiss x p := by unfold fMiss; simp only [rcp_mem]
    rw [costL, ht, hm, costL_fresh hD r (x :: p) (fun y hy => by
      rcases List.mem_cons.1 hy with h | h
      · rw [h]; exact hl x (List.mem_cons_self ..)
      · exact hp y h) (fun y hy => hl y (List.mem_cons_of_mem _ hy)), e]
theorem costF_all {f : Nat} {l : List Int} (h : (rcp l).length ≤ f) : costF f [] l = (rcp l).length := by
  rw [costF_fresh l [] (by rw [fFresh_nil]; simpa using h), fFresh_nil]
theorem costL_all {f : Nat} {l : List Int} (h : (rcp l).length ≤ f) : costL f [] l = (rcp l).length := by
  rw [costL_fresh h l [] (fun y hy => by simp at hy) (fun y hy => rcp_mem.2 hy), fFresh_nil]
theorem costB_ge {ev : List Int → List Int → Nat} (hev : FLate ev) {f : Nat} (hf : 0 < f) (l : List Int) : (rcp l).length ≤ costB ev f [] l := FRun.least0 (costB_run hev hf l [] (Nat.zero_le _))
theorem costB_all {ev : List Int → List Int → Nat} (hev : FLate ev) {f : Nat} (hf : 0 < f) {l : List Int} (h : (rcp l).length ≤ f) : costB ev f [] l = (rcp l).length :=
  Nat.le_antisymm (by rw [← costF_all h]; exact costB_F hev hf l) (costB_ge hev hf l)
theorem costB_len (ev : List Int → List Int → Nat) (f : Nat) : ∀ (l K : List Int), costB ev f K l ≤ l.length
  | [], _ => Nat.le_refl _
  | x :: r, K => by
    have := costB_len ev f r (stepB ev f K x r)
    have := fMiss_le x K
    simp only [costB, List.length_cons]; omega
end Go.Proofs.Ytfnmnegddhggaaa
namespace Go.Proofs.Ytfnmnegddhggaaa
open Go.ChangeShapes Go.WideShapes Go.ChangeAt Go.RowKit
set_option linter.unusedVariables false
set_option linter.unusedSimpArgs false
theorem fact_least {xs : List Int} {f : Int} (h : 0 ≤ fbest xs f) : ((rcp xs).length : Int) ≤ fbest xs f ∧ fbest xs f ≤ (xs.length : Int) ∧
    ∀ k : Nat, k = max (rcp xs).length 1 → k ≤ 12 → fbest xs (k : Int) = ((rcp xs).length : Nat) ∧ flast xs (k : Int) = ((rcp xs).length : Nat) ∧ ffirst xs (k : Int) = ((rcp xs).length : Nat) := by
  obtain ⟨F, q⟩ := ft_of (.inr (.inr h))
  have hF : 0 < F := by have := q.lo; omega
  rw [q.best]
  have h1 := costB_ge evL_late hF xs
  have h2 := costB_len evL F xs []
  refine ⟨by omega, by omega, fun k hk hk12 => ?_⟩
  have hk1 : 1 ≤ k := by omega
  have hle : (rcp xs).length ≤ k := by omega
  have qk := ft_mk (F := k) q.ok hk1 hk12
  rw [qk.first, qk.last, qk.best, costF_all hle, costL_all hle, costB_all evL_late (by omega) hle]
  exact ⟨rfl, rfl, rfl⟩
end Go.Proofs.Ytfnmnegddhggaaa
namespace Go.Proofs.Ytfnmnegddhggaaa
open Go.ChangeShapes Go.WideShapes Go.ChangeAt Go.RowKit
set_option linter.unusedVariables false
set_option linter.unusedSimpArgs false
set_option maxRecDepth 100000 in
set_option maxHeartbeats 2000000 in
theorem faultsLeast_walk (ctv : CTV) (cts : CTS) (cff : CFF) (cfl : CFL) (cfb : CFB) (W : World) (a : Option Addr) (len cap : Nat) (zs : List Int) (hr : Row .u8 W a len cap zs) :
    Calls Try.prog 7 #[.slice a len cap] W fun e w' => e = .returned (.bool true) ∧ Below W.heap.size W w' := by
  have hm := row_len hr
  by_cases hL : 1048576 < len
  · have hL1 : (1048576 : Int) < (len : Int) := by omega
    clear hr
    go_enter Try.func7, Try.ntmps7
    go_wp2_with fail
    go_ret
    exact ⟨rfl, Below.refl _ _⟩
  have hL1 : decide ((1048576 : Int) < (len : Int)) = false := by simp; omega
  have hL2 : decide (1048576 < len) = false := by simp; omega
  go_enter Try.func7, Try.ntmps7
  go_wp2_with fail
  refine (drawFaultsBest_any W a len cap zs hr).mono ?_
  clear hr
  rintro e w1 ⟨v, ys, f, rfl, hf, hd⟩
  have B1 := Lib.hid hd.bel
  have R1 := Lib.hid hd.ints
  have hl25 := hd.len
  obtain ⟨g, c, hv⟩ := hd.form
  clear hd
  subst hv
  have HB := Lib.hid (fun (w : World) (h : Ints w (.slice (some ⟨g, 0, none⟩) ys.length c) ys) => cfb w _ ys f h)
  have SB := Lib.hid (fun (w : World) (h : Ints w (.slice (some ⟨g, 0, none⟩) ys.length c) ys) => sFaultsBest_any w _ ys f h)
  have FA := Lib.hid ((fun h => fact_least h : 0 ≤ fbest ys f → _))
  have HD := Lib.hid (fun (w : World) (h : Ints w (.slice (some ⟨g, 0, none⟩) ys.length c) ys) => differentPages_any w _ ys h (by omega))
  have HYN : Hid (ys.length ≤ 25) := Lib.hid hl25
  obtain ⟨n, hn⟩ : ∃ n, n = ys.length := ⟨_, rfl⟩
  rw [← hn] at hl25 R1 HB SB HD ⊢
  have HN := Lib.hid hn
  clear hn
  have FN := Lib.hid (rcp_len ys)
  rw [← HN.out] at FN FA
  have XF := Lib.hid (fun (w : World) (k : Nat) (h : Ints w (.slice (some ⟨g, 0, none⟩) n c) ys) => cff w _ _ (k : Int) h)
  have XL := Lib.hid (fun (w : World) (k : Nat) (h : Ints w (.slice (some ⟨g, 0, none⟩) n c) ys) => cfl w _ _ (k : Int) h)
  have XB := Lib.hid (fun (w : World) (k : Nat) (h : Ints w (.slice (some ⟨g, 0, none⟩) n c) ys) => cfb w _ _ (k : Int) h)
  generalize fbest ys f = zb at HB SB FA
  obtain ⟨d, hd⟩ : ∃ d, d = (rcp ys).length := ⟨_, rfl⟩
  rw [← hd] at HD FA FN
  clear hd
  go_wp2_with fail
  refine (HB.out w1 R1.out).mono ?_
  rintro e w2 ⟨rfl, hb⟩
  have B2 := Lib.hid (B1.out.trans (hb.mono B1.out.size))
  have R2 := Lib.hid (Ints.below (B := 0) R1.out hb)
  clear hb
  go_wp2_with fail
  refine (SB.out w2 R2.out).mono ?_
  rintro e w3 ⟨rfl, hb⟩
  have B3 := Lib.hid (B2.out.trans (hb.mono B2.out.size))
  have R3 := Lib.hid (Ints.below (B := 0) R2.out hb)
  clear hb
  by_cases hz : zb < 0
  · go_wp2_with fail
    go_ret
    exact ⟨rfl, B3.out⟩
  · have hz1 : decide (zb < 0) = false := by simp; omega
    obtain ⟨h1, h2, h3⟩ := FA.out (by omega)
    have H3 := Lib.hid h3
    have hdn := FN.out
    clear FA FN h3
    go_wp2_with fail
    refine (HD.out w3 R3.out).mono ?_
    rintro e w4 ⟨rfl, hb⟩
    have B4 := Lib.hid (B3.out.trans (hb.mono B3.out.size))
    have R4 := Lib.hid (Ints.below (B := 0) R3.out hb)
    clear hb
    by_cases hd0 : d = 0
    · subst hd0
      obtain ⟨e1, e2, e3⟩ := H3.out 1 rfl (by omega)
      have ZB := Lib.hid (fun w h => XB.out w 1 h)
      have ZL := Lib.hid (fun w h => XL.out w 1 h)
      have ZF := Lib.hid (fun w h => XF.out w 1 h)
      rw [e1] at ZB
      rw [e2] at ZL
      rw [e3] at ZF
      clear e1 e2 e3 XB XL XF H3
      go_wp2_with fail
      refine (ZB.out w4 R4.out).mono ?_
      rintro e w5 ⟨rfl, hb⟩
      have B5 := Lib.hid (B4.out.trans (hb.mono B4.out.size))
      have R5 := Lib.hid (Ints.below (B := 0) R4.out hb)
      clear hb
      go_wp2_with fail
      refine (ZL.out w5 R5.out).mono ?_
      rintro e w6 ⟨rfl, hb⟩
      have B6 := Lib.hid (B5.out.trans (hb.mono B5.out.size))
      have R6 := Lib.hid (Ints.below (B := 0) R5.out hb)
      clear hb
      go_wp2_with fail
      refine (ZF.out w6 R6.out).mono ?_
      rintro e w7 ⟨rfl, hb⟩
      have B7 := Lib.hid (B6.out.trans (hb.mono B6.out.size))
      have R7 := Lib.hid (Ints.below (B := 0) R6.out hb)
      clear hb
      go_wp2_with fail
      go_ret
      exact ⟨rfl, B7.out⟩
    · have hd1 : ¬ (d : Int) < 1 := by omega
      have hd2 : (1 : Int) ≤ (d : Int) := by omega
      by_cases h12 : 12 < d
      · have h121 : (12 : Int) < (d : Int) := by omega
        go_wp2_with fail
        go_ret
        exact ⟨rfl, B4.out⟩
      · have h121 : decide ((12 : Int) < (d : Int)) = false := by simp; omega
        obtain ⟨e1, e2, e3⟩ := H3.out d (by omega) (by omega)
        have ZB := Lib.hid (fun w h => XB.out w d h)
        have ZL := Lib.hid (fun w h => XL.out w d h)
        have ZF := Lib.hid (fun w h => XF.out w d h)
        rw [e1] at ZB
        rw [e2] at ZL
        rw [e3] at ZF
        clear e1 e2 e3 XB XL XF H3
        go_wp2_with fail
        refine (ZB.out w4 R4.out).mono ?_
        rintro e w5 ⟨rfl, hb⟩
        have B5 := Lib.hid (B4.out.trans (hb.mono B4.out.size))
        have R5 := Lib.hid (Ints.below (B := 0) R4.out hb)
        clear hb
        go_wp2_with fail
        refine (ZL.out w5 R5.out).mono ?_
        rintro e w6 ⟨rfl, hb⟩
        have B6 := Lib.hid (B5.out.trans (hb.mono B5.out.size))
        have R6 := Lib.hid (Ints.below (B := 0) R5.out hb)
        clear hb
        go_wp2_with fail
        refine (ZF.out w6 R6.out).mono ?_
        rintro e w7 ⟨rfl, hb⟩
        have B7 := Lib.hid (B6.out.trans (hb.mono B6.out.size))
        have R7 := Lib.hid (Ints.below (B := 0) R6.out hb)
        clear hb
        go_wp2_with fail
        go_ret
        exact ⟨rfl, B7.out⟩
end Go.Proofs.Ytfnmnegddhggaaa
