/- What the proofs stand on, part 42. -/
import Derived.Test.YtfnmnegddhggaaaRows
import Derived.Test.YtfnmnegddhggaaaT1
import Derived.Test.YtfnmnegddhggaaaT2
import Derived.Test.YtfnmnegddhggaaaT3
import Derived.Test.YtfnmnegddhggaaaT4
import Derived.Test.YtfnmnegddhggaaaT5
import Derived.Test.YtfnmnegddhggaaaT6
import Derived.Test.YtfnmnegddhggaaaT7
import Derived.Test.YtfnmnegddhggaaaT8
import Derived.Test.YtfnmnegddhggaaaT9
import Derived.Test.YtfnmnegddhggaaaT10
import Derived.Test.YtfnmnegddhggaaaT11
import Derived.Test.YtfnmnegddhggaaaT12
import Derived.Test.YtfnmnegddhggaaaT13
import Derived.Test.YtfnmnegddhggaaaT14
import Derived.Test.YtfnmnegddhggaaaT15
import Derived.Test.YtfnmnegddhggaaaT16
import Derived.Test.YtfnmnegddhggaaaT17
import Derived.Test.YtfnmnegddhggaaaT18
import Derived.Test.YtfnmnegddhggaaaT20
import Derived.Test.YtfnmnegddhggaaaT23
import Derived.Test.YtfnmnegddhggaaaT28
set_option linter.unusedSimpArgs false
set_option linter.unusedVariables false
namespace Go.Proofs.Ytfnmnegddhggaaa
set_option linter.unusedVariables false
set_option linter.unusedSimpArgs false
theorem stepF_again {f : Nat} (hf : 0 < f) (K : List Int) (x : Int) : stepF f (stepF f K x) x = stepF f K x := if_pos (stepF_in hf K x)
theorem costF_again {f : Nat} (hf : 0 < f) (x : Int) (b : List Int) : ∀ (a K : List Int), costF f K (a ++ x :: x :: b) = costF f K (a ++ x :: b)
  | [], K => by simp only [List.nil_append, costF, stepF_again hf, fMiss_in (stepF_in hf K x)]; rfl
  | y :: a, K => by simp only [List.cons_append, costF, costF_again hf x b a]
theorem costL_congr (f : Nat) : ∀ (l p q : List Int), rcp p = rcp q → costL f p l = costL f q l
  | [], _, _, _ => rfl
  | x :: r, p, q, h => by
    have : rcp (x :: p) = rcp (x :: q) := by simp only [rcp, h]
    simp only [costL, h, costL_congr f r (x :: p) (x :: q) this]
theorem rcp_again (x : Int) (p : List Int) : rcp (x :: x :: p) = rcp (x :: p) := by
  simp only [rcp]
  rw [List.filter_cons_of_neg (by simp), List.filter_filter]
  simp
theorem costL_again {f : Nat} (hf : 0 < f) (x : Int) (b : List Int) : ∀ (a p : List Int), costL f p (a ++ x :: x :: b) = costL f p (a ++ x :: b)
  | [], p => by
    obtain ⟨g, rfl⟩ : ∃ g, f = g + 1 := ⟨f - 1, by omega⟩
    have hx : x ∈ (rcp (x :: p)).take (g + 1) := by simp [rcp]
    simp only [List.nil_append, costL, fMiss_in hx, costL_congr (g + 1) b _ _ (rcp_again x p)]
    rfl
  | y :: a, p => by simp only [List.cons_append, costL, costL_again hf x b a]
theorem FRun.dup {f : Nat} {x : Int} {b : List Int} : ∀ {a S : List Int} {n : Nat}, FRun f S (a ++ x :: b) n → FRun f S (a ++ x :: x :: b) n
  | [], S, n, ⟨T, m, h1, h2, h3, h4, h5⟩ => ⟨T, m, h1, h2, h3, ⟨T, m, h1, h2, fun y hy => .inr hy, h4, by rw [fMiss_in h2]; exact Nat.le_refl _⟩, h5⟩
  | y :: a, S, n, ⟨T, m, h1, h2, h3, h4, h5⟩ => ⟨T, m, h1, h2, h3, FRun.dup h4, h5⟩
theorem FRun.undup {f : Nat} {x : Int} {b : List Int} : ∀ {a S : List Int} {n : Nat}, FRun f S (a ++ x :: x :: b) n → FRun f S (a ++ x :: b) n
  | [], S, n, ⟨T, m, h1, h2, h3, ⟨T2, m2, k1, k2, k3, k4, k5⟩, h5⟩ => ⟨T2, m2, k1, k2, fun y hy => (k3 y hy).elim .inl (h3 y), k4, by omega⟩
  | y :: a, S, n, ⟨T, m, h1, h2, h3, h4, h5⟩ => ⟨T, m, h1, h2, h3, FRun.undup h4, h5⟩
theorem costB_again {ev : List Int → List Int → Nat} (hev : FLate ev) {f : Nat} (hf : 0 < f) (x : Int) (a b : List Int) : costB ev f [] (a ++ x :: x :: b) = costB ev f [] (a ++ x :: b) :=
  Nat.le_antisymm (costB_le hev hf _ [] _ List.nodup_nil (Nat.zero_le _) (FRun.dup (costB_run hev hf _ [] (Nat.zero_le _))))
    (costB_le hev hf _ [] _ List.nodup_nil (Nat.zero_le _) (FRun.undup (costB_run hev hf _ [] (Nat.zero_le _))))
end Go.Proofs.Ytfnmnegddhggaaa
namespace Go.Proofs.Ytfnmnegddhggaaa
open Go.ChangeShapes Go.WideShapes Go.ChangeAt Go.RowKit
set_option linter.unusedVariables false
set_option linter.unusedSimpArgs false
theorem again_split {xs : List Int} {k : Nat} (hk : k < xs.length) : xs = xs.take k ++ xs.getD k 0 :: xs.drop (k + 1) ∧ xs.take (k + 1) ++ xs.drop k = xs.take k ++ xs.getD k 0 :: xs.getD k 0 :: xs.drop (k + 1) := by
  have e := drop_at hk
  refine ⟨?_, ?_⟩
  · rw [← e, List.take_append_drop]
  · rw [take_snoc_getD xs k 0 hk, e, List.append_assoc]; rfl
theorem fact_again {xs : List Int} {f : Int} (h : 0 ≤ ffirst xs f) {k : Nat} (hk : k < xs.length) (hl : xs.length ≠ 24) :
    ffirst (xs.take (k + 1) ++ xs.drop k) f = ffirst xs f ∧ flast (xs.take (k + 1) ++ xs.drop k) f = flast xs f ∧ fbest (xs.take (k + 1) ++ xs.drop k) f = fbest xs f := by
  obtain ⟨F, q⟩ := ft_of (.inl h)
  have hF : 0 < F := by have := q.lo; omega
  have ho := trOk_iff.1 q.ok
  have hok : trOk (xs.take (k + 1) ++ xs.drop k) = true := trOk_iff.2 ⟨fun x hx => by
    rcases List.mem_append.1 hx with h' | h'
    · exact ho.1 x (List.mem_of_mem_take h')
    · exact ho.1 x (List.mem_of_mem_drop h'), by rw [List.length_append, List.length_take, List.length_drop]; have := ho.2; omega⟩
  have q2 := ft_mk hok q.lo q.hi
  have hf := q.eq
  rw [q.first, q.last, q.best]
  subst hf
  rw [q2.first, q2.last, q2.best]
  obtain ⟨e1, e2⟩ := again_split hk
  rw [e2]
  have a1 := costF_again hF (xs.getD k 0) (xs.drop (k + 1)) (xs.take k) []
  have a2 := costL_again hF (xs.getD k 0) (xs.drop (k + 1)) (xs.take k) []
  have a3 := costB_again evL_late hF (xs.getD k 0) (xs.take k) (xs.drop (k + 1))
  rw [← e1] at a1 a2 a3
  rw [a1, a2, a3]
  exact ⟨rfl, rfl, rfl⟩
end Go.Proofs.Ytfnmnegddhggaaa
namespace Go.Proofs.Ytfnmnegddhggaaa
open Go.ChangeShapes Go.WideShapes Go.ChangeAt Go.RowKit
set_option linter.unusedVariables false
set_option linter.unusedSimpArgs false
set_option maxRecDepth 100000 in
set_option maxHeartbeats 2000000 in
theorem faultsAgain_walk (ctv : CTV) (cts : CTS) (cff : CFF) (cfl : CFL) (cfb : CFB) (W : World) (a : Option Addr) (len cap : Nat) (zs : List Int) (a1 : Option Addr) (len1 cap1 : Nat) (zs1 : List Int) (hr : Row .u8 W a len cap zs) (hr1 : Row .u8 W a1 len1 cap1 zs1) :
    Calls Try.prog 9 #[.slice a len cap, .slice a1 len1 cap1] W fun e w' => e = .returned (.bool true) ∧ Below W.heap.size W w' := by
  have hm := row_len hr
  have hm1 := row_len hr1
  by_cases hL : 1048576 < len
  · have hL1 : (1048576 : Int) < (len : Int) := by omega
    clear hr
    go_enter Try.func9, Try.ntmps9
    go_wp2_with fail
    go_ret
    exact ⟨rfl, Below.refl _ _⟩
  have hL1 : decide ((1048576 : Int) < (len : Int)) = false := by simp; omega
  have hL2 : decide (1048576 < len) = false := by simp; omega
  by_cases hM : 1048576 < len1
  · have hM1 : (1048576 : Int) < (len1 : Int) := by omega
    clear hr
    go_enter Try.func9, Try.ntmps9
    go_wp2_with fail
    go_ret
    exact ⟨rfl, Below.refl _ _⟩
  have hM1 : decide ((1048576 : Int) < (len1 : Int)) = false := by simp; omega
  have hM2 : decide (1048576 < len1) = false := by simp; omega
  go_enter Try.func9, Try.ntmps9
  go_wp2_with fail
  refine (drawFaultsFirst_any W a len cap zs hr).mono ?_
  clear hr
  rintro e w1 ⟨v, ys, f, rfl, hf, hd⟩
  have B1 := Lib.hid hd.bel
  have R1 := Lib.hid hd.ints
  have hl25 := hd.len
  obtain ⟨g, c, hv⟩ := hd.form
  clear hd
  subst hv
  have HF := Lib.hid (fun (w : World) (h : Ints w (.slice (some ⟨g, 0, none⟩) ys.length c) ys) => cff w _ ys f h)
  have SF := Lib.hid (fun (w : World) (h : Ints w (.slice (some ⟨g, 0, none⟩) ys.length c) ys) => sFaultsFirst_any w _ ys f h)
  have HL := Lib.hid (fun (w : World) (h : Ints w (.slice (some ⟨g, 0, none⟩) ys.length c) ys) => cfl w _ ys f h)
  have HB := Lib.hid (fun (w : World) (h : Ints w (.slice (some ⟨g, 0, none⟩) ys.length c) ys) => cfb w _ ys f h)
  have FA := Lib.hid ((fun h k hk hl => fact_again h (k := k) hk hl : 0 ≤ ffirst ys f → ∀ k : Nat, k < ys.length → ys.length ≠ 24 → _))
  have HYN : Hid (ys.length ≤ 25) := Lib.hid hl25
  obtain ⟨n, hn⟩ : ∃ n, n = ys.length := ⟨_, rfl⟩
  rw [← hn] at hl25 R1 HF SF HL HB ⊢
  have HN := Lib.hid hn
  clear hn
  have XF := Lib.hid (fun (w : World) (v : Value) (k : Nat) (h : Ints w v (ys.take (k + 1) ++ ys.drop k)) => cff w v _ f h)
  have XL := Lib.hid (fun (w : World) (v : Value) (k : Nat) (h : Ints w v (ys.take (k + 1) ++ ys.drop k)) => cfl w v _ f h)
  have XB := Lib.hid (fun (w : World) (v : Value) (k : Nat) (h : Ints w v (ys.take (k + 1) ++ ys.drop k)) => cfb w v _ f h)
  generalize ffirst ys f = zf at HF SF FA
  generalize flast ys f = zl at HL FA
  generalize fbest ys f = zb at HB FA
  go_wp2_with fail
  refine (HF.out w1 R1.out).mono ?_
  rintro e w2 ⟨rfl, hb⟩
  have B2 := Lib.hid (B1.out.trans (hb.mono B1.out.size))
  have R2 := Lib.hid (Ints.below (B := 0) R1.out hb)
  clear hb
  go_wp2_with fail
  refine (SF.out w2 R2.out).mono ?_
  rintro e w3 ⟨rfl, hb⟩
  have B3 := Lib.hid (B2.out.trans (hb.mono B2.out.size))
  have R3 := Lib.hid (Ints.below (B := 0) R2.out hb)
  clear hb
  by_cases hz : zf < 0
  · go_wp2_with fail
    go_ret
    exact ⟨rfl, B3.out⟩
  · have hz1 : decide (zf < 0) = false := by simp; omega
    by_cases hn0 : n = 0
    · have hn01 : ((n : Int) == 0) = true := by rw [beq_iff_eq]; omega
      go_wp2_with fail
      go_ret
      exact ⟨rfl, B3.out⟩
    · have hn01 : ((n : Int) == 0) = false := by rw [beq_eq_false_iff_ne]; omega
      by_cases hn24 : n = 24
      · have hn241 : ((n : Int) == 24) = true := by rw [beq_iff_eq]; omega
        go_wp2_with fail
        go_ret
        exact ⟨rfl, B3.out⟩
      · have hn241 : ((n : Int) == 24) = false := by rw [beq_eq_false_iff_ne]; omega
        obtain ⟨j, hj⟩ : ∃ j : Nat, j = len1 % n := ⟨_, rfl⟩
        have hjn : j < n := by rw [hj]; exact Nat.mod_lt len1 (by omega)
        have hrem : (len1 : Int) % (n : Int) = (j : Int) := by subst hj; simp
        have hrem2 : (len1 : Int).tmod (n : Int) = (j : Int) := by rw [Int.tmod_eq_emod_of_nonneg (by omega)]; exact hrem
        have HG := Lib.hid (FA.out (by omega) j (by rw [← HN.out]; exact hjn) (by rw [← HN.out]; exact hn24))
        have YF := Lib.hid (fun w v h => XF.out w v j h)
        have YL := Lib.hid (fun w v h => XL.out w v j h)
        have YB := Lib.hid (fun w v h => XB.out w v j h)
        clear hj XF XL XB FA hn24 hn0
        generalize ffirst (ys.take (j + 1) ++ ys.drop j) f = yf at YF HG
        generalize flast (ys.take (j + 1) ++ ys.drop j) f = yl at YL HG
        generalize fbest (ys.take (j + 1) ++ ys.drop j) f = yb at YB HG
        obtain ⟨rfl, rfl, rfl⟩ := HG.out
        clear HG
        go_wp2_with fail
        refine wp_region_held_drew (S := fun _ => True) (by kernel_rfl) trivial (fun hHeld => ?_)
        refine anyH_gen _ (fun AZ hgen => ?_)
        have HBZ := Lib.hid (by rw [hgen]; exact Below.drew (Below.refl _ _) : Below w3.heap.size w3 AZ)
        clear hgen
        have HB0 : Hid (Below AZ.heap.size AZ AZ) := Lib.hid (Below.refl _ _)
        have HKZ := Lib.hid (Ints.below (B := 0) R3.out HBZ.out)
        obtain ⟨v59, hto, hto2⟩ := slice_to HKZ.out (j + 1) (by rw [← HN.out]; omega) ((j : Int) + 1) (by omega)
        obtain ⟨v63, hfr, hfr2⟩ := slice_from HKZ.out j (by rw [← HN.out]; omega) (j : Int) rfl
        have HTO := Lib.hid (hto2 _ HKZ.out)
        have HFR := Lib.hid (hfr2 _ HKZ.out)
        have HTO1 := Lib.hid hto
        have HFR1 := Lib.hid hfr
        clear hto hto2 hfr hfr2
        refine wpAnyH_take (i := 1) (oi := { dst := some 56, op := .move (.tmp 5), type := _, pos := _, after := _, guard := none }) (v := .slice (some ⟨g, 0, none⟩) n c) rfl (by kernel_rfl) (by kernel_rfl) (by kernel_rfl) (fun _ _ _ h => h) (Or.inl ⟨by rfl, fun wh hSw => ?_⟩) hHeld ?_
        · (go_simp)
        try simp only [Act.put, List.setIfInBounds_toArray, List.set_cons_zero, List.set_cons_succ]
        refine wpAnyH_take (i := 2) (oi := { dst := some 57, op := .move (.tmp 9), type := _, pos := _, after := _, guard := none }) (v := .int .i64 (j : Int)) rfl (by kernel_rfl) (by kernel_rfl) (by kernel_rfl) (fun _ _ _ h => h) (Or.inl ⟨by rfl, fun wh hSw => ?_⟩) hHeld ?_
        · (go_simp)
        try simp only [Act.put, List.setIfInBounds_toArray, List.set_cons_zero, List.set_cons_succ]
        refine wpAnyH_take (i := 3) (oi := { dst := some 58, op := .binOp .add 3 (.tmp 57) (.const (.int .i64 1)) 3, type := _, pos := _, after := _, guard := none }) (v := .int .i64 ((j : Int) + 1)) rfl (by kernel_rfl) (by kernel_rfl) (by kernel_rfl) (fun _ _ _ h => h) (Or.inl ⟨by rfl, fun wh hSw => ?_⟩) hHeld ?_
        · (go_simp; rw [IntKind.wrap_i64]; omega)
        try simp only [Act.put, List.setIfInBounds_toArray, List.set_cons_zero, List.set_cons_succ]
        refine wpAnyH_take (i := 4) (oi := { dst := some 59, op := .slice 23 (.tmp 56) none (some (.tmp 58)) none, type := _, pos := _, after := _, guard := none }) (v := v59) rfl (by kernel_rfl) (by kernel_rfl) (by kernel_rfl) (fun _ _ _ h => h) (Or.inl ⟨by rfl, fun wh hSw => ?_⟩) hHeld ?_
        · exact exec_slice rfl (HTO1.out wh)
        try simp only [Act.put, List.setIfInBounds_toArray, List.set_cons_zero, List.set_cons_succ]
        refine wpAnyH_take (i := 6) (oi := { dst := some 61, op := .move (.tmp 5), type := _, pos := _, after := _, guard := none }) (v := .slice (some ⟨g, 0, none⟩) n c) rfl (by kernel_rfl) (by kernel_rfl) (by kernel_rfl) (fun _ _ _ h => h) (Or.inl ⟨by rfl, fun wh hSw => ?_⟩) hHeld ?_
        · (go_simp)
        try simp only [Act.put, List.setIfInBounds_toArray, List.set_cons_zero, List.set_cons_succ]
        refine wpAnyH_take (i := 7) (oi := { dst := some 62, op := .move (.tmp 9), type := _, pos := _, after := _, guard := none }) (v := .int .i64 (j : Int)) rfl (by kernel_rfl) (by kernel_rfl) (by kernel_rfl) (fun _ _ _ h => h) (Or.inl ⟨by rfl, fun wh hSw => ?_⟩) hHeld ?_
        · (go_simp)
        try simp only [Act.put, List.setIfInBounds_toArray, List.set_cons_zero, List.set_cons_succ]
        refine wpAnyH_take (i := 8) (oi := { dst := some 63, op := .slice 23 (.tmp 61) (some (.tmp 62)) none none, type := _, pos := _, after := _, guard := none }) (v := v63) rfl (by kernel_rfl) (by kernel_rfl) (by kernel_rfl) (fun _ _ _ h => h) (Or.inl ⟨by rfl, fun wh hSw => ?_⟩) hHeld ?_
        · exact exec_slice rfl (HFR1.out wh)
        try simp only [Act.put, List.setIfInBounds_toArray, List.set_cons_zero, List.set_cons_succ]
        refine wpAnyH_ready (rs := [0]) (by kernel_rfl) (by simp) ?_
        refine AllReadyH.cons (o := { dst := some 55, op := .buildSlice 23 0 #[], type := _, pos := _, after := _, guard := none }) rfl (fun K hK => ?_) AllReadyH.nil
        go_simp
        obtain ⟨A1, hA1⟩ : ∃ A, A = AZ.alloc (.cells #[] 3) := ⟨_, rfl⟩
        rw [← hA1]
        have hb1 : Below AZ.heap.size AZ A1 := by rw [hA1]; exact (Below.refl _ _).alloc (Nat.le_refl _) _
        have HB1 : Hid (Below AZ.heap.size AZ A1) := Lib.hid (HB0.out.trans (hb1.mono HB0.out.size))
        have HSZ1 : Hid (AZ.heap.size < A1.heap.size) := Lib.hid (by rw [hA1]; simp)
        have HO55_1 : Hid (OwnI AZ (.slice (some ⟨AZ.heap.size, 0, none⟩) 0 0) [] A1) := Lib.hid (by rw [hA1]; exact OwnI.start _)
        clear hA1 hb1
        refine hK.out _ _ ?_ (fun hHeld => ?_)
        · exact trivial
        clear hK K
        try simp only [Act.put, List.setIfInBounds_toArray, List.set_cons_zero, List.set_cons_succ]
        refine wpAnyH_ready (rs := [5]) (by kernel_rfl) (by simp) ?_
        refine AllReadyH.cons (o := { dst := some 60, op := .call { callee := .builtin .append, args := #[.tmp 55, .tmp 59], argTypes := #[23, 23] }, type := _, pos := _, after := _, guard := none }) rfl (fun K hK => ?_) AllReadyH.nil
        rw [if_pos (by rfl)]
        refine wp_append_ints (.tmp 55) (.tmp 59) AZ (.slice (some ⟨AZ.heap.size, 0, none⟩) 0 0) [] rfl HO55_1.out v59 ((ys.take (j + 1))) rfl (Ints.below (B := 0) HTO.out HB1.out) (by have := HYN.out; simp only [List.length_nil, List.length_append, List.length_cons, List.length_take, List.length_drop]; omega) ?_
        intro v2 A2 hO2 hg2
        rw [List.nil_append] at hO2
        have HO60_2 := Lib.hid hO2
        have HB2 : Hid (Below AZ.heap.size AZ A2) := Lib.hid (HB0.out.trans (hO2.bel.mono HB0.out.size))
        clear hO2 hg2
        refine hK.out _ _ ?_ (fun hHeld => ?_)
        · exact trivial
        clear hK K
        try simp only [Act.put, List.setIfInBounds_toArray, List.set_cons_zero, List.set_cons_succ]
        refine wpAnyH_ready (rs := [9]) (by kernel_rfl) (by simp) ?_
        refine AllReadyH.cons (o := { dst := some 64, op := .call { callee := .builtin .append, args := #[.tmp 60, .tmp 63], argTypes := #[23, 23] }, type := _, pos := _, after := _, guard := none }) rfl (fun K hK => ?_) AllReadyH.nil
        rw [if_pos (by rfl)]
        refine wp_append_ints (.tmp 60) (.tmp 63) AZ v2 (ys.take (j + 1)) rfl HO60_2.out v63 ((ys.drop j)) rfl (Ints.below (B := 0) HFR.out HB2.out) (by have := HYN.out; simp only [List.length_nil, List.length_append, List.length_cons, List.length_take, List.length_drop]; omega) ?_
        intro v3 A3 hO3 hg3
        have HO64_3 := Lib.hid hO3
        have HB3 : Hid (Below AZ.heap.size AZ A3) := Lib.hid (HB0.out.trans (hO3.bel.mono HB0.out.size))
        clear hO3 hg3
        refine hK.out _ _ ?_ (fun hHeld => ?_)
        · exact trivial
        clear hK K
        try simp only [Act.put, List.setIfInBounds_toArray, List.set_cons_zero, List.set_cons_succ]
        refine wpAnyH_take (i := 10) (oi := { dst := some 10, op := .assign (.tmp 64), type := _, pos := _, after := _, guard := none }) (v := v3) rfl (by kernel_rfl) (by kernel_rfl) (by kernel_rfl) (fun _ _ _ h => h) (Or.inl ⟨by rfl, fun wh hSw => ?_⟩) hHeld ?_
        · (go_simp)
        try simp only [Act.put, List.setIfInBounds_toArray, List.set_cons_zero, List.set_cons_succ]
        refine wpAnyH_done (by kernel_rfl) ?_ _
        obtain ⟨w4, hw9⟩ : ∃ w9, w9 = A3 := ⟨_, rfl⟩
        have B4 : Hid (Below W.heap.size W w4) := Lib.hid (by rw [hw9]; exact B3.out.trans ((HBZ.out.trans (HB3.out.mono HBZ.out.size)).mono B3.out.size))
        have R4 := Lib.hid (by rw [hw9]; exact Ints.below (B := 0) R3.out (HBZ.out.trans (HB3.out.mono HBZ.out.size)) : Ints w4 (.slice (some ⟨g, 0, none⟩) n c) ys)
        have X4 := Lib.hid (by rw [hw9]; exact HO64_3.out.ints : Ints w4 v3 (ys.take (j + 1) ++ ys.drop j))
        rw [← hw9]
        clear hw9
        go_wp2_with fail
        refine (YF.out w4 _ X4.out).mono ?_
        rintro e w5 ⟨rfl, hb⟩
        have B5 := Lib.hid (B4.out.trans (hb.mono B4.out.size))
        have R5 := Lib.hid (Ints.below (B := 0) R4.out hb)
        have X5 := Lib.hid (Ints.below (B := 0) X4.out hb)
        clear hb
        go_wp2_with fail
        refine (YL.out w5 _ X5.out).mono ?_
        rintro e w6 ⟨rfl, hb⟩
        have B6 := Lib.hid (B5.out.trans (hb.mono B5.out.size))
        have R6 := Lib.hid (Ints.below (B := 0) R5.out hb)
        have X6 := Lib.hid (Ints.below (B := 0) X5.out hb)
        clear hb
        go_wp2_with fail
        refine (HL.out w6 R6.out).mono ?_
        rintro e w7 ⟨rfl, hb⟩
        have B7 := Lib.hid (B6.out.trans (hb.mono B6.out.size))
        have R7 := Lib.hid (Ints.below (B := 0) R6.out hb)
        have X7 := Lib.hid (Ints.below (B := 0) X6.out hb)
        clear hb
        go_wp2_with fail
        refine (YB.out w7 _ X7.out).mono ?_
        rintro e w8 ⟨rfl, hb⟩
        have B8 := Lib.hid (B7.out.trans (hb.mono B7.out.size))
        have R8 := Lib.hid (Ints.below (B := 0) R7.out hb)
        have X8 := Lib.hid (Ints.below (B := 0) X7.out hb)
        clear hb
        go_wp2_with fail
        refine (HB.out w8 R8.out).mono ?_
        rintro e w9 ⟨rfl, hb⟩
        have B9 := Lib.hid (B8.out.trans (hb.mono B8.out.size))
        have R9 := Lib.hid (Ints.below (B := 0) R8.out hb)
        have X9 := Lib.hid (Ints.below (B := 0) X8.out hb)
        clear hb
        go_wp2_with fail
        go_ret
        exact ⟨rfl, B9.out⟩
end Go.Proofs.Ytfnmnegddhggaaa
