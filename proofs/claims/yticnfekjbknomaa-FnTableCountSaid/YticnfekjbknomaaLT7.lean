/- The walk of the statement on counts of uses, out of contracts of the program. -/
import Derived.Test.YticnfekjbknomaaLT6
import Derived.Test.YticnfekjbknomaaMg5
namespace Go.Proofs.Yticnfekjbknomaa
open Go.ChangeShapes Go.WideShapes Go.ChangeAt Go.RowKit
set_option linter.unusedVariables false

theorem sameN (w : World) (va vb : Value) (xs : List Int) (ha : Ints w va xs) (hb : Ints w vb xs) :
    Calls Try.prog 34 #[va, vb] w fun e w' => e = .returned (.bool true) ∧ Below w.heap.size w w' := by
  refine (sameInts_any w va vb xs xs ha hb).mono ?_
  rintro e w' ⟨rfl, n, rfl⟩
  exact ⟨by simp, Below.chg (Below.refl _ _) (Chg.of_drewN w n) (Nat.le_refl _) (.inr rfl)⟩
def cI (xss : List (List Int)) (ys : List IV) (f t i : Nat) : Nat := cntN xss ys f t + (if isTab (ys.getD t iz).k = true then (named ((xss.getD t []).take i)).count (f : Int) else 0)
theorem cI_step {xss : List (List Int)} {ys : List IV} {f t i : Nat} (hm : memOk xss = true) (ht : t < 12) (hi : i < 4) :
    cI xss ys f t (i + 1) = cI xss ys f t i + (if goodB ((xss.getD t []).getD i 0) ∧ (xss.getD t []).getD i 0 / 4 = (f : Int) ∧ isTab (ys.getD t iz).k = true then 1 else 0) := by
  unfold cI
  rw [named_snoc _ i (by have := mem_row hm ht; omega), List.count_append]
  by_cases hb : isTab (ys.getD t iz).k = true
  · rw [if_pos hb, if_pos hb, Nat.add_assoc]
    congr 2
    by_cases hg : goodB ((xss.getD t []).getD i 0)
    · rw [if_pos hg]
      by_cases he : (xss.getD t []).getD i 0 / 4 = (f : Int)
      · rw [if_pos ⟨hg, he, hb⟩, he]; simp
      · rw [if_neg (fun h => he h.2.1)]
        exact List.count_eq_zero.2 (fun hh => he (List.mem_singleton.1 hh).symm)
    · rw [if_neg hg, if_neg (fun h => hg h.1)]; simp
  · rw [if_neg hb, if_neg hb, if_neg (fun h => hb h.2.2)]
theorem cI_le {xss : List (List Int)} {ys : List IV} {f t : Nat} (hm : memOk xss = true) (ht : t < 12) (i : Nat) : cI xss ys f t i ≤ 60 := by
  have h1 := cntN_le (ys := ys) hm f t (by omega)
  have h2 := List.count_le_length (a := (f : Int)) (l := named ((xss.getD t []).take i))
  have h3 := named_len ((xss.getD t []).take i)
  rw [List.length_take] at h3
  have h4 := mem_row hm ht
  unfold cI
  split <;> omega
set_option maxRecDepth 100000 in
set_option maxHeartbeats 4000000 in
theorem tableCount_walk (hC : ITC) (hN : ITN) (W : World) (a : Option Addr) (len cap : Nat) (zs : List Int) (hr : Row .u8 W a len cap zs) :
    Calls Try.prog 7 #[.slice a len cap] W fun e w' => e = .returned (.bool true) ∧ Below W.heap.size W w' := by
  have HTC := Lib.hid hC
  have HN := Lib.hid hN
  clear hC hN
  have hm := row_len hr
  by_cases hL : 1048576 < len
  · have hL1 : (1048576 : Int) < (len : Int) := by omega
    clear hr
    go_enter Try.func7, Try.ntmps7
    go_wp2_with fail
    go_ret
    exact ⟨rfl, Below.refl _ _⟩
  have hL1 : decide ((1048576 : Int) < (len : Int)) = false := by simp; omega
  have hL2 : decide (1048576 < len) = false := by simp; omega
  go_enter Try.func7, Try.ntmps7
  go_wp2_with fail
  refine (drawTableCount_any W a len cap zs hr).mono ?_
  clear hr
  rintro e w1 ⟨vm, vl, xss, ys, rfl, hd⟩
  have A1 := Lib.hid (Arg5.two hd)
  have HSY := Lib.hid (shI_short hd.sh)
  have HSM := Lib.hid hd.small
  have HYL := Lib.hid hd.len
  clear hd hL hm
  have HC : Hid (∀ w, Arg5 W vm vl (.slice none 0 0) xss ys [] w → Calls Try.prog 32 #[vm, vl] w (NewR (tcnt xss ys) w)) := Lib.hid (fun w h => HTC.out w vm vl xss ys h.m h.i HSY.out)
  have HS : Hid (∀ w, Arg5 W vm vl (.slice none 0 0) xss ys [] w → Calls Try.prog 33 #[vm, vl] w (NewR (tcnt xss ys) w)) := Lib.hid (fun w h => sTableCount_any w vm vl xss ys h.m h.i HSY.out)
  obtain ⟨la, hla⟩ : ∃ la, la = tcnt xss ys := ⟨_, rfl⟩
  rw [← hla] at HC HS
  have HLA := Lib.hid hla
  clear hla
  go_wp2_with fail
  refine (HC.out w1 A1.out).mono ?_
  rintro e w2 ⟨p2, rfl, hr2, hb2⟩
  have A2 := Lib.hid (A1.out.go hb2)
  have U2 := Lib.hid hr2.ints
  clear hb2 hr2 A1
  go_wp2_with fail
  refine (HS.out w2 A2.out).mono ?_
  rintro e w3 ⟨p3, rfl, hr3, hb3⟩
  have A3 := Lib.hid (A2.out.go hb3)
  have U3 := Lib.hid (Ints.below (B := 0) U2.out hb3)
  have V3 := Lib.hid hr3.ints
  clear hb3 hr3 A2 U2 HC HS
  have HSI := Lib.hid (fun w ha hb => sameN w p2 p3 la ha hb)
  go_wp2_with fail
  refine (HSI.out w3 U3.out V3.out).mono ?_
  rintro e w4 ⟨rfl, hb4⟩
  have A4 := Lib.hid (A3.out.go hb4)
  have U4 := Lib.hid (Ints.below (B := 0) U3.out hb4)
  have V4 := Lib.hid (Ints.below (B := 0) V3.out hb4)
  clear hb4 A3 U3 V3
  have HVM := Lib.hid (valid_any w4 vm xss A4.out.m)
  obtain ⟨bm, hbm⟩ : ∃ bm, bm = memOk xss := ⟨_, rfl⟩
  rw [← hbm] at HVM
  have HBM := Lib.hid hbm
  have HVI := Lib.hid (infosValid_any w4 vl ys A4.out.i HSY.out)
  obtain ⟨bi, hbi⟩ : ∃ bi, bi = isok ys := ⟨_, rfl⟩
  rw [← hbi] at HVI
  have HBI := Lib.hid hbi
  clear hbm hbi
  go_wp2_with fail
  refine HVM.out.mono ?_
  rintro e w' ⟨rfl, rfl⟩
  cases bm with
  | false =>
    go_wp2_with fail
    refine (HSI.out w4 U4.out V4.out).mono ?_
    rintro e w5 ⟨rfl, hb5⟩
    have A5 := Lib.hid (A4.out.go hb5)
    clear hb5
    go_wp2_with fail
    go_ret
    exact ⟨rfl, A5.out.b⟩
  | true =>
  go_wp2_with fail
  refine HVI.out.mono ?_
  rintro e w5 ⟨rfl, hb5⟩
  have A5 := Lib.hid (A4.out.go hb5)
  have U5 := Lib.hid (Ints.below (B := 0) U4.out hb5)
  have V5 := Lib.hid (Ints.below (B := 0) V4.out hb5)
  clear hb5 A4 U4 V4 HVM HVI
  cases bi with
  | false =>
    go_wp2_with fail
    refine (HSI.out w5 U5.out V5.out).mono ?_
    rintro e w6 ⟨rfl, hb6⟩
    have A6 := Lib.hid (A5.out.go hb6)
    clear hb6
    go_wp2_with fail
    go_ret
    exact ⟨rfl, A6.out.b⟩
  | true =>
  obtain ⟨gla, gea⟩ := tcnt_get HBM.out.symm HBI.out.symm
  rw [← HLA.out] at gla gea
  have HLL := Lib.hid gla
  have HLE := Lib.hid gea
  have HMO : Hid (memOk xss = true) := Lib.hid HBM.out.symm
  have HY12 := Lib.hid (isok_len HBI.out.symm)
  have HKB : Hid (∀ t, t < 12 → 0 ≤ (ys.getD t iz).k ∧ (ys.getD t iz).k ≤ 3) := Lib.hid (fun t ht => by
    have h1 := isok_at HBI.out.symm (show t < ys.length by have := HY12.out; omega)
    by_cases h0 : (ys.getD t iz).k = 0
    · omega
    · have := (iok_used h1 h0).1; omega)
  obtain ⟨al, cl', hvl, l1, l2, l3⟩ := A5.out.i
  obtain ⟨bl, ol, hal, -⟩ := l3 0 (by have := HY12.out; omega)
  subst hal
  rw [HY12.out] at hvl l1
  subst hvl
  obtain ⟨aa, ca, hva, m1, m2, m3⟩ := U5.out
  obtain ⟨ba, oa, haa, -⟩ := m3 0 (by have := HLL.out; omega)
  subst haa
  rw [HLL.out] at hva m1
  subst hva
  unfold maxLen at l2 m2
  obtain ⟨vb, ob, cb, hvm⟩ : ∃ b o c, vm = .slice (some ⟨b, o, none⟩) 12 c := by
    obtain ⟨b, o, c, g, p, d, h, _⟩ := A5.out.m.word HMO.out (i := 0) (j := 0) (by omega) (by omega)
    exact ⟨b, o, c, h⟩
  subst hvm
  clear l3 m3 gla gea HBM HBI V5 HSI
  go_wp2_with fail
  have HTABW : Hid (∀ w k, 0 ≤ k ∧ k ≤ 3 → Calls Try.prog 21 #[.int .i64 k] w (NRes (tneeds k) w)) := Lib.hid (fun w k hk => HN.out w k (by omega) (by omega))
  go_loopw [7] (fun i wr => ∃ f : Nat, f ≤ 12 ∧ i = .int .i64 f ∧ Hid (Arg5 W (.slice (some ⟨vb, ob, none⟩) 12 cb) (.slice (some ⟨bl, ol, none⟩) 12 cl') (.slice none 0 0) xss ys [] wr) ∧ Hid (Ints wr (.slice (some ⟨ba, oa, none⟩) 12 ca) la)) (fun i _ => 12 - (intOf i).toNat)
  case atStart => exact ⟨0, Nat.zero_le _, rfl, A5, U5⟩
  case round =>
    obtain ⟨f, hf, rfl, AR, UR⟩ := hrel
    clear A5 U5
    by_cases hlt : f < 12
    · have hlt' : (f : Int) < 12 := by omega
      have hf0 : (0 : Int) ≤ (f : Int) := by omega
      go_wp2_with fail
      go_loopw [8, 9] (fun n i wr => ∃ t : Nat, t ≤ 12 ∧ i = .int .i64 t ∧ n = .int .i64 (cntN xss ys f t : Int) ∧ Hid (Arg5 W (.slice (some ⟨vb, ob, none⟩) 12 cb) (.slice (some ⟨bl, ol, none⟩) 12 cl') (.slice none 0 0) xss ys [] wr) ∧ Hid (Ints wr (.slice (some ⟨ba, oa, none⟩) 12 ca) la)) (fun _ i _ => 12 - (intOf i).toNat)
      case atStart => exact ⟨0, Nat.zero_le _, rfl, rfl, AR, UR⟩
      case round =>
        obtain ⟨t, ht, rfl, rfl, AT, UT⟩ := hrel
        clear AR UR
        by_cases hlt2 : t < 12
        · have hlt2' : (t : Int) < 12 := by omega
          have ht0 : (0 : Int) ≤ (t : Int) := by omega
          have HC0 : Hid (cntN xss ys f t = cI xss ys f t 0) := Lib.hid (by unfold cI; simp [named])
          have HC4 : Hid (cI xss ys f t 4 = cntN xss ys f (t + 1)) := Lib.hid (by
            unfold cI
            rw [take_all (mem_row HMO.out hlt2).symm]; rfl)
          rw [HC0.out]
          go_wp2_with fail
          go_loopw [8, 10] (fun n i wr => ∃ q : Nat, q ≤ 4 ∧ i = .int .i64 q ∧ n = .int .i64 (cI xss ys f t q : Int) ∧ Hid (Arg5 W (.slice (some ⟨vb, ob, none⟩) 12 cb) (.slice (some ⟨bl, ol, none⟩) 12 cl') (.slice none 0 0) xss ys [] wr) ∧ Hid (Ints wr (.slice (some ⟨ba, oa, none⟩) 12 ca) la)) (fun _ i _ => 4 - (intOf i).toNat)
          case atStart => exact ⟨0, Nat.zero_le _, rfl, rfl, AT, UT⟩
          case round =>
            obtain ⟨q, hq, rfl, rfl, AQ, UQ⟩ := hrel
            clear AT UT
            by_cases hlt3 : q < 4
            · have hlt3' : (q : Int) < 4 := by omega
              have hq0 : (0 : Int) ≤ (q : Int) := by omega
              obtain ⟨b', o', c', g, p, d, e, hc, hx⟩ := AQ.out.m.word HMO.out hlt2 hlt3
              cases e
              have htri := AQ.out.i.tri (t := t) (by have := HY12.out; omega)
              have hbx := wd_bounds HMO.out hlt2 hlt3
              unfold wd at hbx
              have HST := Lib.hid (cI_step (ys := ys) (f := f) HMO.out hlt2 hlt3)
              have hcb := cI_le (ys := ys) (f := f) HMO.out hlt2 q
              have HKT := Lib.hid (HKB.out t hlt2)
              obtain ⟨x, hxx⟩ : ∃ x, x = (xss.getD t []).getD q 0 := ⟨_, rfl⟩
              obtain ⟨y, hy⟩ : ∃ y, y = ys.getD t iz := ⟨_, rfl⟩
              obtain ⟨m, hm⟩ : ∃ m, m = cI xss ys f t q := ⟨_, rfl⟩
              rw [← hxx] at hx hbx HST
              rw [← hy] at htri HST HKT
              rw [← hm] at HST hcb ⊢
              obtain ⟨c0, c1, c2⟩ := htri
              have hw1 : IntKind.i64.wrap ((m : Int) + 1) = (m : Int) + 1 := by rw [IntKind.wrap_i64]; omega
              have hmb : (m : Int) ≤ 100 := by omega
              clear hxx hy hm c1 c2 hcb
              by_cases hg : goodB x
              · have HE := Lib.hid (fun w => eI_yes x w hg)
                obtain ⟨dw, hdw⟩ : ∃ dw, dw = decide (x % 4 = 3) := ⟨_, rfl⟩
                rw [← hdw] at HE
                obtain ⟨z, hz⟩ : ∃ z, z = x / 4 := ⟨_, rfl⟩
                rw [← hz] at HE HST
                clear hdw hz hbx
                by_cases hzf : z = (f : Int)
                · subst hzf
                  have HTN := Lib.hid (fun w => HTABW.out w y.k HKT.out)
                  have HT0 : Hid ((tneeds y.k != 0) = isTab y.k) := Lib.hid (by
                    unfold tneeds
                    by_cases hb : isTab y.k = true
                    · have := isTab_iff.1 hb
                      rw [if_pos hb, hb]
                      simp; omega
                    · rw [if_neg hb, Bool.eq_false_iff.2 hb]; rfl)
                  obtain ⟨tn, htn⟩ : ∃ tn, tn = tneeds y.k := ⟨_, rfl⟩
                  obtain ⟨bt, hbt⟩ : ∃ bt, bt = isTab y.k := ⟨_, rfl⟩
                  rw [← htn] at HTN HT0
                  rw [← hbt] at HT0 HST
                  clear htn hbt
                  go_wp2_with fail
                  refine (HE.out _).mono ?_
                  rintro e w' ⟨rfl, rfl⟩
                  go_wp2_with fail
                  refine (HTN.out _).mono ?_
                  rintro e w6 ⟨rfl, hb6⟩
                  have A6 := Lib.hid (AQ.out.go hb6)
                  have U6 := Lib.hid (Ints.below (B := 0) UQ.out hb6)
                  clear hb6
                  have e1 := HT0.out
                  cases bt with
                  | true =>
                    have HS2 : Hid (cI xss ys f t (q + 1) = m + 1) := Lib.hid (by rw [HST.out, if_pos ⟨hg, by trivial, by trivial⟩])
                    clear hg
                    go_wp2_with fail
                    go_roundw
                    case rel => exact ⟨q + 1, by omega, by go_num, by rw [HS2.out]; go_num, A6, U6⟩
                    case measure => simp [intOf]; omega
                  | false =>
                    have HS2 : Hid (cI xss ys f t (q + 1) = m) := Lib.hid (by rw [HST.out, if_neg (fun h => by have := h.2.2; cases this)]; rfl)
                    clear hg
                    go_wp2_with fail
                    go_roundw
                    case rel => exact ⟨q + 1, by omega, by go_num, by rw [HS2.out], A6, U6⟩
                    case measure => simp [intOf]; omega
                · have hzf' : (z == (f : Int)) = false := by simpa using hzf
                  have HS2 : Hid (cI xss ys f t (q + 1) = m) := Lib.hid (by rw [HST.out, if_neg (fun h => hzf h.2.1)]; rfl)
                  clear hg hzf
                  go_wp2_with fail
                  refine (HE.out _).mono ?_
                  rintro e w' ⟨rfl, rfl⟩
                  go_wp2_with fail
                  go_roundw
                  case rel => exact ⟨q + 1, by omega, by go_num, by rw [HS2.out], AQ, UQ⟩
                  case measure => simp [intOf]; omega
              · have HE := Lib.hid (fun w => eI_no x w hg (by omega) (by omega))
                have HS2 : Hid (cI xss ys f t (q + 1) = m) := Lib.hid (by rw [HST.out, if_neg (fun h => hg h.1)]; rfl)
                clear hg hbx
                go_wp2_with fail
                refine (HE.out _).mono ?_
                rintro e w' ⟨rfl, rfl⟩
                go_wp2_with fail
                go_roundw
                case rel => exact ⟨q + 1, by omega, by go_num, by rw [HS2.out], AQ, UQ⟩
                case measure => simp [intOf]; omega
            · have e : q = 4 := by omega
              subst e
              rw [HC4.out]
              go_wp2_with fail
              go_roundw
              case rel => exact ⟨t + 1, by omega, by go_num, rfl, AQ, UQ⟩
              case measure => simp [intOf]; omega
        · have e : t = 12 := by omega
          subst e
          have hcf := UT.out.cellAt (t := f) (by have := HLL.out; omega)
          rw [HLE.out f hlt] at hcf
          obtain ⟨m, hm⟩ : ∃ m, m = cntN xss ys f 12 := ⟨_, rfl⟩
          rw [← hm] at hcf ⊢
          clear hm
          go_wp2_with fail
          go_roundw
          case rel => exact ⟨f + 1, by omega, by go_num, AT, UT⟩
          case measure => simp [intOf]; omega
    · go_wp2_with fail
      go_ret
      exact ⟨rfl, AR.out.b⟩
end Go.Proofs.Yticnfekjbknomaa
