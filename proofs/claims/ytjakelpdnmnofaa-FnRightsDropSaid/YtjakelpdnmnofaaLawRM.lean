/- The walks of the statements on what rights allow, out of contracts of the program. -/
import Derived.Test.YtjakelpdnmnofaaLawR
namespace Go.Proofs.Ytjakelpdnmnofaa
open Go.ChangeShapes Go.WideShapes Go.ChangeAt Go.RowKit
set_option linter.unusedVariables false

theorem shorts {ys : List Bs} (h : ∀ y ∈ ys, shortP y) : Short ys := fun y hy => by have := h y hy; unfold shortP at this; omega
theorem shortP_at {ys : List Bs} (h : ∀ y ∈ ys, shortP y) (i : Nat) : (ys.getD i []).length ≤ 10 := by
  by_cases hi : i < ys.length
  · rw [getD_lt hi]; exact h _ (List.getElem_mem hi)
  · rw [List.getD, List.getElem?_eq_none (Nat.le_of_not_lt hi)]; exact Nat.zero_le _
theorem any_snoc {ys : List Bs} {f : Bs → Bool} {k : Nat} (hk : k < ys.length) : (ys.take (k + 1)).any f = ((ys.take k).any f || f (ys.getD k [])) := by
  rw [take_snoc_getD ys k [] hk, List.any_append]
  simp
theorem rcov_any {ys : List Bs} {g : Bs} (h : rvs ys = true) (hg : rv g = true) : ys.any (fun x => rcov x g) = may0 ys g := by
  unfold may0
  have ha := rvs_all h
  rw [Bool.eq_iff_iff, List.any_eq_true, List.any_eq_true]
  refine ⟨fun ⟨x, hx, hc⟩ => ⟨x, hx, ?_⟩, fun ⟨x, hx, hc⟩ => ⟨x, hx, ?_⟩⟩
  · unfold rcov at hc
    simp only [Bool.and_eq_true] at hc
    exact hc.2.2
  · unfold rcov
    rw [ha x hx, hg, hc]; rfl
theorem rightsMay_walk (hM : IRMay) (hC : IRCov) (W : World) (a : Option Addr) (len cap : Nat) (zs : List Int) (hr : Row .u8 W a len cap zs) :
    Calls Try.prog 6 #[.slice a len cap] W fun e w' => e = .returned (.bool true) ∧ Below W.heap.size W w' := by
  have HMAY := Lib.hid hM
  have HCOV := Lib.hid hC
  clear hM hC
  have hm := row_len hr
  by_cases hL : 1048576 < len
  · have hL1 : (1048576 : Int) < (len : Int) := by omega
    clear hr
    go_enter Try.func6, Try.ntmps6
    go_wp2_with fail
    go_ret
    exact ⟨rfl, Below.refl _ _⟩
  have hL1 : decide ((1048576 : Int) < (len : Int)) = false := by simp; omega
  have hL2 : decide (1048576 < len) = false := by simp; omega
  go_enter Try.func6, Try.ntmps6
  go_wp2_with fail
  refine (drawRightsMay_any W a len cap zs hr).mono ?_
  clear hr
  rintro e w1 ⟨v, ys, x, hx, rfl, hd⟩
  have B1 := Lib.hid hd.bel
  have R1 := Lib.hid hd.strs
  have HSH := Lib.hid hd.rng
  obtain ⟨g, c2, hv⟩ := hd.form
  have hl8 : ys.length ≤ 8 := hd.len
  have hxl : x.length ≤ 10 := hx
  clear hd hx
  subst hv
  have HC := Lib.hid (HMAY.out w1 _ ys x R1.out (shorts HSH.out) (by omega))
  have HS := Lib.hid (fun w h => sRightsMay_any w (.slice (some ⟨g, 0, none⟩) ys.length c2) ys x h (shorts HSH.out) (by omega))
  have HV := Lib.hid (fun w h => sRightsValid_any w (.slice (some ⟨g, 0, none⟩) ys.length c2) ys h (shorts HSH.out))
  have HX := Lib.hid (fun w => sRightValid_any w x (by omega))
  obtain ⟨r, hr⟩ : ∃ r, r = rmay ys x := ⟨_, rfl⟩
  rw [← hr] at HC HS
  have HR : Hid (r = (rvs ys && (rv x && may0 ys x))) := Lib.hid (by rw [hr]; rfl)
  clear hr
  have hrr := neB r
  obtain ⟨n, hn⟩ : ∃ n, n = ys.length := ⟨_, rfl⟩
  rw [← hn] at HC HS HV R1 hl8 ⊢
  have HN := Lib.hid hn
  clear hn
  go_wp2_with fail
  refine HC.out.mono ?_
  rintro e w2 ⟨rfl, hb2⟩
  have B2 := Lib.hid (B1.out.trans (hb2.mono B1.out.size))
  have R2 := Lib.hid (R1.out.below hb2)
  clear hb2 HC R1 B1
  go_wp2_with fail
  refine (HS.out w2 R2.out).mono ?_
  rintro e w3 ⟨rfl, n3, hw3⟩
  have C3 : Below w2.heap.size w2 w3 := by rw [hw3]; exact ⟨rfl, rfl, rfl, Nat.le_refl _, fun _ _ => rfl⟩
  have B3 := Lib.hid (B2.out.trans (C3.mono B2.out.size))
  have R3 := Lib.hid (R2.out.below C3)
  clear C3 hw3 HS R2 B2
  go_wp2_with fail
  refine (HV.out w3 R3.out).mono ?_
  rintro e w4 ⟨rfl, n4, hw4⟩
  have C4 : Below w3.heap.size w3 w4 := by rw [hw4]; exact ⟨rfl, rfl, rfl, Nat.le_refl _, fun _ _ => rfl⟩
  have B4 := Lib.hid (B3.out.trans (C4.mono B3.out.size))
  have R4 := Lib.hid (R3.out.below C4)
  clear C4 hw4 HV R3 B3
  cases h1 : rvs ys with
  | false =>
    have HR2 : Hid (r = false) := Lib.hid (by rw [HR.out, h1]; rfl)
    clear h1 HR
    go_wp2_with fail
    go_ret
    exact ⟨by rw [HR2.out]; rfl, B4.out⟩
  | true =>
    have HVS := Lib.hid h1
    clear h1
    go_wp2_with fail
    refine (HX.out w4).mono ?_
    rintro e w' ⟨rfl, rfl⟩
    cases h2 : rv x with
    | false =>
      have HR2 : Hid (r = false) := Lib.hid (by rw [HR.out, HVS.out, h2]; rfl)
      clear h2 HR
      go_wp2_with fail
      go_ret
      exact ⟨by rw [HR2.out]; rfl, B4.out⟩
    | true =>
      have HR2 : Hid (r = ys.any (fun y => rcov y x)) := Lib.hid (by rw [HR.out, HVS.out, h2, rcov_any HVS.out h2]; rfl)
      clear h2 HR
      have HY := Lib.hid (fun w k => HCOV.out w (ys.getD k []) x (by have := shortP_at HSH.out k; omega) (by omega))
      have HTK := Lib.hid (fun k hk => any_snoc (ys := ys) (f := fun y => rcov y x) (k := k) hk)
      go_wp2_with fail
      go_loopw [7, 8] (fun s i wr => ∃ k : Nat, k ≤ n ∧ i = .int .i64 k ∧ s = .bool ((ys.take k).any (fun y => rcov y x)) ∧ Hid (Below W.heap.size W wr) ∧ Hid (Strs wr (.slice (some ⟨g, 0, none⟩) n c2) ys)) (fun _ i _ => n - (intOf i).toNat)
      case atStart => exact ⟨0, Nat.zero_le _, rfl, rfl, B4, R4⟩
      case round =>
        obtain ⟨k, hk, rfl, rfl, HB, HS⟩ := hrel
        by_cases hlt : k < n
        · have hlt' : (k : Int) < (n : Int) := by omega
          have HT := Lib.hid (HTK.out k (by rw [← HN.out]; exact hlt))
          have HYK := Lib.hid (fun w => HY.out w k)
          obtain ⟨a', cap', e, -, -, q3⟩ := HS.out
          injection e with e1 e2 e3
          subst e1
          obtain ⟨g', p', e, hc⟩ := q3 k (by rw [← HN.out]; exact hlt)
          cases e
          clear q3 e2 e3
          rw [Nat.zero_add] at hc
          generalize ys.getD k [] = y at hc HT HYK
          cases hb : (ys.take k).any (fun y => rcov y x) with
          | true =>
            rw [hb] at HT
            clear hb
            go_wp2
            go_roundw
            case rel => exact ⟨k + 1, by omega, by go_num, by rw [HT.out]; rfl, HB, HS⟩
            case measure => simp [intOf]; omega
          | false =>
            rw [hb] at HT
            clear hb
            go_wp2_with fail
            refine (HYK.out wr).mono ?_
            rintro e w5 ⟨rfl, hb5⟩
            have B5 := Lib.hid (HB.out.trans (hb5.mono HB.out.size))
            have S5 := Lib.hid (HS.out.below hb5)
            clear hb5
            go_wp2
            go_roundw
            case rel => exact ⟨k + 1, by omega, by go_num, by rw [HT.out]; rfl, B5, S5⟩
            case measure => simp [intOf]; omega
        · have e : k = n := by omega
          have HE : Hid (((ys.take k).any (fun y => rcov y x) == r) = true) := Lib.hid (by rw [take_all (by rw [e]; exact HN.out), HR2.out]; simp)
          generalize (ys.take k).any (fun y => rcov y x) = z at HE
          go_wp2
          go_ret
          exact ⟨by rw [← HE.out]; rfl, HB.out⟩
theorem rmay_long {ys : List Bs} {g : Bs} (h : rmay ys g = true) : rmay ys (g ++ [99]) = rv (g ++ [99]) := by
  unfold rmay at h ⊢
  simp only [Bool.and_eq_true] at h
  obtain ⟨h1, h2, h3⟩ := h
  obtain ⟨x, hx, hc⟩ := List.any_eq_true.1 h3
  have h4 : may0 ys (g ++ [99]) = true := List.any_eq_true.2 ⟨x, hx, cov_snoc hc⟩
  rw [h1, h4, Bool.true_and, Bool.and_true]
theorem rightsMayLong_walk (hM : IRMay) (hI : IRV) (W : World) (a : Option Addr) (len cap : Nat) (zs : List Int) (hr : Row .u8 W a len cap zs) :
    Calls Try.prog 7 #[.slice a len cap] W fun e w' => e = .returned (.bool true) ∧ Below W.heap.size W w' := by
  have HMAY := Lib.hid hM
  have HI := Lib.hid hI
  clear hM hI
  have hm := row_len hr
  by_cases hL : 1048576 < len
  · have hL1 : (1048576 : Int) < (len : Int) := by omega
    clear hr
    go_enter Try.func7, Try.ntmps7
    go_wp2_with fail
    go_ret
    exact ⟨rfl, Below.refl _ _⟩
  have hL1 : decide ((1048576 : Int) < (len : Int)) = false := by simp; omega
  have hL2 : decide (1048576 < len) = false := by simp; omega
  go_enter Try.func7, Try.ntmps7
  go_wp2_with fail
  refine (drawRightsMay_any W a len cap zs hr).mono ?_
  clear hr
  rintro e w1 ⟨v, ys, x, hx, rfl, hd⟩
  have B1 := Lib.hid hd.bel
  have R1 := Lib.hid hd.strs
  have HSH := Lib.hid hd.rng
  have hxl : x.length ≤ 10 := hx
  clear hd hx
  have HC := Lib.hid (HMAY.out w1 v ys x R1.out (shorts HSH.out) (by omega))
  have HS := Lib.hid (fun w h => sRightsMay_any w v ys x h (shorts HSH.out) (by omega))
  have HM := Lib.hid (fun w h => HMAY.out w v ys (x ++ [99]) h (shorts HSH.out) (by rw [List.length_append]; simp; omega))
  have HX := Lib.hid (fun w => HI.out w (x ++ [99]) (by rw [List.length_append]; simp; omega))
  cases hr : rmay ys x with
  | false =>
    rw [hr] at HC HS
    clear hr
    go_wp2_with fail
    refine HC.out.mono ?_
    rintro e w2 ⟨rfl, hb2⟩
    have B2 := Lib.hid (B1.out.trans (hb2.mono B1.out.size))
    have R2 := Lib.hid (R1.out.below hb2)
    clear hb2
    go_wp2_with fail
    refine (HS.out w2 R2.out).mono ?_
    rintro e w3 ⟨rfl, n3, hw3⟩
    have C3 : Below w2.heap.size w2 w3 := by rw [hw3]; exact ⟨rfl, rfl, rfl, Nat.le_refl _, fun _ _ => rfl⟩
    have B3 := Lib.hid (B2.out.trans (C3.mono B2.out.size))
    clear C3 hw3
    go_wp2_with fail
    go_ret
    exact ⟨rfl, B3.out⟩
  | true =>
    have HE := Lib.hid (rmay_long hr)
    rw [hr] at HC HS
    rw [HE.out, ← append_d] at HM
    rw [← append_d] at HX
    generalize rv (x ++ [99]) = q at HM HX
    clear hr HE
    have hqq : (q == q) = true := by simp
    go_wp2_with fail
    refine HC.out.mono ?_
    rintro e w2 ⟨rfl, hb2⟩
    have B2 := Lib.hid (B1.out.trans (hb2.mono B1.out.size))
    have R2 := Lib.hid (R1.out.below hb2)
    clear hb2
    go_wp2_with fail
    refine (HS.out w2 R2.out).mono ?_
    rintro e w3 ⟨rfl, n3, hw3⟩
    have C3 : Below w2.heap.size w2 w3 := by rw [hw3]; exact ⟨rfl, rfl, rfl, Nat.le_refl _, fun _ _ => rfl⟩
    have B3 := Lib.hid (B2.out.trans (C3.mono B2.out.size))
    have R3 := Lib.hid (R2.out.below C3)
    clear C3 hw3
    go_wp2_with fail
    refine (HM.out w3 R3.out).mono ?_
    rintro e w4 ⟨rfl, hb4⟩
    have B4 := Lib.hid (B3.out.trans (hb4.mono B3.out.size))
    clear hb4
    go_wp2_with fail
    refine (HX.out w4).mono ?_
    rintro e w5 ⟨rfl, hb5⟩
    have B5 := Lib.hid (B4.out.trans (hb5.mono B4.out.size))
    clear hb5
    go_wp2_with fail
    go_ret
    exact ⟨rfl, B5.out⟩
end Go.Proofs.Ytjakelpdnmnofaa
