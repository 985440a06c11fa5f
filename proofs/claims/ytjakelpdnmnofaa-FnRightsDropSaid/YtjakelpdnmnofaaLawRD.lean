/- The walk of the statement on dropped rights, out of contracts of the program. -/
import Derived.Test.YtjakelpdnmnofaaLawRA
import Derived.Test.YtjakelpdnmnofaaRSpec2
namespace Go.Proofs.Ytjakelpdnmnofaa
open Go.ChangeShapes Go.WideShapes Go.ChangeAt Go.RowKit
set_option linter.unusedVariables false

theorem own_below {w w' : World} {base : Nat} {e : TypeId} {s : Nat} {v : Value} {n : Nat} {x : List Value} (h : w.ownsRow base e s v n x) (hb : Below w.heap.size w w') : w'.ownsRow base e s v n x := by
  refine ⟨h.1, ?_⟩
  rcases h.2 with hn | ⟨g, cap, cur, e, hg, hbl, rest⟩
  · exact .inl hn
  · exact .inr ⟨g, cap, cur, e, hg, (hb.block g (Array.getElem?_eq_some_iff.1 hbl).1).trans hbl, rest⟩
theorem OwnS.keep {w w1 w2 : World} {v : Value} {ys : List Bs} (h : OwnS w v ys w1) (hb : Below w1.heap.size w1 w2) : OwnS w v ys w2 := ⟨own_below h.own hb, h.bel.trans (hb.mono h.bel.size)⟩
theorem drop_rcov {ys : List Bs} {x : Bs} (h : rvs ys = true) (hx : rv x = true) : ∀ k, k < ys.length → rcov x (ys.getD k []) = cov x (ys.getD k []) := by
  intro k hk
  have := rvs_all h (ys.getD k []) (by rw [getD_lt hk]; exact List.getElem_mem hk)
  unfold rcov
  rw [hx, this, Bool.true_and, Bool.true_and]
set_option maxHeartbeats 1000000 in
theorem rightsDrop_walk (hD : IRDrop) (hC : IRCov) (W : World) (a : Option Addr) (len cap : Nat) (zs : List Int) (hr : Row .u8 W a len cap zs) :
    Calls Try.prog 10 #[.slice a len cap] W fun e w' => e = .returned (.bool true) ∧ Below W.heap.size W w' := by
  have HDRP := Lib.hid hD
  have HCOV := Lib.hid hC
  clear hD hC
  have hm := row_len hr
  by_cases hL : 1048576 < len
  · have hL1 : (1048576 : Int) < (len : Int) := by omega
    clear hr
    go_enter Try.func10, Try.ntmps10
    go_wp2_with fail
    go_ret
    exact ⟨rfl, Below.refl _ _⟩
  have hL1 : decide ((1048576 : Int) < (len : Int)) = false := by simp; omega
  have hL2 : decide (1048576 < len) = false := by simp; omega
  go_enter Try.func10, Try.ntmps10
  go_wp2_with fail
  refine (drawRightsDrop_any W a len cap zs hr).mono ?_
  clear hr
  rintro e w1 ⟨v, ys, x, hx, rfl, hd⟩
  have B1 := Lib.hid hd.bel
  have R1 := Lib.hid hd.strs
  have HSH := Lib.hid hd.rng
  obtain ⟨g, c2, hv⟩ := hd.form
  have hl8 : ys.length ≤ 8 := hd.len
  have hxl : x.length ≤ 10 := hx
  clear hd hx
  subst hv
  have HC := Lib.hid (HDRP.out w1 _ ys x R1.out (shorts HSH.out) (by omega))
  have HS := Lib.hid (fun w h => sRightsDrop_any w (.slice (some ⟨g, 0, none⟩) ys.length c2) ys x h (shorts HSH.out) (by omega))
  have HV := Lib.hid (fun w h => sRightsValid_any w (.slice (some ⟨g, 0, none⟩) ys.length c2) ys h (shorts HSH.out))
  have HX := Lib.hid (fun w => sRightValid_any w x (by omega))
  have HY := Lib.hid (fun w k => HCOV.out w x (ys.getD k []) (by omega) (by have := shortP_at HSH.out k; omega))
  obtain ⟨us, hus⟩ : ∃ us, us = rdrop ys x := ⟨_, rfl⟩
  rw [← hus] at HC HS
  have HUS := Lib.hid hus
  clear hus
  obtain ⟨n, hn⟩ : ∃ n, n = ys.length := ⟨_, rfl⟩
  rw [← hn] at HC HS R1 hl8 HV ⊢
  have HN := Lib.hid hn
  clear hn
  go_wp2_with fail
  refine HC.out.mono ?_
  rintro e w2 ⟨p2, rfl, hr2, hb2⟩
  have B2 := Lib.hid (B1.out.trans (hb2.mono B1.out.size))
  have R2 := Lib.hid (R1.out.below hb2)
  have U2 := Lib.hid hr2.strs
  clear hb2 hr2 HC R1 B1
  go_wp2_with fail
  refine (HS.out w2 R2.out).mono ?_
  rintro e w3 ⟨p3, rfl, hr3, hb3⟩
  have B3 := Lib.hid (B2.out.trans (hb3.mono B2.out.size))
  have R3 := Lib.hid (R2.out.below hb3)
  have U23 := Lib.hid (U2.out.below hb3)
  have U3 := Lib.hid hr3.strs
  clear hb3 hr3 HS R2 B2 U2
  go_wp2_with fail
  refine (same_true w3 p2 p3 us U23.out U3.out).mono ?_
  rintro e w4 ⟨rfl, hb4⟩
  have B4 := Lib.hid (B3.out.trans (hb4.mono B3.out.size))
  have R4 := Lib.hid (R3.out.below hb4)
  have U24 := Lib.hid (U23.out.below hb4)
  have U34 := Lib.hid (U3.out.below hb4)
  clear hb4 B3 U23 U3 R3
  go_wp2_with fail
  refine (HV.out w4 R4.out).mono ?_
  rintro e w5 ⟨rfl, n5, hw5⟩
  have C5 : Below w4.heap.size w4 w5 := by rw [hw5]; exact ⟨rfl, rfl, rfl, Nat.le_refl _, fun _ _ => rfl⟩
  have B5 := Lib.hid (B4.out.trans (C5.mono B4.out.size))
  have R5 := Lib.hid (R4.out.below C5)
  have U25 := Lib.hid (U24.out.below C5)
  have U35 := Lib.hid (U34.out.below C5)
  clear C5 hw5 HV B4 R4 U24 U34
  cases h1 : rvs ys with
  | false =>
    clear h1
    go_wp2_with fail
    refine (same_true w5 p2 p3 us U25.out U35.out).mono ?_
    rintro e w6 ⟨rfl, hb6⟩
    have B6 := Lib.hid (B5.out.trans (hb6.mono B5.out.size))
    clear hb6
    go_wp2_with fail
    go_ret
    exact ⟨rfl, B6.out⟩
  | true =>
    have HVS := Lib.hid h1
    clear h1
    go_wp2_with fail
    refine (HX.out w5).mono ?_
    rintro e w' ⟨rfl, rfl⟩
    cases h2 : rv x with
    | false =>
      clear h2
      go_wp2_with fail
      refine (same_true w5 p2 p3 us U25.out U35.out).mono ?_
      rintro e w6 ⟨rfl, hb6⟩
      have B6 := Lib.hid (B5.out.trans (hb6.mono B5.out.size))
      clear hb6
      go_wp2_with fail
      go_ret
      exact ⟨rfl, B6.out⟩
    | true =>
      have HU : Hid (us = drop0 ys x) := Lib.hid (by rw [HUS.out]; exact if_pos (by rw [HVS.out, h2]; rfl))
      have HRC := Lib.hid (drop_rcov HVS.out h2)
      clear h2
      have HSTART := Lib.hid (OwnS.start w5)
      go_wp2
      go_loopw [7, 8] (fun l i wr => ∃ k : Nat, k ≤ n ∧ i = .int .i64 k ∧ Hid (OwnS w5 l (drop0 (ys.take k) x) wr)) (fun _ i _ => n - (intOf i).toNat)
      case atStart => exact ⟨0, Nat.zero_le _, rfl, HSTART⟩
      case round =>
        obtain ⟨k, hk, rfl, HO⟩ := hrel
        by_cases hlt : k < n
        · have hlt' : (k : Int) < (n : Int) := by omega
          have hkx : k < ys.length := by rw [← HN.out]; exact hlt
          have HYK := Lib.hid (fun w => HY.out w k)
          rw [HRC.out k hkx] at HYK
          obtain ⟨a', cap', e, -, -, q3⟩ := R5.out
          injection e with e1 e2 e3
          subst e1
          obtain ⟨g', p', e, hc⟩ := q3 k hkx
          cases e
          clear q3 e2 e3
          rw [Nat.zero_add] at hc
          have hcr := (HO.out.bel.cell (p := ⟨g, k, none⟩) (cell_lt hc)).trans hc
          have HD := Lib.hid (drop_take_succ (s := x) hkx)
          have HLD := Lib.hid (drop_len (ys.take k) x)
          generalize ys.getD k [] = y at hcr HYK HD
          clear hkx hc
          cases hv : cov x y with
          | true =>
            rw [hv] at HYK HD
            rw [if_pos rfl, List.append_nil] at HD
            clear hv
            go_wp2_with fail
            refine (HYK.out wr).mono ?_
            rintro e w6 ⟨rfl, hb6⟩
            have HO2 := Lib.hid (HO.out.keep hb6)
            rw [← HD.out] at HO2
            clear hb6
            go_wp2_with fail
            go_roundw
            case rel => exact ⟨k + 1, by omega, by go_num, HO2⟩
            case measure => simp [intOf]; omega
          | false =>
            rw [hv] at HYK HD
            rw [if_neg (by simp)] at HD
            clear hv
            have hcl := cell_lt hcr
            go_wp2_with fail
            refine (HYK.out wr).mono ?_
            rintro e w6 ⟨rfl, hb6⟩
            have hc6 := (hb6.cell (p := ⟨g, k, none⟩) hcl).trans hcr
            have HO6 := Lib.hid (HO.out.keep hb6)
            clear hb6 hcr hcl
            go_wp2_with (at_builtin; refine wpList_append_strs (.tmp 54) (.tmp 59) w5 u7 (drop0 (ys.take k) x) rfl (HO6.out.alloc _) _ [y] rfl (strs_one _ y) nilOk_some (by have h1 := HLD.out; rw [List.length_take] at h1; simp only [List.length_singleton]; omega) ?_; intro v2 w7 hown2 hnn2 hgrow2)
            have HO2 : Hid (OwnS w5 v2 (drop0 (ys.take (k + 1)) x) w7) := Lib.hid (by rw [HD.out]; exact hown2)
            clear hown2 hnn2 hgrow2
            go_wp2
            go_roundw
            case rel => exact ⟨k + 1, by omega, by go_num, HO2⟩
            case measure => simp [intOf]; omega
        · have e : k = n := by omega
          have HO2 := Lib.hid HO.out
          rw [take_all (by rw [e]; exact HN.out), ← HU.out] at HO2
          have HP := Lib.hid (U25.out.below HO2.out.bel)
          have HB := Lib.hid (B5.out.trans (HO2.out.bel.mono B5.out.size))
          go_wp2_with fail
          refine (same_true wr p2 u7 us HP.out HO2.out.strs).mono ?_
          rintro e w6 ⟨rfl, hb6⟩
          have B6 := Lib.hid (HB.out.trans (hb6.mono HB.out.size))
          clear hb6
          go_wp2_with fail
          go_ret
          exact ⟨rfl, B6.out⟩
end Go.Proofs.Ytjakelpdnmnofaa
