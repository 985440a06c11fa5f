/- What the proofs stand on, part 25. -/
import Derived.Test.YtaalnjinocicgaaRows
import Derived.Test.YtaalnjinocicgaaW1
import Derived.Test.YtaalnjinocicgaaW2
import Derived.Test.YtaalnjinocicgaaW3
import Derived.Test.YtaalnjinocicgaaW4
import Derived.Test.YtaalnjinocicgaaW5
import Derived.Test.YtaalnjinocicgaaW6
import Derived.Test.YtaalnjinocicgaaW7
import Derived.Test.YtaalnjinocicgaaW8
import Derived.Test.YtaalnjinocicgaaW9
import Derived.Test.YtaalnjinocicgaaW10
import Derived.Test.YtaalnjinocicgaaW11
import Derived.Test.YtaalnjinocicgaaW12
import Derived.Test.YtaalnjinocicgaaW15
set_option linter.unusedSimpArgs false
set_option linter.unusedVariables false
namespace Go.Proofs.Ytaalnjinocicgaa
open Go.ChangeShapes Go.WideShapes Go.ChangeAt Go.RowKit
set_option linter.unusedVariables false
set_option linter.unusedSimpArgs false
set_option maxRecDepth 100000 in
set_option maxHeartbeats 2000000 in
theorem swapFull_walk (hISV : ISV) (hISP : ISP) (hISG : ISG) (hISD : ISD) (W : World) (a : Option Addr) (len cap : Nat) (zs : List Int) (hr : Row .u8 W a len cap zs) :
    Calls Try.prog 6 #[.slice a len cap] W fun e w' => e = .returned (.bool true) ∧ Below W.heap.size W w' := by
  have HISV := Lib.hid hISV
  have HISP := Lib.hid hISP
  have HISG := Lib.hid hISG
  have HISD := Lib.hid hISD
  clear hISV hISP hISG hISD
  have hm := row_len hr
  by_cases hL : 1048576 < len
  · have hL1 : (1048576 : Int) < (len : Int) := by omega
    clear hr
    go_enter Try.func6, Try.ntmps6
    go_wp2_with fail
    go_ret
    exact ⟨rfl, Below.refl _ _⟩
  have hL1 : decide ((1048576 : Int) < (len : Int)) = false := by simp; omega
  have hL2 : decide (1048576 < len) = false := by simp; omega
  clear hL
  go_enter Try.func6, Try.ntmps6
  go_wp2_with fail
  refine (drawSwapPut_any W a len cap zs hr).mono ?_
  clear hr
  rintro e w1 ⟨v, xss, u, ws, rfl, hu, hl4, hd⟩
  have B1 := Lib.hid hd.bel
  have R1 := Lib.hid hd.rows
  have U1 := Lib.hid hu
  have HLW := Lib.hid hl4
  have HLX := Lib.hid hd.len
  clear hd hu hl4
  have HC := Lib.hid (HISP.out w1 v u xss ws R1.out U1.out)
  have HS := Lib.hid (fun w h h' => sSwapPut_any w v u xss ws h h')
  have HYES : Hid (sputB xss ws = true → ∃ i, PutFacts xss ws (sput xss ws) (sputN xss ws) i) := Lib.hid put_yes
  obtain ⟨b, hb⟩ : ∃ b, b = sputB xss ws := ⟨_, rfl⟩
  rw [← hb] at HC HS HYES
  have HBV := Lib.hid hb
  clear hb
  generalize sput xss ws = yss at HC HS HYES
  generalize sputN xss ws = nn at HC HS HYES
  have hbb := neB b
  go_wp2_with fail
  refine HC.out.mono ?_
  rintro e w2 ⟨p2, rfl, hm2, hb⟩
  have M2 := Lib.hid hm2
  have R2 := Lib.hid (R1.out.below hb)
  have U2 := Lib.hid (Ints.below (B := 0) U1.out hb)
  have B2 := Lib.hid (B1.out.trans (hb.mono B1.out.size))
  clear hb hm2 HC R1 U1 B1
  go_wp2_with fail
  refine (HS.out w2 R2.out U2.out).mono ?_
  rintro e w3 ⟨p3, rfl, hm3, hb⟩
  have C := Chg.of_below hb
  have M3 := Lib.hid hm3.rows
  have M23 := Lib.hid (M2.out.chg C (Nat.le_refl _) (.inr (Nat.zero_le _))).rows
  have R3 := Lib.hid (R2.out.below hb)
  have U3 := Lib.hid (Ints.below (B := 0) U2.out hb)
  have B3 := Lib.hid (B2.out.trans (hb.mono B2.out.size))
  clear hb hm3 HS R2 U2 B2 M2 C
  go_wp2_with fail
  refine (same_c w3 p2 p3 yss M23.out M3.out).mono ?_
  rintro e w4 ⟨rfl, C⟩
  have hb : Below w3.heap.size w3 w4 := Below.chg (Below.refl _ _) C (Nat.le_refl _) (.inr rfl)
  have M4 := Lib.hid (M3.out.below hb)
  have M24 := Lib.hid (M23.out.below hb)
  have R4 := Lib.hid (R3.out.below hb)
  have U4 := Lib.hid (Ints.below (B := 0) U3.out hb)
  have B4 := Lib.hid (B3.out.trans (hb.mono B3.out.size))
  clear hb R3 U3 B3 M3 M23 C
  have HYV := Lib.hid (sSwapValid_any w4 v xss R4.out)
  obtain ⟨c, hc⟩ : ∃ c, c = swOk xss := ⟨_, rfl⟩
  rw [← hc] at HYV
  have HCV := Lib.hid hc
  clear hc
  go_wp2_with fail
  refine HYV.out.mono ?_
  rintro e w' ⟨rfl, rfl⟩
  clear HYV
  have hnn : (nn == nn) = true := by simp
  cases c with
  | false =>
    go_wp2_with fail
    refine (same_c w4 p2 p3 yss M24.out M4.out).mono ?_
    rintro e w5 ⟨rfl, C⟩
    have B5 := Lib.hid (B4.out.trans ((Below.chg (Below.refl _ _) C (Nat.le_refl _) (.inr rfl)).mono B4.out.size))
    clear C
    go_wp2_with fail
    go_ret
    exact ⟨rfl, B5.out⟩
  | true =>
    have hl16 := sw_len HCV.out.symm
    obtain ⟨av, cv, rfl, hv1, hv2, hv3⟩ := R4.out
    have HVX := Lib.hid hv3
    have HL16 := Lib.hid hl16
    rw [HL16.out] at hv1 ⊢
    unfold maxLen at hv2
    obtain ⟨au, cu, rfl, hu1, hu2, hu3⟩ := U4.out
    have HUX := Lib.hid hu3
    have hl3 := HLW.out
    obtain ⟨n, hn⟩ : ∃ n, n = ws.length := ⟨_, rfl⟩
    rw [← hn] at hu1 hl3 ⊢
    have HN := Lib.hid hn
    unfold maxLen at hu2
    clear hu3 hv3 hl16 hn
    go_wp2_with fail
    go_loopw [11, 12] (fun fr j wr => ∃ k : Nat, k ≤ 16 ∧ j = .int .i64 k ∧ fr = .bool (decide (sidx xss < k)) ∧ w4 = wr) (fun _ j _ => 16 - (intOf j).toNat)
    case atStart => exact ⟨0, Nat.zero_le _, rfl, by simp, by first | trivial | rfl⟩
    case round =>
      obtain ⟨k, hk, rfl, rfl, rfl⟩ := hrel
      by_cases hlt : k < 16
      · have hlt' : (k : Int) < 16 := by omega
        by_cases hs : sidx xss < k
        · have hs1 : decide (sidx xss < k) = true := decide_eq_true hs
          have hs2 : decide (sidx xss < k + 1) = true := decide_eq_true (by omega)
          rw [hs1]
          go_wp2
          go_roundw
          case rel => exact ⟨k + 1, by omega, by go_num, by rw [hs2], by first | trivial | rfl⟩
          case measure => simp [intOf]; omega
        · have hs1 : decide (sidx xss < k) = false := decide_eq_false hs
          rw [hs1]
          obtain ⟨b', o, z1, rfl, hc, hu⟩ := HVX.out k (by rw [HL16.out]; omega)
          obtain ⟨ra, rc, rfl, hr1, hr2, -⟩ := hu
          obtain ⟨m, hm'⟩ : ∃ m, m = (xss.getD k []).length := ⟨_, rfl⟩
          rw [← hm'] at hc hr1
          have hz : ((m : Int) == 0) = decide (sidx xss < k + 1) := by
            rw [Bool.eq_iff_iff, beq_iff_eq, decide_eq_true_eq]
            constructor
            · intro hh
              have := sidx_first (k := k) (by rw [HL16.out]; exact hlt) (fun j hj => sidx_before (by omega)) (len0_iff.1 (by omega))
              omega
            · intro hh
              have he : sidx xss = k := by omega
              have := sidx_free (xss := xss) (by rw [HL16.out, he]; exact hlt)
              rw [he] at this
              rw [this] at hm'
              simp at hm'
              omega
          clear hm'
          go_wp2
          go_roundw
          case rel => exact ⟨k + 1, by omega, by go_num, by first | rw [hz] | rw [← hz] | simp only [hz], by first | trivial | rfl⟩
          case measure => simp [intOf]; omega
      · have e : k = 16 := by omega
        subst e
        clear hk hlt
        obtain ⟨F, hF⟩ : ∃ F, F = decide (sidx xss < 16) := ⟨_, rfl⟩
        rw [← hF]
        have HFR := Lib.hid hF
        clear hF HVX
        go_wp2_with fail
        go_loopw [13, 14] (fun fr j wr => ∃ (k : Nat) (c : Bool), k ≤ n ∧ j = .int .i64 k ∧ fr = .bool c ∧ Hid (c = true ↔ n = 4 ∧ ∀ i, i < k → 0 ≤ ws.getD i 0 ∧ ws.getD i 0 ≤ 9999) ∧ w4 = wr) (fun _ j _ => n - (intOf j).toNat)
        case atStart => exact ⟨0, (n : Int) == 4, Nat.zero_le _, rfl, rfl, Lib.hid (by rw [beq_iff_eq]; exact ⟨fun h => ⟨by omega, fun i hi => by omega⟩, fun h => by omega⟩), by first | trivial | rfl⟩
        case round =>
          obtain ⟨k, c, hk, rfl, rfl, HC, rfl⟩ := hrel
          by_cases hlt : k < n
          · have hlt' : (k : Int) < (n : Int) := by omega
            cases c with
            | false =>
              go_wp2
              go_roundw
              case rel => exact ⟨k + 1, false, by omega, by go_num, rfl, Lib.hid ⟨fun h => Bool.noConfusion h, fun h => HC.out.2 ⟨h.1, fun i hi => h.2 i (by omega)⟩⟩, by first | trivial | rfl⟩
              case measure => simp [intOf]; omega
            | true =>
              obtain ⟨b', o, rfl, hc⟩ := HUX.out k (by rw [← HN.out]; exact hlt)
              obtain ⟨x, hx⟩ : ∃ x, x = ws.getD k 0 := ⟨_, rfl⟩
              rw [← hx] at hc
              have HX := Lib.hid hx
              clear hx
              by_cases hx0 : x < 0
              · have hx1 : decide (0 ≤ x) = false := by rw [decide_eq_false_iff_not]; omega
                have hx1' : ¬ (0 ≤ x) := by omega
                go_wp2
                go_roundw
                case rel => exact ⟨k + 1, false, by omega, by go_num, rfl, Lib.hid ⟨fun h => Bool.noConfusion h, fun h => by have := h.2 k (by omega); rw [← HX.out] at this; omega⟩, by first | trivial | rfl⟩
                case measure => simp [intOf]; omega
              · have hx1 : decide (0 ≤ x) = true := by rw [decide_eq_true_eq]; omega
                have hx1' : 0 ≤ x := by omega
                by_cases hx9 : x ≤ 9999
                · go_wp2
                  go_roundw
                  case rel => exact ⟨k + 1, true, by omega, by go_num, rfl, Lib.hid ⟨fun _ => ⟨(HC.out.1 rfl).1, fun i hi => by
                    by_cases hik : i = k
                    · rw [hik, ← HX.out]; omega
                    · exact (HC.out.1 rfl).2 i (by omega)⟩, fun _ => rfl⟩, by first | trivial | rfl⟩
                  case measure => simp [intOf]; omega
                · have hx2 : decide (x ≤ 9999) = false := by rw [decide_eq_false_iff_not]; omega
                  go_wp2
                  go_roundw
                  case rel => exact ⟨k + 1, false, by omega, by go_num, rfl, Lib.hid ⟨fun h => Bool.noConfusion h, fun h => by have := h.2 k (by omega); rw [← HX.out] at this; omega⟩, by first | trivial | rfl⟩
                  case measure => simp [intOf]; omega
          · have e : k = n := by omega
            subst e
            have HW : Hid (wordsOk ws = c) := Lib.hid (by
              rw [Bool.eq_iff_iff, HC.out]
              unfold wordsOk
              rw [decide_eq_true_eq]
              constructor
              · intro h
                refine ⟨by rw [HN.out]; exact h.2, fun i hi => ?_⟩
                have hi' : i < ws.length := by rw [← HN.out]; exact hi
                rw [getD_lt hi']
                exact h.1 _ (List.getElem_mem hi')
              · intro h
                refine ⟨fun x hx => ?_, by rw [← HN.out]; exact h.1⟩
                obtain ⟨i, hi, rfl⟩ := List.mem_iff_getElem.1 hx
                have := h.2 i (by rw [HN.out]; exact hi)
                rwa [getD_lt hi] at this)
            have HB2 : Hid (b = (F && c)) := Lib.hid (by
              rw [HBV.out, sputB, ← HCV.out, HW.out, HL16.out, ← HFR.out]
              cases c <;> cases F <;> rfl)
            clear HBV HUX HC hk hlt
            obtain rfl := HB2.out
            cases F <;> cases c <;> (go_wp2_with fail; go_ret; exact ⟨rfl, B4.out⟩)
end Go.Proofs.Ytaalnjinocicgaa
