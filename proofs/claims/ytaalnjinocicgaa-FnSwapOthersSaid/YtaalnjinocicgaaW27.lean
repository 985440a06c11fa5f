/- What the proofs stand on, part 27. -/
import Derived.Test.YtaalnjinocicgaaRows
import Derived.Test.YtaalnjinocicgaaW1
import Derived.Test.YtaalnjinocicgaaW2
import Derived.Test.YtaalnjinocicgaaW3
import Derived.Test.YtaalnjinocicgaaW4
import Derived.Test.YtaalnjinocicgaaW5
import Derived.Test.YtaalnjinocicgaaW6
import Derived.Test.YtaalnjinocicgaaW7
import Derived.Test.YtaalnjinocicgaaW8
import Derived.Test.YtaalnjinocicgaaW9
import Derived.Test.YtaalnjinocicgaaW10
import Derived.Test.YtaalnjinocicgaaW11
import Derived.Test.YtaalnjinocicgaaW12
import Derived.Test.YtaalnjinocicgaaW15
import Derived.Test.YtaalnjinocicgaaW17
set_option linter.unusedSimpArgs false
set_option linter.unusedVariables false
namespace Go.Proofs.Ytaalnjinocicgaa
open Go.ChangeShapes Go.WideShapes Go.ChangeAt Go.RowKit
set_option linter.unusedVariables false
set_option linter.unusedSimpArgs false
set_option maxRecDepth 100000 in
set_option maxHeartbeats 2000000 in
theorem swapOthers_walk (hISV : ISV) (hISP : ISP) (hISG : ISG) (hISD : ISD) (W : World) (a : Option Addr) (len cap : Nat) (zs : List Int) (hr : Row .u8 W a len cap zs) :
    Calls Try.prog 4 #[.slice a len cap] W fun e w' => e = .returned (.bool true) ∧ Below W.heap.size W w' := by
  have HISV := Lib.hid hISV
  have HISP := Lib.hid hISP
  have HISG := Lib.hid hISG
  have HISD := Lib.hid hISD
  clear hISV hISP hISG hISD
  have hm := row_len hr
  by_cases hL : 1048576 < len
  · have hL1 : (1048576 : Int) < (len : Int) := by omega
    clear hr
    go_enter Try.func4, Try.ntmps4
    go_wp2_with fail
    go_ret
    exact ⟨rfl, Below.refl _ _⟩
  have hL1 : decide ((1048576 : Int) < (len : Int)) = false := by simp; omega
  have hL2 : decide (1048576 < len) = false := by simp; omega
  clear hL
  go_enter Try.func4, Try.ntmps4
  go_wp2_with fail
  refine (drawSwapPut_any W a len cap zs hr).mono ?_
  clear hr
  rintro e w1 ⟨v, xss, u, ws, rfl, hu, hl4, hd⟩
  have B1 := Lib.hid hd.bel
  have R1 := Lib.hid hd.rows
  have U1 := Lib.hid hu
  have HLW := Lib.hid hl4
  have HLX := Lib.hid hd.len
  clear hd hu hl4
  have HC := Lib.hid (HISP.out w1 v u xss ws R1.out U1.out)
  have HS := Lib.hid (fun w h h' => sSwapPut_any w v u xss ws h h')
  have HYES : Hid (sputB xss ws = true → ∃ i, PutFacts xss ws (sput xss ws) (sputN xss ws) i) := Lib.hid put_yes
  obtain ⟨b, hb⟩ : ∃ b, b = sputB xss ws := ⟨_, rfl⟩
  rw [← hb] at HC HS HYES
  have HBV := Lib.hid hb
  clear hb
  generalize sput xss ws = yss at HC HS HYES
  generalize sputN xss ws = nn at HC HS HYES
  have hbb := neB b
  go_wp2_with fail
  refine HC.out.mono ?_
  rintro e w2 ⟨p2, rfl, hm2, hb⟩
  have M2 := Lib.hid hm2
  have R2 := Lib.hid (R1.out.below hb)
  have U2 := Lib.hid (Ints.below (B := 0) U1.out hb)
  have B2 := Lib.hid (B1.out.trans (hb.mono B1.out.size))
  clear hb hm2 HC R1 U1 B1
  go_wp2_with fail
  refine (HS.out w2 R2.out U2.out).mono ?_
  rintro e w3 ⟨p3, rfl, hm3, hb⟩
  have C := Chg.of_below hb
  have M3 := Lib.hid hm3.rows
  have M23 := Lib.hid (M2.out.chg C (Nat.le_refl _) (.inr (Nat.zero_le _))).rows
  have R3 := Lib.hid (R2.out.below hb)
  have U3 := Lib.hid (Ints.below (B := 0) U2.out hb)
  have B3 := Lib.hid (B2.out.trans (hb.mono B2.out.size))
  clear hb hm3 HS R2 U2 B2 M2 C
  go_wp2_with fail
  refine (same_c w3 p2 p3 yss M23.out M3.out).mono ?_
  rintro e w4 ⟨rfl, C⟩
  have hb : Below w3.heap.size w3 w4 := Below.chg (Below.refl _ _) C (Nat.le_refl _) (.inr rfl)
  have M4 := Lib.hid (M3.out.below hb)
  have M24 := Lib.hid (M23.out.below hb)
  have R4 := Lib.hid (R3.out.below hb)
  have U4 := Lib.hid (Ints.below (B := 0) U3.out hb)
  have B4 := Lib.hid (B3.out.trans (hb.mono B3.out.size))
  clear hb R3 U3 B3 M3 M23 C
  cases b with
  | false =>
    go_wp2_with fail
    refine (same_c w4 p2 p3 yss M24.out M4.out).mono ?_
    rintro e w5 ⟨rfl, C⟩
    have B5 := Lib.hid (B4.out.trans ((Below.chg (Below.refl _ _) C (Nat.le_refl _) (.inr rfl)).mono B4.out.size))
    clear C
    go_wp2_with fail
    go_ret
    exact ⟨rfl, B5.out⟩
  | true =>
    obtain ⟨i, hF⟩ := HYES.out rfl
    obtain rfl := hF.n
    have HF := Lib.hid hF
    clear hF HYES M4
    obtain ⟨av, cv, rfl, hv1, hv2, hv3⟩ := R4.out
    have HVX := Lib.hid hv3
    have HL16 := Lib.hid HF.out.len
    have HY16 : Hid (yss.length = 16) := Lib.hid (by rw [HF.out.y, List.length_set]; exact HF.out.len)
    rw [HL16.out] at hv1 ⊢
    unfold maxLen at hv2
    have hi16 := HF.out.lt
    obtain ⟨ap, cp, rfl, hp1, hp2, hp3⟩ := M24.out
    have HPX := Lib.hid hp3
    rw [HY16.out] at hp1 ⊢
    unfold maxLen at hp2
    clear hv3 hp3
    go_wp2_with fail
    go_loopw [11] (fun j wr => ∃ k : Nat, k ≤ 16 ∧ j = .int .i64 k ∧ Hid (Below w4.heap.size w4 wr)) (fun j _ => 16 - (intOf j).toNat)
    case atStart => exact ⟨0, Nat.zero_le _, rfl, Lib.hid (Below.refl _ _)⟩
    case round =>
      obtain ⟨k, hk, rfl, hbl⟩ := hrel
      by_cases hlt : k < 16
      · have hlt' : (k : Int) < 16 := by omega
        by_cases he : k = i
        · have he' : ((k : Int) == (i : Int)) = true := by rw [beq_iff_eq]; omega
          have he2 : ((k : Int) != (i : Int)) = false := by rw [bne, he']; rfl
          have he3 : decide ((k : Int) = (i : Int)) = true := by rw [decide_eq_true_eq]; omega
          go_wp2_with fail
          refine wp_region_held_drew (S := fun _ => True) (by kernel_rfl) trivial (fun hHeld => ?_)
          refine wpAnyH_take (i := 0) (oi := { dst := some 71, op := .move (.tmp 11), type := _, pos := _, after := _, guard := none }) (v := .int .i64 (k : Int)) rfl (by kernel_rfl) (by kernel_rfl) (by kernel_rfl) (fun _ _ _ h => h) (Or.inl ⟨by rfl, fun wh hSw => ?_⟩) hHeld ?_
          · go_simp
          try simp only [Act.put, List.setIfInBounds_toArray, List.set_cons_zero, List.set_cons_succ]
          refine wpAnyH_take (i := 1) (oi := { dst := some 72, op := .move (.tmp 6), type := _, pos := _, after := _, guard := none }) (v := .int .i64 (i : Int)) rfl (by kernel_rfl) (by kernel_rfl) (by kernel_rfl) (fun _ _ _ h => h) (Or.inl ⟨by rfl, fun wh hSw => ?_⟩) hHeld ?_
          · go_simp
          try simp only [Act.put, List.setIfInBounds_toArray, List.set_cons_zero, List.set_cons_succ]
          refine wpAnyH_take (i := 2) (oi := { dst := some 73, op := .binOp .neq 3 (.tmp 71) (.tmp 72) 3, type := _, pos := _, after := _, guard := none }) (v := .bool false) rfl (by kernel_rfl) (by kernel_rfl) (by kernel_rfl) (fun _ _ _ h => h) (Or.inl ⟨by rfl, fun wh hSw => ?_⟩) hHeld ?_
          · go_simp
          try simp only [Act.put, List.setIfInBounds_toArray, List.set_cons_zero, List.set_cons_succ]
          refine wpAnyH_take (i := 3) (oi := { dst := some 74, op := .move (.tmp 73), type := _, pos := _, after := _, guard := none }) (v := .bool false) rfl (by kernel_rfl) (by kernel_rfl) (by kernel_rfl) (fun _ _ _ h => h) (Or.inl ⟨by rfl, fun wh hSw => ?_⟩) hHeld ?_
          · go_simp
          try simp only [Act.put, List.setIfInBounds_toArray, List.set_cons_zero, List.set_cons_succ]
          refine wpAnyH_take (i := 4) (oi := { dst := some 75, op := .move (.tmp 3), type := _, pos := _, after := _, guard := some (3, true) }) (v := undef) rfl (by kernel_rfl) (by kernel_rfl) (by kernel_rfl) (fun _ _ _ h => h) (Or.inr ⟨by rfl, rfl⟩) hHeld ?_
          try simp only [Act.put, List.setIfInBounds_toArray, List.set_cons_zero, List.set_cons_succ]
          refine wpAnyH_take (i := 5) (oi := { dst := some 76, op := .move (.tmp 11), type := _, pos := _, after := _, guard := some (3, true) }) (v := undef) rfl (by kernel_rfl) (by kernel_rfl) (by kernel_rfl) (fun _ _ _ h => h) (Or.inr ⟨by rfl, rfl⟩) hHeld ?_
          try simp only [Act.put, List.setIfInBounds_toArray, List.set_cons_zero, List.set_cons_succ]
          refine wpAnyH_take (i := 6) (oi := { dst := some 77, op := .indexAddr 23 (.tmp 75) (.tmp 76), type := _, pos := _, after := _, guard := some (3, true) }) (v := undef) rfl (by kernel_rfl) (by kernel_rfl) (by kernel_rfl) (fun _ _ _ h => h) (Or.inr ⟨by rfl, rfl⟩) hHeld ?_
          try simp only [Act.put, List.setIfInBounds_toArray, List.set_cons_zero, List.set_cons_succ]
          refine wpAnyH_take (i := 7) (oi := { dst := some 78, op := .load 24 (.tmp 77), type := _, pos := _, after := _, guard := some (3, true) }) (v := undef) rfl (by kernel_rfl) (by kernel_rfl) (by kernel_rfl) (fun _ _ _ h => h) (Or.inr ⟨by rfl, rfl⟩) hHeld ?_
          try simp only [Act.put, List.setIfInBounds_toArray, List.set_cons_zero, List.set_cons_succ]
          refine wpAnyH_take (i := 8) (oi := { dst := some 79, op := .move (.tmp 5), type := _, pos := _, after := _, guard := some (3, true) }) (v := undef) rfl (by kernel_rfl) (by kernel_rfl) (by kernel_rfl) (fun _ _ _ h => h) (Or.inr ⟨by rfl, rfl⟩) hHeld ?_
          try simp only [Act.put, List.setIfInBounds_toArray, List.set_cons_zero, List.set_cons_succ]
          refine wpAnyH_take (i := 9) (oi := { dst := some 80, op := .move (.tmp 11), type := _, pos := _, after := _, guard := some (3, true) }) (v := undef) rfl (by kernel_rfl) (by kernel_rfl) (by kernel_rfl) (fun _ _ _ h => h) (Or.inr ⟨by rfl, rfl⟩) hHeld ?_
          try simp only [Act.put, List.setIfInBounds_toArray, List.set_cons_zero, List.set_cons_succ]
          refine wpAnyH_take (i := 10) (oi := { dst := some 81, op := .indexAddr 23 (.tmp 79) (.tmp 80), type := _, pos := _, after := _, guard := some (3, true) }) (v := undef) rfl (by kernel_rfl) (by kernel_rfl) (by kernel_rfl) (fun _ _ _ h => h) (Or.inr ⟨by rfl, rfl⟩) hHeld ?_
          try simp only [Act.put, List.setIfInBounds_toArray, List.set_cons_zero, List.set_cons_succ]
          refine wpAnyH_take (i := 11) (oi := { dst := some 82, op := .load 24 (.tmp 81), type := _, pos := _, after := _, guard := some (3, true) }) (v := undef) rfl (by kernel_rfl) (by kernel_rfl) (by kernel_rfl) (fun _ _ _ h => h) (Or.inr ⟨by rfl, rfl⟩) hHeld ?_
          try simp only [Act.put, List.setIfInBounds_toArray, List.set_cons_zero, List.set_cons_succ]
          refine wpAnyH_take (i := 12) (oi := { dst := some 83, op := .call { callee := .value (.func 18), args := #[.tmp 78, .tmp 82], argTypes := #[24, 24] }, type := _, pos := _, after := _, guard := some (3, true) }) (v := undef) rfl (by kernel_rfl) (by kernel_rfl) (by kernel_rfl) (fun _ _ _ h => h) (Or.inr ⟨by rfl, rfl⟩) hHeld ?_
          try simp only [Act.put, List.setIfInBounds_toArray, List.set_cons_zero, List.set_cons_succ]
          refine wpAnyH_take (i := 13) (oi := { dst := some 84, op := .unOp .not 4 (.tmp 83), type := _, pos := _, after := _, guard := some (3, true) }) (v := undef) rfl (by kernel_rfl) (by kernel_rfl) (by kernel_rfl) (fun _ _ _ h => h) (Or.inr ⟨by rfl, rfl⟩) hHeld ?_
          try simp only [Act.put, List.setIfInBounds_toArray, List.set_cons_zero, List.set_cons_succ]
          refine wpAnyH_take (i := 14) (oi := { dst := some 85, op := .pick (.tmp 74) (.tmp 84) (.const (.bool false)), type := _, pos := _, after := _, guard := none }) (v := .bool false) rfl (by kernel_rfl) (by kernel_rfl) (by kernel_rfl) (fun _ _ _ h => h) (Or.inl ⟨by rfl, fun wh hSw => ?_⟩) hHeld ?_
          · go_simp
          try simp only [Act.put, List.setIfInBounds_toArray, List.set_cons_zero, List.set_cons_succ]
          refine wpAnyH_done (by kernel_rfl) ?_ _
          go_wp2_with fail
          go_roundw
          case rel => exact ⟨k + 1, by omega, by go_num, Lib.hid (hbl.out.trans ((Below.refl _ _).drew.mono hbl.out.size))⟩
          case measure => simp [intOf]; omega
        · have he' : ((k : Int) == (i : Int)) = false := by rw [beq_eq_false_iff_ne]; omega
          have he2 : ((k : Int) != (i : Int)) = true := by rw [bne, he']; rfl
          have he3 : decide ((k : Int) = (i : Int)) = false := by rw [decide_eq_false_iff_not]; omega
          obtain ⟨b, o, z1, rfl, hc, hu⟩ := HVX.out k (by rw [HL16.out]; omega)
          obtain ⟨b', o', z2, rfl, hc', hu'⟩ := HPX.out k (by rw [HY16.out]; omega)
          have HR1 := Lib.hid (show Rows2 wr (.slice (some ⟨b, o, none⟩) 16 cv) xss by have := R4.out.below hbl.out; rw [HL16.out] at this; exact this)
          have HU1 := Lib.hid (Ints.below (B := 0) hu hbl.out)
          have HU2 := Lib.hid (Ints.below (B := 0) hu' hbl.out)
          have hc1 : wr.cell? ⟨b, o + k, none⟩ = some z1 := (World.cell?_of_block (hbl.out.block b (cell_lt hc))).trans hc
          have hc2 : wr.cell? ⟨b', o' + k, none⟩ = some z2 := (World.cell?_of_block (hbl.out.block b' (cell_lt hc'))).trans hc'
          have heq : yss.getD k [] = xss.getD k [] := by rw [HF.out.y, getD_set, if_neg (by omega)]
          rw [heq] at HU2
          clear hc hc' hu hu' heq HVX HPX
          go_wp2_with fail
          refine wp_region_held_drew (S := fun w' => w'.cell? ⟨b, o + k, none⟩ = some z1 ∧ w'.cell? ⟨b', o' + k, none⟩ = some z2) (by kernel_rfl) ⟨hc1, hc2⟩ (fun hHeld => ?_)
          refine wpAnyH_take (i := 0) (oi := { dst := some 71, op := .move (.tmp 11), type := _, pos := _, after := _, guard := none }) (v := .int .i64 (k : Int)) rfl (by kernel_rfl) (by kernel_rfl) (by kernel_rfl) (fun _ _ _ h => h) (Or.inl ⟨by rfl, fun wh hSw => ?_⟩) hHeld ?_
          · (obtain ⟨s1, s2⟩ := hSw; go_simp)
          try simp only [Act.put, List.setIfInBounds_toArray, List.set_cons_zero, List.set_cons_succ]
          refine wpAnyH_take (i := 1) (oi := { dst := some 72, op := .move (.tmp 6), type := _, pos := _, after := _, guard := none }) (v := .int .i64 (i : Int)) rfl (by kernel_rfl) (by kernel_rfl) (by kernel_rfl) (fun _ _ _ h => h) (Or.inl ⟨by rfl, fun wh hSw => ?_⟩) hHeld ?_
          · (obtain ⟨s1, s2⟩ := hSw; go_simp)
          try simp only [Act.put, List.setIfInBounds_toArray, List.set_cons_zero, List.set_cons_succ]
          refine wpAnyH_take (i := 2) (oi := { dst := some 73, op := .binOp .neq 3 (.tmp 71) (.tmp 72) 3, type := _, pos := _, after := _, guard := none }) (v := .bool true) rfl (by kernel_rfl) (by kernel_rfl) (by kernel_rfl) (fun _ _ _ h => h) (Or.inl ⟨by rfl, fun wh hSw => ?_⟩) hHeld ?_
          · (obtain ⟨s1, s2⟩ := hSw; go_simp)
          try simp only [Act.put, List.setIfInBounds_toArray, List.set_cons_zero, List.set_cons_succ]
          refine wpAnyH_take (i := 3) (oi := { dst := some 74, op := .move (.tmp 73), type := _, pos := _, after := _, guard := none }) (v := .bool true) rfl (by kernel_rfl) (by kernel_rfl) (by kernel_rfl) (fun _ _ _ h => h) (Or.inl ⟨by rfl, fun wh hSw => ?_⟩) hHeld ?_
          · (obtain ⟨s1, s2⟩ := hSw; go_simp)
          try simp only [Act.put, List.setIfInBounds_toArray, List.set_cons_zero, List.set_cons_succ]
          refine wpAnyH_take (i := 4) (oi := { dst := some 75, op := .move (.tmp 3), type := _, pos := _, after := _, guard := some (3, true) }) (v := .slice (some ⟨b, o, none⟩) 16 cv) rfl (by kernel_rfl) (by kernel_rfl) (by kernel_rfl) (fun _ _ _ h => h) (Or.inl ⟨by rfl, fun wh hSw => ?_⟩) hHeld ?_
          · (obtain ⟨s1, s2⟩ := hSw; go_simp)
          try simp only [Act.put, List.setIfInBounds_toArray, List.set_cons_zero, List.set_cons_succ]
          refine wpAnyH_take (i := 5) (oi := { dst := some 76, op := .move (.tmp 11), type := _, pos := _, after := _, guard := some (3, true) }) (v := .int .i64 (k : Int)) rfl (by kernel_rfl) (by kernel_rfl) (by kernel_rfl) (fun _ _ _ h => h) (Or.inl ⟨by rfl, fun wh hSw => ?_⟩) hHeld ?_
          · (obtain ⟨s1, s2⟩ := hSw; go_simp)
          try simp only [Act.put, List.setIfInBounds_toArray, List.set_cons_zero, List.set_cons_succ]
          refine wpAnyH_take (i := 6) (oi := { dst := some 77, op := .indexAddr 23 (.tmp 75) (.tmp 76), type := _, pos := _, after := _, guard := some (3, true) }) (v := .pointer (some ⟨b, o + k, none⟩)) rfl (by kernel_rfl) (by kernel_rfl) (by kernel_rfl) (fun _ _ _ h => h) (Or.inl ⟨by rfl, fun wh hSw => ?_⟩) hHeld ?_
          · (obtain ⟨s1, s2⟩ := hSw; go_simp)
          try simp only [Act.put, List.setIfInBounds_toArray, List.set_cons_zero, List.set_cons_succ]
          refine wpAnyH_take (i := 7) (oi := { dst := some 78, op := .load 24 (.tmp 77), type := _, pos := _, after := _, guard := some (3, true) }) (v := z1) rfl (by kernel_rfl) (by kernel_rfl) (by kernel_rfl) (fun _ _ _ h => h) (Or.inl ⟨by rfl, fun wh hSw => ?_⟩) hHeld ?_
          · (obtain ⟨s1, s2⟩ := hSw; go_simp)
          try simp only [Act.put, List.setIfInBounds_toArray, List.set_cons_zero, List.set_cons_succ]
          refine wpAnyH_take (i := 8) (oi := { dst := some 79, op := .move (.tmp 5), type := _, pos := _, after := _, guard := some (3, true) }) (v := .slice (some ⟨b', o', none⟩) 16 cp) rfl (by kernel_rfl) (by kernel_rfl) (by kernel_rfl) (fun _ _ _ h => h) (Or.inl ⟨by rfl, fun wh hSw => ?_⟩) hHeld ?_
          · (obtain ⟨s1, s2⟩ := hSw; go_simp)
          try simp only [Act.put, List.setIfInBounds_toArray, List.set_cons_zero, List.set_cons_succ]
          refine wpAnyH_take (i := 9) (oi := { dst := some 80, op := .move (.tmp 11), type := _, pos := _, after := _, guard := some (3, true) }) (v := .int .i64 (k : Int)) rfl (by kernel_rfl) (by kernel_rfl) (by kernel_rfl) (fun _ _ _ h => h) (Or.inl ⟨by rfl, fun wh hSw => ?_⟩) hHeld ?_
          · (obtain ⟨s1, s2⟩ := hSw; go_simp)
          try simp only [Act.put, List.setIfInBounds_toArray, List.set_cons_zero, List.set_cons_succ]
          refine wpAnyH_take (i := 10) (oi := { dst := some 81, op := .indexAddr 23 (.tmp 79) (.tmp 80), type := _, pos := _, after := _, guard := some (3, true) }) (v := .pointer (some ⟨b', o' + k, none⟩)) rfl (by kernel_rfl) (by kernel_rfl) (by kernel_rfl) (fun _ _ _ h => h) (Or.inl ⟨by rfl, fun wh hSw => ?_⟩) hHeld ?_
          · (obtain ⟨s1, s2⟩ := hSw; go_simp)
          try simp only [Act.put, List.setIfInBounds_toArray, List.set_cons_zero, List.set_cons_succ]
          refine wpAnyH_take (i := 11) (oi := { dst := some 82, op := .load 24 (.tmp 81), type := _, pos := _, after := _, guard := some (3, true) }) (v := z2) rfl (by kernel_rfl) (by kernel_rfl) (by kernel_rfl) (fun _ _ _ h => h) (Or.inl ⟨by rfl, fun wh hSw => ?_⟩) hHeld ?_
          · (obtain ⟨s1, s2⟩ := hSw; go_simp)
          try simp only [Act.put, List.setIfInBounds_toArray, List.set_cons_zero, List.set_cons_succ]
          refine wpAnyH_ready (rs := [12]) (by kernel_rfl) (by simp) ?_
          refine AllReadyH.cons (o := { dst := some 83, op := .call { callee := .value (.func 18), args := #[.tmp 78, .tmp 82], argTypes := #[24, 24] }, type := _, pos := _, after := _, guard := some (3, true) }) rfl (fun K hK => ?_) AllReadyH.nil
          go_simp
          refine (sameI_c _ z1 z2 (xss.getD k []) (Ints.below (B := 0) HU1.out (Below.refl _ _).drew) (Ints.below (B := 0) HU2.out (Below.refl _ _).drew)).mono ?_
          rintro e w9 ⟨rfl, C⟩
          have hb : Below wr.heap.size wr w9 := (Below.refl _ _).drew.trans (Below.chg (Below.refl _ _) C (Nat.le_refl _) (.inr rfl))
          have HC9 : Hid (w9.cell? ⟨b, o + k, none⟩ = some z1 ∧ w9.cell? ⟨b', o' + k, none⟩ = some z2) := Lib.hid ⟨(World.cell?_of_block (hb.block b (cell_lt hc1))).trans hc1, (World.cell?_of_block (hb.block b' (cell_lt hc2))).trans hc2⟩
          have HB9 := Lib.hid (hbl.out.trans (hb.mono hbl.out.size))
          clear hb C
          refine hK.out _ _ ?_ (fun hHeld => ?_)
          · exact HC9.out
          clear hK K
          try simp only [Act.put, List.setIfInBounds_toArray, List.set_cons_zero, List.set_cons_succ]
          refine wpAnyH_take (i := 13) (oi := { dst := some 84, op := .unOp .not 4 (.tmp 83), type := _, pos := _, after := _, guard := some (3, true) }) (v := .bool false) rfl (by kernel_rfl) (by kernel_rfl) (by kernel_rfl) (fun _ _ _ h => h) (Or.inl ⟨by rfl, fun wh hSw => ?_⟩) hHeld ?_
          · (obtain ⟨s1, s2⟩ := hSw; go_simp)
          try simp only [Act.put, List.setIfInBounds_toArray, List.set_cons_zero, List.set_cons_succ]
          refine wpAnyH_take (i := 14) (oi := { dst := some 85, op := .pick (.tmp 74) (.tmp 84) (.const (.bool false)), type := _, pos := _, after := _, guard := none }) (v := .bool false) rfl (by kernel_rfl) (by kernel_rfl) (by kernel_rfl) (fun _ _ _ h => h) (Or.inl ⟨by rfl, fun wh hSw => ?_⟩) hHeld ?_
          · (obtain ⟨s1, s2⟩ := hSw; go_simp)
          try simp only [Act.put, List.setIfInBounds_toArray, List.set_cons_zero, List.set_cons_succ]
          refine wpAnyH_done (by kernel_rfl) ?_ _
          go_wp2_with fail
          go_roundw
          case rel => exact ⟨k + 1, by omega, by go_num, HB9⟩
          case measure => simp [intOf]; omega
      · have e : k = 16 := by omega
        subst e
        go_wp2_with fail
        go_ret
        exact ⟨rfl, B4.out.trans (hbl.out.mono B4.out.size)⟩
end Go.Proofs.Ytaalnjinocicgaa
