/- The walk of the statement that translations of an environment are forgotten, out of a contract of the program. -/
import Derived.Test.YtklclcbhghjjfaaLawCacheFD
namespace Go.Proofs.Ytklclcbhghjjfaa
open Go.ChangeShapes Go.WideShapes Go.ChangeAt Go.RowKit
set_option linter.unusedVariables false

set_option maxRecDepth 100000 in
set_option maxHeartbeats 2000000 in
theorem cacheDrop_walk (hD : CDrop) (W : World) (a : Option Addr) (len cap : Nat) (zs : List Int) (hr : Row .u8 W a len cap zs) :
    Calls Try.prog 6 #[.slice a len cap] W fun e w' => e = .returned (.bool true) ∧ Below W.heap.size W w' := by
  have HDR := Lib.hid hD
  clear hD
  obtain ⟨i0, hi, hz0, hz1, hz2⟩ := info_parts cvInfo
  have HI := Lib.hid hi
  have HZ0 := Lib.hid hz0
  have HZ1 := Lib.hid hz1
  have HZ2 := Lib.hid hz2
  clear hi hz0 hz1 hz2
  have hm := row_len hr
  by_cases hL : 1048576 < len
  · have hL1 : (1048576 : Int) < (len : Int) := by omega
    clear hr
    go_enter Try.func6, Try.ntmps6
    go_wp2_with fail
    go_ret
    exact ⟨rfl, Below.refl _ _⟩
  have hL1 : decide ((1048576 : Int) < (len : Int)) = false := by simp; omega
  have hL2 : decide (1048576 < len) = false := by simp; omega
  go_enter Try.func6, Try.ntmps6
  go_wp2_with fail
  refine (drawCacheDrop_any W a len cap zs hr).mono ?_
  clear hr
  rintro e w1 ⟨v, xs, n, hn, rfl, hD⟩
  have B1 := Lib.hid hD.bel
  have R1 := Lib.hid hD.cs
  clear hD hn
  have HC := Lib.hid (HDR.out w1 v xs n R1.out)
  have HDF := Lib.hid (fun h : cOk xs = true => show dropF xs n = drp xs n by unfold dropF; rw [if_pos h])
  have HS := Lib.hid (fun w => fun h : Cs w v xs => cDrop_any w v xs n h)
  have HVA := Lib.hid (fun w => fun h : Cs w v xs => cValid_any w v xs h)
  obtain ⟨ok, hok⟩ : ∃ ok, ok = cOk xs := ⟨_, rfl⟩
  obtain ⟨ys, hys⟩ : ∃ ys, ys = dropF xs n := ⟨_, rfl⟩
  rw [← hok] at HVA HDF
  rw [← hys] at HC HS HDF
  have HLN := Lib.hid (fun h : ok = true => cOk_len (xs := xs) (by rw [← hok]; exact h))
  clear hys hok
  go_wp2_with fail
  refine HC.out.mono ?_
  rintro e w2 ⟨v2, rfl, h2, hb2⟩
  have R2 := Lib.hid (R1.out.below hb2)
  have B2 := Lib.hid (B1.out.trans (hb2.mono B1.out.size))
  have O2 := Lib.hid h2.cs
  clear h2 hb2 HC R1 B1
  go_wp2_with fail
  refine (HS.out w2 R2.out).mono ?_
  rintro e w3 ⟨v3, rfl, h3⟩
  have R3 := Lib.hid (R2.out.below h3.bel)
  have B3 := Lib.hid (B2.out.trans (h3.bel.mono B2.out.size))
  have P3 := Lib.hid (O2.out.below h3.bel)
  have HSA := Lib.hid (fun w => fun h : Below w3.heap.size w3 w => sameCache_any w v2 v3 ys ys (P3.out.below h) (h3.cs.below h))
  rw [decide_eq_true (rfl : ys = ys)] at HSA
  clear h3 R2 B2 O2 HS
  go_wp2_with fail
  refine (HSA.out w3 (Below.refl _ _)).mono ?_
  rintro e w4 ⟨rfl, hb4⟩
  have R4 := Lib.hid (R3.out.below hb4)
  have P4 := Lib.hid (P3.out.below hb4)
  have B4 := Lib.hid (B3.out.trans (hb4.mono B3.out.size))
  have B34 := Lib.hid hb4
  clear hb4 R3 B3 P3
  go_wp2_with fail
  refine (HVA.out w4 R4.out).mono ?_
  rintro e w5 ⟨rfl, hb5⟩
  have R5 := Lib.hid (R4.out.below hb5)
  have P5 := Lib.hid (P4.out.below hb5)
  have B5 := Lib.hid (B4.out.trans (hb5.mono B4.out.size))
  have B35 := Lib.hid (B34.out.trans (hb5.mono B34.out.size))
  clear hb5 R4 B4 P4 B34 HVA
  cases ok
  · go_wp2_with fail
    refine (HSA.out w5 B35.out).mono ?_
    rintro e w6 ⟨rfl, hb6⟩
    have B6 := Lib.hid (B5.out.trans (hb6.mono B5.out.size))
    clear hb6
    go_wp2_with fail
    go_ret
    exact ⟨rfl, B6.out⟩
  · have hE := HDF.out rfl
    have hl4 := HLN.out rfl
    subst hE
    clear HSA B35 HDF HLN
    obtain ⟨oa, oc, rfl, hc1, hc2, hc3⟩ := R5.out
    unfold maxLen at hc2
    have H3 := Lib.hid hc3
    obtain ⟨m, hm'⟩ : ∃ m, m = xs.length := ⟨_, rfl⟩
    have HM := Lib.hid hm'
    rw [← hm'] at hc1 hl4 ⊢
    clear hc3 hm'
    go_wp2_with fail
    go_loopw [7, 8] (fun u i wr => ∃ k : Nat, k ≤ m ∧ i = .int .i64 k ∧ OwnC w5 u (drp (xs.take k) n) wr) (fun _ i _ => m - (intOf i).toNat)
    case atStart => exact ⟨0, Nat.zero_le _, rfl, OwnC.start w5⟩
    case round =>
      obtain ⟨k, hk, rfl, hrel⟩ := hrel
      by_cases hlt : k < m
      · obtain ⟨b, o, rfl, hf0⟩ := H3.out k (by have := HM.out; omega)
        have hsn := drp_snoc xs n k (by have := HM.out; omega)
        obtain ⟨x, hx⟩ : ∃ x, x = xs.getD k c0 := ⟨_, rfl⟩
        rw [← hx] at hf0 hsn
        obtain ⟨g0, g1, g2, g3⟩ := hf0.below hrel.bel (block_lt_of_cell hf0.c0)
        have HNL : Hid ((drp (xs.take k) n).length ≤ k) := Lib.hid (by
          have := drp_len (xs.take k) n
          rw [List.length_take] at this
          omega)
        have HSN := Lib.hid hsn
        have HREL := Lib.hid hrel
        clear hsn hrel hx hf0
        by_cases he : x.e = n
        · rw [if_pos he, List.append_nil] at HSN
          have he' : (x.e != n) = false := by simpa using he
          have HR2 : Hid (OwnC w5 u7 (drp (xs.take (k + 1)) n) wr) := Lib.hid (by rw [HSN.out]; exact HREL.out)
          clear he
          go_wp2_with fail
          go_roundw
          case rel => exact ⟨k + 1, by omega, by go_num, HR2.out⟩
          case measure => simp [intOf]; omega
        · rw [if_neg he] at HSN
          have he' : (x.e != n) = true := by simpa using he
          clear he
          go_wp2_with (at_builtin; refine wpList_append_own _ rfl (.tmp 49) (.tmp 54) 23 rfl w5.heap.size 25 i0 (.agg #[.int .i64 0, .int .i64 0, .int .i64 0, .bool false]) 4 32 Try.underlying23 HI.out HZ0.out HZ1.out HZ2.out rfl (by decide) _ _ _ rfl (HREL.out.own.alloc _) ⟨wr.heap.size, 0, none⟩ 1 1 (cvC x) rfl rfl (cell_four_new _ _ _) (by intro u hu; simp [cvC] at hu; rcases hu with rfl | rfl | rfl | rfl <;> rfl) (by have := HNL.out; unfold maxLen; omega) (by have := HNL.out; omega) (by have := HREL.out.bel.size; simp; omega) ?_; intro v4 w6 hown2 hgrow2 hnn2)
          have HR2 : Hid (OwnC w5 v4 (drp (xs.take (k + 1)) n) w6) := Lib.hid (by
            rw [HSN.out]
            exact HREL.out.grow (zs := [x]) rfl (by rw [show csC [x] = cvC x from by simp [csC]]; exact hown2) hgrow2 (fun e => (hnn2.1 e).1))
          clear hown2 hgrow2 hnn2
          go_wp2_with fail
          go_roundw
          case rel => exact ⟨k + 1, by omega, by go_num, HR2.out⟩
          case measure => simp [intOf]; omega
      · have ek : k = m := by omega
        subst ek
        rw [take_all HM.out] at hrel
        have HSE := Lib.hid (sameCache_any wr v2 _ (drp xs n) (drp xs n) (P5.out.below hrel.bel) hrel.cs)
        rw [decide_eq_true (rfl : drp xs n = drp xs n)] at HSE
        have B6 := Lib.hid (B5.out.trans (hrel.bel.mono B5.out.size))
        clear hrel
        go_wp2_with fail
        refine HSE.out.mono ?_
        rintro e w7 ⟨rfl, hb7⟩
        have B7 := Lib.hid (B6.out.trans (hb7.mono B6.out.size))
        clear hb7
        go_wp2_with fail
        go_ret
        exact ⟨rfl, B7.out⟩
end Go.Proofs.Ytklclcbhghjjfaa
