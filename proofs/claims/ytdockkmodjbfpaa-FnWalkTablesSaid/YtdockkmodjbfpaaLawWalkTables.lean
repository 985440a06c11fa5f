/- The walk of the statement that lower tables are listed, out of a contract of the program. -/
import Derived.Test.YtdockkmodjbfpaaWTab
namespace Go.Proofs.Ytdockkmodjbfpaa
open Go.ChangeShapes Go.WideShapes Go.ChangeAt Go.RowKit
set_option linter.unusedVariables false

set_option maxHeartbeats 1000000 in
theorem walkTables_walk (hT : ∀ (w : World) (v : Value) (xss : List (List Int)) (r : Int), Rows2 w v xss → Calls Try.prog 19 #[v, .int .i64 r] w (NewR (tabF xss r) w)) (W : World) (a : Option Addr) (len cap : Nat) (zs : List Int) (hr : Row .u8 W a len cap zs) :
    Calls Try.prog 7 #[.slice a len cap] W fun e w' => e = .returned (.bool true) ∧ Below W.heap.size W w' := by
  have HhT := Lib.hid hT
  clear hT
  have hm := row_len hr
  by_cases hL : 1048576 < len
  · have hL1 : (1048576 : Int) < (len : Int) := by omega
    clear hr
    go_enter Try.func7, Try.ntmps7
    go_wp2_with fail
    go_ret
    exact ⟨rfl, Below.refl _ _⟩
  have hL1 : decide ((1048576 : Int) < (len : Int)) = false := by simp; omega
  have hL2 : decide (1048576 < len) = false := by simp; omega
  go_enter Try.func7, Try.ntmps7
  go_wp2_with fail
  refine (drawWalkTables_any W a len cap zs hr).mono ?_
  clear hr
  rintro e w1 ⟨v, xss, r, hP, rfl, hR1, hS, hb1⟩
  have R1 := Lib.hid hR1
  have B1 := Lib.hid hb1
  have Z1 : W.heap.size ≤ w1.heap.size := hb1.size
  have HI := Lib.hid (HhT.out w1 v xss r hR1)
  clear hR1 hb1 hP hS
  obtain ⟨ts, hts⟩ : ∃ ts, ts = tabF xss r := ⟨_, rfl⟩
  rw [← hts] at HI
  have HTS := Lib.hid hts
  clear hts
  go_wp2_with fail
  refine HI.out.mono ?_
  rintro e w2 ⟨vo, rfl, hm2, hb2⟩
  have B2 := Lib.hid (Below.chg B1.out (Chg.of_below hb2) Z1 (.inr rfl))
  have Z2 : W.heap.size ≤ w2.heap.size := Nat.le_trans Z1 hb2.size
  have R2 := Lib.hid (R1.out.below hb2)
  have O2 := Lib.hid hm2.ints
  clear hm2 hb2 B1 R1 HI
  have HS2 := Lib.hid (stabs_any w2 v xss r R2.out)
  rw [← HTS.out] at HS2
  go_wp2_with fail
  refine HS2.out.mono ?_
  rintro e w3 ⟨vw, rfl, h3⟩
  have B3 := Lib.hid (Below.chg B2.out (Chg.of_below h3.bel) Z2 (.inr rfl))
  have Z3 : W.heap.size ≤ w3.heap.size := Nat.le_trans Z2 h3.bel.size
  have R3 := Lib.hid (R2.out.below h3.bel)
  have O3 := Lib.hid (Ints.below (B := 0) O2.out h3.bel)
  have Q3 := Lib.hid h3.ints
  clear h3 B2 R2 O2 HS2
  go_wp2_with fail
  refine (sames_c w3 vo vw ts O3.out Q3.out).mono ?_
  rintro e w4 ⟨rfl, C4⟩
  have B4 := Lib.hid (Below.chg B3.out C4 Z3 (.inr rfl))
  have Z4 : W.heap.size ≤ w4.heap.size := B4.out.size
  have R4 := Lib.hid (Rows2.below R3.out (chg0 C4))
  have O4 := Lib.hid (Ints.below (B := 0) O3.out (chg0 C4))
  have Q4 := Lib.hid (Ints.below (B := 0) Q3.out (chg0 C4))
  clear C4 B3 R3 O3 Q3
  have HV := Lib.hid (valid_any w4 v xss R4.out)
  have HAG := Lib.hid (sames_c w4 vo vw ts O4.out Q4.out)
  by_cases hm0 : ¬ memOk xss = true
  · have hm1 : memOk xss = false := by simpa using hm0
    rw [hm1] at HV
    clear hm0 hm1
    go_wp2_with fail
    refine HV.out.mono ?_
    rintro e w' ⟨rfl, rfl⟩
    go_wp2_with fail
    refine HAG.out.mono ?_
    rintro e w5 ⟨rfl, C5⟩
    have HE := Lib.hid (Below.chg B4.out C5 Z4 (.inr rfl))
    clear C5
    go_wp2_with fail
    go_ret
    exact ⟨rfl, HE.out⟩
  replace hm0 := Decidable.not_not.1 hm0
  rw [hm0] at HV
  go_wp2_with fail
  refine HV.out.mono ?_
  rintro e w' ⟨rfl, rfl⟩
  clear HV
  by_cases hr0 : r < 0
  · have hrx : decide (r < 0) = true := by simpa using hr0
    clear hm0
    go_wp2_with fail
    refine HAG.out.mono ?_
    rintro e w5 ⟨rfl, C5⟩
    have HE := Lib.hid (Below.chg B4.out C5 Z4 (.inr rfl))
    clear C5
    go_wp2_with fail
    go_ret
    exact ⟨rfl, HE.out⟩
  have hrx : decide (r < 0) = false := by simpa using hr0
  by_cases hr1 : 12 ≤ r
  · clear hm0
    go_wp2_with fail
    refine HAG.out.mono ?_
    rintro e w5 ⟨rfl, C5⟩
    have HE := Lib.hid (Below.chg B4.out C5 Z4 (.inr rfl))
    clear C5
    go_wp2_with fail
    go_ret
    exact ⟨rfl, HE.out⟩
  have hry : decide (12 ≤ r) = false := by simpa using hr1
  have hkk : memOk xss = true ∧ 0 ≤ r ∧ r < 12 := ⟨hm0, by omega, by omega⟩
  clear HAG Q4
  obtain ⟨r, rfl⟩ := Int.eq_ofNat_of_zero_le hkk.2.1
  have hr12 : (r : Int) < 12 := hkk.2.2
  have hmem := hkk.1
  have hts2 : ts = srt (named (xss.getD r [])) 12 := by
    rw [HTS.out]
    unfold tabF
    rw [if_pos hkk]
    unfold tabs rw4
    simp
  obtain ⟨row, hrow⟩ : ∃ row, row = xss.getD r [] := ⟨_, rfl⟩
  rw [← hrow] at hts2
  have HROW := Lib.hid hrow
  have HTS2 := Lib.hid hts2
  have hl4 : row.length = 4 := by rw [hrow]; exact mem_row hmem (by omega)
  have HL4 := Lib.hid hl4
  have HWB : Hid (∀ i, i < 4 → 0 ≤ row.getD i 0 ∧ row.getD i 0 ≤ 9999) := Lib.hid (fun i hi => by rw [hrow]; exact mem_word hmem (by omega) hi)
  -- the row's cells
  obtain ⟨b, o, cc, ur, rfl, hcr, hur⟩ := R4.out.row hmem (i := r) (by omega)
  rw [← hrow] at hur
  obtain ⟨ga, gc, rfl, hg1, hg2, hg3⟩ := hur
  rw [hl4] at hcr hg3 hg1
  obtain ⟨g, p, rfl, _⟩ := hg3 0 (by omega)
  have HX : Hid (∀ i, i < 4 → w4.cell? ⟨g, p + i, none⟩ = some (.int .i64 (row.getD i 0))) := Lib.hid (fun i hi => by
    obtain ⟨_, _, e0, h⟩ := hg3 i hi
    cases e0
    exact h)
  have HME : Hid (∀ i, i < 4 → goodB (row.getD i 0) → decide (row.getD i 0 / 4 ∈ ts) = true) := Lib.hid (fun i hi hg => decide_eq_true (by
    have h1 := good_frame hg
    rw [HTS2.out]
    exact mem_srt h1.1 h1.2 (named_mem (by rw [HL4.out]; exact hi) hg)))
  have HAN : Hid (∀ k, k < ts.length → anyg row (ts.getD k 0) 4 = true) := Lib.hid (fun k hk => by
    have h1 : ts.getD k 0 ∈ ts := by rw [getD_lt hk]; exact List.getElem_mem _
    have h2 : ts.getD k 0 ∈ named row := by rw [HTS2.out] at h1; exact HTS2.out ▸ (srt_mem h1).2.2
    have h3 := anyg_all h2
    rwa [HL4.out] at h3)
  have HAS := Lib.hid (ascends_any w4 vo ts O4.out (fun i h0 h1 => by rw [HTS2.out] at h1 ⊢; exact srt_asc _ h0 h1))
  obtain ⟨nt, hnt⟩ : ∃ nt, nt = ts.length := ⟨_, rfl⟩
  obtain ⟨oa, oc, rfl, ho1, ho2, ho3⟩ := O4.out
  rw [← hnt] at ho1 ho3
  have HO3 := Lib.hid ho3
  have HO1 := Lib.hid ho1
  have HO2 : Hid (nt ≤ 9223372036854775807) := Lib.hid (by unfold maxLen at ho2; omega)
  have HNT := Lib.hid hnt
  rw [← hnt]
  have HIN : Hid (∀ z, Calls Try.prog 23 #[.slice oa nt oc, .int .i64 z] w4 fun e w' => e = .returned (.bool (decide (z ∈ ts))) ∧ w4 = w') := Lib.hid (fun z => by
    have := hasInt_any w4 _ ts z O4.out
    rwa [← HNT.out] at this)
  rw [← hnt] at HAS
  clear hrow hts2 hl4 hg1 hg2 hg3 ho1 ho2 ho3 hnt O4 HTS
  go_wp2_with fail
  go_loop [7] (fun q => ∃ k : Nat, k ≤ 4 ∧ q = .int .i64 k) (fun q => 4 - (intOf q).toNat)
  case atStart => exact ⟨0, by omega, rfl⟩
  case round =>
    obtain ⟨k, hk, rfl⟩ := hrel
    by_cases hlt : k < 4
    · have hlt' : (k : Int) < 4 := by omega
      have hx := HX.out k hlt
      have hxb := HWB.out k hlt
      have hme := HME.out k hlt
      obtain ⟨x, hxx⟩ : ∃ x, x = row.getD k 0 := ⟨_, rfl⟩
      rw [← hxx] at hx hxb hme
      clear hxx
      by_cases hg : goodB x
      · have HC := Lib.hid (fun w => eI_yes x w hg)
        have HM := Lib.hid (HIN.out (x / 4))
        rw [hme hg] at HM
        obtain ⟨z, hz⟩ : ∃ z, z = x / 4 := ⟨_, rfl⟩
        rw [← hz] at HC HM
        obtain ⟨b2, hb2⟩ : ∃ b2, b2 = decide (x % 4 = 3) := ⟨_, rfl⟩
        rw [← hb2] at HC
        clear hz hb2 hg hme hxb
        go_wp2_with fail
        refine (HC.out _).mono ?_
        rintro e w' ⟨rfl, rfl⟩
        go_wp2_with fail
        refine HM.out.mono ?_
        rintro e w' ⟨rfl, rfl⟩
        go_wp2_with fail
        go_round
        case rel => exact ⟨k + 1, by omega, by go_num⟩
        case measure => simp [intOf]; omega
      · have HC := Lib.hid (fun w => eI_no x w hg (by omega) (by omega))
        clear hg hme hxb
        go_wp2_with fail
        refine (HC.out _).mono ?_
        rintro e w' ⟨rfl, rfl⟩
        go_wp2_with fail
        go_round
        case rel => exact ⟨k + 1, by omega, by go_num⟩
        case measure => simp [intOf]; omega
    · have hge : decide ((k : Int) < 4) = false := by simp; omega
      go_wp2_with fail
      clear hge
      go_loop [11] (fun q => ∃ k : Nat, k ≤ nt ∧ q = .int .i64 k) (fun q => nt - (intOf q).toNat)
      case atStart => exact ⟨0, by omega, rfl⟩
      case round =>
        obtain ⟨k, hk, rfl⟩ := hrel
        by_cases hlt : k < nt
        · have hlt' : (k : Int) < (nt : Int) := by omega
          have hk2 := HO2.out
          obtain ⟨ba, oo, rfl, hck⟩ := HO3.out k hlt
          have han := HAN.out k (by have := HNT.out; omega)
          obtain ⟨z, hz⟩ : ∃ z, z = ts.getD k 0 := ⟨_, rfl⟩
          rw [← hz] at hck han
          have HANK := Lib.hid han
          clear hz han
          go_wp2_with fail
          go_loop [12, 13] (fun s q => ∃ j : Nat, j ≤ 4 ∧ q = .int .i64 j ∧ s = .bool (anyg row z j)) (fun _ q => 4 - (intOf q).toNat)
          case atStart => exact ⟨0, by omega, rfl, by simp [anyg]⟩
          case round =>
            obtain ⟨j, hj, rfl, rfl⟩ := hrel
            by_cases hjt : j < 4
            · have hjt' : (j : Int) < 4 := by omega
              have hx := HX.out j hjt
              have hxb := HWB.out j hjt
              have hsn := anyg_succ row z j (by rw [HL4.out]; exact hjt)
              obtain ⟨x, hxx⟩ : ∃ x, x = row.getD j 0 := ⟨_, rfl⟩
              rw [← hxx] at hx hxb hsn
              obtain ⟨ab, hab⟩ : ∃ ab, ab = anyg row z j := ⟨_, rfl⟩
              rw [← hab] at hsn ⊢
              clear hxx hab
              by_cases hg : goodB x
              · rw [decide_eq_true hg] at hsn
                have HC := Lib.hid (fun w => eI_yes x w hg)
                obtain ⟨y, hy⟩ : ∃ y, y = x / 4 := ⟨_, rfl⟩
                rw [← hy] at HC hsn
                obtain ⟨b2, hb2⟩ : ∃ b2, b2 = decide (x % 4 = 3) := ⟨_, rfl⟩
                rw [← hb2] at HC
                by_cases hyz : y = z
                · have hyz' : (y == z) = true := by simpa using hyz
                  rw [hyz'] at hsn
                  have HSN : Hid (anyg row z (j + 1) = true) := Lib.hid (by rw [hsn]; simp)
                  clear hy hb2 hg hxb hyz hsn
                  cases ab <;> skip
                  all_goals
                    go_wp2_with fail
                    refine (HC.out _).mono ?_
                    rintro e w' ⟨rfl, rfl⟩
                    go_wp2_with fail
                    go_round
                    case rel => exact ⟨j + 1, by omega, by go_num, by rw [HSN.out]⟩
                    case measure => simp [intOf]; omega
                · have hyz' : (y == z) = false := by simpa using hyz
                  rw [hyz'] at hsn
                  have HSN : Hid (anyg row z (j + 1) = ab) := Lib.hid (by rw [hsn]; simp)
                  clear hy hb2 hg hxb hyz hsn
                  cases ab <;> skip
                  all_goals
                    go_wp2_with fail
                    refine (HC.out _).mono ?_
                    rintro e w' ⟨rfl, rfl⟩
                    go_wp2_with fail
                    go_round
                    case rel => exact ⟨j + 1, by omega, by go_num, by rw [HSN.out]⟩
                    case measure => simp [intOf]; omega
              · rw [decide_eq_false hg] at hsn
                have HSN : Hid (anyg row z (j + 1) = ab) := Lib.hid (by rw [hsn]; simp)
                have HC := Lib.hid (fun w => eI_no x w hg (by omega) (by omega))
                clear hg hxb hsn
                cases ab <;> skip
                all_goals
                  go_wp2_with fail
                  refine (HC.out _).mono ?_
                  rintro e w' ⟨rfl, rfl⟩
                  go_wp2_with fail
                  go_round
                  case rel => exact ⟨j + 1, by omega, by go_num, by rw [HSN.out]⟩
                  case measure => simp [intOf]; omega
            · have e : j = 4 := by omega
              subst e
              rw [HANK.out]
              go_wp2_with fail
              go_round
              case rel => exact ⟨k + 1, by omega, by go_num⟩
              case measure => simp [intOf]; omega
        · have hge : decide ((k : Int) < (nt : Int)) = false := by simp; omega
          go_wp2_with fail
          refine HAS.out.mono ?_
          rintro e w5 ⟨rfl, n5, rfl⟩
          have HE := Lib.hid (Below.chg B4.out (Chg.of_drewN w4 n5) Z4 (.inr rfl))
          go_wp2_with fail
          go_ret
          exact ⟨rfl, HE.out⟩
end Go.Proofs.Ytdockkmodjbfpaa
