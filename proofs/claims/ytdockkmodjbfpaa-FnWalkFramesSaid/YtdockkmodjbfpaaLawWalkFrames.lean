/- The walk of the statement that all frames of addresses are listed, out of contracts of the program. -/
import Derived.Test.YtdockkmodjbfpaaWFrm
namespace Go.Proofs.Ytdockkmodjbfpaa
open Go.ChangeShapes Go.WideShapes Go.ChangeAt Go.RowKit
set_option linter.unusedVariables false

set_option maxHeartbeats 1000000 in
theorem walkFrames_walk (hW : ∀ (w : World) (v : Value) (xss : List (List Int)) (r a : Int), Rows2 w v xss → Calls Try.prog 13 #[v, .int .i64 r, .int .i64 a] w (WalkRes w (walkF xss r a))) (hF : ∀ (w : World) (v : Value) (xss : List (List Int)) (r : Int), Rows2 w v xss → Calls Try.prog 26 #[v, .int .i64 r] w (NewR (frmF xss r) w)) (W : World) (a : Option Addr) (len cap : Nat) (zs : List Int) (hr : Row .u8 W a len cap zs) :
    Calls Try.prog 8 #[.slice a len cap] W fun e w' => e = .returned (.bool true) ∧ Below W.heap.size W w' := by
  have HhW := Lib.hid hW
  clear hW
  have HhF := Lib.hid hF
  clear hF
  have hm := row_len hr
  by_cases hL : 1048576 < len
  · have hL1 : (1048576 : Int) < (len : Int) := by omega
    clear hr
    go_enter Try.func8, Try.ntmps8
    go_wp2_with fail
    go_ret
    exact ⟨rfl, Below.refl _ _⟩
  have hL1 : decide ((1048576 : Int) < (len : Int)) = false := by simp; omega
  have hL2 : decide (1048576 < len) = false := by simp; omega
  go_enter Try.func8, Try.ntmps8
  go_wp2_with fail
  refine (drawWalkFrames_any W a len cap zs hr).mono ?_
  clear hr
  rintro e w1 ⟨v, xss, r, hP, rfl, hR1, hS, hb1⟩
  have R1 := Lib.hid hR1
  have B1 := Lib.hid hb1
  have Z1 : W.heap.size ≤ w1.heap.size := hb1.size
  have HI := Lib.hid (HhF.out w1 v xss r hR1)
  clear hR1 hb1 hP hS
  obtain ⟨ts, hts⟩ : ∃ ts, ts = frmF xss r := ⟨_, rfl⟩
  rw [← hts] at HI
  have HTS := Lib.hid hts
  clear hts
  go_wp2_with fail
  refine HI.out.mono ?_
  rintro e w2 ⟨vo, rfl, hm2, hb2⟩
  have B2 := Lib.hid (Below.chg B1.out (Chg.of_below hb2) Z1 (.inr rfl))
  have Z2 : W.heap.size ≤ w2.heap.size := Nat.le_trans Z1 hb2.size
  have R2 := Lib.hid (R1.out.below hb2)
  have O2 := Lib.hid hm2.ints
  clear hm2 hb2 B1 R1 HI
  have HS2 := Lib.hid (sfrms_any w2 v xss r R2.out)
  rw [← HTS.out] at HS2
  go_wp2_with fail
  refine HS2.out.mono ?_
  rintro e w3 ⟨vw, rfl, h3⟩
  have B3 := Lib.hid (Below.chg B2.out (Chg.of_below h3.bel) Z2 (.inr rfl))
  have Z3 : W.heap.size ≤ w3.heap.size := Nat.le_trans Z2 h3.bel.size
  have R3 := Lib.hid (R2.out.below h3.bel)
  have O3 := Lib.hid (Ints.below (B := 0) O2.out h3.bel)
  have Q3 := Lib.hid h3.ints
  clear h3 B2 R2 O2 HS2
  go_wp2_with fail
  refine (sames_c w3 vo vw ts O3.out Q3.out).mono ?_
  rintro e w4 ⟨rfl, C4⟩
  have B4 := Lib.hid (Below.chg B3.out C4 Z3 (.inr rfl))
  have Z4 : W.heap.size ≤ w4.heap.size := B4.out.size
  have R4 := Lib.hid (Rows2.below R3.out (chg0 C4))
  have O4 := Lib.hid (Ints.below (B := 0) O3.out (chg0 C4))
  have Q4 := Lib.hid (Ints.below (B := 0) Q3.out (chg0 C4))
  clear C4 B3 R3 O3 Q3
  have HV := Lib.hid (valid_any w4 v xss R4.out)
  have HAG := Lib.hid (sames_c w4 vo vw ts O4.out Q4.out)
  by_cases hm0 : ¬ memOk xss = true
  · have hm1 : memOk xss = false := by simpa using hm0
    rw [hm1] at HV
    clear hm0 hm1
    go_wp2_with fail
    refine HV.out.mono ?_
    rintro e w' ⟨rfl, rfl⟩
    go_wp2_with fail
    refine HAG.out.mono ?_
    rintro e w5 ⟨rfl, C5⟩
    have HE := Lib.hid (Below.chg B4.out C5 Z4 (.inr rfl))
    clear C5
    go_wp2_with fail
    go_ret
    exact ⟨rfl, HE.out⟩
  replace hm0 := Decidable.not_not.1 hm0
  rw [hm0] at HV
  go_wp2_with fail
  refine HV.out.mono ?_
  rintro e w' ⟨rfl, rfl⟩
  clear HV
  by_cases hr0 : r < 0
  · have hrx : decide (r < 0) = true := by simpa using hr0
    clear hm0
    go_wp2_with fail
    refine HAG.out.mono ?_
    rintro e w5 ⟨rfl, C5⟩
    have HE := Lib.hid (Below.chg B4.out C5 Z4 (.inr rfl))
    clear C5
    go_wp2_with fail
    go_ret
    exact ⟨rfl, HE.out⟩
  have hrx : decide (r < 0) = false := by simpa using hr0
  by_cases hr1 : 12 ≤ r
  · clear hm0
    go_wp2_with fail
    refine HAG.out.mono ?_
    rintro e w5 ⟨rfl, C5⟩
    have HE := Lib.hid (Below.chg B4.out C5 Z4 (.inr rfl))
    clear C5
    go_wp2_with fail
    go_ret
    exact ⟨rfl, HE.out⟩
  have hry : decide (12 ≤ r) = false := by simpa using hr1
  have hkk : memOk xss = true ∧ 0 ≤ r ∧ r < 12 := ⟨hm0, by omega, by omega⟩
  clear HAG Q4
  have HKK := Lib.hid hkk
  have HLW : Hid (∀ a : Nat, (walkF xss r a).c = 0 → decide ((walkF xss r a).f ∈ ts) = true) := Lib.hid (fun a h => decide_eq_true (by rw [HTS.out]; exact walk_listed h))
  have HLS : Hid (∀ k, k < ts.length → decide (ts.getD k 0 ∈ seen xss r 64) = true) := Lib.hid (fun k hk => decide_eq_true (listed_walk HKK.out (by rw [← HTS.out, getD_lt hk]; exact List.getElem_mem _)))
  have HSA : Hid (∀ i, 0 < i → i < ts.length → ts.getD (i - 1) 0 < ts.getD i 0) := Lib.hid (fun i h0 h1 => by
    have e : ts = srt (flat xss (tabs xss r)) 12 := by rw [HTS.out]; unfold frmF; rw [if_pos HKK.out]; rfl
    rw [e] at h1 ⊢
    exact srt_asc _ h0 h1)
  obtain ⟨i0, hi, hz0, hz1, hz2⟩ := info_parts intInfo
  have HI0 := Lib.hid hi
  have HZ0 := Lib.hid hz0
  have HZ1 := Lib.hid hz1
  have HZ2 := Lib.hid hz2
  clear hi hz0 hz1 hz2 hkk hm0 HTS
  have HST := Lib.hid (OwnI.start w4)
  have hsn0 : seen xss r 0 = [] := by simp [seen]
  have HS0 := Lib.hid hsn0
  clear hsn0
  go_wp2_with fail
  go_loopw [7, 8] (fun u q wr => ∃ k : Nat, k ≤ 64 ∧ q = .int .i64 k ∧ OwnI w4 u (seen xss r k) wr) (fun _ q _ => 64 - (intOf q).toNat)
  case atStart => exact ⟨0, by omega, rfl, by rw [HS0.out]; exact HST.out⟩
  case round =>
    obtain ⟨k, hk, rfl, hrel⟩ := hrel
    by_cases hlt : k < 64
    · have hlt' : (k : Int) < 64 := by omega
      have HI2 := Lib.hid (HhW.out wr v xss r k (Rows2.below R4.out hrel.bel))
      have hsn := seen_succ xss r k
      have HSL := Lib.hid (seen_len xss r k)
      have hlw := HLW.out k
      obtain ⟨pf, hpf⟩ : ∃ pf, pf = walkF xss r k := ⟨_, rfl⟩
      rw [← hpf] at HI2 hsn hlw
      clear hpf
      obtain ⟨f, q, bb, c⟩ := pf
      have HREL := Lib.hid hrel
      clear hrel
      go_wp2_with fail
      refine HI2.out.mono ?_
      rintro e w7 ⟨rfl, hb7⟩
      unfold plV
      obtain ⟨w8, hw8⟩ : ∃ w8, w8 = w7.alloc (.cells #[.int .i64 f, .int .i64 q, .bool bb] 27) := ⟨_, rfl⟩
      have HU : Hid (OwnI w4 u7 (seen xss r k) w8) := Lib.hid (by
        have h1 := HREL.out.go hb7
        rw [hw8]
        exact ⟨h1.own.alloc _, h1.bel.alloc h1.bel.size _, h1.nn⟩)
      have hf8 : w8.cell? ⟨w7.heap.size, 0, none⟩ = some (.int .i64 f) := by rw [hw8]; exact new_cell rfl
      have hf8' : ∀ ob, (w8.alloc ob).cell? ⟨w7.heap.size, 0, none⟩ = some (.int .i64 f) := fun ob => (World.cell?_alloc_lt w8 ob ⟨w7.heap.size, 0, none⟩ (cell_lt hf8)).trans hf8
      have HO8 : Hid (Ints w8 vo ts) := Lib.hid (Ints.below (B := 0) O4.out HU.out.bel)
      by_cases hc : c = 0
      · subst hc
        rw [if_pos rfl] at hsn
        have HM := Lib.hid (hasInt_any w8 vo ts f HO8.out)
        rw [hlw rfl] at HM
        have HSN := Lib.hid hsn
        clear hsn hlw hb7 HREL HI2
        go_wp2_with fail
        rw [← hw8]
        refine HM.out.mono ?_
        rintro e w' ⟨rfl, rfl⟩
        have HW8 := Lib.hid hw8
        clear hw8 HM
        go_wp2_with (at_builtin; refine wpList_append_own _ rfl (.tmp 69) (.tmp 72) 34 rfl w4.heap.size 3 i0 (.int .i64 0) 1 8 Try.underlying34 HI0.out HZ0.out HZ1.out HZ2.out rfl (by decide) _ _ _ rfl (HU.out.own.alloc _) ⟨w8.heap.size, 0, none⟩ 1 1 [.int .i64 f] rfl rfl (cell_one_new _ _ _) (by intro u hu; simp at hu; subst hu; rfl) (by have := HSL.out; unfold maxLen; omega) (by have := HSL.out; omega) (by have := HU.out.bel.size; simp; omega) ?_; intro v2 w9 hown2 hgrow2 hnn2)
        have HR2 : Hid (OwnI w4 v2 (seen xss r (k + 1)) w9) := Lib.hid (by
          rw [HSN.out]
          exact HU.out.grow (zs := [f]) rfl hown2 hgrow2 (fun e => (hnn2.1 e).1))
        clear hown2 hgrow2 hnn2
        go_wp2
        go_roundw
        case rel => exact ⟨k + 1, by omega, by go_num, HR2.out⟩
        case measure => simp [intOf]; omega
      · rw [if_neg hc, List.append_nil] at hsn
        have hcn : (c == 0) = false := by simpa using hc
        have HR2 : Hid (OwnI w4 u7 (seen xss r (k + 1)) w8) := Lib.hid (by rw [hsn]; exact HU.out)
        clear hsn hlw hb7 HREL HI2 hc
        go_wp2_with fail
        rw [← hw8]
        go_roundw
        case rel => exact ⟨k + 1, by omega, by go_num, HR2.out⟩
        case measure => simp [intOf]; omega
    · have e : k = 64 := by omega
      subst e
      rw [show ((64 : Nat) : Int) = 64 from rfl]
      have hge : decide ((64 : Int) < 64) = false := by simp
      have HREL := Lib.hid hrel
      have hO := Ints.below (B := 0) O4.out hrel.bel
      have HAS := Lib.hid (ascends_any wr vo ts hO HSA.out)
      have HIN := Lib.hid (fun z => hasInt_any wr u7 (seen xss r 64) z hrel.ints)
      obtain ⟨nt, hnt⟩ : ∃ nt, nt = ts.length := ⟨_, rfl⟩
      obtain ⟨oa, oc, rfl, ho1, ho2, ho3⟩ := hO
      rw [← hnt] at ho1 ho3 HAS
      have HO3 := Lib.hid ho3
      have hnt2 : nt ≤ 9223372036854775807 := by unfold maxLen at ho2; omega
      have HNT := Lib.hid hnt
      rw [← hnt]
      clear hrel ho1 ho2 ho3 hnt
      go_wp2_with fail
      go_loopw [11] (fun q wx => ∃ k : Nat, k ≤ nt ∧ q = .int .i64 k ∧ wx = wr) (fun q _ => nt - (intOf q).toNat)
      case atStart => exact ⟨0, by omega, rfl, rfl⟩
      case round =>
        obtain ⟨k, hk, rfl, hwx⟩ := hrel
        subst hwx
        by_cases hlt : k < nt
        · have hlt' : (k : Int) < (nt : Int) := by omega
          obtain ⟨ba, oo, rfl, hck⟩ := HO3.out k hlt
          have hls := HLS.out k (by have := HNT.out; omega)
          have HM := Lib.hid (HIN.out (ts.getD k 0))
          rw [hls] at HM
          obtain ⟨z, hz⟩ : ∃ z, z = ts.getD k 0 := ⟨_, rfl⟩
          rw [← hz] at hck HM
          clear hz hls
          go_wp2_with fail
          refine HM.out.mono ?_
          rintro e w' ⟨rfl, rfl⟩
          go_wp2_with fail
          go_roundw
          case rel => exact ⟨k + 1, by omega, by go_num, trivial⟩
          case measure => simp [intOf]; omega
        · have hge : decide ((k : Int) < (nt : Int)) = false := by simp; omega
          go_wp2_with fail
          refine HAS.out.mono ?_
          rintro e w5 ⟨rfl, n5, rfl⟩
          have HE := Lib.hid (Below.chg (Below.chg B4.out (Chg.of_below HREL.out.bel) Z4 (.inr rfl)) (Chg.of_drewN wr n5) (by have := HREL.out.bel.size; omega) (.inr rfl))
          go_wp2_with fail
          go_ret
          exact ⟨rfl, HE.out⟩
end Go.Proofs.Ytdockkmodjbfpaa
