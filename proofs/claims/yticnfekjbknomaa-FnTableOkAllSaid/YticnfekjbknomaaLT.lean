/- The walks of the first statements on tables, out of contracts of the program. -/
import Derived.Test.YticnfekjbknomaaMg8
import Derived.Test.YticnfekjbknomaaMg5
namespace Go.Proofs.Yticnfekjbknomaa
open Go.ChangeShapes Go.WideShapes Go.ChangeAt Go.RowKit
set_option linter.unusedVariables false

/-- the drawn arguments; nothing that was there before the draw has changed -/
structure Arg5 (W : World) (vm vl vr : Value) (xss : List (List Int)) (ys : List IV) (rs : List Bs) (w : World) : Prop where
  m : Rows2 w vm xss
  i : Is w vl ys
  s : Strs w vr rs
  b : Below W.heap.size W w
theorem Arg5.go {W w w' : World} {vm vl vr : Value} {xss : List (List Int)} {ys : List IV} {rs : List Bs} (h : Arg5 W vm vl vr xss ys rs w) (hb : Below w.heap.size w w') : Arg5 W vm vl vr xss ys rs w' :=
  ⟨h.m.below hb, h.i.below hb, h.s.below hb, h.b.trans (hb.mono h.b.size)⟩
theorem Arg5.of {W w : World} {vm vl vr : Value} {xss : List (List Int)} {ys : List IV} {rs : List Bs} (h : DTab W vm vl xss ys w) (hs : Strs w vr rs) : Arg5 W vm vl vr xss ys rs w := ⟨h.mem, h.inf, hs, h.bel⟩
theorem strs_nil (w : World) : Strs w (.slice none 0 0) [] := ⟨none, 0, rfl, Nat.le_refl _, Nat.zero_le _, fun i hi => by simp at hi⟩
theorem Arg5.two {W w : World} {vm vl : Value} {xss : List (List Int)} {ys : List IV} (h : DTab W vm vl xss ys w) : Arg5 W vm vl (.slice none 0 0) xss ys [] w := ⟨h.mem, h.inf, strs_nil w, h.bel⟩
theorem beqB (b : Bool) : (b == b) = true := by simp
theorem beqI (n : Int) : (n == n) = true := by simp
/-- what a good word of a table tells -/
theorem tok8_word {xss : List (List Int)} {ys : List IV} {f k : Int} {rs : List Bs} (h : tok8 xss ys f k rs = true) {i : Nat} (hi : i < 4) (hg : goodB (wd xss f.toNat i)) :
    ∃ j : Nat, wd xss f.toNat i / 4 = (j : Int) ∧ j < 12 ∧ (j : Int) ≠ f ∧ (ys.getD j iz).k = tneeds k ∧ rmay rs (ys.getD j iz).g = true := by
  obtain ⟨h1, h2, h3, h4⟩ := tok8_iff.1 h
  obtain ⟨e1, e2, e3⟩ := tent_good (h4 i hi) hg
  obtain ⟨_, _, hok⟩ := targ_iff.1 h1
  have hfr := good_frame hg
  refine ⟨fr (wd xss f.toNat i), by unfold fr; omega, by unfold fr; omega, by unfold fr; omega, by rw [e2]; unfold tneeds; rw [if_pos h2], ?_⟩
  have hk := isTab_iff.1 h2
  have hiv := isok_at hok (show fr (wd xss f.toNat i) < ys.length by rw [isok_len hok]; unfold fr; omega)
  have hrv := (iok_used hiv (by omega)).2.1
  unfold rmay
  rw [h3, hrv, e3]; rfl
theorem tableNeeds_walk (hI : ITN) (W : World) (a : Option Addr) (len cap : Nat) (zs : List Int) (hr : Row .u8 W a len cap zs) :
    Calls Try.prog 3 #[.slice a len cap] W fun e w' => e = .returned (.bool true) ∧ Below W.heap.size W w' := by
  have HI := Lib.hid hI
  clear hI
  have hm := row_len hr
  by_cases hL : 1048576 < len
  · have hL1 : (1048576 : Int) < (len : Int) := by omega
    clear hr
    go_enter Try.func3, Try.ntmps3
    go_wp2_with fail
    go_ret
    exact ⟨rfl, Below.refl _ _⟩
  have hL1 : decide ((1048576 : Int) < (len : Int)) = false := by simp; omega
  have hL2 : decide (1048576 < len) = false := by simp; omega
  go_enter Try.func3, Try.ntmps3
  go_wp2_with fail
  refine (drawTableNeeds_any W a len cap zs hr).mono ?_
  clear hr
  rintro e w1 ⟨k, hk, rfl, hb1⟩
  have B1 := Lib.hid hb1
  have hkk : -1 ≤ k ∧ k ≤ 5 := hk
  have HC := Lib.hid (HI.out w1 k (by omega) (by omega))
  have HS := Lib.hid (fun w => sTableNeeds_any w k)
  have HT : Hid (tneeds k = if k = 3 then 2 else if k = 2 then 1 else 0) := Lib.hid (by
    unfold tneeds isTab
    by_cases h3 : k = 3
    · subst h3; rfl
    · by_cases h2 : k = 2
      · subst h2; rfl
      · rw [decide_eq_false (by omega), if_neg h3, if_neg h2]; rfl)
  obtain ⟨n, hn⟩ : ∃ n, n = tneeds k := ⟨_, rfl⟩
  rw [← hn] at HC HS HT
  have hnn := neI n
  clear hn hb1 hk HI hL hm
  go_wp2_with fail
  refine HC.out.mono ?_
  rintro e w2 ⟨rfl, hb2⟩
  have B2 := Lib.hid (B1.out.trans (hb2.mono B1.out.size))
  clear hb2 HC
  go_wp2_with fail
  refine (HS.out w2).mono ?_
  rintro e w' ⟨rfl, rfl⟩
  by_cases h3 : k = 3
  · have hN : n = 2 := by rw [HT.out, if_pos h3]
    subst hN
    subst h3
    clear hkk
    go_wp2_with fail
    go_ret
    exact ⟨rfl, B2.out⟩
  · have h3' : (k == 3) = false := by simpa using h3
    by_cases h2 : k = 2
    · have hN : n = 1 := by rw [HT.out, if_neg h3, if_pos h2]
      subst hN
      subst h2
      clear hkk
      go_wp2_with fail
      go_ret
      exact ⟨rfl, B2.out⟩
    · have h2' : (k == 2) = false := by simpa using h2
      have hN : n = 0 := by rw [HT.out, if_neg h3, if_neg h2]
      subst hN
      clear hkk h2 h3
      go_wp2_with fail
      go_ret
      exact ⟨rfl, B2.out⟩
set_option maxHeartbeats 4000000 in
theorem tableOkAll_walk (hO : ITO) (W : World) (a : Option Addr) (len cap : Nat) (zs : List Int) (hr : Row .u8 W a len cap zs) :
    Calls Try.prog 5 #[.slice a len cap] W fun e w' => e = .returned (.bool true) ∧ Below W.heap.size W w' := by
  have HO := Lib.hid hO
  clear hO
  have hm := row_len hr
  by_cases hL : 1048576 < len
  · have hL1 : (1048576 : Int) < (len : Int) := by omega
    clear hr
    go_enter Try.func5, Try.ntmps5
    go_wp2_with fail
    go_ret
    exact ⟨rfl, Below.refl _ _⟩
  have hL1 : decide ((1048576 : Int) < (len : Int)) = false := by simp; omega
  have hL2 : decide (1048576 < len) = false := by simp; omega
  go_enter Try.func5, Try.ntmps5
  go_wp2_with fail
  refine (drawTableOk_any W a len cap zs hr).mono ?_
  clear hr
  rintro e w1 ⟨vm, vl, xss, ys, f, k, vr, rs, hf, hkd, rfl, hd, hst, hr8, hsp⟩
  have A1 := Lib.hid (Arg5.of hd hst)
  have HSY := Lib.hid (shI_short hd.sh)
  have HSR := Lib.hid (shortP_short hsp)
  have HSM := Lib.hid hd.small
  have HYL := Lib.hid hd.len
  have HF := Lib.hid hf
  have HKD := Lib.hid hkd
  clear hf hkd hd hst hr8 hsp hL hm
  have HC : Hid (∀ w, Arg5 W vm vl vr xss ys rs w → Calls Try.prog 24 #[vm, vl, .int .i64 f, .int .i64 k, vr] w (BRes (tok8 xss ys f k rs) w)) := Lib.hid (fun w h => HO.out w vm vl vr xss ys rs f k h.m h.i HSY.out h.s HSR.out)
  have HS : Hid (∀ w, Arg5 W vm vl vr xss ys rs w → Calls Try.prog 25 #[vm, vl, .int .i64 f, .int .i64 k, vr] w (BRes (tok8 xss ys f k rs) w)) := Lib.hid (fun w h => sTableOk_any w vm vl vr xss ys rs f k h.m h.i HSY.out h.s HSR.out)
  obtain ⟨b, hb⟩ : ∃ b, b = tok8 xss ys f k rs := ⟨_, rfl⟩
  rw [← hb] at HC HS
  have HB := Lib.hid hb
  clear hb
  go_wp2_with fail
  refine (HC.out w1 A1.out).mono ?_
  rintro e w2 ⟨rfl, hb2⟩
  have A2 := Lib.hid (A1.out.go hb2)
  clear hb2 A1
  go_wp2_with fail
  refine (HS.out w2 A2.out).mono ?_
  rintro e w3 ⟨rfl, hb3⟩
  have A3 := Lib.hid (A2.out.go hb3)
  clear hb3 A2 HC HS
  cases b with
  | false =>
    go_wp2_with fail
    go_ret
    exact ⟨rfl, A3.out.b⟩
  | true =>
    have HAL := Lib.hid (tok8_all HB.out.symm)
    have HST := Lib.hid (strs_one w3 [])
    have A4 : Hid (Arg5 W vm vl vr xss ys rs (w3.alloc (.cells #[.string ⟨([] : Bs).toArray⟩] 9))) := Lib.hid (A3.out.go ((Below.refl _ _).alloc (Nat.le_refl _) _))
    have HC4 := Lib.hid (HO.out (w3.alloc (.cells #[.string ⟨([] : Bs).toArray⟩] 9)) vm vl _ xss ys [[]] f k A4.out.m A4.out.i HSY.out HST.out (fun x hx => by rw [List.mem_singleton.1 hx]; exact Nat.zero_le _))
    rw [HAL.out.1] at HC4
    have HC5 : Hid (∀ w, Arg5 W vm vl vr xss ys rs w → Calls Try.prog 24 #[vm, vl, .int .i64 f, .int .i64 1, vr] w (BRes false w)) := Lib.hid (fun w h => by have := HO.out w vm vl vr xss ys rs f 1 h.m h.i HSY.out h.s HSR.out; rwa [HAL.out.2] at this)
    go_wp2_with fail
    refine HC4.out.mono ?_
    rintro e w5 ⟨rfl, hb5⟩
    have A5 := Lib.hid (A4.out.go hb5)
    clear hb5 A4 HC4
    go_wp2_with fail
    refine (HC5.out w5 A5.out).mono ?_
    rintro e w6 ⟨rfl, hb6⟩
    have A6 := Lib.hid (A5.out.go hb6)
    clear hb6 A5
    go_wp2_with fail
    go_ret
    exact ⟨rfl, A6.out.b⟩
set_option maxHeartbeats 4000000 in
theorem tableOk_walk (hO : ITO) (hN : ITN) (hM : IRMay) (W : World) (a : Option Addr) (len cap : Nat) (zs : List Int) (hr : Row .u8 W a len cap zs) :
    Calls Try.prog 4 #[.slice a len cap] W fun e w' => e = .returned (.bool true) ∧ Below W.heap.size W w' := by
  have HO := Lib.hid hO
  have HN := Lib.hid hN
  have HM := Lib.hid hM
  clear hO hN hM
  have hm := row_len hr
  by_cases hL : 1048576 < len
  · have hL1 : (1048576 : Int) < (len : Int) := by omega
    clear hr
    go_enter Try.func4, Try.ntmps4
    go_wp2_with fail
    go_ret
    exact ⟨rfl, Below.refl _ _⟩
  have hL1 : decide ((1048576 : Int) < (len : Int)) = false := by simp; omega
  have hL2 : decide (1048576 < len) = false := by simp; omega
  go_enter Try.func4, Try.ntmps4
  go_wp2_with fail
  refine (drawTableOk_any W a len cap zs hr).mono ?_
  clear hr
  rintro e w1 ⟨vm, vl, xss, ys, f, k, vr, rs, hf, hkd, rfl, hd, hst, hr8, hsp⟩
  have A1 := Lib.hid (Arg5.of hd hst)
  have HSY := Lib.hid (shI_short hd.sh)
  have HSR := Lib.hid (shortP_short hsp)
  have HSM := Lib.hid hd.small
  have HYL := Lib.hid hd.len
  have HF := Lib.hid hf
  have HKD := Lib.hid hkd
  clear hf hkd hd hst hr8 hsp hL hm
  have HC : Hid (∀ w, Arg5 W vm vl vr xss ys rs w → Calls Try.prog 24 #[vm, vl, .int .i64 f, .int .i64 k, vr] w (BRes (tok8 xss ys f k rs) w)) := Lib.hid (fun w h => HO.out w vm vl vr xss ys rs f k h.m h.i HSY.out h.s HSR.out)
  have HS : Hid (∀ w, Arg5 W vm vl vr xss ys rs w → Calls Try.prog 25 #[vm, vl, .int .i64 f, .int .i64 k, vr] w (BRes (tok8 xss ys f k rs) w)) := Lib.hid (fun w h => sTableOk_any w vm vl vr xss ys rs f k h.m h.i HSY.out h.s HSR.out)
  obtain ⟨b, hb⟩ : ∃ b, b = tok8 xss ys f k rs := ⟨_, rfl⟩
  rw [← hb] at HC HS
  have HB := Lib.hid hb
  clear hb
  go_wp2_with fail
  refine (HC.out w1 A1.out).mono ?_
  rintro e w2 ⟨rfl, hb2⟩
  have A2 := Lib.hid (A1.out.go hb2)
  clear hb2 A1
  go_wp2_with fail
  refine (HS.out w2 A2.out).mono ?_
  rintro e w3 ⟨rfl, hb3⟩
  have A3 := Lib.hid (A2.out.go hb3)
  clear hb3 A2 HC HS
  cases b with
  | false =>
    go_wp2_with fail
    go_ret
    exact ⟨rfl, A3.out.b⟩
  | true =>
    obtain ⟨h1, h2, h3, h4⟩ := tok8_iff.1 HB.out.symm
    obtain ⟨hm, hf, hi⟩ := targ_iff.1 h1
    have HT := Lib.hid h4
    have HMO := Lib.hid hm
    have HYN := Lib.hid (isok_len hi)
    have HNK : Hid (∀ w, Calls Try.prog 21 #[.int .i64 k] w (NRes (tneeds k) w)) := Lib.hid (fun w => HN.out w k (by have : -1 ≤ k ∧ k ≤ 5 := HKD.out; omega) (by have : -1 ≤ k ∧ k ≤ 5 := HKD.out; omega))
    obtain ⟨jf, rfl⟩ : ∃ j : Nat, f = (j : Int) := ⟨f.toNat, by omega⟩
    have hjf12 : jf < 12 := by omega
    have hjf0 : (0 : Int) ≤ (jf : Int) := by omega
    have hjfn : (jf : Int) < 12 := by omega
    have HBX := Lib.hid (fun i (hi : i < 4) => wd_bounds hm (i := jf) (j := i) hjf12 hi)
    clear h1 h2 h3 h4 hm hf hi
    go_wp2_with fail
    go_loopw [10] (fun i wr => ∃ t : Nat, t ≤ 4 ∧ i = .int .i64 t ∧ Hid (Arg5 W vm vl vr xss ys rs wr)) (fun i _ => 4 - (intOf i).toNat)
    case atStart => exact ⟨0, Nat.zero_le _, rfl, A3⟩
    case round =>
      obtain ⟨t, ht, rfl, AR⟩ := hrel
      by_cases hlt : t < 4
      · have hlt' : (t : Int) < 4 := by omega
        have ht0 : (0 : Int) ≤ (t : Int) := by omega
        obtain ⟨b, o, c, g, p, d, rfl, hc, hx⟩ := AR.out.m.word HMO.out hjf12 hlt
        obtain ⟨al, cl, hvl, l1, l2, l3⟩ := AR.out.i
        have hW := HT.out t hlt
        have HTW := Lib.hid (fun hg => tok8_word (i := t) HB.out.symm hlt hg)
        have hbx := HBX.out t hlt
        rw [Int.toNat_natCast] at hW HTW
        unfold wd at hW HTW hbx
        obtain ⟨x, hxx⟩ : ∃ x, x = (xss.getD jf []).getD t 0 := ⟨_, rfl⟩
        rw [← hxx] at hx hW HTW hbx
        clear hxx
        by_cases hg : goodB x
        · obtain ⟨j, hxj, hj12, hjne, hkk, hmay⟩ := HTW.out hg
          have HE := Lib.hid (fun w => eI_yes x w hg)
          rw [hxj] at HE
          have HYN' := HYN.out
          obtain ⟨bl, ol, hal, htri⟩ := l3 j (by omega)
          rw [HYN.out] at hvl
          subst hvl
          subst hal
          obtain ⟨y, hy⟩ : ∃ y, y = ys.getD j iz := ⟨_, rfl⟩
          rw [← hy] at htri hkk hmay
          have HG : Hid (y.g.length ≤ 2000000) := Lib.hid (by rw [hy]; exact HSY.out.at j)
          have HMW : Hid (∀ w, Arg5 W (.slice (some ⟨b, o, none⟩) 12 c) (.slice (some ⟨bl, ol, none⟩) 12 cl) vr xss ys rs w → Calls Try.prog 27 #[vr, .string ⟨y.g.toArray⟩] w (BRes true w)) := Lib.hid (fun w h => by have := HM.out w vr rs y.g h.s HSR.out HG.out; rwa [hmay] at this)
          have HKK := Lib.hid hkk
          obtain ⟨c0, c1, c2⟩ := htri
          obtain ⟨dw, hdw⟩ : ∃ dw, dw = decide (x % 4 = 3) := ⟨_, rfl⟩
          rw [← hdw] at HE
          have hjne' : ((j : Int) == (jf : Int)) = false := by simpa using hjne
          have hj0 : (0 : Int) ≤ (j : Int) := by omega
          have hjn : (j : Int) < 12 := by omega
          clear hW HTW hbx hxj hy hkk hmay hdw hg l3 HYN' l1
          unfold maxLen at l2
          go_wp2_with fail
          refine (HE.out wr).mono ?_
          rintro e w' ⟨rfl, rfl⟩
          go_wp2_with fail
          have HNY : Hid (∀ w, Calls Try.prog 21 #[.int .i64 k] w (NRes y.k w)) := Lib.hid (by rw [HKK.out]; exact HNK.out)
          refine wp_region_held_drew (S := fun w' => w'.cell? ⟨bl, ol + j * 3, none⟩ = some (.int .i64 y.k) ∧ w'.cell? ⟨bl, ol + j * 3 + 1, none⟩ = some (.string ⟨y.g.toArray⟩)) (by kernel_rfl) ⟨c0, c1⟩ (fun hHeld => ?_)
          refine wpAnyH_take (i := 0) (oi := { dst := some 63, op := .move (.tmp 13), type := _, pos := _, after := _, guard := none }) (v := .bool true) rfl (by kernel_rfl) (by kernel_rfl) (by kernel_rfl) (fun _ _ _ h => h) (Or.inl ⟨by rfl, fun wh hSw => ?_⟩) hHeld ?_
          · (dsimp only at hSw; go_simp)
          try simp only [Act.put, List.setIfInBounds_toArray, List.set_cons_zero, List.set_cons_succ]
          refine wpAnyH_take (i := 1) (oi := { dst := some 64, op := .unOp .not 4 (.tmp 63), type := _, pos := _, after := _, guard := none }) (v := .bool false) rfl (by kernel_rfl) (by kernel_rfl) (by kernel_rfl) (fun _ _ _ h => h) (Or.inl ⟨by rfl, fun wh hSw => ?_⟩) hHeld ?_
          · (dsimp only at hSw; go_simp)
          try simp only [Act.put, List.setIfInBounds_toArray, List.set_cons_zero, List.set_cons_succ]
          refine wpAnyH_take (i := 2) (oi := { dst := some 65, op := .move (.tmp 64), type := _, pos := _, after := _, guard := none }) (v := .bool false) rfl (by kernel_rfl) (by kernel_rfl) (by kernel_rfl) (fun _ _ _ h => h) (Or.inl ⟨by rfl, fun wh hSw => ?_⟩) hHeld ?_
          · (dsimp only at hSw; go_simp)
          try simp only [Act.put, List.setIfInBounds_toArray, List.set_cons_zero, List.set_cons_succ]
          refine wpAnyH_take (i := 3) (oi := { dst := some 66, op := .move (.tmp 3), type := _, pos := _, after := _, guard := some (2, true) }) (v := undef) rfl (by kernel_rfl) (by kernel_rfl) (by kernel_rfl) (fun _ _ _ h => h) (Or.inr ⟨by rfl, rfl⟩) hHeld ?_
          try simp only [Act.put, List.setIfInBounds_toArray, List.set_cons_zero, List.set_cons_succ]
          refine wpAnyH_take (i := 4) (oi := { dst := some 67, op := .move (.tmp 5), type := _, pos := _, after := _, guard := some (2, true) }) (v := undef) rfl (by kernel_rfl) (by kernel_rfl) (by kernel_rfl) (fun _ _ _ h => h) (Or.inr ⟨by rfl, rfl⟩) hHeld ?_
          try simp only [Act.put, List.setIfInBounds_toArray, List.set_cons_zero, List.set_cons_succ]
          refine wpAnyH_take (i := 5) (oi := { dst := some 68, op := .indexAddr 26 (.tmp 66) (.tmp 67), type := _, pos := _, after := _, guard := some (2, true) }) (v := undef) rfl (by kernel_rfl) (by kernel_rfl) (by kernel_rfl) (fun _ _ _ h => h) (Or.inr ⟨by rfl, rfl⟩) hHeld ?_
          try simp only [Act.put, List.setIfInBounds_toArray, List.set_cons_zero, List.set_cons_succ]
          refine wpAnyH_take (i := 6) (oi := { dst := some 69, op := .load 34 (.tmp 68), type := _, pos := _, after := _, guard := some (2, true) }) (v := undef) rfl (by kernel_rfl) (by kernel_rfl) (by kernel_rfl) (fun _ _ _ h => h) (Or.inr ⟨by rfl, rfl⟩) hHeld ?_
          try simp only [Act.put, List.setIfInBounds_toArray, List.set_cons_zero, List.set_cons_succ]
          refine wpAnyH_take (i := 7) (oi := { dst := some 70, op := .move (.tmp 10), type := _, pos := _, after := _, guard := some (2, true) }) (v := undef) rfl (by kernel_rfl) (by kernel_rfl) (by kernel_rfl) (fun _ _ _ h => h) (Or.inr ⟨by rfl, rfl⟩) hHeld ?_
          try simp only [Act.put, List.setIfInBounds_toArray, List.set_cons_zero, List.set_cons_succ]
          refine wpAnyH_take (i := 8) (oi := { dst := some 71, op := .indexAddr 34 (.tmp 69) (.tmp 70), type := _, pos := _, after := _, guard := some (2, true) }) (v := undef) rfl (by kernel_rfl) (by kernel_rfl) (by kernel_rfl) (fun _ _ _ h => h) (Or.inr ⟨by rfl, rfl⟩) hHeld ?_
          try simp only [Act.put, List.setIfInBounds_toArray, List.set_cons_zero, List.set_cons_succ]
          refine wpAnyH_take (i := 9) (oi := { dst := some 72, op := .load 3 (.tmp 71), type := _, pos := _, after := _, guard := some (2, true) }) (v := undef) rfl (by kernel_rfl) (by kernel_rfl) (by kernel_rfl) (fun _ _ _ h => h) (Or.inr ⟨by rfl, rfl⟩) hHeld ?_
          try simp only [Act.put, List.setIfInBounds_toArray, List.set_cons_zero, List.set_cons_succ]
          refine wpAnyH_take (i := 10) (oi := { dst := some 73, op := .binOp .neq 3 (.tmp 72) (.const (.int .i64 0)) 3, type := _, pos := _, after := _, guard := some (2, true) }) (v := undef) rfl (by kernel_rfl) (by kernel_rfl) (by kernel_rfl) (fun _ _ _ h => h) (Or.inr ⟨by rfl, rfl⟩) hHeld ?_
          try simp only [Act.put, List.setIfInBounds_toArray, List.set_cons_zero, List.set_cons_succ]
          refine wpAnyH_take (i := 11) (oi := { dst := some 74, op := .pick (.tmp 65) (.tmp 73) (.const (.bool false)), type := _, pos := _, after := _, guard := none }) (v := .bool false) rfl (by kernel_rfl) (by kernel_rfl) (by kernel_rfl) (fun _ _ _ h => h) (Or.inl ⟨by rfl, fun wh hSw => ?_⟩) hHeld ?_
          · (dsimp only at hSw; go_simp)
          try simp only [Act.put, List.setIfInBounds_toArray, List.set_cons_zero, List.set_cons_succ]
          refine wpAnyH_take (i := 12) (oi := { dst := some 75, op := .move (.tmp 74), type := _, pos := _, after := _, guard := none }) (v := .bool false) rfl (by kernel_rfl) (by kernel_rfl) (by kernel_rfl) (fun _ _ _ h => h) (Or.inl ⟨by rfl, fun wh hSw => ?_⟩) hHeld ?_
          · (dsimp only at hSw; go_simp)
          try simp only [Act.put, List.setIfInBounds_toArray, List.set_cons_zero, List.set_cons_succ]
          refine wpAnyH_take (i := 13) (oi := { dst := some 76, op := .move (.tmp 13), type := _, pos := _, after := _, guard := some (12, false) }) (v := .bool true) rfl (by kernel_rfl) (by kernel_rfl) (by kernel_rfl) (fun _ _ _ h => h) (Or.inl ⟨by rfl, fun wh hSw => ?_⟩) hHeld ?_
          · (dsimp only at hSw; go_simp)
          try simp only [Act.put, List.setIfInBounds_toArray, List.set_cons_zero, List.set_cons_succ]
          refine wpAnyH_take (i := 14) (oi := { dst := some 77, op := .move (.tmp 76), type := _, pos := _, after := _, guard := some (12, false) }) (v := .bool true) rfl (by kernel_rfl) (by kernel_rfl) (by kernel_rfl) (fun _ _ _ h => h) (Or.inl ⟨by rfl, fun wh hSw => ?_⟩) hHeld ?_
          · (dsimp only at hSw; go_simp)
          try simp only [Act.put, List.setIfInBounds_toArray, List.set_cons_zero, List.set_cons_succ]
          refine wpAnyH_take (i := 15) (oi := { dst := some 78, op := .move (.tmp 11), type := _, pos := _, after := _, guard := some (14, true) }) (v := .int .i64 (j : Int)) rfl (by kernel_rfl) (by kernel_rfl) (by kernel_rfl) (fun _ _ _ h => h) (Or.inl ⟨by rfl, fun wh hSw => ?_⟩) hHeld ?_
          · (dsimp only at hSw; go_simp)
          try simp only [Act.put, List.setIfInBounds_toArray, List.set_cons_zero, List.set_cons_succ]
          refine wpAnyH_take (i := 16) (oi := { dst := some 79, op := .move (.tmp 5), type := _, pos := _, after := _, guard := some (14, true) }) (v := .int .i64 (jf : Int)) rfl (by kernel_rfl) (by kernel_rfl) (by kernel_rfl) (fun _ _ _ h => h) (Or.inl ⟨by rfl, fun wh hSw => ?_⟩) hHeld ?_
          · (dsimp only at hSw; go_simp)
          try simp only [Act.put, List.setIfInBounds_toArray, List.set_cons_zero, List.set_cons_succ]
          refine wpAnyH_take (i := 17) (oi := { dst := some 80, op := .binOp .eql 3 (.tmp 78) (.tmp 79) 3, type := _, pos := _, after := _, guard := some (14, true) }) (v := .bool false) rfl (by kernel_rfl) (by kernel_rfl) (by kernel_rfl) (fun _ _ _ h => h) (Or.inl ⟨by rfl, fun wh hSw => ?_⟩) hHeld ?_
          · (dsimp only at hSw; go_simp)
          try simp only [Act.put, List.setIfInBounds_toArray, List.set_cons_zero, List.set_cons_succ]
          refine wpAnyH_take (i := 18) (oi := { dst := some 81, op := .move (.tmp 80), type := _, pos := _, after := _, guard := some (14, true) }) (v := .bool false) rfl (by kernel_rfl) (by kernel_rfl) (by kernel_rfl) (fun _ _ _ h => h) (Or.inl ⟨by rfl, fun wh hSw => ?_⟩) hHeld ?_
          · (dsimp only at hSw; go_simp)
          try simp only [Act.put, List.setIfInBounds_toArray, List.set_cons_zero, List.set_cons_succ]
          refine wpAnyH_take (i := 19) (oi := { dst := some 82, op := .move (.tmp 4), type := _, pos := _, after := _, guard := some (18, false) }) (v := .slice (some ⟨bl, ol, none⟩) 12 cl) rfl (by kernel_rfl) (by kernel_rfl) (by kernel_rfl) (fun _ _ _ h => h) (Or.inl ⟨by rfl, fun wh hSw => ?_⟩) hHeld ?_
          · (dsimp only at hSw; go_simp)
          try simp only [Act.put, List.setIfInBounds_toArray, List.set_cons_zero, List.set_cons_succ]
          refine wpAnyH_take (i := 20) (oi := { dst := some 83, op := .move (.tmp 11), type := _, pos := _, after := _, guard := some (18, false) }) (v := .int .i64 (j : Int)) rfl (by kernel_rfl) (by kernel_rfl) (by kernel_rfl) (fun _ _ _ h => h) (Or.inl ⟨by rfl, fun wh hSw => ?_⟩) hHeld ?_
          · (dsimp only at hSw; go_simp)
          try simp only [Act.put, List.setIfInBounds_toArray, List.set_cons_zero, List.set_cons_succ]
          refine wpAnyH_take (i := 21) (oi := { dst := some 84, op := .indexAddr 27 (.tmp 82) (.tmp 83), type := _, pos := _, after := _, guard := some (18, false) }) (v := .pointer (some ⟨bl, ol + j * 3, none⟩)) rfl (by kernel_rfl) (by kernel_rfl) (by kernel_rfl) (fun _ _ _ h => h) (Or.inl ⟨by rfl, fun wh hSw => ?_⟩) hHeld ?_
          · (dsimp only at hSw; go_simp)
          try simp only [Act.put, List.setIfInBounds_toArray, List.set_cons_zero, List.set_cons_succ]
          refine wpAnyH_take (i := 22) (oi := { dst := some 85, op := .fieldAddr 36 (.tmp 84) 0, type := _, pos := _, after := _, guard := some (18, false) }) (v := .pointer (some ⟨bl, ol + j * 3, none⟩)) rfl (by kernel_rfl) (by kernel_rfl) (by kernel_rfl) (fun _ _ _ h => h) (Or.inl ⟨by rfl, fun wh hSw => ?_⟩) hHeld ?_
          · (dsimp only at hSw; go_simp)
          try simp only [Act.put, List.setIfInBounds_toArray, List.set_cons_zero, List.set_cons_succ]
          refine wpAnyH_take (i := 23) (oi := { dst := some 86, op := .load 3 (.tmp 85), type := _, pos := _, after := _, guard := some (18, false) }) (v := .int .i64 y.k) rfl (by kernel_rfl) (by kernel_rfl) (by kernel_rfl) (fun _ _ _ h => h) (Or.inl ⟨by rfl, fun wh hSw => ?_⟩) hHeld ?_
          · (dsimp only at hSw; go_simp)
          try simp only [Act.put, List.setIfInBounds_toArray, List.set_cons_zero, List.set_cons_succ]
          refine wpAnyH_take (i := 24) (oi := { dst := some 87, op := .move (.tmp 6), type := _, pos := _, after := _, guard := some (18, false) }) (v := .int .i64 k) rfl (by kernel_rfl) (by kernel_rfl) (by kernel_rfl) (fun _ _ _ h => h) (Or.inl ⟨by rfl, fun wh hSw => ?_⟩) hHeld ?_
          · (dsimp only at hSw; go_simp)
          try simp only [Act.put, List.setIfInBounds_toArray, List.set_cons_zero, List.set_cons_succ]
          refine wpAnyH_ready (rs := [25]) (by kernel_rfl) (by simp) ?_
          refine AllReadyH.cons (o := { dst := some 88, op := .call { callee := .value (.func 21), args := #[.tmp 87], argTypes := #[3] }, type := _, pos := _, after := _, guard := some (18, false) }) rfl (fun K hK => ?_) AllReadyH.nil
          go_simp
          refine (HNY.out _).mono ?_
          rintro e w5 ⟨rfl, hb5⟩
          have A5 := Lib.hid ((AR.out.go ((Below.refl _ _).drew)).go hb5)
          have HB5 := Lib.hid hb5
          clear hb5
          try go_simp
          refine hK.out _ _ ?_ (fun hHeld => ?_)
          · exact ⟨(HB5.out.cell (cell_lt hHeld.1)).trans hHeld.1, (HB5.out.cell (cell_lt hHeld.2)).trans hHeld.2⟩
          clear hK K
          try simp only [Act.put, List.setIfInBounds_toArray, List.set_cons_zero, List.set_cons_succ]
          refine wpAnyH_take (i := 26) (oi := { dst := some 89, op := .binOp .neq 3 (.tmp 86) (.tmp 88) 3, type := _, pos := _, after := _, guard := some (18, false) }) (v := .bool false) rfl (by kernel_rfl) (by kernel_rfl) (by kernel_rfl) (fun _ _ _ h => h) (Or.inl ⟨by rfl, fun wh hSw => ?_⟩) hHeld ?_
          · (dsimp only at hSw; go_simp)
          try simp only [Act.put, List.setIfInBounds_toArray, List.set_cons_zero, List.set_cons_succ]
          refine wpAnyH_take (i := 27) (oi := { dst := some 90, op := .pick (.tmp 81) (.const (.bool true)) (.tmp 89), type := _, pos := _, after := _, guard := some (14, true) }) (v := .bool false) rfl (by kernel_rfl) (by kernel_rfl) (by kernel_rfl) (fun _ _ _ h => h) (Or.inl ⟨by rfl, fun wh hSw => ?_⟩) hHeld ?_
          · (dsimp only at hSw; go_simp)
          try simp only [Act.put, List.setIfInBounds_toArray, List.set_cons_zero, List.set_cons_succ]
          refine wpAnyH_take (i := 28) (oi := { dst := some 91, op := .move (.tmp 90), type := _, pos := _, after := _, guard := some (14, true) }) (v := .bool false) rfl (by kernel_rfl) (by kernel_rfl) (by kernel_rfl) (fun _ _ _ h => h) (Or.inl ⟨by rfl, fun wh hSw => ?_⟩) hHeld ?_
          · (dsimp only at hSw; go_simp)
          try simp only [Act.put, List.setIfInBounds_toArray, List.set_cons_zero, List.set_cons_succ]
          refine wpAnyH_take (i := 29) (oi := { dst := some 92, op := .move (.tmp 7), type := _, pos := _, after := _, guard := some (28, false) }) (v := vr) rfl (by kernel_rfl) (by kernel_rfl) (by kernel_rfl) (fun _ _ _ h => h) (Or.inl ⟨by rfl, fun wh hSw => ?_⟩) hHeld ?_
          · (dsimp only at hSw; go_simp)
          try simp only [Act.put, List.setIfInBounds_toArray, List.set_cons_zero, List.set_cons_succ]
          refine wpAnyH_take (i := 30) (oi := { dst := some 93, op := .move (.tmp 4), type := _, pos := _, after := _, guard := some (28, false) }) (v := .slice (some ⟨bl, ol, none⟩) 12 cl) rfl (by kernel_rfl) (by kernel_rfl) (by kernel_rfl) (fun _ _ _ h => h) (Or.inl ⟨by rfl, fun wh hSw => ?_⟩) hHeld ?_
          · (dsimp only at hSw; go_simp)
          try simp only [Act.put, List.setIfInBounds_toArray, List.set_cons_zero, List.set_cons_succ]
          refine wpAnyH_take (i := 31) (oi := { dst := some 94, op := .move (.tmp 11), type := _, pos := _, after := _, guard := some (28, false) }) (v := .int .i64 (j : Int)) rfl (by kernel_rfl) (by kernel_rfl) (by kernel_rfl) (fun _ _ _ h => h) (Or.inl ⟨by rfl, fun wh hSw => ?_⟩) hHeld ?_
          · (dsimp only at hSw; go_simp)
          try simp only [Act.put, List.setIfInBounds_toArray, List.set_cons_zero, List.set_cons_succ]
          refine wpAnyH_take (i := 32) (oi := { dst := some 95, op := .indexAddr 27 (.tmp 93) (.tmp 94), type := _, pos := _, after := _, guard := some (28, false) }) (v := .pointer (some ⟨bl, ol + j * 3, none⟩)) rfl (by kernel_rfl) (by kernel_rfl) (by kernel_rfl) (fun _ _ _ h => h) (Or.inl ⟨by rfl, fun wh hSw => ?_⟩) hHeld ?_
          · (dsimp only at hSw; go_simp)
          try simp only [Act.put, List.setIfInBounds_toArray, List.set_cons_zero, List.set_cons_succ]
          refine wpAnyH_take (i := 33) (oi := { dst := some 96, op := .fieldAddr 36 (.tmp 95) 1, type := _, pos := _, after := _, guard := some (28, false) }) (v := .pointer (some ⟨bl, ol + j * 3 + 1, none⟩)) rfl (by kernel_rfl) (by kernel_rfl) (by kernel_rfl) (fun _ _ _ h => h) (Or.inl ⟨by rfl, fun wh hSw => ?_⟩) hHeld ?_
          · (dsimp only at hSw; go_simp)
          try simp only [Act.put, List.setIfInBounds_toArray, List.set_cons_zero, List.set_cons_succ]
          refine wpAnyH_take (i := 34) (oi := { dst := some 97, op := .load 9 (.tmp 96), type := _, pos := _, after := _, guard := some (28, false) }) (v := .string ⟨y.g.toArray⟩) rfl (by kernel_rfl) (by kernel_rfl) (by kernel_rfl) (fun _ _ _ h => h) (Or.inl ⟨by rfl, fun wh hSw => ?_⟩) hHeld ?_
          · (dsimp only at hSw; go_simp)
          try simp only [Act.put, List.setIfInBounds_toArray, List.set_cons_zero, List.set_cons_succ]
          refine wpAnyH_ready (rs := [35]) (by kernel_rfl) (by simp) ?_
          refine AllReadyH.cons (o := { dst := some 98, op := .call { callee := .value (.func 27), args := #[.tmp 92, .tmp 97], argTypes := #[28, 9] }, type := _, pos := _, after := _, guard := some (28, false) }) rfl (fun K hK => ?_) AllReadyH.nil
          go_simp
          refine (HMW.out w5 A5.out).mono ?_
          rintro e w6 ⟨rfl, hb6⟩
          have A6 := Lib.hid (A5.out.go hb6)
          have HB6 := Lib.hid hb6
          clear hb6
          try go_simp
          refine hK.out _ _ ?_ (fun hHeld => ?_)
          · exact ⟨(HB6.out.cell (cell_lt hHeld.1)).trans hHeld.1, (HB6.out.cell (cell_lt hHeld.2)).trans hHeld.2⟩
          clear hK K
          try simp only [Act.put, List.setIfInBounds_toArray, List.set_cons_zero, List.set_cons_succ]
          refine wpAnyH_take (i := 36) (oi := { dst := some 99, op := .unOp .not 4 (.tmp 98), type := _, pos := _, after := _, guard := some (28, false) }) (v := .bool false) rfl (by kernel_rfl) (by kernel_rfl) (by kernel_rfl) (fun _ _ _ h => h) (Or.inl ⟨by rfl, fun wh hSw => ?_⟩) hHeld ?_
          · (dsimp only at hSw; go_simp)
          try simp only [Act.put, List.setIfInBounds_toArray, List.set_cons_zero, List.set_cons_succ]
          refine wpAnyH_take (i := 37) (oi := { dst := some 100, op := .pick (.tmp 91) (.const (.bool true)) (.tmp 99), type := _, pos := _, after := _, guard := some (14, true) }) (v := .bool false) rfl (by kernel_rfl) (by kernel_rfl) (by kernel_rfl) (fun _ _ _ h => h) (Or.inl ⟨by rfl, fun wh hSw => ?_⟩) hHeld ?_
          · (dsimp only at hSw; go_simp)
          try simp only [Act.put, List.setIfInBounds_toArray, List.set_cons_zero, List.set_cons_succ]
          refine wpAnyH_take (i := 38) (oi := { dst := some 101, op := .pick (.tmp 77) (.tmp 100) (.const (.bool false)), type := _, pos := _, after := _, guard := some (12, false) }) (v := .bool false) rfl (by kernel_rfl) (by kernel_rfl) (by kernel_rfl) (fun _ _ _ h => h) (Or.inl ⟨by rfl, fun wh hSw => ?_⟩) hHeld ?_
          · (dsimp only at hSw; go_simp)
          try simp only [Act.put, List.setIfInBounds_toArray, List.set_cons_zero, List.set_cons_succ]
          refine wpAnyH_take (i := 39) (oi := { dst := some 102, op := .pick (.tmp 75) (.const (.bool true)) (.tmp 101), type := _, pos := _, after := _, guard := none }) (v := .bool false) rfl (by kernel_rfl) (by kernel_rfl) (by kernel_rfl) (fun _ _ _ h => h) (Or.inl ⟨by rfl, fun wh hSw => ?_⟩) hHeld ?_
          · (dsimp only at hSw; go_simp)
          try simp only [Act.put, List.setIfInBounds_toArray, List.set_cons_zero, List.set_cons_succ]
          refine wpAnyH_done (by kernel_rfl) ?_ _
          go_wp2_with fail
          go_roundw
          case rel => exact ⟨t + 1, by omega, by go_num, A6⟩
          case measure => simp [intOf]; omega
        · have hx0 := tent_bad hW hg
          subst hx0
          have HE := Lib.hid (fun w => eI_no 0 w hg (by omega) (by omega))
          clear hW HTW hbx hg l3 hvl
          go_wp2_with fail
          refine (HE.out wr).mono ?_
          rintro e w' ⟨rfl, rfl⟩
          go_wp2_with fail
          refine wp_region_held_drew (S := fun w' => w'.cell? ⟨b, o + jf, none⟩ = some (.slice (some ⟨g, p, none⟩) 4 d) ∧ w'.cell? ⟨g, p + t, none⟩ = some (.int .i64 0)) (by kernel_rfl) ⟨hc, hx⟩ (fun hHeld => ?_)
          refine wpAnyH_take (i := 0) (oi := { dst := some 63, op := .move (.tmp 13), type := _, pos := _, after := _, guard := none }) (v := .bool false) rfl (by kernel_rfl) (by kernel_rfl) (by kernel_rfl) (fun _ _ _ h => h) (Or.inl ⟨by rfl, fun wh hSw => ?_⟩) hHeld ?_
          · (dsimp only at hSw; go_simp)
          try simp only [Act.put, List.setIfInBounds_toArray, List.set_cons_zero, List.set_cons_succ]
          refine wpAnyH_take (i := 1) (oi := { dst := some 64, op := .unOp .not 4 (.tmp 63), type := _, pos := _, after := _, guard := none }) (v := .bool true) rfl (by kernel_rfl) (by kernel_rfl) (by kernel_rfl) (fun _ _ _ h => h) (Or.inl ⟨by rfl, fun wh hSw => ?_⟩) hHeld ?_
          · (dsimp only at hSw; go_simp)
          try simp only [Act.put, List.setIfInBounds_toArray, List.set_cons_zero, List.set_cons_succ]
          refine wpAnyH_take (i := 2) (oi := { dst := some 65, op := .move (.tmp 64), type := _, pos := _, after := _, guard := none }) (v := .bool true) rfl (by kernel_rfl) (by kernel_rfl) (by kernel_rfl) (fun _ _ _ h => h) (Or.inl ⟨by rfl, fun wh hSw => ?_⟩) hHeld ?_
          · (dsimp only at hSw; go_simp)
          try simp only [Act.put, List.setIfInBounds_toArray, List.set_cons_zero, List.set_cons_succ]
          refine wpAnyH_take (i := 3) (oi := { dst := some 66, op := .move (.tmp 3), type := _, pos := _, after := _, guard := some (2, true) }) (v := .slice (some ⟨b, o, none⟩) 12 c) rfl (by kernel_rfl) (by kernel_rfl) (by kernel_rfl) (fun _ _ _ h => h) (Or.inl ⟨by rfl, fun wh hSw => ?_⟩) hHeld ?_
          · (dsimp only at hSw; go_simp)
          try simp only [Act.put, List.setIfInBounds_toArray, List.set_cons_zero, List.set_cons_succ]
          refine wpAnyH_take (i := 4) (oi := { dst := some 67, op := .move (.tmp 5), type := _, pos := _, after := _, guard := some (2, true) }) (v := .int .i64 (jf : Int)) rfl (by kernel_rfl) (by kernel_rfl) (by kernel_rfl) (fun _ _ _ h => h) (Or.inl ⟨by rfl, fun wh hSw => ?_⟩) hHeld ?_
          · (dsimp only at hSw; go_simp)
          try simp only [Act.put, List.setIfInBounds_toArray, List.set_cons_zero, List.set_cons_succ]
          refine wpAnyH_take (i := 5) (oi := { dst := some 68, op := .indexAddr 26 (.tmp 66) (.tmp 67), type := _, pos := _, after := _, guard := some (2, true) }) (v := .pointer (some ⟨b, o + jf, none⟩)) rfl (by kernel_rfl) (by kernel_rfl) (by kernel_rfl) (fun _ _ _ h => h) (Or.inl ⟨by rfl, fun wh hSw => ?_⟩) hHeld ?_
          · (dsimp only at hSw; go_simp)
          try simp only [Act.put, List.setIfInBounds_toArray, List.set_cons_zero, List.set_cons_succ]
          refine wpAnyH_take (i := 6) (oi := { dst := some 69, op := .load 34 (.tmp 68), type := _, pos := _, after := _, guard := some (2, true) }) (v := .slice (some ⟨g, p, none⟩) 4 d) rfl (by kernel_rfl) (by kernel_rfl) (by kernel_rfl) (fun _ _ _ h => h) (Or.inl ⟨by rfl, fun wh hSw => ?_⟩) hHeld ?_
          · (dsimp only at hSw; go_simp)
          try simp only [Act.put, List.setIfInBounds_toArray, List.set_cons_zero, List.set_cons_succ]
          refine wpAnyH_take (i := 7) (oi := { dst := some 70, op := .move (.tmp 10), type := _, pos := _, after := _, guard := some (2, true) }) (v := .int .i64 (t : Int)) rfl (by kernel_rfl) (by kernel_rfl) (by kernel_rfl) (fun _ _ _ h => h) (Or.inl ⟨by rfl, fun wh hSw => ?_⟩) hHeld ?_
          · (dsimp only at hSw; go_simp)
          try simp only [Act.put, List.setIfInBounds_toArray, List.set_cons_zero, List.set_cons_succ]
          refine wpAnyH_take (i := 8) (oi := { dst := some 71, op := .indexAddr 34 (.tmp 69) (.tmp 70), type := _, pos := _, after := _, guard := some (2, true) }) (v := .pointer (some ⟨g, p + t, none⟩)) rfl (by kernel_rfl) (by kernel_rfl) (by kernel_rfl) (fun _ _ _ h => h) (Or.inl ⟨by rfl, fun wh hSw => ?_⟩) hHeld ?_
          · (dsimp only at hSw; go_simp)
          try simp only [Act.put, List.setIfInBounds_toArray, List.set_cons_zero, List.set_cons_succ]
          refine wpAnyH_take (i := 9) (oi := { dst := some 72, op := .load 3 (.tmp 71), type := _, pos := _, after := _, guard := some (2, true) }) (v := .int .i64 0) rfl (by kernel_rfl) (by kernel_rfl) (by kernel_rfl) (fun _ _ _ h => h) (Or.inl ⟨by rfl, fun wh hSw => ?_⟩) hHeld ?_
          · (dsimp only at hSw; go_simp)
          try simp only [Act.put, List.setIfInBounds_toArray, List.set_cons_zero, List.set_cons_succ]
          refine wpAnyH_take (i := 10) (oi := { dst := some 73, op := .binOp .neq 3 (.tmp 72) (.const (.int .i64 0)) 3, type := _, pos := _, after := _, guard := some (2, true) }) (v := .bool false) rfl (by kernel_rfl) (by kernel_rfl) (by kernel_rfl) (fun _ _ _ h => h) (Or.inl ⟨by rfl, fun wh hSw => ?_⟩) hHeld ?_
          · (dsimp only at hSw; go_simp)
          try simp only [Act.put, List.setIfInBounds_toArray, List.set_cons_zero, List.set_cons_succ]
          refine wpAnyH_take (i := 11) (oi := { dst := some 74, op := .pick (.tmp 65) (.tmp 73) (.const (.bool false)), type := _, pos := _, after := _, guard := none }) (v := .bool false) rfl (by kernel_rfl) (by kernel_rfl) (by kernel_rfl) (fun _ _ _ h => h) (Or.inl ⟨by rfl, fun wh hSw => ?_⟩) hHeld ?_
          · (dsimp only at hSw; go_simp)
          try simp only [Act.put, List.setIfInBounds_toArray, List.set_cons_zero, List.set_cons_succ]
          refine wpAnyH_take (i := 12) (oi := { dst := some 75, op := .move (.tmp 74), type := _, pos := _, after := _, guard := none }) (v := .bool false) rfl (by kernel_rfl) (by kernel_rfl) (by kernel_rfl) (fun _ _ _ h => h) (Or.inl ⟨by rfl, fun wh hSw => ?_⟩) hHeld ?_
          · (dsimp only at hSw; go_simp)
          try simp only [Act.put, List.setIfInBounds_toArray, List.set_cons_zero, List.set_cons_succ]
          refine wpAnyH_take (i := 13) (oi := { dst := some 76, op := .move (.tmp 13), type := _, pos := _, after := _, guard := some (12, false) }) (v := .bool false) rfl (by kernel_rfl) (by kernel_rfl) (by kernel_rfl) (fun _ _ _ h => h) (Or.inl ⟨by rfl, fun wh hSw => ?_⟩) hHeld ?_
          · (dsimp only at hSw; go_simp)
          try simp only [Act.put, List.setIfInBounds_toArray, List.set_cons_zero, List.set_cons_succ]
          refine wpAnyH_take (i := 14) (oi := { dst := some 77, op := .move (.tmp 76), type := _, pos := _, after := _, guard := some (12, false) }) (v := .bool false) rfl (by kernel_rfl) (by kernel_rfl) (by kernel_rfl) (fun _ _ _ h => h) (Or.inl ⟨by rfl, fun wh hSw => ?_⟩) hHeld ?_
          · (dsimp only at hSw; go_simp)
          try simp only [Act.put, List.setIfInBounds_toArray, List.set_cons_zero, List.set_cons_succ]
          refine wpAnyH_take (i := 15) (oi := { dst := some 78, op := .move (.tmp 11), type := _, pos := _, after := _, guard := some (14, true) }) (v := undef) rfl (by kernel_rfl) (by kernel_rfl) (by kernel_rfl) (fun _ _ _ h => h) (Or.inr ⟨by rfl, rfl⟩) hHeld ?_
          try simp only [Act.put, List.setIfInBounds_toArray, List.set_cons_zero, List.set_cons_succ]
          refine wpAnyH_take (i := 16) (oi := { dst := some 79, op := .move (.tmp 5), type := _, pos := _, after := _, guard := some (14, true) }) (v := undef) rfl (by kernel_rfl) (by kernel_rfl) (by kernel_rfl) (fun _ _ _ h => h) (Or.inr ⟨by rfl, rfl⟩) hHeld ?_
          try simp only [Act.put, List.setIfInBounds_toArray, List.set_cons_zero, List.set_cons_succ]
          refine wpAnyH_take (i := 17) (oi := { dst := some 80, op := .binOp .eql 3 (.tmp 78) (.tmp 79) 3, type := _, pos := _, after := _, guard := some (14, true) }) (v := undef) rfl (by kernel_rfl) (by kernel_rfl) (by kernel_rfl) (fun _ _ _ h => h) (Or.inr ⟨by rfl, rfl⟩) hHeld ?_
          try simp only [Act.put, List.setIfInBounds_toArray, List.set_cons_zero, List.set_cons_succ]
          refine wpAnyH_take (i := 18) (oi := { dst := some 81, op := .move (.tmp 80), type := _, pos := _, after := _, guard := some (14, true) }) (v := undef) rfl (by kernel_rfl) (by kernel_rfl) (by kernel_rfl) (fun _ _ _ h => h) (Or.inr ⟨by rfl, rfl⟩) hHeld ?_
          try simp only [Act.put, List.setIfInBounds_toArray, List.set_cons_zero, List.set_cons_succ]
          refine wpAnyH_take (i := 19) (oi := { dst := some 82, op := .move (.tmp 4), type := _, pos := _, after := _, guard := some (18, false) }) (v := undef) rfl (by kernel_rfl) (by kernel_rfl) (by kernel_rfl) (fun _ _ _ h => h) (Or.inr ⟨by rfl, rfl⟩) hHeld ?_
          try simp only [Act.put, List.setIfInBounds_toArray, List.set_cons_zero, List.set_cons_succ]
          refine wpAnyH_take (i := 20) (oi := { dst := some 83, op := .move (.tmp 11), type := _, pos := _, after := _, guard := some (18, false) }) (v := undef) rfl (by kernel_rfl) (by kernel_rfl) (by kernel_rfl) (fun _ _ _ h => h) (Or.inr ⟨by rfl, rfl⟩) hHeld ?_
          try simp only [Act.put, List.setIfInBounds_toArray, List.set_cons_zero, List.set_cons_succ]
          refine wpAnyH_take (i := 21) (oi := { dst := some 84, op := .indexAddr 27 (.tmp 82) (.tmp 83), type := _, pos := _, after := _, guard := some (18, false) }) (v := undef) rfl (by kernel_rfl) (by kernel_rfl) (by kernel_rfl) (fun _ _ _ h => h) (Or.inr ⟨by rfl, rfl⟩) hHeld ?_
          try simp only [Act.put, List.setIfInBounds_toArray, List.set_cons_zero, List.set_cons_succ]
          refine wpAnyH_take (i := 22) (oi := { dst := some 85, op := .fieldAddr 36 (.tmp 84) 0, type := _, pos := _, after := _, guard := some (18, false) }) (v := undef) rfl (by kernel_rfl) (by kernel_rfl) (by kernel_rfl) (fun _ _ _ h => h) (Or.inr ⟨by rfl, rfl⟩) hHeld ?_
          try simp only [Act.put, List.setIfInBounds_toArray, List.set_cons_zero, List.set_cons_succ]
          refine wpAnyH_take (i := 23) (oi := { dst := some 86, op := .load 3 (.tmp 85), type := _, pos := _, after := _, guard := some (18, false) }) (v := undef) rfl (by kernel_rfl) (by kernel_rfl) (by kernel_rfl) (fun _ _ _ h => h) (Or.inr ⟨by rfl, rfl⟩) hHeld ?_
          try simp only [Act.put, List.setIfInBounds_toArray, List.set_cons_zero, List.set_cons_succ]
          refine wpAnyH_take (i := 24) (oi := { dst := some 87, op := .move (.tmp 6), type := _, pos := _, after := _, guard := some (18, false) }) (v := undef) rfl (by kernel_rfl) (by kernel_rfl) (by kernel_rfl) (fun _ _ _ h => h) (Or.inr ⟨by rfl, rfl⟩) hHeld ?_
          try simp only [Act.put, List.setIfInBounds_toArray, List.set_cons_zero, List.set_cons_succ]
          refine wpAnyH_take (i := 25) (oi := { dst := some 88, op := .call { callee := .value (.func 21), args := #[.tmp 87], argTypes := #[3] }, type := _, pos := _, after := _, guard := some (18, false) }) (v := undef) rfl (by kernel_rfl) (by kernel_rfl) (by kernel_rfl) (fun _ _ _ h => h) (Or.inr ⟨by rfl, rfl⟩) hHeld ?_
          try simp only [Act.put, List.setIfInBounds_toArray, List.set_cons_zero, List.set_cons_succ]
          refine wpAnyH_take (i := 26) (oi := { dst := some 89, op := .binOp .neq 3 (.tmp 86) (.tmp 88) 3, type := _, pos := _, after := _, guard := some (18, false) }) (v := undef) rfl (by kernel_rfl) (by kernel_rfl) (by kernel_rfl) (fun _ _ _ h => h) (Or.inr ⟨by rfl, rfl⟩) hHeld ?_
          try simp only [Act.put, List.setIfInBounds_toArray, List.set_cons_zero, List.set_cons_succ]
          refine wpAnyH_take (i := 27) (oi := { dst := some 90, op := .pick (.tmp 81) (.const (.bool true)) (.tmp 89), type := _, pos := _, after := _, guard := some (14, true) }) (v := undef) rfl (by kernel_rfl) (by kernel_rfl) (by kernel_rfl) (fun _ _ _ h => h) (Or.inr ⟨by rfl, rfl⟩) hHeld ?_
          try simp only [Act.put, List.setIfInBounds_toArray, List.set_cons_zero, List.set_cons_succ]
          refine wpAnyH_take (i := 28) (oi := { dst := some 91, op := .move (.tmp 90), type := _, pos := _, after := _, guard := some (14, true) }) (v := undef) rfl (by kernel_rfl) (by kernel_rfl) (by kernel_rfl) (fun _ _ _ h => h) (Or.inr ⟨by rfl, rfl⟩) hHeld ?_
          try simp only [Act.put, List.setIfInBounds_toArray, List.set_cons_zero, List.set_cons_succ]
          refine wpAnyH_take (i := 29) (oi := { dst := some 92, op := .move (.tmp 7), type := _, pos := _, after := _, guard := some (28, false) }) (v := undef) rfl (by kernel_rfl) (by kernel_rfl) (by kernel_rfl) (fun _ _ _ h => h) (Or.inr ⟨by rfl, rfl⟩) hHeld ?_
          try simp only [Act.put, List.setIfInBounds_toArray, List.set_cons_zero, List.set_cons_succ]
          refine wpAnyH_take (i := 30) (oi := { dst := some 93, op := .move (.tmp 4), type := _, pos := _, after := _, guard := some (28, false) }) (v := undef) rfl (by kernel_rfl) (by kernel_rfl) (by kernel_rfl) (fun _ _ _ h => h) (Or.inr ⟨by rfl, rfl⟩) hHeld ?_
          try simp only [Act.put, List.setIfInBounds_toArray, List.set_cons_zero, List.set_cons_succ]
          refine wpAnyH_take (i := 31) (oi := { dst := some 94, op := .move (.tmp 11), type := _, pos := _, after := _, guard := some (28, false) }) (v := undef) rfl (by kernel_rfl) (by kernel_rfl) (by kernel_rfl) (fun _ _ _ h => h) (Or.inr ⟨by rfl, rfl⟩) hHeld ?_
          try simp only [Act.put, List.setIfInBounds_toArray, List.set_cons_zero, List.set_cons_succ]
          refine wpAnyH_take (i := 32) (oi := { dst := some 95, op := .indexAddr 27 (.tmp 93) (.tmp 94), type := _, pos := _, after := _, guard := some (28, false) }) (v := undef) rfl (by kernel_rfl) (by kernel_rfl) (by kernel_rfl) (fun _ _ _ h => h) (Or.inr ⟨by rfl, rfl⟩) hHeld ?_
          try simp only [Act.put, List.setIfInBounds_toArray, List.set_cons_zero, List.set_cons_succ]
          refine wpAnyH_take (i := 33) (oi := { dst := some 96, op := .fieldAddr 36 (.tmp 95) 1, type := _, pos := _, after := _, guard := some (28, false) }) (v := undef) rfl (by kernel_rfl) (by kernel_rfl) (by kernel_rfl) (fun _ _ _ h => h) (Or.inr ⟨by rfl, rfl⟩) hHeld ?_
          try simp only [Act.put, List.setIfInBounds_toArray, List.set_cons_zero, List.set_cons_succ]
          refine wpAnyH_take (i := 34) (oi := { dst := some 97, op := .load 9 (.tmp 96), type := _, pos := _, after := _, guard := some (28, false) }) (v := undef) rfl (by kernel_rfl) (by kernel_rfl) (by kernel_rfl) (fun _ _ _ h => h) (Or.inr ⟨by rfl, rfl⟩) hHeld ?_
          try simp only [Act.put, List.setIfInBounds_toArray, List.set_cons_zero, List.set_cons_succ]
          refine wpAnyH_take (i := 35) (oi := { dst := some 98, op := .call { callee := .value (.func 27), args := #[.tmp 92, .tmp 97], argTypes := #[28, 9] }, type := _, pos := _, after := _, guard := some (28, false) }) (v := undef) rfl (by kernel_rfl) (by kernel_rfl) (by kernel_rfl) (fun _ _ _ h => h) (Or.inr ⟨by rfl, rfl⟩) hHeld ?_
          try simp only [Act.put, List.setIfInBounds_toArray, List.set_cons_zero, List.set_cons_succ]
          refine wpAnyH_take (i := 36) (oi := { dst := some 99, op := .unOp .not 4 (.tmp 98), type := _, pos := _, after := _, guard := some (28, false) }) (v := undef) rfl (by kernel_rfl) (by kernel_rfl) (by kernel_rfl) (fun _ _ _ h => h) (Or.inr ⟨by rfl, rfl⟩) hHeld ?_
          try simp only [Act.put, List.setIfInBounds_toArray, List.set_cons_zero, List.set_cons_succ]
          refine wpAnyH_take (i := 37) (oi := { dst := some 100, op := .pick (.tmp 91) (.const (.bool true)) (.tmp 99), type := _, pos := _, after := _, guard := some (14, true) }) (v := undef) rfl (by kernel_rfl) (by kernel_rfl) (by kernel_rfl) (fun _ _ _ h => h) (Or.inr ⟨by rfl, rfl⟩) hHeld ?_
          try simp only [Act.put, List.setIfInBounds_toArray, List.set_cons_zero, List.set_cons_succ]
          refine wpAnyH_take (i := 38) (oi := { dst := some 101, op := .pick (.tmp 77) (.tmp 100) (.const (.bool false)), type := _, pos := _, after := _, guard := some (12, false) }) (v := .bool false) rfl (by kernel_rfl) (by kernel_rfl) (by kernel_rfl) (fun _ _ _ h => h) (Or.inl ⟨by rfl, fun wh hSw => ?_⟩) hHeld ?_
          · (dsimp only at hSw; go_simp)
          try simp only [Act.put, List.setIfInBounds_toArray, List.set_cons_zero, List.set_cons_succ]
          refine wpAnyH_take (i := 39) (oi := { dst := some 102, op := .pick (.tmp 75) (.const (.bool true)) (.tmp 101), type := _, pos := _, after := _, guard := none }) (v := .bool false) rfl (by kernel_rfl) (by kernel_rfl) (by kernel_rfl) (fun _ _ _ h => h) (Or.inl ⟨by rfl, fun wh hSw => ?_⟩) hHeld ?_
          · (dsimp only at hSw; go_simp)
          try simp only [Act.put, List.setIfInBounds_toArray, List.set_cons_zero, List.set_cons_succ]
          refine wpAnyH_done (by kernel_rfl) ?_ _
          go_wp2_with fail
          go_roundw
          case rel => exact ⟨t + 1, by omega, by go_num, Lib.hid (AR.out.go ((Below.refl _ _).drew))⟩
          case measure => simp [intOf]; omega
      · go_wp2
        go_ret
        exact ⟨rfl, AR.out.b⟩
end Go.Proofs.Yticnfekjbknomaa
