/- The walk of the statement on free frames, out of contracts of the program. -/
import Derived.Test.YtopnomklfkkjfaaLawI3
namespace Go.Proofs.Ytopnomklfkkjfaa
open Go.ChangeShapes Go.WideShapes Go.ChangeAt Go.RowKit
set_option linter.unusedVariables false

theorem cnt_take_le (ys : List IV) (k : Nat) : cnt (ys.take k) ≤ k := by
  have h1 := cnt_le (ys.take k)
  rw [List.length_take] at h1
  omega
set_option maxRecDepth 100000 in
set_option maxHeartbeats 2000000 in
theorem infosFree_walk (hF : IIF) (hV : IIV) (W : World) (a : Option Addr) (len cap : Nat) (zs : List Int) (hr : Row .u8 W a len cap zs) :
    Calls Try.prog 7 #[.slice a len cap] W fun e w' => e = .returned (.bool true) ∧ Below W.heap.size W w' := by
  have HF := Lib.hid hF
  have HV := Lib.hid hV
  clear hF hV
  have hm := row_len hr
  by_cases hL : 1048576 < len
  · have hL1 : (1048576 : Int) < (len : Int) := by omega
    clear hr
    go_enter Try.func7, Try.ntmps7
    go_wp2_with fail
    go_ret
    exact ⟨rfl, Below.refl _ _⟩
  have hL1 : decide ((1048576 : Int) < (len : Int)) = false := by simp; omega
  have hL2 : decide (1048576 < len) = false := by simp; omega
  go_enter Try.func7, Try.ntmps7
  go_wp2_with fail
  refine (drawInfosFree_any W a len cap zs hr).mono ?_
  clear hr
  rintro e w1 ⟨v, ys, rfl, hd⟩
  have B1 := Lib.hid hd.bel
  have R1 := Lib.hid hd.is
  have HSH := Lib.hid hd.rng
  obtain ⟨a1, c2, hv⟩ : ∃ (a1 : Option Addr) (c : Nat), v = .slice a1 ys.length c := by
    obtain ⟨g, c, h⟩ := hd.form
    exact ⟨_, _, h⟩
  have hl8 : ys.length ≤ 12 := hd.len
  clear hd
  subst hv
  have HC := Lib.hid (HF.out w1 _ ys R1.out (shortI HSH.out))
  have HS := Lib.hid (fun w h => infosFree_any w (.slice a1 ys.length c2) ys h (shortI HSH.out))
  have HW := Lib.hid (fun w h => HV.out w (.slice a1 ys.length c2) ys h (shortI HSH.out))
  have HB : Hid (isok ys = false → ifree ys = -1) := Lib.hid (fun h => by unfold ifree; rw [h]; rfl)
  have HA : Hid (isok ys = true → ifree ys = (cnt ys : Int)) := Lib.hid (fun h => by unfold ifree; rw [if_pos h])
  generalize ifree ys = q at HC HS HB HA
  generalize isok ys = b at HW HB HA
  obtain ⟨n, hn⟩ : ∃ n, n = ys.length := ⟨_, rfl⟩
  rw [← hn] at HC HS HW R1 hl8 ⊢
  have HN := Lib.hid hn
  clear hn HF HV
  have hff := neI q
  cases b with
  | false =>
    obtain rfl := HB.out rfl
    clear HA HB
    go_wp2_with fail
    refine HC.out.mono ?_
    rintro e w2 ⟨rfl, hb2⟩
    have B2 := Lib.hid (B1.out.trans (hb2.mono B1.out.size))
    have R2 := Lib.hid (R1.out.below hb2)
    clear hb2 HC R1 B1
    go_wp2_with fail
    refine (HS.out w2 R2.out).mono ?_
    rintro e w3 ⟨rfl, hb3⟩
    have B3 := Lib.hid (B2.out.trans (hb3.mono B2.out.size))
    have R3 := Lib.hid (R2.out.below hb3)
    clear hb3 HS R2 B2
    go_wp2_with fail
    refine (HW.out w3 R3.out).mono ?_
    rintro e w4 ⟨rfl, hb4⟩
    have B4 := Lib.hid (B3.out.trans (hb4.mono B3.out.size))
    have R4 := Lib.hid (R3.out.below hb4)
    clear hb4 HW R3 B3
    go_wp2_with fail
    go_ret
    exact ⟨rfl, B4.out⟩
  | true =>
    obtain rfl := HA.out rfl
    clear HA HB
    obtain ⟨c, hc⟩ : ∃ c, c = cnt ys := ⟨_, rfl⟩
    rw [← hc] at HC HS hff
    have HCN := Lib.hid hc
    clear hc
    go_wp2_with fail
    refine HC.out.mono ?_
    rintro e w2 ⟨rfl, hb2⟩
    have B2 := Lib.hid (B1.out.trans (hb2.mono B1.out.size))
    have R2 := Lib.hid (R1.out.below hb2)
    clear hb2 HC R1 B1
    go_wp2_with fail
    refine (HS.out w2 R2.out).mono ?_
    rintro e w3 ⟨rfl, hb3⟩
    have B3 := Lib.hid (B2.out.trans (hb3.mono B2.out.size))
    have R3 := Lib.hid (R2.out.below hb3)
    clear hb3 HS R2 B2
    go_wp2_with fail
    refine (HW.out w3 R3.out).mono ?_
    rintro e w4 ⟨rfl, hb4⟩
    have B4 := Lib.hid (B3.out.trans (hb4.mono B3.out.size))
    have R4 := Lib.hid (R3.out.below hb4)
    clear hb4 HW R3 B3
    go_wp2_with fail
    obtain ⟨a3, c3, e, hr1, hr2, hr3⟩ := R4.out
    injection e with e1 e2 e3
    subst e1
    subst e3
    have HR3 := Lib.hid hr3
    clear hr1 hr2 hr3 e2 R4
    go_loopw [6, 7] (fun j i wr => ∃ k : Nat, k ≤ n ∧ i = .int .i64 k ∧ j = .int .i64 (cnt (ys.take k) : Nat) ∧ Hid (Below w4.heap.size w4 wr)) (fun _ i _ => n - (intOf i).toNat)
    case atStart => exact ⟨0, Nat.zero_le _, rfl, rfl, Lib.hid (Below.refl _ _)⟩
    case round =>
      obtain ⟨k, hk, rfl, rfl, HBW⟩ := hrel
      by_cases hlt : k < n
      · obtain ⟨ba, oa, rfl, hfa⟩ := HR3.out k (by rw [← HN.out]; exact hlt)
        have hba := block_lt_of_cell hfa.c0
        have hcs := cnt_take_succ (xs := ys) (k := k) (by rw [← HN.out]; exact hlt)
        have hcl := cnt_take_le ys k
        obtain ⟨y, hy⟩ : ∃ y, y = ys.getD k iz := ⟨_, rfl⟩
        rw [← hy] at hfa hcs
        clear hy
        obtain ⟨t, ht⟩ : ∃ t, t = cnt (ys.take k) := ⟨_, rfl⟩
        rw [← ht] at hcs hcl ⊢
        clear ht
        have hlt' : (k : Int) < (n : Int) := by omega
        have FA : Tri wr ba (oa + k * 3) y := hfa.below HBW.out hba
        obtain ⟨s0, s1, s2⟩ := FA
        try dsimp only at s0 s1 s2
        clear hfa
        by_cases he : y.k = 0
        · rw [if_pos he] at hcs
          have HCS := Lib.hid hcs
          have e1 : (y.k == 0) = true := by simpa using he
          clear hcs he
          go_wp2_with fail
          go_roundw
          case rel => exact ⟨k + 1, by omega, by go_num, by rw [HCS.out]; go_num, Lib.hid HBW.out⟩
          case measure => simp [intOf]; omega
        · rw [if_neg he] at hcs
          have HCS := Lib.hid hcs
          have e1 : (y.k == 0) = false := by simpa using he
          clear hcs
          go_wp2_with fail
          go_roundw
          case rel => exact ⟨k + 1, by omega, by go_num, by rw [HCS.out]; rfl, Lib.hid HBW.out⟩
          case measure => simp [intOf]; omega
      · have hkn : k = n := by omega
        subst hkn
        have hcc : cnt (ys.take k) = c := by rw [HCN.out, HN.out, List.take_length]
        rw [hcc]
        clear hlt
        have B5 := Lib.hid (B4.out.trans (HBW.out.mono B4.out.size))
        go_wp2_with fail
        go_ret
        exact ⟨rfl, B5.out⟩
end Go.Proofs.Ytopnomklfkkjfaa
