/- What the reference's functions on two sets answer. -/
import Derived.Test.YtijgpimjmphaoaaBSpec2
namespace Go.Proofs.Ytijgpimjmphaoaa
open Go.ChangeShapes Go.WideShapes Go.ChangeAt Go.RowKit
set_option linter.unusedVariables false

set_option maxRecDepth 100000 in
theorem bitsJoin_any (w : World) (a b : Int) : Calls Try.prog 29 #[.int .i64 a, .int .i64 b] w fun e w' => e = .returned (.int .i64 (bjoin a b)) ∧ w = w' := by
  have HSA := Lib.hid (fun w => l5Set_any w a)
  have HSB := Lib.hid (fun w => l5Set_any w b)
  have HHA := Lib.hid (fun w (k : Nat) h1 h2 => l5Has_any w a k h1 h2)
  have HHB := Lib.hid (fun w (k : Nat) h1 h2 => l5Has_any w b k h1 h2)
  have HW := Lib.hid (fun w (k : Nat) (h : k < 12) => l5Weight_any w k (by omega))
  have HR := Lib.hid (fun h1 h2 => bjoin_yes (a := a) (b := b) h1 h2)
  have HNO := Lib.hid (fun h : ¬ (bset a && bset b) = true => show bjoin a b = -1 by unfold bjoin; rw [if_neg h])
  have HBA := Lib.hid (fun k : Nat => show bbit a k = a.toNat.testBit k by unfold bbit; rw [Int.toNat_natCast])
  have HBB := Lib.hid (fun k : Nat => show bbit b k = b.toNat.testBit k by unfold bbit; rw [Int.toNat_natCast])
  obtain ⟨R, hR⟩ : ∃ R, R = bjoin a b := ⟨_, rfl⟩
  rw [← hR] at HR HNO ⊢
  obtain ⟨sa, hsa⟩ : ∃ s, s = bset a := ⟨_, rfl⟩
  obtain ⟨sb, hsb⟩ : ∃ s, s = bset b := ⟨_, rfl⟩
  rw [← hsa] at HSA HHA HR HNO
  rw [← hsb] at HSB HHB HR HNO
  obtain ⟨PA, hPA⟩ : ∃ P, P = a.toNat.testBit := ⟨_, rfl⟩
  obtain ⟨PB, hPB⟩ : ∃ P, P = b.toNat.testBit := ⟨_, rfl⟩
  rw [← hPA] at HBA HR
  rw [← hPB] at HBB HR
  clear hR hsa hsb hPA hPB
  cases sa with
  | false =>
    have hr := HNO.out (by simp)
    subst hr
    clear HNO HR
    go_enter Try.func29, Try.ntmps29
    go_wp2_with fail
    refine (HSA.out _).mono ?_
    rintro e w' ⟨rfl, rfl⟩
    go_wp2_with fail
    go_ret
    exact ⟨rfl, rfl⟩
  | true =>
    cases sb with
    | false =>
      have hr := HNO.out (by simp)
      subst hr
      clear HNO HR
      go_enter Try.func29, Try.ntmps29
      go_wp2_with fail
      refine (HSA.out _).mono ?_
      rintro e w' ⟨rfl, rfl⟩
      go_wp2_with fail
      refine (HSB.out _).mono ?_
      rintro e w' ⟨rfl, rfl⟩
      go_wp2_with fail
      go_ret
      exact ⟨rfl, rfl⟩
    | true =>
      have hr := HR.out rfl rfl
      obtain ⟨Q, hQ⟩ : ∃ Q : Nat → Bool, Q = fun i => PA i || PB i := ⟨_, rfl⟩
      rw [← hQ] at hr
      have HQ := Lib.hid (fun k : Nat => congrFun hQ k)
      subst hr
      clear HNO HR hQ
      go_enter Try.func29, Try.ntmps29
      go_wp2_with fail
      refine (HSA.out _).mono ?_
      rintro e w' ⟨rfl, rfl⟩
      go_wp2_with fail
      refine (HSB.out _).mono ?_
      rintro e w' ⟨rfl, rfl⟩
      go_wp2_with fail
      go_loopw [5, 6] (fun o i wr => ∃ k : Nat, k ≤ 12 ∧ i = .int .i64 k ∧ o = .int .i64 ((bnum Q k : Nat) : Int) ∧ wr = w) (fun _ i _ => 12 - (intOf i).toNat)
      case atStart => exact ⟨0, Nat.zero_le _, rfl, rfl, rfl⟩
      case round =>
        obtain ⟨k, hk, rfl, rfl, rfl⟩ := hrel
        by_cases hlt : k < 12
        · have hlt' : (k : Int) < 12 := by omega
          have HCA := Lib.hid (HHA.out wr k (by trivial) (decide_eq_true (by omega)))
          have HCB := Lib.hid (HHB.out wr k (by trivial) (decide_eq_true (by omega)))
          have HWK := Lib.hid (HW.out wr k hlt)
          have HQK := Lib.hid (HQ.out k)
          rw [HBA.out] at HCA
          rw [HBB.out] at HCB
          have hp : 2 ^ k ≤ 2 ^ 12 := Nat.pow_le_pow_right (by omega) (by omega)
          have hn := bnum_lt Q k
          have HSU := Lib.hid (show bnum Q (k + 1) = bnum Q k + (if Q k = true then 2 ^ k else 0) from rfl)
          obtain ⟨pa, hpa⟩ : ∃ p, p = PA k := ⟨_, rfl⟩
          obtain ⟨pb, hpb⟩ : ∃ p, p = PB k := ⟨_, rfl⟩
          obtain ⟨N1, hN1⟩ : ∃ N, N = bnum Q (k + 1) := ⟨_, rfl⟩
          obtain ⟨N, hN⟩ : ∃ N, N = bnum Q k := ⟨_, rfl⟩
          obtain ⟨X, hX⟩ : ∃ X : Nat, X = 2 ^ k := ⟨_, rfl⟩
          rw [← hpa] at HCA HQK
          rw [← hpb] at HCB HQK
          rw [HQK.out, ← hN1, ← hN, ← hX] at HSU
          rw [← hX] at hp hn HWK
          rw [← hN] at hn ⊢
          have HN1 := Lib.hid hN1
          have hw : IntKind.i64.wrap ((N : Int) + (X : Int)) = (N : Int) + (X : Int) := by rw [IntKind.wrap_i64]; omega
          clear hpa hpb hN1 hN hX hp hn
          cases pa <;> cases pb
          · have HSV := Lib.hid (show N1 = N from HSU.out)
            go_wp2_with fail
            refine HCA.out.mono ?_
            rintro e w' ⟨rfl, rfl⟩
            go_wp2_with fail
            refine HCB.out.mono ?_
            rintro e w' ⟨rfl, rfl⟩
            go_wp2_with fail
            go_roundw
            case rel => exact ⟨k + 1, by omega, by go_num, by rw [← HN1.out]; rw [HSV.out], trivial⟩
            case measure => simp [intOf]; omega
          · have HSV := Lib.hid (show N1 = N + X from HSU.out)
            go_wp2_with fail
            refine HCA.out.mono ?_
            rintro e w' ⟨rfl, rfl⟩
            go_wp2_with fail
            refine HCB.out.mono ?_
            rintro e w' ⟨rfl, rfl⟩
            go_wp2_with fail
            refine HWK.out.mono ?_
            rintro e w' ⟨rfl, rfl⟩
            go_wp2_with fail
            go_roundw
            case rel => exact ⟨k + 1, by omega, by go_num, by rw [← HN1.out]; rw [HSV.out]; go_num, trivial⟩
            case measure => simp [intOf]; omega
          · have HSV := Lib.hid (show N1 = N + X from HSU.out)
            go_wp2_with fail
            refine HCA.out.mono ?_
            rintro e w' ⟨rfl, rfl⟩
            go_wp2_with fail
            refine HWK.out.mono ?_
            rintro e w' ⟨rfl, rfl⟩
            go_wp2_with fail
            go_roundw
            case rel => exact ⟨k + 1, by omega, by go_num, by rw [← HN1.out]; rw [HSV.out]; go_num, trivial⟩
            case measure => simp [intOf]; omega
          · have HSV := Lib.hid (show N1 = N + X from HSU.out)
            go_wp2_with fail
            refine HCA.out.mono ?_
            rintro e w' ⟨rfl, rfl⟩
            go_wp2_with fail
            refine HWK.out.mono ?_
            rintro e w' ⟨rfl, rfl⟩
            go_wp2_with fail
            go_roundw
            case rel => exact ⟨k + 1, by omega, by go_num, by rw [← HN1.out]; rw [HSV.out]; go_num, trivial⟩
            case measure => simp [intOf]; omega
        · have hge : decide ((k : Int) < 12) = false := by simp; omega
          have e : k = 12 := by omega
          subst e
          obtain ⟨N, hN⟩ : ∃ N, N = bnum Q 12 := ⟨_, rfl⟩
          rw [← hN]
          have HNE := Lib.hid hN
          clear hN
          go_wp2_with fail
          go_ret
          exact ⟨by rw [← HNE.out]; rfl, rfl⟩
set_option maxRecDepth 100000 in
theorem bitsWithout_any (w : World) (a b : Int) : Calls Try.prog 32 #[.int .i64 a, .int .i64 b] w fun e w' => e = .returned (.int .i64 (bwout a b)) ∧ w = w' := by
  have HSA := Lib.hid (fun w => l5Set_any w a)
  have HSB := Lib.hid (fun w => l5Set_any w b)
  have HHA := Lib.hid (fun w (k : Nat) h1 h2 => l5Has_any w a k h1 h2)
  have HHB := Lib.hid (fun w (k : Nat) h1 h2 => l5Has_any w b k h1 h2)
  have HW := Lib.hid (fun w (k : Nat) (h : k < 12) => l5Weight_any w k (by omega))
  have HR := Lib.hid (fun h1 h2 => bwout_yes (a := a) (b := b) h1 h2)
  have HNO := Lib.hid (fun h : ¬ (bset a && bset b) = true => show bwout a b = -1 by unfold bwout; rw [if_neg h])
  have HBA := Lib.hid (fun k : Nat => show bbit a k = a.toNat.testBit k by unfold bbit; rw [Int.toNat_natCast])
  have HBB := Lib.hid (fun k : Nat => show bbit b k = b.toNat.testBit k by unfold bbit; rw [Int.toNat_natCast])
  obtain ⟨R, hR⟩ : ∃ R, R = bwout a b := ⟨_, rfl⟩
  rw [← hR] at HR HNO ⊢
  obtain ⟨sa, hsa⟩ : ∃ s, s = bset a := ⟨_, rfl⟩
  obtain ⟨sb, hsb⟩ : ∃ s, s = bset b := ⟨_, rfl⟩
  rw [← hsa] at HSA HHA HR HNO
  rw [← hsb] at HSB HHB HR HNO
  obtain ⟨PA, hPA⟩ : ∃ P, P = a.toNat.testBit := ⟨_, rfl⟩
  obtain ⟨PB, hPB⟩ : ∃ P, P = b.toNat.testBit := ⟨_, rfl⟩
  rw [← hPA] at HBA HR
  rw [← hPB] at HBB HR
  clear hR hsa hsb hPA hPB
  cases sa with
  | false =>
    have hr := HNO.out (by simp)
    subst hr
    clear HNO HR
    go_enter Try.func32, Try.ntmps32
    go_wp2_with fail
    refine (HSA.out _).mono ?_
    rintro e w' ⟨rfl, rfl⟩
    go_wp2_with fail
    go_ret
    exact ⟨rfl, rfl⟩
  | true =>
    cases sb with
    | false =>
      have hr := HNO.out (by simp)
      subst hr
      clear HNO HR
      go_enter Try.func32, Try.ntmps32
      go_wp2_with fail
      refine (HSA.out _).mono ?_
      rintro e w' ⟨rfl, rfl⟩
      go_wp2_with fail
      refine (HSB.out _).mono ?_
      rintro e w' ⟨rfl, rfl⟩
      go_wp2_with fail
      go_ret
      exact ⟨rfl, rfl⟩
    | true =>
      have hr := HR.out rfl rfl
      obtain ⟨Q, hQ⟩ : ∃ Q : Nat → Bool, Q = fun i => PA i && !PB i := ⟨_, rfl⟩
      rw [← hQ] at hr
      have HQ := Lib.hid (fun k : Nat => congrFun hQ k)
      subst hr
      clear HNO HR hQ
      go_enter Try.func32, Try.ntmps32
      go_wp2_with fail
      refine (HSA.out _).mono ?_
      rintro e w' ⟨rfl, rfl⟩
      go_wp2_with fail
      refine (HSB.out _).mono ?_
      rintro e w' ⟨rfl, rfl⟩
      go_wp2_with fail
      go_loopw [5, 6] (fun o i wr => ∃ k : Nat, k ≤ 12 ∧ i = .int .i64 k ∧ o = .int .i64 ((bnum Q k : Nat) : Int) ∧ wr = w) (fun _ i _ => 12 - (intOf i).toNat)
      case atStart => exact ⟨0, Nat.zero_le _, rfl, rfl, rfl⟩
      case round =>
        obtain ⟨k, hk, rfl, rfl, rfl⟩ := hrel
        by_cases hlt : k < 12
        · have hlt' : (k : Int) < 12 := by omega
          have HCA := Lib.hid (HHA.out wr k (by trivial) (decide_eq_true (by omega)))
          have HCB := Lib.hid (HHB.out wr k (by trivial) (decide_eq_true (by omega)))
          have HWK := Lib.hid (HW.out wr k hlt)
          have HQK := Lib.hid (HQ.out k)
          rw [HBA.out] at HCA
          rw [HBB.out] at HCB
          have hp : 2 ^ k ≤ 2 ^ 12 := Nat.pow_le_pow_right (by omega) (by omega)
          have hn := bnum_lt Q k
          have HSU := Lib.hid (show bnum Q (k + 1) = bnum Q k + (if Q k = true then 2 ^ k else 0) from rfl)
          obtain ⟨pa, hpa⟩ : ∃ p, p = PA k := ⟨_, rfl⟩
          obtain ⟨pb, hpb⟩ : ∃ p, p = PB k := ⟨_, rfl⟩
          obtain ⟨N1, hN1⟩ : ∃ N, N = bnum Q (k + 1) := ⟨_, rfl⟩
          obtain ⟨N, hN⟩ : ∃ N, N = bnum Q k := ⟨_, rfl⟩
          obtain ⟨X, hX⟩ : ∃ X : Nat, X = 2 ^ k := ⟨_, rfl⟩
          rw [← hpa] at HCA HQK
          rw [← hpb] at HCB HQK
          rw [HQK.out, ← hN1, ← hN, ← hX] at HSU
          rw [← hX] at hp hn HWK
          rw [← hN] at hn ⊢
          have HN1 := Lib.hid hN1
          have hw : IntKind.i64.wrap ((N : Int) + (X : Int)) = (N : Int) + (X : Int) := by rw [IntKind.wrap_i64]; omega
          clear hpa hpb hN1 hN hX hp hn
          cases pa <;> cases pb
          · have HSV := Lib.hid (show N1 = N from HSU.out)
            go_wp2_with fail
            refine HCA.out.mono ?_
            rintro e w' ⟨rfl, rfl⟩
            go_wp2_with fail
            go_roundw
            case rel => exact ⟨k + 1, by omega, by go_num, by rw [← HN1.out]; rw [HSV.out], trivial⟩
            case measure => simp [intOf]; omega
          · have HSV := Lib.hid (show N1 = N from HSU.out)
            go_wp2_with fail
            refine HCA.out.mono ?_
            rintro e w' ⟨rfl, rfl⟩
            go_wp2_with fail
            go_roundw
            case rel => exact ⟨k + 1, by omega, by go_num, by rw [← HN1.out]; rw [HSV.out], trivial⟩
            case measure => simp [intOf]; omega
          · have HSV := Lib.hid (show N1 = N + X from HSU.out)
            go_wp2_with fail
            refine HCA.out.mono ?_
            rintro e w' ⟨rfl, rfl⟩
            go_wp2_with fail
            refine HCB.out.mono ?_
            rintro e w' ⟨rfl, rfl⟩
            go_wp2_with fail
            refine HWK.out.mono ?_
            rintro e w' ⟨rfl, rfl⟩
            go_wp2_with fail
            go_roundw
            case rel => exact ⟨k + 1, by omega, by go_num, by rw [← HN1.out]; rw [HSV.out]; go_num, trivial⟩
            case measure => simp [intOf]; omega
          · have HSV := Lib.hid (show N1 = N from HSU.out)
            go_wp2_with fail
            refine HCA.out.mono ?_
            rintro e w' ⟨rfl, rfl⟩
            go_wp2_with fail
            refine HCB.out.mono ?_
            rintro e w' ⟨rfl, rfl⟩
            go_wp2_with fail
            go_roundw
            case rel => exact ⟨k + 1, by omega, by go_num, by rw [← HN1.out]; rw [HSV.out], trivial⟩
            case measure => simp [intOf]; omega
        · have hge : decide ((k : Int) < 12) = false := by simp; omega
          have e : k = 12 := by omega
          subst e
          obtain ⟨N, hN⟩ : ∃ N, N = bnum Q 12 := ⟨_, rfl⟩
          rw [← hN]
          have HNE := Lib.hid hN
          clear hN
          go_wp2_with fail
          go_ret
          exact ⟨by rw [← HNE.out]; rfl, rfl⟩
end Go.Proofs.Ytijgpimjmphaoaa
