/- What the reference's functions on sets of frames answer. -/
import Derived.Test.YtijgpimjmphaoaaBMath
import Derived.Test.YtijgpimjmphaoaaSList
import Derived.Deep.RegionWith
namespace Go.Proofs.Ytijgpimjmphaoaa
open Go.ChangeShapes Go.WideShapes Go.ChangeAt Go.RowKit
set_option linter.unusedVariables false

def inR (x lo hi : Int) : Bool := decide (lo ≤ x ∧ x ≤ hi)
theorem l6In_any (w : World) (x lo hi : Int) : Calls Try.prog 43 #[.int .i64 x, .int .i64 lo, .int .i64 hi] w fun e w' => e = .returned (.bool (inR x lo hi)) ∧ w = w' := by
  unfold inR
  by_cases h : lo ≤ x ∧ x ≤ hi
  · rw [decide_eq_true h]
    obtain ⟨h1, h2⟩ := h
    go_enter Try.func43, Try.ntmps43
    go_wp2
    go_ret
    exact ⟨rfl, rfl⟩
  · rw [decide_eq_false h]
    by_cases h1 : lo ≤ x
    · have h2 : decide (x ≤ hi) = false := by simp; omega
      clear h
      go_enter Try.func43, Try.ntmps43
      go_wp2
      go_ret
      exact ⟨rfl, rfl⟩
    · have h2 : decide (lo ≤ x) = false := by simpa using h1
      clear h
      go_enter Try.func43, Try.ntmps43
      go_wp2
      go_ret
      exact ⟨rfl, rfl⟩
theorem l5Set_any (w : World) (n : Int) : Calls Try.prog 48 #[.int .i64 n] w fun e w' => e = .returned (.bool (bset n)) ∧ w = w' := by
  go_enter Try.func48, Try.ntmps48
  go_wp2_with (go_at_call 43; refine (l6In_any _ _ _ _).mono ?_; rintro e w' ⟨rfl, rfl⟩)
  go_ret
  exact ⟨rfl, rfl⟩
set_option maxRecDepth 100000 in
theorem l5Weight_any (w : World) (f : Nat) (hf : f ≤ 12) : Calls Try.prog 45 #[.int .i64 (f : Int)] w fun e w' => e = .returned (.int .i64 ((2 ^ f : Nat) : Int)) ∧ w = w' := by
  go_enter Try.func45, Try.ntmps45
  go_wp2
  go_loopw [3, 4] (fun o i wr => ∃ k : Nat, k ≤ f ∧ i = .int .i64 k ∧ o = .int .i64 ((2 ^ k : Nat) : Int) ∧ wr = w) (fun _ i _ => f - (intOf i).toNat)
  case atStart => exact ⟨0, Nat.zero_le _, rfl, rfl, rfl⟩
  case round =>
    obtain ⟨k, hk, rfl, rfl, rfl⟩ := hrel
    by_cases hlt : k < f
    · have hp : 2 ^ k ≤ 2 ^ 12 := Nat.pow_le_pow_right (by omega) (by omega)
      obtain ⟨X, hX⟩ : ∃ X : Nat, X = 2 ^ k := ⟨_, rfl⟩
      rw [← hX] at hp ⊢
      have HX2 : Hid (2 ^ (k + 1) = 2 * X) := Lib.hid (by rw [Nat.pow_succ, hX]; omega)
      have hw : IntKind.i64.wrap (2 * (X : Int)) = 2 * (X : Int) := by rw [IntKind.wrap_i64]; omega
      clear hX hp
      go_wp2
      go_roundw
      case rel => exact ⟨k + 1, by omega, by go_num, by rw [HX2.out]; go_num, trivial⟩
      case measure => simp [intOf]; omega
    · have ek : k = f := by omega
      subst ek
      obtain ⟨X, hX⟩ : ∃ X : Nat, X = 2 ^ k := ⟨_, rfl⟩
      rw [← hX]
      have HXE := Lib.hid hX
      clear hX
      go_wp2
      go_ret
      exact ⟨by rw [← HXE.out]; rfl, rfl⟩
theorem bit_eq {n f : Int} (hn : bset n = true) (hf : bin f = true) : ((n.toNat : Int) / ((2 ^ f.toNat : Nat) : Int)).toNat % 2 = (if bbit n f = true then 1 else 0) := by
  have hn' := bset_lt hn
  unfold bbit
  rw [← Int.natCast_ediv, Int.toNat_natCast, Nat.testBit_eq_decide_div_mod_eq]
  by_cases h : n.toNat / 2 ^ f.toNat % 2 = 1
  · rw [if_pos (decide_eq_true h), h]
  · rw [if_neg (by simpa using h)]; omega
theorem wrap_small {x : Int} (h : 0 ≤ x ∧ x ≤ 1000000000) : wrap64 x = x := by unfold wrap64; omega
theorem has_val {N X : Nat} {b : Bool} (h : ((N : Int) / (X : Int)).toNat % 2 = (if b = true then 1 else 0)) (hN : N ≤ 4095) : ((wrap64 ((N : Int) / (X : Int))).tmod 2 == 1) = b := by
  rw [← Int.natCast_ediv] at h ⊢
  have hq := Nat.div_le_self N X
  obtain ⟨q, hqq⟩ : ∃ q, q = N / X := ⟨_, rfl⟩
  rw [← hqq] at h hq ⊢
  rw [Int.toNat_natCast] at h
  rw [wrap_small (by omega), Int.tmod_eq_emod_of_nonneg (by omega)]
  cases b
  · rw [if_neg (by simp)] at h
    simp only [beq_eq_false_iff_ne, ne_eq]
    omega
  · rw [if_pos rfl] at h
    simp only [beq_iff_eq]
    omega
theorem l5Has_any (w : World) (n f : Int) (hn : bset n = true) (hf : bin f = true) : Calls Try.prog 44 #[.int .i64 n, .int .i64 f] w fun e w' => e = .returned (.bool (bbit n f)) ∧ w = w' := by
  have hn' := of_decide_eq_true hn
  have hf' := of_decide_eq_true hf
  obtain ⟨N, rfl⟩ := Int.eq_ofNat_of_zero_le hn'.1
  obtain ⟨F, rfl⟩ := Int.eq_ofNat_of_zero_le hf'.1
  have HW := Lib.hid (l5Weight_any w F (by omega))
  have HB := Lib.hid (bit_eq hn hf)
  have hp : 0 < 2 ^ F := Nat.pow_pos (by omega)
  rw [Int.toNat_natCast, Int.toNat_natCast] at HB
  obtain ⟨X, hX⟩ : ∃ X : Nat, X = 2 ^ F := ⟨_, rfl⟩
  rw [← hX] at HW HB hp
  clear hX hn hf
  obtain ⟨b, hb⟩ : ∃ b, b = bbit N F := ⟨_, rfl⟩
  rw [← hb] at HB ⊢
  clear hb
  have hX0 : ((X : Int) == 0) = false := by simp; omega
  go_enter Try.func44, Try.ntmps44
  go_wp2_with fail
  refine HW.out.mono ?_
  rintro e w' ⟨rfl, rfl⟩
  clear HW
  go_wp2_with fail
  go_ret
  exact ⟨by rw [← has_val HB.out (by omega)]; rfl, rfl⟩
end Go.Proofs.Ytijgpimjmphaoaa
