/- The operations on bits of small numbers. -/
import Derived.Test.YtijgpimjmphaoaaBAll
import Derived.Laws.BitsLemmas
namespace Go.Proofs.Ytijgpimjmphaoaa
open Go.ChangeShapes Go.WideShapes Go.ChangeAt Go.RowKit
set_option linter.unusedVariables false

theorem wraps_i64 (n : Int) (h₀ : 0 ≤ n) (h₁ : n < 2 ^ 40) : IntKind.i64.wrap n = n := by rw [IntKind.wrap_i64]; omega
theorem or_nat (a b : Nat) (ha : a < 2 ^ 40) (hb : b < 2 ^ 40) : bits .or .i64 (a : Int) (b : Int) = ((a ||| b : Nat) : Int) := (bits_nat .i64 40 (by decide) wraps_i64 a b ha hb).2
theorem and_nat (a b : Nat) (ha : a < 2 ^ 40) (hb : b < 2 ^ 40) : bits .and .i64 (a : Int) (b : Int) = ((a &&& b : Nat) : Int) := (bits_nat .i64 40 (by decide) wraps_i64 a b ha hb).1
theorem or_set {a b : Int} (ha : bset a = true) (hb : bset b = true) : bits .or .i64 a b = bjoin a b := by
  obtain ⟨a1, a2⟩ := bset_lt ha
  obtain ⟨b1, b2⟩ := bset_lt hb
  rw [bjoin_yes ha hb, bnum_or _ _ a1 b1]
  have := or_nat a.toNat b.toNat (by omega) (by omega)
  rw [a2, b2] at this
  exact this
theorem andNot_set {a b : Int} (ha : bset a = true) (hb : bset b = true) : bits .andNot .i64 a b = bwout a b := by
  obtain ⟨a1, a2⟩ := bset_lt ha
  obtain ⟨b1, b2⟩ := bset_lt hb
  rw [bwout_yes ha hb, ← a2, ← b2]
  simp only [Int.toNat_natCast]
  obtain ⟨A, hA⟩ : ∃ A, A = a.toNat := ⟨_, rfl⟩
  obtain ⟨B, hB⟩ : ∃ B, B = b.toNat := ⟨_, rfl⟩
  rw [← hA] at a1 ⊢
  rw [← hB] at b1 ⊢
  have e : (BitVec.ofNat 64 A &&& ~~~ BitVec.ofNat 64 B).toNat = bnum (fun i => A.testBit i && !B.testBit i) 12 := by
    refine Nat.eq_of_testBit_eq fun i => ?_
    rw [bnum_bit, BitVec.testBit_toNat, BitVec.getLsbD_and, BitVec.getLsbD_not, BitVec.getLsbD_ofNat, BitVec.getLsbD_ofNat]
    by_cases hi : i < 12
    · rw [decide_eq_true hi, decide_eq_true (show i < 64 by omega)]
      simp
    · have hp : (2 : Nat) ^ 12 ≤ 2 ^ i := Nat.pow_le_pow_right (by omega) (by omega)
      rw [decide_eq_false hi, Nat.testBit_lt_two_pow (x := A) (by omega)]
      simp
  have hl := bnum_lt (fun i => A.testBit i && !B.testBit i) 12
  show IntKind.i64.wrap ((BitVec.ofInt 64 (A : Int) &&& ~~~ BitVec.ofInt 64 (B : Int)).toNat : Int) = _
  rw [BitVec.ofInt_natCast, BitVec.ofInt_natCast, e]
  exact wraps_i64 _ (by omega) (by omega)
/-- a bit by a shift -/
theorem shr_bit {N F : Nat} (hN : N ≤ 4095) : (bits .and .i64 ((N : Int) / 2 ^ F) 1 == 1) = bbit N F := by
  have e : ((N : Int) / 2 ^ F) = ((N / 2 ^ F : Nat) : Int) := by
    rw [Int.natCast_ediv, Int.natCast_pow]
    rfl
  have hd := Nat.div_le_self N (2 ^ F)
  unfold bbit
  rw [e, Int.toNat_natCast, Int.toNat_natCast]
  have h := and_nat (N / 2 ^ F) 1 (by omega) (by omega)
  rw [show ((1 : Nat) : Int) = 1 from rfl] at h
  rw [h, Nat.and_one_is_mod, Nat.testBit_eq_decide_div_mod_eq, Bool.eq_iff_iff, beq_iff_eq, decide_eq_true_eq]
  omega
/-- one more bit -/
theorem or_new {N X : Nat} (hN : N < 2 ^ 12) (hX : X < 12) (hb : bbit N X = false) : bits .or .i64 (N : Int) (2 ^ X) = ((N + 2 ^ X : Nat) : Int) := by
  have hp : 2 ^ X ≤ 2 ^ 12 := Nat.pow_le_pow_right (by omega) (by omega)
  have hp2 : 2 ^ X < 2 ^ 12 := Nat.pow_lt_pow_right (by omega) hX
  unfold bbit at hb
  rw [Int.toNat_natCast, Int.toNat_natCast] at hb
  have h1 : bnum (fun i => N.testBit i || (2 ^ X).testBit i) 12 = N ||| 2 ^ X := bnum_or N (2 ^ X) hN hp2
  have h2 : bnum (fun i => N.testBit i || decide (i = X)) 12 = N + 2 ^ X := by rw [bnum_add hb hX, bnum_self hN]
  have h3 : N ||| 2 ^ X = N + 2 ^ X := by
    rw [← h1, ← h2]
    refine bnum_congr fun i _ => ?_
    rw [Nat.testBit_two_pow]
    congr 1
    rw [decide_eq_decide]
    exact ⟨fun h => h.symm, fun h => h.symm⟩
  have := or_nat N (2 ^ X) (by omega) (by omega)
  rw [h3, show (((2 ^ X : Nat)) : Int) = 2 ^ X from by rw [Int.natCast_pow]; rfl] at this
  exact this
end Go.Proofs.Ytijgpimjmphaoaa
