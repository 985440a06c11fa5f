/- What the proofs stand on, part 27. -/
import Derived.Test.YtfnmnegddhggaaaRows
import Derived.Test.YtfnmnegddhggaaaT1
import Derived.Test.YtfnmnegddhggaaaT2
import Derived.Test.YtfnmnegddhggaaaT3
import Derived.Test.YtfnmnegddhggaaaT4
import Derived.Test.YtfnmnegddhggaaaT6
import Derived.Test.YtfnmnegddhggaaaT7
import Derived.Test.YtfnmnegddhggaaaT10
import Derived.Test.YtfnmnegddhggaaaT21
import Derived.Test.YtfnmnegddhggaaaT24
set_option linter.unusedSimpArgs false
set_option linter.unusedVariables false
namespace Go.Proofs.Ytfnmnegddhggaaa
open Go.ChangeShapes Go.WideShapes Go.ChangeAt Go.RowKit
set_option linter.unusedVariables false
theorem fltN_le (xs : List Int) (f : Int) (m : Nat) : fltN xs f m ≤ m := by
  induction m with
  | zero => simp [fltN]
  | succ m ih => rw [fltN]; by_cases h : spn xs m < 0 ∨ f ≤ spn xs m <;> simp [h] <;> omega
set_option maxRecDepth 100000 in
set_option maxHeartbeats 1000000 in
theorem sFaultsLast_any (w : World) (v : Value) (xs : List Int) (f : Int) (h : Ints w v xs) :
    Calls Try.prog 26 #[v, .int .i64 f] w (IRes (flast xs f) w) := by
  have H := Lib.hid h
  have HV := Lib.hid (l33Ok_any w v xs f h)
  obtain ⟨a, ca, hv, hla, hma, -⟩ := h
  unfold maxLen at hma
  obtain ⟨n, hn⟩ : ∃ n, n = xs.length := ⟨_, rfl⟩
  rw [← hn] at hla hv
  subst hv
  have HN := Lib.hid hn
  clear hn
  obtain ⟨r, hr⟩ : ∃ r, r = flast xs f := ⟨_, rfl⟩
  rw [← hr]
  have HR := Lib.hid hr
  clear hr
  cases hc : ftOk xs f with
  | false =>
    rw [hc] at HV
    have HF : Hid (r = -1) := Lib.hid (by rw [HR.out, flast, hc]; rfl)
    clear hc
    go_enter Try.func26, Try.ntmps26
    go_wp2_with fail
    refine HV.out.mono ?_
    rintro e w' ⟨rfl, rfl⟩
    go_wp2_with fail
    go_ret
    exact ⟨by rw [HF.out]; rfl, Below.refl _ _⟩
  | true =>
    rw [hc] at HV
    have HF : Hid (r = (fltN xs f n : Nat)) := Lib.hid (by rw [HR.out, flast, hc, if_pos rfl, ← HN.out])
    have hl24 : xs.length ≤ 24 := tr_len (by unfold ftOk at hc; rw [Bool.and_eq_true] at hc; exact hc.1)
    have HL24 := Lib.hid hl24
    clear hc hl24
    go_enter Try.func26, Try.ntmps26
    go_wp2_with fail
    refine HV.out.mono ?_
    rintro e w' ⟨rfl, rfl⟩
    clear HV
    go_wp2_with fail
    go_loopw [5, 6] (fun q i wr => ∃ m : Nat, m ≤ n ∧ i = .int .i64 m ∧ q = .int .i64 (fltN xs f m : Nat) ∧ Hid (Below w.heap.size w wr)) (fun _ i _ => n - (intOf i).toNat)
    case atStart => exact ⟨0, Nat.zero_le _, rfl, rfl, Lib.hid (Below.refl _ _)⟩
    case round =>
      obtain ⟨m, hm, rfl, rfl, hbl⟩ := hrel
      have hfl := fltN_le xs f m
      have hl := HL24.out
      rw [← HN.out] at hl
      by_cases hlt : m < n
      · have hlt' : (m : Int) < (n : Int) := by omega
        have HSP := Lib.hid (l33Span_any _ _ xs (Ints.below (B := 0) H.out hbl.out) (by rw [← HN.out]; omega) m (by rw [← HN.out]; exact hlt))
        have HSN : Hid (fltN xs f (m + 1) = fltN xs f m + if spn xs m < 0 ∨ f ≤ spn xs m then 1 else 0) := Lib.hid rfl
        obtain ⟨q, hq⟩ : ∃ q, q = fltN xs f m := ⟨_, rfl⟩
        obtain ⟨p, hp⟩ : ∃ p, p = spn xs m := ⟨_, rfl⟩
        rw [← hq] at hfl HSN ⊢
        rw [← hp] at HSP HSN
        clear hq hp
        go_wp2_with fail
        refine HSP.out.mono ?_
        rintro e w2 ⟨rfl, hb2⟩
        have HB2 := Lib.hid (hbl.out.trans (hb2.mono hbl.out.size))
        clear hb2 hbl HSP
        by_cases h1 : p < 0
        · rw [if_pos (.inl h1)] at HSN
          go_wp2_with fail
          go_roundw
          case rel => exact ⟨m + 1, by omega, by go_num, by rw [HSN.out]; go_num, HB2⟩
          case measure => simp [intOf]; omega
        · have h1' : decide (p < 0) = false := by rw [decide_eq_false_iff_not]; exact h1
          by_cases h2 : f ≤ p
          · rw [if_pos (.inr h2)] at HSN
            go_wp2_with fail
            go_roundw
            case rel => exact ⟨m + 1, by omega, by go_num, by rw [HSN.out]; go_num, HB2⟩
            case measure => simp [intOf]; omega
          · have h2' : decide (f ≤ p) = false := by rw [decide_eq_false_iff_not]; exact h2
            rw [if_neg (by omega)] at HSN
            go_wp2_with fail
            go_roundw
            case rel => exact ⟨m + 1, by omega, by go_num, by rw [HSN.out]; rfl, HB2⟩
            case measure => simp [intOf]; omega
      · have e : m = n := by omega
        subst e
        go_wp2_with fail
        go_ret
        exact ⟨by rw [HF.out]; rfl, hbl.out⟩
end Go.Proofs.Ytfnmnegddhggaaa
