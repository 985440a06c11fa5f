/- What the proofs stand on, part 30. -/
import Derived.Test.YtfnmnegddhggaaaRows
import Derived.Test.YtfnmnegddhggaaaT1
import Derived.Test.YtfnmnegddhggaaaT2
import Derived.Test.YtfnmnegddhggaaaT3
import Derived.Test.YtfnmnegddhggaaaT6
import Derived.Test.YtfnmnegddhggaaaT11
import Derived.Test.YtfnmnegddhggaaaT14
import Derived.Test.YtfnmnegddhggaaaT19
import Derived.Test.YtfnmnegddhggaaaT21
import Derived.Test.YtfnmnegddhggaaaT24
set_option linter.unusedSimpArgs false
set_option linter.unusedVariables false
namespace Go.Proofs.Ytfnmnegddhggaaa
open Go.ChangeShapes Go.WideShapes Go.ChangeAt Go.RowKit
set_option linter.unusedVariables false
set_option maxRecDepth 100000 in
set_option maxHeartbeats 1000000 in
theorem sTraceSpans_any (w : World) (v : Value) (xs : List Int) (h : Ints w v xs) :
    Calls Try.prog 20 #[v] w (NewR (spans xs) w) := by
  have H := Lib.hid h
  obtain ⟨a, ca, hv, hla, hma, -⟩ := h
  unfold maxLen at hma
  obtain ⟨n, hn⟩ : ∃ n, n = xs.length := ⟨_, rfl⟩
  rw [← hn] at hla hv
  subst hv
  have HN := Lib.hid hn
  clear hn
  obtain ⟨ys, hys⟩ : ∃ ys, ys = spans xs := ⟨_, rfl⟩
  rw [← hys]
  have HYS := Lib.hid hys
  clear hys
  have HST := Lib.hid (OwnI.start w)
  have HV := Lib.hid (fun (w' : World) (hb : Below w.heap.size w w') => sTraceValid_any w' _ xs (Ints.below (B := 0) H.out hb))
  obtain ⟨c, hc⟩ : ∃ c, c = trOk xs := ⟨_, rfl⟩
  rw [← hc] at HV
  have HC := Lib.hid hc
  clear hc
  go_enter Try.func20, Try.ntmps20
  go_wp2
  go_loopw [3, 4] (fun sv i wr => ∃ m : Nat, m ≤ n ∧ i = .int .i64 m ∧ Hid (OwnI w sv (spansN xs m) wr) ∧ (0 < m → c = true)) (fun _ i _ => n - (intOf i).toNat)
  case atStart => exact ⟨0, Nat.zero_le _, rfl, HST, fun h => absurd h (by omega)⟩
  case round =>
    obtain ⟨m, hm, rfl, HREL, hmc⟩ := hrel
    by_cases hlt : m < n
    · have hlt' : (m : Int) < (n : Int) := by omega
      cases c with
      | false =>
        have h0 : m = 0 := by
          rcases Nat.eq_zero_or_pos m with h | h
          · exact h
          · exact absurd (hmc h) (by simp)
        subst h0
        have HF : Hid (ys = []) := Lib.hid (by rw [HYS.out, spans, ← HC.out]; rfl)
        go_wp2_with fail
        refine (HV.out _ HREL.out.bel).mono ?_
        rintro e w' ⟨rfl, rfl⟩
        go_wp2_with fail
        go_ret
        rw [HF.out]
        exact ⟨_, rfl, IntsW.of_own HREL.out, HREL.out.bel⟩
      | true =>
        have hl24 := tr_len HC.out.symm
        have HSP := Lib.hid (fun (w' : World) (hb : Below w.heap.size w w') => l33Span_any w' _ xs (Ints.below (B := 0) H.out hb) (by omega) m (by rw [← HN.out]; exact hlt))
        go_wp2_with fail
        refine (HV.out _ HREL.out.bel).mono ?_
        rintro e w' ⟨rfl, rfl⟩
        go_wp2_with fail
        refine (HSP.out _ HREL.out.bel).mono ?_
        rintro e w2 ⟨rfl, hb2⟩
        have HR2 : Hid (OwnI w _ (spansN xs m) w2) := Lib.hid (HREL.out.keep hb2)
        clear hb2 HREL HSP
        go_wp2_with (at_builtin; refine wpList_append_nums _ _ w _ _ _ [spn xs m] _ 1 HR2.out rfl rfl (by rw [spansN_len]; simp; rw [HN.out] at hlt; omega) rfl rfl ?_; intro v' w' hown; have HO := Lib.hid hown; clear hown)
        go_roundw
        case rel => exact ⟨m + 1, by omega, by go_num, HO, fun _ => by first | trivial | rfl⟩
        case measure => simp [intOf]; omega
    · have e : m = n := by omega
      have HF : Hid (ys = spansN xs n) := Lib.hid (by
        rw [HYS.out, spans, ← HC.out]
        by_cases h0 : 0 < m
        · rw [hmc h0, if_pos rfl, ← HN.out]
        · have hz : n = 0 := by omega
          rw [← HN.out, hz]
          cases c <;> rfl)
      subst e
      go_wp2_with fail
      go_ret
      rw [HF.out]
      exact ⟨_, rfl, IntsW.of_own HREL.out, HREL.out.bel⟩
end Go.Proofs.Ytfnmnegddhggaaa
