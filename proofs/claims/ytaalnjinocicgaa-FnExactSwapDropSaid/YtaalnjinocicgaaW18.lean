/- What the proofs stand on, part 18. -/
import Derived.Test.YtaalnjinocicgaaRows
import Derived.Test.YtaalnjinocicgaaW1
import Derived.Test.YtaalnjinocicgaaW2
import Derived.Test.YtaalnjinocicgaaW3
import Derived.Test.YtaalnjinocicgaaW4
import Derived.Test.YtaalnjinocicgaaW6
import Derived.Test.YtaalnjinocicgaaW13
import Derived.Test.YtaalnjinocicgaaW16
set_option linter.unusedSimpArgs false
set_option linter.unusedVariables false
namespace Go.Proofs.Ytaalnjinocicgaa
open Go.ChangeShapes Go.WideShapes Go.ChangeAt Go.RowKit
set_option linter.unusedVariables false
theorem heldIntSS_any (w : World) (B0 B1 : Nat) (a : Option Addr) (n cap : Nat) (A : Nat → Option Addr) (L C : Nat → Nat) (k : Int) (hn : n ≤ 1048576) (ho : off L n ≤ 1048576) (hk : 0 ≤ k) (hk2 : k ≤ 1000000)
    (h : MatAt w B0 B1 a n A L C (fun j i => k + off L j + i)) :
    Calls Try.prog 32 #[.slice a n cap, .int .i64 k] w fun e w' => e = .returned (.int .i64 (k + off L n)) ∧ w = w' := by
  have HO := Lib.hid (fun j (hj : j < n) => off_row L hj)
  go_enter Try.func32, Try.ntmps32
  go_wp2
  go_loop [1, 5] (fun l i => ∃ j : Nat, j ≤ n ∧ i = .int .i64 j ∧ l = .int .i64 (k + off L j)) (fun _ i => n - (intOf i).toNat)
  case atStart => exact ⟨0, Nat.zero_le _, rfl, by simp [off]⟩
  case round =>
    obtain ⟨j, hj, rfl, rfl⟩ := hrel
    by_cases hlt : j < n
    · have hoff := HO.out j hlt
      obtain ⟨b, o, rfl, _, _, hc, hLC, hCm⟩ := h.top j hlt
      have HC := Lib.hid (heldIntS_any w (A j) (L j) (C j) (k + off L j) (by omega) (by omega) (by omega) (fun i hi => by
        obtain ⟨g, p, e, _, _, h3, h4, _⟩ := h.row j hlt i hi
        exact ⟨g, p, e, h3⟩))
      have hlt' : (j : Int) < (n : Int) := by omega
      have hge : decide (k + off L j + L j < 0) = false := by simp; omega
      go_wp2_with fail
      refine HC.out.mono ?_
      rintro e w2 ⟨rfl, rfl⟩
      go_wp2_with fail
      go_round
      case rel => exact ⟨j + 1, by omega, by go_num, by simp [off]; omega⟩
      case measure => simp [intOf]; omega
    · go_wp2
      go_ret
      have e : j = n := by omega
      subst e
      exact ⟨rfl, rfl⟩
end Go.Proofs.Ytaalnjinocicgaa
namespace Go.Proofs.Ytaalnjinocicgaa
open Go.ChangeShapes Go.WideShapes Go.ChangeAt Go.RowKit
set_option linter.unusedVariables false
set_option linter.unusedSimpArgs false
theorem total_le (c : Nat) : ∀ (xss : Rs), (∀ xs ∈ xss, xs.length ≤ c) → total xss ≤ xss.length * c
  | [], _ => by simp [total]
  | x :: xss, h => by
    have h1 := total_le c xss (fun xs hx => h xs (List.mem_cons_of_mem _ hx))
    have h2 := h x (List.mem_cons_self ..)
    simp only [total, List.map_cons, List.sum_cons, List.length_cons, Nat.add_mul, Nat.one_mul] at h1 ⊢
    omega
theorem small_of {xss : Rs} (hl : xss.length ≤ 16) (h : ∀ xs ∈ xss, xs.length ≤ 4) : xss.length + total xss ≤ 1048576 := by
  have := total_le 4 xss h
  omega
theorem heldM_of {w : World} {B0 B1 : Nat} {v : Value} {t : Nat} (h : HldM w B0 B1 v t) (ht : t ≤ 1048576) :
    Calls Try.prog 32 #[v, .int .i64 1] w fun e w' => e = .returned (.int .i64 (1 + (t : Int))) ∧ Chg 0 0 w w' := by
  obtain ⟨a, n, cap, A, L, C, rfl, h1, h2, h3⟩ := h
  refine (heldIntSS_any w B0 B1 a n cap A L C 1 h1 (by omega) (by omega) (by omega) h3).mono ?_
  rintro e w' ⟨rfl, rfl⟩
  exact ⟨by rw [h2], rfl, rfl, rfl, Nat.le_refl _, fun _ _ _ => rfl⟩
end Go.Proofs.Ytaalnjinocicgaa
