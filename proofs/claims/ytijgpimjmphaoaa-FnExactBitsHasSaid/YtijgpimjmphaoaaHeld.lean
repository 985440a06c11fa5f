/- What the holding helpers of the laws return where the marks stand: the next number; they change nothing. -/
import Derived.Test.YtijgpimjmphaoaaMark
namespace Go.Proofs.Ytijgpimjmphaoaa
open Go.ChangeShapes Go.WideShapes Go.ChangeAt Go.RowKit
set_option linter.unusedVariables false

theorem heldIntS_any (w : World) (a : Option Addr) (n cap : Nat) (k : Int) (hn : n ≤ 1048576) (hk : 0 ≤ k) (hk2 : k ≤ 1000000000000)
    (h : ∀ i, i < n → ∃ g p, a = some ⟨g, p, none⟩ ∧ w.cell? ⟨g, p + i, none⟩ = some (.int .i64 (k + i))) :
    Calls Try.prog 36 #[.slice a n cap, .int .i64 k] w fun e w' => e = .returned (.int .i64 (k + n)) ∧ w = w' := by
  have H := Lib.hid h
  clear h
  go_enter Try.func36, Try.ntmps36
  go_wp2
  go_loop [1, 5] (fun l i => ∃ j : Nat, j ≤ n ∧ i = .int .i64 j ∧ l = .int .i64 (k + j)) (fun _ i => n - (intOf i).toNat)
  case atStart => exact ⟨0, Nat.zero_le _, rfl, by simp⟩
  case round =>
    obtain ⟨j, hj, rfl, rfl⟩ := hrel
    by_cases hlt : j < n
    · obtain ⟨g, p, rfl, hc⟩ := H.out j hlt
      have hlt' : (j : Int) < (n : Int) := by omega
      go_wp2
      go_round
      case rel => exact ⟨j + 1, by omega, by go_num, by go_num⟩
      case measure => simp [intOf]; omega
    · go_wp2
      go_ret
      have e : j = n := by omega
      subst e
      exact ⟨rfl, rfl⟩

/-- what is read of the rows of a matrix -/
theorem MatAt.rows {w : World} {B0 B1 : Nat} {a : Option Addr} {cap : Nat} {A : Nat → Option Addr} {L C : Nat → Nat} {X : Nat → Nat → Int} {xss : List (List Int)}
    (h : MatAt w B0 B1 a xss.length A L C X) (hc : xss.length ≤ cap) (hm : cap ≤ maxLen) (hL : ∀ j, j < xss.length → L j = (xss.getD j []).length) (hX : ∀ j, j < xss.length → ∀ i, i < L j → X j i = (xss.getD j []).getD i 0) :
    Rows2 w (.slice a xss.length cap) xss := by
  refine ⟨a, cap, rfl, hc, hm, fun j hj => ?_⟩
  obtain ⟨b, o, rfl, _, _, h3, h4, h5⟩ := h.top j hj
  refine ⟨b, o, _, rfl, h3, A j, C j, by rw [hL j hj], by rw [← hL j hj]; exact h4, h5.1, fun i hi => ?_⟩
  rw [← hL j hj] at hi
  obtain ⟨g, p, e, _, _, h6, _⟩ := h.row j hj i hi
  exact ⟨g, p, e, by rw [h6, hX j hj i hi]⟩

end Go.Proofs.Ytijgpimjmphaoaa
