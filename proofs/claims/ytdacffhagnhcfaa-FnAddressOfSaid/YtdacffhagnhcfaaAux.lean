/- Small facts on entries and addresses, and the length of a slice that came in. -/
import Derived.Test.YtdacffhagnhcfaaFns
import Derived.Test.YtdacffhagnhcfaaDraws
namespace Go.Proofs.Ytdacffhagnhcfaa
open Go.ChangeShapes Go.WideShapes Go.ChangeAt Go.RowKit
theorem row_len {k : IntKind} {w : World} {a : Option Addr} {len cap : Nat} {zs : List Int} (hr : Row k w a len cap zs) : len ≤ 9223372036854775807 := by
  rcases hr with ⟨_, rfl, rfl, _⟩ | ⟨x, _, hl, hm, _⟩
  · omega
  · unfold maxLen at hm; omega
theorem ep_pos {f : Int} (b : Bool) (h : 0 ≤ f) : 0 < epV f b := by cases b <;> simp [epV] <;> omega
theorem ep_le {f : Int} (b : Bool) (h : f < 12) : epV f b ≤ 9999 := by cases b <;> simp [epV] <;> omega
theorem ep_two (f : Int) : (epV f true == epV f false + 2) = true := by simp [epV]; omega
theorem ep_good {f : Int} (b : Bool) (h0 : 0 ≤ f) (h1 : f < 12) : goodB (epV f b) := by cases b <;> simp [epV, goodB] <;> omega
theorem ep_div {f : Int} (b : Bool) : epV f b / 4 = f := by cases b <;> simp [epV] <;> omega
theorem ep_flag {f : Int} (b : Bool) : decide (epV f b % 4 = 3) = b := by cases b <;> simp [epV] <;> omega
theorem ep_back (n : Int) (h : goodB n) : (epV (n / 4) (decide (n % 4 = 3)) == n) = true := by
  obtain ⟨h0, h1, h2⟩ := h
  by_cases h3 : n % 4 = 3 <;> simp [epV, h3] <;> omega
theorem ep_fr (n : Int) (h : goodB n) : 0 ≤ n / 4 ∧ n / 4 < 12 := by
  obtain ⟨h0, h1, h2⟩ := h
  omega
theorem iget_ep (f : Int) (b : Bool) (w : World) (h0 : 0 ≤ f) (h1 : f < 12) :
    Calls Try.prog 19 #[.int .i64 (epV f b)] w fun e w' => e = .returned (.tuple #[.int .i64 f, .bool b, .bool true]) ∧ w = w' := by
  have h := iget_yes (epV f b) w (ep_good b h0 h1)
  rw [ep_div, ep_flag] at h
  exact h
theorem cut_back (n : Int) : (16 * (n / 16) + 4 * (n / 4 % 4) + n % 4 == n) = true := by simp; omega
end Go.Proofs.Ytdacffhagnhcfaa
