/- What the counting helpers of the laws return: a number below 0, or what is left of the bound behind the numbers of all rows; and what the reference's check of a memory returns. They change nothing. -/
import Derived.Test.YtdockkmodjbfpaaEq
namespace Go.Proofs.Ytdockkmodjbfpaa
open Go.ChangeShapes Go.WideShapes Go.ChangeAt Go.RowKit
set_option linter.unusedVariables false

def total (xss : List (List Int)) : Nat := (xss.map List.length).sum
theorem total_snoc (xss : List (List Int)) (k : Nat) (h : k < xss.length) : total (xss.take (k + 1)) = total (xss.take k) + (xss.getD k []).length := by
  rw [take_snoc_getD xss k [] h]; simp [total]

theorem szIntS_any (w : World) (v : Value) (xs : List Int) (left : Int) (h : Ints w v xs) (h0 : 0 ≤ left) (h1 : left ≤ 1048576) :
    Calls Try.prog 58 #[v, .int .i64 left] w fun e w' => e = .returned (.int .i64 (if left < xs.length then -1 else left - xs.length)) ∧ w = w' := by
  obtain ⟨a, ca, rfl, hla, hma, hxa⟩ := h
  clear hxa
  unfold maxLen at hma
  generalize xs.length = n at *
  by_cases hl : left < n
  · have hd : left - (n : Int) < 0 := by omega
    rw [if_pos hl]
    go_enter Try.func58, Try.ntmps58
    go_wp2
    go_ret
    exact ⟨rfl, rfl⟩
  · have hd : decide (left - (n : Int) < 0) = false := by simp; omega
    have hd2 : decide (left < (n : Int)) = false := by simp; omega
    rw [if_neg hl]
    clear hl
    go_enter Try.func58, Try.ntmps58
    go_wp2
    go_ret
    exact ⟨rfl, rfl⟩

/-- below 0; or all numbers and all rows together with it make 'left' -/
def Left (xss : List (List Int)) (left : Int) (w : World) (e : Ending) (w' : World) : Prop :=
  ∃ r : Int, (r < 0 ∨ (0 ≤ r ∧ r + xss.length + total xss = left)) ∧ e = .returned (.int .i64 r) ∧ w = w'
theorem left_neg {xss : List (List Int)} {left : Int} {w : World} : Left xss left w (.returned (.int .i64 (-1))) w := ⟨-1, .inl (by omega), rfl, rfl⟩

theorem szIntSS_any (w : World) (v : Value) (xss : List (List Int)) (left : Int) (h : Rows2 w v xss) (h0 : 0 ≤ left) (h1 : left ≤ 1048576) :
    Calls Try.prog 28 #[v, .int .i64 left] w (Left xss left w) := by
  obtain ⟨a, ca, rfl, hla, hma, hxa⟩ := h
  unfold maxLen at hma
  obtain ⟨n, hn⟩ : ∃ n, n = xss.length := ⟨_, rfl⟩
  rw [← hn] at hla hxa ⊢
  have HN := Lib.hid hn
  clear hn
  by_cases hl : left < n
  · have hd : left - (n : Int) < 0 := by omega
    go_enter Try.func28, Try.ntmps28
    go_wp2
    go_ret
    exact left_neg
  · have hd : decide (left - (n : Int) < 0) = false := by simp; omega
    have hd2 : decide (left < (n : Int)) = false := by simp; omega
    go_enter Try.func28, Try.ntmps28
    go_wp2
    go_loop [1, 5] (fun l i => ∃ (k : Nat) (r : Int), k ≤ n ∧ i = .int .i64 k ∧ l = .int .i64 r ∧ 0 ≤ r ∧ r ≤ 1048576 ∧ Hid (r + n + total (xss.take k) = left)) (fun _ i => n - (intOf i).toNat)
    case atStart => exact ⟨0, _, Nat.zero_le _, rfl, rfl, by omega, by omega, Lib.hid (by simp [total])⟩
    case round =>
      obtain ⟨k, r, hk, rfl, rfl, hr0, hr1, HT⟩ := hrel
      by_cases hlt : k < n
      · obtain ⟨ba, oa, ua, rfl, hca, hia⟩ := hxa k hlt
        have HS := Lib.hid (total_snoc xss k (by have := HN.out; omega))
        generalize hx : xss.getD k [] = x at hia HS
        clear hx hxa
        have hlt' : (k : Int) < (n : Int) := by omega
        by_cases hc : r < x.length
        · have HC := Lib.hid (szIntS_any w ua x r hia hr0 hr1)
          rw [if_pos hc] at HC
          go_wp2_with (go_at_call 58; refine HC.out.mono ?_; rintro e w' ⟨rfl, rfl⟩)
          go_ret
          exact left_neg
        · have HC := Lib.hid (szIntS_any w ua x r hia hr0 hr1)
          rw [if_neg hc] at HC
          have hc1 : decide (r - (x.length : Int) < 0) = false := by simp; omega
          have hc2 : decide (r < (x.length : Int)) = false := by simp; omega
          have hc3 : 0 ≤ r - (x.length : Int) := by omega
          go_wp2_with (go_at_call 58; refine HC.out.mono ?_; rintro e w' ⟨rfl, rfl⟩)
          go_round
          case rel => exact ⟨k + 1, r - x.length, by omega, by go_num, by go_num, by omega, by omega, Lib.hid (by have := HS.out; have := HT.out; omega)⟩
          case measure => simp [intOf]; omega
      · go_wp2
        go_ret
        exact ⟨r, .inr ⟨hr0, by have := HT.out; have := HN.out; rw [take_all (by omega)] at *; omega⟩, rfl, rfl⟩

/-- a frame's words -/
def wordsOk (xs : List Int) : Bool := decide ((∀ x ∈ xs, 0 ≤ x ∧ x ≤ 9999) ∧ xs.length = 4)
def memOk (xss : List (List Int)) : Bool := decide ((∀ xs ∈ xss, wordsOk xs = true) ∧ xss.length = 12)
end Go.Proofs.Ytdockkmodjbfpaa
