/- What the counting helpers of the laws return: a number below 0, or what is left of the bound behind the numbers of all rows; and what the reference's check of a memory returns. They change nothing. -/
import Derived.Test.YtopnomklfkkjfaaEq
namespace Go.Proofs.Ytopnomklfkkjfaa
open Go.ChangeShapes Go.WideShapes Go.ChangeAt Go.RowKit
set_option linter.unusedVariables false

def total (xss : List (List Int)) : Nat := (xss.map List.length).sum
theorem total_snoc (xss : List (List Int)) (k : Nat) (h : k < xss.length) : total (xss.take (k + 1)) = total (xss.take k) + (xss.getD k []).length := by
  rw [take_snoc_getD xss k [] h]; simp [total]

/-- below 0; or all numbers and all rows together with it make 'left' -/
def Left (xss : List (List Int)) (left : Int) (w : World) (e : Ending) (w' : World) : Prop :=
  ∃ r : Int, (r < 0 ∨ (0 ≤ r ∧ r + xss.length + total xss = left)) ∧ e = .returned (.int .i64 r) ∧ w = w'
theorem left_neg {xss : List (List Int)} {left : Int} {w : World} : Left xss left w (.returned (.int .i64 (-1))) w := ⟨-1, .inl (by omega), rfl, rfl⟩

/-- a frame's words -/
def wordsOk (xs : List Int) : Bool := decide ((∀ x ∈ xs, 0 ≤ x ∧ x ≤ 9999) ∧ xs.length = 4)
def memOk (xss : List (List Int)) : Bool := decide ((∀ xs ∈ xss, wordsOk xs = true) ∧ xss.length = 12)
end Go.Proofs.Ytopnomklfkkjfaa
