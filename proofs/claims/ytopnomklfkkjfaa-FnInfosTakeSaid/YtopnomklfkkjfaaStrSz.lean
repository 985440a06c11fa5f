/- What the counting helper of the laws returns for a slice of texts: a number below 0, or what is left of the bound. -/
import Derived.Test.YtopnomklfkkjfaaStrTo
namespace Go.Proofs.Ytopnomklfkkjfaa
open Go.ChangeShapes Go.WideShapes Go.ChangeAt Go.RowKit
set_option linter.unusedVariables false

def Fit (xs : List Bs) : Prop := ∀ x ∈ xs, x.length ≤ maxLen
theorem Fit.at {xs : List Bs} (h : Fit xs) (i : Nat) : (xs.getD i []).length ≤ maxLen := by
  by_cases hi : i < xs.length
  · rw [getD_lt hi]; exact h _ (List.getElem_mem hi)
  · rw [List.getD, List.getElem?_eq_none (Nat.le_of_not_lt hi)]; exact Nat.zero_le _
def totalS (xs : List Bs) : Nat := (xs.map List.length).sum
theorem totalS_snoc (xs : List Bs) (k : Nat) (h : k < xs.length) : totalS (xs.take (k + 1)) = totalS (xs.take k) + (xs.getD k []).length := by
  rw [take_snoc_getD xs k [] h]; simp [totalS]
theorem totalS_mem {xs : List Bs} {x : Bs} (h : x ∈ xs) : x.length ≤ totalS xs := by
  induction xs with
  | nil => cases h
  | cons y ys ih =>
    simp only [totalS, List.map_cons, List.sum_cons] at ih ⊢
    rcases List.mem_cons.1 h with e | h
    · subst e; omega
    · have := ih h; omega
/-- below 0; or all texts and their letters together with it make 'left' -/
def LeftS (xs : List Bs) (left : Int) (w : World) (e : Ending) (w' : World) : Prop :=
  ∃ r : Int, (r < 0 ∨ (0 ≤ r ∧ r + xs.length + totalS xs = left)) ∧ e = .returned (.int .i64 r) ∧ w = w'
theorem leftS_neg {xs : List Bs} {left : Int} {w : World} : LeftS xs left w (.returned (.int .i64 (-1))) w := ⟨-1, .inl (by omega), rfl, rfl⟩

end Go.Proofs.Ytopnomklfkkjfaa
