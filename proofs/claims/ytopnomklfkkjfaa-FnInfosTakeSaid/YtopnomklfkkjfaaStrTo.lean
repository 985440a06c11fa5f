/- What the copying, counting and comparing helpers of the laws return for slices of texts. -/
import Derived.Test.YtopnomklfkkjfaaStr
namespace Go.Proofs.Ytopnomklfkkjfaa
open Go.ChangeShapes Go.WideShapes Go.ChangeAt Go.RowKit
set_option linter.unusedVariables false

theorem strInfo : (Try.prog.info? 9).map (fun i => (i.zero, i.size, i.bytes)) = some (some (.string ⟨#[]⟩), 1, 16) := by kernel_rfl

def contS (xs : List Bs) (k : Nat) (j : Nat) : Value := if j < k then .string ⟨(xs.getD j []).toArray⟩ else .string ⟨#[]⟩
theorem contS_step {xs : List Bs} {k : Nat} (j : Nat) : (if j = k then Value.string ⟨(xs.getD k []).toArray⟩ else contS xs k j) = contS xs (k + 1) j := by
  unfold contS
  by_cases h : j = k
  · subst h; simp
  · by_cases h2 : j < k
    · rw [if_neg h, if_pos h2, if_pos (by omega)]
    · rw [if_neg h, if_neg h2, if_neg (by omega)]
theorem strs_own {w : World} {g n : Nat} {xs : List Bs} (hN : n = xs.length) (hn : n ≤ 1048576) (hr : w.rowIs g 9 n (contS xs n)) : StrsW w g (g + 1) (.slice (some ⟨g, 0, none⟩) n n) xs := by
  subst hN
  refine ⟨_, _, rfl, Nat.le_refl _, by unfold maxLen; omega, fun i hi => ⟨g, 0, rfl, Nat.le_refl _, Nat.lt_succ_self _, ?_, ?_⟩⟩
  · have := hr.cell hi
    rw [Nat.zero_add, this]
    simp [contS, hi]
  · exact hr.frozen (0 + i)
/-- a new slice of texts -/
def ToStrs (xs : List Bs) (w : World) (e : Ending) (w' : World) : Prop :=
  ∃ v, e = .returned v ∧ StrsW w' w.heap.size (w.heap.size + 1) v xs ∧ Below w.heap.size w w' ∧ w'.heap.size = w.heap.size + 1 ∧ v = .slice (some ⟨w.heap.size, 0, none⟩) xs.length xs.length

end Go.Proofs.Ytopnomklfkkjfaa
