/- What the proofs stand on, part 34. -/
import Derived.Test.YtfnmnegddhggaaaRows
import Derived.Test.YtfnmnegddhggaaaT1
import Derived.Test.YtfnmnegddhggaaaT2
import Derived.Test.YtfnmnegddhggaaaT3
import Derived.Test.YtfnmnegddhggaaaT4
import Derived.Test.YtfnmnegddhggaaaT5
import Derived.Test.YtfnmnegddhggaaaT6
import Derived.Test.YtfnmnegddhggaaaT8
import Derived.Test.YtfnmnegddhggaaaT9
import Derived.Test.YtfnmnegddhggaaaT10
import Derived.Test.YtfnmnegddhggaaaT11
import Derived.Test.YtfnmnegddhggaaaT12
import Derived.Test.YtfnmnegddhggaaaT13
import Derived.Test.YtfnmnegddhggaaaT21
import Derived.Test.YtfnmnegddhggaaaT24
set_option linter.unusedSimpArgs false
set_option linter.unusedVariables false
namespace Go.Proofs.Ytfnmnegddhggaaa
open Go.ChangeShapes Go.WideShapes Go.ChangeAt Go.RowKit
set_option linter.unusedVariables false
set_option linter.unusedSimpArgs false
theorem spansN_get (xs : List Int) : ∀ (m i : Nat), i < m → (spansN xs m).getD i 0 = spn xs i
  | 0, i, h => by omega
  | m + 1, i, h => by
    rw [spansN, List.getD_eq_getElem?_getD, List.getElem?_append]
    by_cases hi : i < m
    · rw [if_pos (by rw [spansN_len]; exact hi), ← List.getD_eq_getElem?_getD]
      exact spansN_get xs m i hi
    · obtain rfl : i = m := by omega
      rw [if_neg (by rw [spansN_len]; omega), spansN_len, Nat.sub_self]; rfl
end Go.Proofs.Ytfnmnegddhggaaa
