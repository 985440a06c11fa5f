/- What the proofs stand on, part 29. -/
import Derived.Test.YtfnmnegddhggaaaRows
import Derived.Test.YtfnmnegddhggaaaT1
import Derived.Test.YtfnmnegddhggaaaT2
import Derived.Test.YtfnmnegddhggaaaT3
import Derived.Test.YtfnmnegddhggaaaT4
import Derived.Test.YtfnmnegddhggaaaT5
import Derived.Test.YtfnmnegddhggaaaT6
import Derived.Test.YtfnmnegddhggaaaT8
import Derived.Test.YtfnmnegddhggaaaT9
import Derived.Test.YtfnmnegddhggaaaT10
import Derived.Test.YtfnmnegddhggaaaT11
import Derived.Test.YtfnmnegddhggaaaT12
import Derived.Test.YtfnmnegddhggaaaT13
set_option linter.unusedSimpArgs false
set_option linter.unusedVariables false
namespace Go.Proofs.Ytfnmnegddhggaaa
open Go.ChangeShapes Go.WideShapes Go.ChangeAt Go.RowKit
set_option linter.unusedVariables false
set_option linter.unusedSimpArgs false
theorem ints_cell {w : World} {g n c : Nat} {xs : List Int} (h : Ints w (.slice (some ⟨g, 0, none⟩) n c) xs) {m : Nat} (hm : m < n) : w.cell? ⟨g, m, none⟩ = some (.int .i64 (xs.getD m 0)) := by
  obtain ⟨a', c', e, h1, h2, h3⟩ := h
  injection e with e1 e2 e3
  subst e1
  obtain ⟨b, o, e, hc⟩ := h3 m (by omega)
  cases e
  rwa [Nat.zero_add] at hc
end Go.Proofs.Ytfnmnegddhggaaa
