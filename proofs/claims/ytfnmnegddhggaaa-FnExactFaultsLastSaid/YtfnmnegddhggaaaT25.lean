/- What the proofs stand on, part 25. -/
import Derived.Test.YtfnmnegddhggaaaRows
import Derived.Test.YtfnmnegddhggaaaT1
import Derived.Test.YtfnmnegddhggaaaT2
import Derived.Test.YtfnmnegddhggaaaT3
import Derived.Test.YtfnmnegddhggaaaT14
import Derived.Test.YtfnmnegddhggaaaT19
import Derived.Test.YtfnmnegddhggaaaT22
set_option linter.unusedSimpArgs false
set_option linter.unusedVariables false
namespace Go.Proofs.Ytfnmnegddhggaaa
open Go.ChangeShapes Go.WideShapes Go.ChangeAt Go.RowKit
set_option linter.unusedVariables false
theorem OwnInts.lt {w : World} {g : Nat} {v : Value} {xs : List Int} (h : OwnInts w g v xs) : g < w.heap.size := h.2.2.lt
end Go.Proofs.Ytfnmnegddhggaaa
namespace Go.Proofs.Ytfnmnegddhggaaa
open Go.ChangeShapes Go.WideShapes Go.ChangeAt Go.RowKit
set_option linter.unusedVariables false
set_option linter.unusedSimpArgs false
theorem ChgL.of_below {w w' : World} (bs : List Nat) (h : Below w.heap.size w w') : ChgL bs w w' := ⟨h.os, h.tape, h.output, h.size, fun b hb _ => h.block b hb⟩
theorem Pg.chg {w w' : World} {bs : List Nat} {ns : List (Nat × Int)} {p : Option Addr} (h : Pg w ns p) (hc : ChgL bs w w') (hd : ∀ b ∈ ns.map Prod.fst, b ∉ bs) : Pg w' ns p :=
  h.keep (fun b hb => hc.block b (h.lt b hb) (hd b hb))
end Go.Proofs.Ytfnmnegddhggaaa
