/- What the proofs stand on, part 19. -/
import Derived.Test.YtfnmnegddhggaaaRows
import Derived.Test.YtfnmnegddhggaaaT1
import Derived.Test.YtfnmnegddhggaaaT14
set_option linter.unusedSimpArgs false
set_option linter.unusedVariables false
namespace Go.Proofs.Ytfnmnegddhggaaa
open Go.ChangeShapes Go.WideShapes Go.ChangeAt Go.RowKit
theorem take_all {α : Type} {l : List α} {k : Nat} (h : k = l.length) : l.take k = l := by rw [h, List.take_length]
theorem take_eq_succ {α : Type} {xs ys : List α} {d : α} {k : Nat} (hl : xs.length = ys.length) (hk : k < xs.length) (h : xs.take k = ys.take k) (he : xs.getD k d = ys.getD k d) : xs.take (k + 1) = ys.take (k + 1) := by
  rw [take_snoc_getD xs k d hk, take_snoc_getD ys k d (by omega), h, he]
theorem eq_of_take {α : Type} {xs ys : List α} {k : Nat} (hl : xs.length = ys.length) (hk : k = xs.length) (h : xs.take k = ys.take k) : xs = ys := by
  have h1 := take_all hk
  have h2 := take_all (l := ys) (k := k) (by omega)
  rw [← h1, ← h2, h]
theorem ne_of_getD {α : Type} {xs ys : List α} {d : α} {k : Nat} (h : xs.getD k d ≠ ys.getD k d) : xs ≠ ys := fun e => h (by rw [e])
end Go.Proofs.Ytfnmnegddhggaaa
namespace Go.Proofs.Ytfnmnegddhggaaa
open Go.ChangeShapes Go.WideShapes Go.ChangeAt Go.RowKit
set_option linter.unusedVariables false
def Reads (v : Value) (w : World) (e : Ending) (w' : World) : Prop := e = .returned v ∧ ∃ n, w' = w.drewN n
theorem reads_mk {b c : Bool} {w : World} {n : Nat} (h : b = c) : Reads (.bool c) w (.returned (.bool b)) (w.drewN n) := ⟨by rw [h], n, rfl⟩
theorem reads_mk0 {b c : Bool} {w : World} (h : b = c) : Reads (.bool c) w (.returned (.bool b)) w := ⟨by rw [h], 0, rfl⟩
theorem reads_mk2 {b c : Bool} {w : World} {n m : Nat} (h : b = c) : Reads (.bool c) w (.returned (.bool b)) ((w.drewN n).drewN m) := ⟨by rw [h], n + m, by rw [World.drewN_drewN]⟩
end Go.Proofs.Ytfnmnegddhggaaa
