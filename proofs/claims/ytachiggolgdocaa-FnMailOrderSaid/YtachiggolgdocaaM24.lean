/- What the proofs stand on, part 24. -/
import Derived.Test.YtachiggolgdocaaRows
import Derived.Test.YtachiggolgdocaaM1
import Derived.Test.YtachiggolgdocaaM2
import Derived.Test.YtachiggolgdocaaM3
import Derived.Test.YtachiggolgdocaaM5
import Derived.Test.YtachiggolgdocaaM7
import Derived.Test.YtachiggolgdocaaM12
import Derived.Test.YtachiggolgdocaaM16
set_option linter.unusedSimpArgs false
set_option linter.unusedVariables false
namespace Go.Proofs.Ytachiggolgdocaa
open Go.ChangeShapes Go.WideShapes Go.ChangeAt Go.RowKit
def Ints (w : World) (v : Value) (xs : List Int) : Prop :=
  ∃ (a : Option Addr) (cap : Nat), v = .slice a xs.length cap ∧ xs.length ≤ cap ∧ cap ≤ maxLen ∧
    ∀ i, i < xs.length → ∃ b o, a = some ⟨b, o, none⟩ ∧ w.cell? ⟨b, o + i, none⟩ = some (.int .i64 (xs.getD i 0))
theorem Ints.drewN {w : World} {v : Value} {xs : List Int} (h : Ints w v xs) (n : Nat) : Ints (w.drewN n) v xs := h
theorem ne_of_getD {α : Type} {xs ys : List α} {d : α} {k : Nat} (h : xs.getD k d ≠ ys.getD k d) : xs ≠ ys := fun e => h (by rw [e])
end Go.Proofs.Ytachiggolgdocaa
namespace Go.Proofs.Ytachiggolgdocaa
open Go.ChangeShapes Go.WideShapes Go.ChangeAt Go.RowKit
set_option linter.unusedVariables false
def Reads (v : Value) (w : World) (e : Ending) (w' : World) : Prop := e = .returned v ∧ ∃ n, w' = w.drewN n
theorem reads_mk {b c : Bool} {w : World} {n : Nat} (h : b = c) : Reads (.bool c) w (.returned (.bool b)) (w.drewN n) := ⟨by rw [h], n, rfl⟩
theorem reads_mk0 {b c : Bool} {w : World} (h : b = c) : Reads (.bool c) w (.returned (.bool b)) w := ⟨by rw [h], 0, rfl⟩
theorem reads_mk2 {b c : Bool} {w : World} {n m : Nat} (h : b = c) : Reads (.bool c) w (.returned (.bool b)) ((w.drewN n).drewN m) := ⟨by rw [h], n + m, by rw [World.drewN_drewN]⟩
end Go.Proofs.Ytachiggolgdocaa
namespace Go.Proofs.Ytachiggolgdocaa
open Go.ChangeShapes Go.WideShapes Go.ChangeAt Go.RowKit
set_option linter.unusedVariables false
theorem Ints.below {B : Nat} {w w' : World} {v : Value} {xs : List Int} (h : Ints w v xs) (hb : Below w.heap.size w w') : Ints w' v xs := by
  obtain ⟨a, cap, rfl, h1, h2, h3⟩ := h
  refine ⟨a, cap, rfl, h1, h2, fun i hi => ?_⟩
  obtain ⟨b, o, rfl, hc⟩ := h3 i hi
  exact ⟨b, o, rfl, (hb.cell (p := ⟨b, o + i, none⟩) (cell_lt hc)).trans hc⟩
end Go.Proofs.Ytachiggolgdocaa
namespace Go.Proofs.Ytachiggolgdocaa
open Go.ChangeShapes Go.WideShapes Go.ChangeAt Go.RowKit
set_option linter.unusedVariables false
theorem IntsW.ints {w : World} {B0 B1 : Nat} {v : Value} {xs : List Int} (h : IntsW w B0 B1 v xs) : Ints w v xs := by
  obtain ⟨a, cap, rfl, h1, h2, h3⟩ := h
  refine ⟨a, cap, rfl, h1, h2, fun i hi => ?_⟩
  obtain ⟨g, p, e, _, _, hc, _⟩ := h3 i hi
  exact ⟨g, p, e, hc⟩
end Go.Proofs.Ytachiggolgdocaa
