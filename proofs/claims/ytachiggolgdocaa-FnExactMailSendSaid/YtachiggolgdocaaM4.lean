/- What the proofs stand on, part 4. -/
import Derived.Test.YtachiggolgdocaaRows
import Derived.Test.YtachiggolgdocaaM1
import Derived.Test.YtachiggolgdocaaM2
set_option linter.unusedSimpArgs false
set_option linter.unusedVariables false
namespace Go.Proofs.Ytachiggolgdocaa
open Go.ChangeShapes Go.WideShapes Go.ChangeAt Go.RowKit
set_option linter.unusedVariables false
theorem iv_ext {x y : IV} : x = y ↔ x.k = y.k ∧ x.g = y.g ∧ x.r = y.r := by cases x; cases y; simp
theorem TriW.stored {w : World} {b o : Nat} {x : IV} (h : w.there b o 3) : TriW (w.setCells b o (ivC x)) b o x := by
  have hr := World.rangeAt_setCells_same w b o (ivC x) h
  exact ⟨⟨hr 0 _ rfl, hr 1 _ rfl, hr 2 _ rfl⟩, fun j hj => by rw [World.frozen?_setCells]; exact (h j hj).2⟩
theorem TriW.apart {w : World} {b b' o o' : Nat} {x : IV} {vs : List Value} (h : TriW w b' o' x) (ha : b' ≠ b ∨ o' + 3 ≤ o ∨ o + vs.length ≤ o') : TriW (w.setCells b o vs) b' o' x := by
  have hr : w.rangeAt b' o' (ivC x) := fun j v hv => by
    have hj : j < 3 := (List.getElem?_eq_some_iff.1 hv).1
    obtain rfl | rfl | rfl : j = 0 ∨ j = 1 ∨ j = 2 := by omega
    · cases hv; exact h.at3.c0
    · cases hv; exact h.at3.c1
    · cases hv; exact h.at3.c2
  have h2 := World.rangeAt_setCells_apart hr b o vs ha
  exact ⟨⟨h2 0 _ rfl, h2 1 _ rfl, h2 2 _ rfl⟩, fun j hj => by rw [World.frozen?_setCells]; exact h.fr j hj⟩
end Go.Proofs.Ytachiggolgdocaa
