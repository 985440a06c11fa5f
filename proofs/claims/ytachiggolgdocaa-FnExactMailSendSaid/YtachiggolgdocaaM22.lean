/- What the proofs stand on, part 22. -/
import Derived.Test.YtachiggolgdocaaRows
import Derived.Test.YtachiggolgdocaaM1
import Derived.Test.YtachiggolgdocaaM3
set_option linter.unusedSimpArgs false
set_option linter.unusedVariables false
namespace Go.Proofs.Ytachiggolgdocaa
open Go.ChangeShapes Go.WideShapes Go.ChangeAt Go.RowKit
set_option linter.unusedVariables false
theorem TriW.set1 {w : World} {b o : Nat} {x : IV} (h : TriW w b o x) (s : Int) : TriW (w.setCell ⟨b, o + 1, none⟩ (.int .i64 s)) b o ⟨x.k, s, x.r⟩ :=
  ⟨⟨(cell_set_other (.inr (by omega))).trans h.at3.c0, cell_set_same h.at3.c1, (cell_set_other (.inr (by omega))).trans h.at3.c2⟩, fun j hj => (frozen_set _).trans (h.fr j hj)⟩
theorem IsW.upd {B0 B1 : Nat} {w w' : World} {a : Option Addr} {n cap : Nat} {xs : List IV} (h : IsW w B0 B1 (.slice a n cap) xs) {g p k : Nat} (ha : a = some ⟨g, p, none⟩) (hk : k < n) {x : IV}
    (hx : TriW w' g (p + k * 3) x) (ho : ∀ i y, i ≠ k → TriW w g (p + i * 3) y → TriW w' g (p + i * 3) y) : IsW w' B0 B1 (.slice a n cap) (xs.set k x) := by
  obtain ⟨a', cap', e, h1, h2, h3⟩ := h
  injection e with e1 e2 e3
  subst e1
  subst e3
  subst e2
  subst ha
  refine ⟨_, cap, by rw [List.length_set], by rw [List.length_set]; exact h1, h2, fun i hi => ?_⟩
  rw [List.length_set] at hi
  obtain ⟨g', p', e, hg0, hg1, hf⟩ := h3 i hi
  cases e
  refine ⟨g, p, rfl, hg0, hg1, ?_⟩
  by_cases hik : i = k
  · subst hik
    rw [getD_lt (by rw [List.length_set]; exact hi), List.getElem_set_self]
    exact hx
  · have := ho i _ hik hf
    rwa [getD_lt (by rw [List.length_set]; exact hi), List.getElem_set_ne (by omega), ← getD_lt (d := iz) hi]
end Go.Proofs.Ytachiggolgdocaa
