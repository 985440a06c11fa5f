/- What the proofs stand on, part 5. -/
import Derived.Test.YtfnmnegddhggaaaRows
import Derived.Test.YtfnmnegddhggaaaT1
import Derived.Test.YtfnmnegddhggaaaT2
import Derived.Test.YtfnmnegddhggaaaT4
set_option linter.unusedSimpArgs false
set_option linter.unusedVariables false
namespace Go.Proofs.Ytfnmnegddhggaaa
set_option linter.unusedVariables false
set_option linter.unusedSimpArgs false
theorem xNext_nodup {rule : List Int → (Int → Int) → List Int → Int} {f : Nat} {L : List Int} {c : Int → Int} {x : Int} {r : List Int} (h : L.Nodup) : (xNext rule f L c x r).Nodup := by
  have hm : (xMid rule f L c x r).Nodup := by
    unfold xMid
    split
    · exact h
    · split
      · exact h
      · exact h.erase _
  exact List.nodup_cons.2 ⟨fun hx => (List.Nodup.mem_erase_iff hm).1 hx |>.1 rfl, hm.erase _⟩
def xArg (lt : Int → Int → Bool) : Int → List Int → Int
  | b, [] => b
  | b, y :: L => xArg lt (if lt y b = true then y else b) L
theorem xArg_in (lt : Int → Int → Bool) : ∀ (L : List Int) (b : Int), xArg lt b L = b ∨ xArg lt b L ∈ L
  | [], _ => .inl rfl
  | y :: L, b => by
    rw [xArg]
    by_cases h : lt y b = true
    · rw [if_pos h]
      rcases xArg_in lt L y with e | e
      · exact .inr (by rw [e]; exact List.mem_cons_self ..)
      · exact .inr (List.mem_cons_of_mem _ e)
    · rw [if_neg h]
      rcases xArg_in lt L b with e | e
      · exact .inl e
      · exact .inr (List.mem_cons_of_mem _ e)
theorem xArg_least {lt : Int → Int → Bool} {m : Int → Int} (h : ∀ a b, lt a b = true ↔ m a < m b) : ∀ (L : List Int) (b : Int), m (xArg lt b L) ≤ m b ∧ ∀ y ∈ L, m (xArg lt b L) ≤ m y
  | [], b => ⟨Int.le_refl _, fun y hy => by simp at hy⟩
  | y :: L, b => by
    rw [xArg]
    by_cases hy : lt y b = true
    · rw [if_pos hy]
      have ih := xArg_least h L y
      have := (h y b).1 hy
      refine ⟨by omega, fun z hz => ?_⟩
      rcases List.mem_cons.1 hz with e | e
      · rw [e]; exact ih.1
      · exact ih.2 z e
    · rw [if_neg hy]
      have ih := xArg_least h L b
      have : ¬ m y < m b := fun hh => hy ((h y b).2 hh)
      refine ⟨ih.1, fun z hz => ?_⟩
      rcases List.mem_cons.1 hz with e | e
      · rw [e]; have := ih.1; omega
      · exact ih.2 z e
theorem xArg_in2 (lt : Int → Int → Bool) {L : List Int} (h : L ≠ []) : xArg lt (L.headD 0) L ∈ L := by
  rcases xArg_in lt L (L.headD 0) with e | e
  · rw [e]
    cases L with
    | nil => exact absurd rfl h
    | cons z L => exact List.mem_cons_self ..
  · exact e
end Go.Proofs.Ytfnmnegddhggaaa
