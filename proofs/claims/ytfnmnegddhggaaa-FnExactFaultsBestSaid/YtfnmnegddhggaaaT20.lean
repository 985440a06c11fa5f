/- What the proofs stand on, part 20. -/
import Derived.Test.YtfnmnegddhggaaaRows
import Derived.Test.YtfnmnegddhggaaaT1
import Derived.Test.YtfnmnegddhggaaaT2
import Derived.Test.YtfnmnegddhggaaaT4
import Derived.Test.YtfnmnegddhggaaaT5
import Derived.Test.YtfnmnegddhggaaaT8
set_option linter.unusedSimpArgs false
set_option linter.unusedVariables false
namespace Go.Proofs.Ytfnmnegddhggaaa
open Go.ChangeShapes Go.WideShapes Go.ChangeAt Go.RowKit
set_option linter.unusedVariables false
set_option linter.unusedSimpArgs false
theorem exec_slice {P : Program} {ρ : Operand → Value} {o : Oper} {t : TypeId} {x : Operand} {lo hi : Option Operand} {v' : Value} {w : World} (ho : o.op = .slice t x lo hi none) (h : (Instr.sliceAt t (ρ x) (lo.map ρ) (hi.map ρ) none).run P w = .ok v' w) : (execOp ρ o).run P w = .ok (.value v') w := by
  unfold execOp
  rw [ho]
  simp only [Option.map_none, Sem.run_bind, Sem.run_pure, h, Result.andThen_ok]
theorem slice_to {w : World} {v : Value} {xs : List Int} (h : Ints w v xs) (k : Nat) (hk : k ≤ xs.length) (u : Int) (hu : u = (k : Int)) :
    ∃ v', (∀ W : World, (Instr.sliceAt 23 v none (some (.int .i64 u)) none).run Try.prog W = .ok v' W) ∧ ∀ w', Ints w' v xs → Ints w' v' (xs.take k) := by
  subst hu
  obtain ⟨a, c, rfl, h1, h2, h3⟩ := h
  have hk1 : (0 : Int) ≤ (k : Int) ∧ (k : Int) ≤ (c : Int) := by omega
  refine ⟨.slice a k c, fun W => ?_, fun w' hw => ?_⟩
  · unfold Instr.sliceAt
    simp only [Sem.run_bind, run_underlying Try.underlying23, Result.andThen_ok]
    unfold Instr.slice
    simp only [Sem.run_bind, run_underlying Try.underlying23, Result.andThen_ok, Instr.sliceBounds, Instr.sliceBound, asIntOf, Sem.run_pure, if_pos hk1, Int.toNat_natCast, Try.sizeOf3, Nat.sub_zero, Nat.zero_mul]
    cases a with
    | none => simp
    | some ad => obtain ⟨b, o, nn⟩ := ad; cases nn <;> simp [Addr.add]
  · obtain ⟨a', c', e, q1, q2, q3⟩ := hw
    injection e with e1 e2 e3
    subst e1
    subst e3
    have hl : (xs.take k).length = k := by rw [List.length_take]; omega
    refine ⟨_, _, by rw [hl], by rw [hl]; omega, q2, fun i hi => ?_⟩
    rw [hl] at hi
    obtain ⟨b, o, e, hc⟩ := q3 i (by omega)
    refine ⟨b, o, e, ?_⟩
    rw [hc, List.getD_eq_getElem?_getD, List.getD_eq_getElem?_getD, List.getElem?_take, if_pos hi]
end Go.Proofs.Ytfnmnegddhggaaa
