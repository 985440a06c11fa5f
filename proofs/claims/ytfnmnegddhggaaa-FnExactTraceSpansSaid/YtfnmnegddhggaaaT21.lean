/- What the proofs stand on, part 21. -/
import Derived.Test.YtfnmnegddhggaaaRows
import Derived.Test.YtfnmnegddhggaaaT1
import Derived.Test.YtfnmnegddhggaaaT2
import Derived.Test.YtfnmnegddhggaaaT3
import Derived.Test.YtfnmnegddhggaaaT6
set_option linter.unusedSimpArgs false
set_option linter.unusedVariables false
namespace Go.Proofs.Ytfnmnegddhggaaa
open Go.ChangeShapes Go.WideShapes Go.ChangeAt Go.RowKit
set_option linter.unusedVariables false
theorem wpList_append_nums {ops : Array Oper} {rest : List Oper} {a : Act} {Q : Exit → Act → World → Prop} {dst : Option Nat} {tt : TypeId} {pos : String} {after : Array Edge} (s x : Operand)
    (W0 wr : World) (v : Value) (ys zs : List Int) (cs : Array Value) (m : Nat) (hown : OwnI W0 v ys wr) (hcs : cs = (zs.map (Value.int .i64)).toArray) (hm : m = zs.length) (hl : ys.length + zs.length ≤ 1000000)
    (hs : a.eval s = v) (hx : a.eval x = .slice (some ⟨wr.heap.size, 0, none⟩) m m)
    (h : ∀ v' w', OwnI W0 v' (ys ++ zs) w' → wpList Try.prog ops Q rest (a.put dst v') w') :
    wpList Try.prog ops Q ({ dst := dst, op := .call { callee := .builtin .append, args := #[s, x], argTypes := #[23, 23] }, type := tt, pos := pos, after := after, guard := none } :: rest) a (wr.alloc (.cells cs 3)) := by
  obtain ⟨i0, hi, hz0, hz1, hz2⟩ := info_parts intInfo
  subst hcs
  subst hm
  refine wpList_append_own _ rfl s x 23 rfl W0.heap.size 3 i0 (.int .i64 0) 1 8 Try.underlying23 hi hz0 hz1 hz2 rfl (by decide) _ _ _ hs (hown.own.alloc _) ⟨wr.heap.size, 0, none⟩ zs.length zs.length (zs.map (.int .i64)) hx (by simp) (cells_new _ _ _) (ints_one zs) (by unfold maxLen; omega) (by omega) (by have := hown.bel.size; simp; omega) ?_
  intro v2 w2 hown2 hgrow2 hnn2
  exact h v2 w2 (hown.grow rfl hown2 hgrow2 (fun e => (hnn2.1 e).1))
end Go.Proofs.Ytfnmnegddhggaaa
