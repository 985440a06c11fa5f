/- How what is known of matrices and of what was there goes on from one world to the next, where only some blocks change. -/
import Derived.Test.YtopnomklfkkjfaaHeld
namespace Go.Proofs.Ytopnomklfkkjfaa
open Go.ChangeShapes Go.WideShapes Go.ChangeAt Go.RowKit
set_option linter.unusedVariables false

/-- of what was there only blocks from lo to hi-1 may have changed -/
structure Chg (lo hi : Nat) (w w' : World) : Prop where
  os : w'.os = w.os
  tape : w'.tape = w.tape
  output : w'.output = w.output
  size : w.heap.size ≤ w'.heap.size
  block : ∀ b, b < w.heap.size → (b < lo ∨ hi ≤ b) → w'.heap[b]? = w.heap[b]?
theorem Chg.of_below {w w' : World} (h : Below w.heap.size w w') : Chg 0 0 w w' := ⟨h.os, h.tape, h.output, h.size, fun b hb _ => h.block b hb⟩
theorem Chg.of_kept {lo hi : Nat} {w w' : World} (h : Kept lo hi w w') : Chg lo hi w w' := ⟨h.os, h.tape, h.output, Nat.le_of_eq h.size.symm, fun b _ hb => h.block b hb⟩
theorem Chg.of_drewN (w : World) (n : Nat) : Chg 0 0 w (w.drewN n) := ⟨rfl, rfl, rfl, Nat.le_refl _, fun _ _ _ => rfl⟩
theorem Below.chg {lo hi S : Nat} {W w w' : World} (h : Below S W w) (c : Chg lo hi w w') (hS : S ≤ w.heap.size) (hh : S ≤ lo ∨ hi = 0) : Below S W w' :=
  ⟨c.os.trans h.os, c.tape.trans h.tape, c.output.trans h.output, Nat.le_trans h.size c.size, fun b hb => (c.block b (by omega) (by omega)).trans (h.block b hb)⟩
theorem rows_chg {S : Nat} {W w : World} {v : Value} {xss : List (List Int)} (h : Rows2 W v xss) (hb : Below W.heap.size W w) : Rows2 w v xss := h.below hb

end Go.Proofs.Ytopnomklfkkjfaa
