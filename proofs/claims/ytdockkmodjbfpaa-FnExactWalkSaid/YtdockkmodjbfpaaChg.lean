/- How what is known of matrices and of what was there goes on from one world to the next, where only some blocks change. -/
import Derived.Test.YtdockkmodjbfpaaSpecMem
namespace Go.Proofs.Ytdockkmodjbfpaa
open Go.ChangeShapes Go.WideShapes Go.ChangeAt Go.RowKit
set_option linter.unusedVariables false

/-- of what was there only blocks from lo to hi-1 may have changed -/
structure Chg (lo hi : Nat) (w w' : World) : Prop where
  os : w'.os = w.os
  tape : w'.tape = w.tape
  output : w'.output = w.output
  size : w.heap.size ≤ w'.heap.size
  block : ∀ b, b < w.heap.size → (b < lo ∨ hi ≤ b) → w'.heap[b]? = w.heap[b]?
theorem Chg.of_below {w w' : World} (h : Below w.heap.size w w') : Chg 0 0 w w' := ⟨h.os, h.tape, h.output, h.size, fun b hb _ => h.block b hb⟩
theorem Chg.of_kept {lo hi : Nat} {w w' : World} (h : Kept lo hi w w') : Chg lo hi w w' := ⟨h.os, h.tape, h.output, Nat.le_of_eq h.size.symm, fun b _ hb => h.block b hb⟩
theorem Chg.of_drewN (w : World) (n : Nat) : Chg 0 0 w (w.drewN n) := ⟨rfl, rfl, rfl, Nat.le_refl _, fun _ _ _ => rfl⟩
theorem Below.chg {lo hi S : Nat} {W w w' : World} (h : Below S W w) (c : Chg lo hi w w') (hS : S ≤ w.heap.size) (hh : S ≤ lo ∨ hi = 0) : Below S W w' :=
  ⟨c.os.trans h.os, c.tape.trans h.tape, c.output.trans h.output, Nat.le_trans h.size c.size, fun b hb => (c.block b (by omega) (by omega)).trans (h.block b hb)⟩
theorem MatW.chg {lo hi B0 B1 : Nat} {w w' : World} {v : Value} {xss : List (List Int)} (h : MatW w B0 B1 v xss) (c : Chg lo hi w w') (hB : B1 ≤ w.heap.size) (hh : B1 ≤ lo ∨ hi ≤ B0) : MatW w' B0 B1 v xss :=
  h.of_blocks (fun b h0 h1 => c.block b (by omega) (by omega))
theorem OwnRows.chg {lo hi g : Nat} {w w' : World} {v : Value} {xss : List (List Int)} (h : OwnRows w g v xss) (c : Chg lo hi w w') (hB : g + 1 + xss.length ≤ w.heap.size) (hh : g + 1 + xss.length ≤ lo ∨ hi ≤ g) : OwnRows w' g v xss :=
  h.of_blocks (fun b h0 h1 => c.block b (by omega) (by omega))
theorem MatAt.chg {lo hi B0 B1 : Nat} {w w' : World} {a : Option Addr} {n : Nat} {A : Nat → Option Addr} {L C : Nat → Nat} {X : Nat → Nat → Int} (h : MatAt w B0 B1 a n A L C X) (c : Chg lo hi w w') (hB : B1 ≤ w.heap.size) (hh : B1 ≤ lo ∨ hi ≤ B0) :
    MatAt w' B0 B1 a n A L C X := h.of_blocks (fun b h0 h1 => c.block b (by omega) (by omega))
theorem rows_chg {S : Nat} {W w : World} {v : Value} {xss : List (List Int)} (h : Rows2 W v xss) (hb : Below W.heap.size W w) : Rows2 w v xss := h.below hb

theorem eq_c (w : World) (va vb : Value) (xs : List (List Int)) (ha : Rows2 w va xs) (hb : Rows2 w vb xs) :
    Calls Try.prog 31 #[va, vb] w fun e w' => e = .returned (.bool true) ∧ Chg 0 0 w w' :=
  (eqIntSS_any w va vb xs xs ha hb).mono fun e w' ⟨he, n, hn⟩ => ⟨by rw [he]; simp, by rw [hn]; exact Chg.of_drewN w n⟩
end Go.Proofs.Ytdockkmodjbfpaa
