/- Small facts for the walks of the statements on lists of tables and frames. -/
import Derived.Test.YtdockkmodjbfpaaWList
import Derived.Test.YtdockkmodjbfpaaSame
namespace Go.Proofs.Ytdockkmodjbfpaa
open Go.ChangeShapes Go.WideShapes Go.ChangeAt Go.RowKit
set_option linter.unusedVariables false

theorem chg0 {w w' : World} (c : Chg 0 0 w w') : Below w.heap.size w w' := ⟨c.os, c.tape, c.output, c.size, fun b hb => c.block b hb (.inr (Nat.zero_le _))⟩
theorem sames_c (w : World) (va vb : Value) (xs : List Int) (ha : Ints w va xs) (hb : Ints w vb xs) :
    Calls Try.prog 21 #[va, vb] w fun e w' => e = .returned (.bool true) ∧ Chg 0 0 w w' :=
  (sameInts_any w va vb xs xs ha hb).mono fun e w' ⟨he, n, hn⟩ => ⟨by rw [he]; simp, by rw [hn]; exact Chg.of_drewN w n⟩
def anyg (xs : List Int) (z : Int) (j : Nat) : Bool := (xs.take j).any (fun x => decide (goodB x) && (x / 4 == z))
theorem anyg_succ (xs : List Int) (z : Int) (j : Nat) (hj : j < xs.length) : anyg xs z (j + 1) = (anyg xs z j || (decide (goodB (xs.getD j 0)) && (xs.getD j 0 / 4 == z))) := by
  unfold anyg
  rw [take_snoc_getD xs j 0 hj]
  simp
theorem anyg_all {xs : List Int} {z : Int} (h : z ∈ named xs) : anyg xs z xs.length = true := by
  unfold anyg
  rw [List.take_length, List.any_eq_true]
  unfold named at h
  obtain ⟨x, hx, rfl⟩ := List.mem_map.1 h
  rw [List.mem_filter] at hx
  exact ⟨x, hx.1, by simpa using of_decide_eq_true hx.2⟩
theorem named_mem {xs : List Int} {i : Nat} (hi : i < xs.length) (hg : goodB (xs.getD i 0)) : xs.getD i 0 / 4 ∈ named xs := by
  unfold named
  refine List.mem_map.2 ⟨xs.getD i 0, List.mem_filter.2 ⟨?_, decide_eq_true hg⟩, rfl⟩
  rw [getD_lt hi]
  exact List.getElem_mem _
end Go.Proofs.Ytdockkmodjbfpaa
