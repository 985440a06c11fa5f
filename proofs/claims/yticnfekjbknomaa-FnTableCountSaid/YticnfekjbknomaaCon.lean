/- The contracts of the program's functions on memories as the walks of the statements ask for them, and the walks of the exact statements at all arguments. -/
import Derived.Test.YticnfekjbknomaaImplB
namespace Go.Proofs.Yticnfekjbknomaa
open Go.ChangeShapes Go.WideShapes Go.ChangeAt Go.RowKit
set_option linter.unusedVariables false

theorem cPy (w : World) (v : Value) (xss : List (List Int)) (i j : Nat) (x : Int) (h : Rows2 w v xss) (hm : memOk xss = true) (hi : i < 12) (hj : j < 4) (h0 : 0 ≤ x) (h1 : x ≤ 9999) :
    Calls Try.prog 45 #[v, .int .i64 i, .int .i64 j, .int .i64 x] w (NewMem (mput xss i j x) true w) := iput_yes w v xss i j x h hm hi hj (blw_yes (by omega))
theorem cPn (w : World) (v : Value) (xss : List (List Int)) (f t x : Int) (h : Rows2 w v xss) (hh : ¬ (((memOk xss = true ∧ 0 ≤ f ∧ f < 12) ∧ 0 ≤ t ∧ t ≤ 3) ∧ 0 ≤ x ∧ x ≤ 9999)) :
    Calls Try.prog 45 #[v, .int .i64 f, .int .i64 t, .int .i64 x] w (NewMem [] false w) := by
  by_cases hm : memOk xss = true
  · refine iput_no w v xss f t x h hm ?_
    by_cases hf : 0 ≤ f ∧ f < 12
    · by_cases ht : 0 ≤ t ∧ t < 4
      · exact .inr (.inr ⟨blw_yes hf, blw_yes ht, blw_no (fun hx => hh ⟨⟨⟨hm, hf⟩, ht.1, by omega⟩, hx.1, by omega⟩)⟩)
      · exact .inr (.inl ⟨blw_yes hf, blw_no ht⟩)
    · exact .inl (blw_no hf)
  · exact iput_bad w v xss f t x h (by simpa using hm)
theorem cLy (w : World) (v : Value) (xss : List (List Int)) (i : Nat) (h : Rows2 w v xss) (hm : memOk xss = true) (hi : i < 12) :
    Calls Try.prog 30 #[v, .int .i64 i] w (NewMem (xss.set i [0, 0, 0, 0]) true w) := iclear_yes w v xss i h hm hi
theorem cLn (w : World) (v : Value) (xss : List (List Int)) (f : Int) (h : Rows2 w v xss) (hh : ¬ (memOk xss = true ∧ 0 ≤ f ∧ f < 12)) :
    Calls Try.prog 30 #[v, .int .i64 f] w (NewMem [] false w) := by
  by_cases hm : memOk xss = true
  · exact iclear_no w v xss f h hm (blw_no (fun hf => hh ⟨hm, hf⟩))
  · exact iclear_bad w v xss f h (by simpa using hm)

theorem total_four (yss : List (List Int)) (h : ∀ i, i < yss.length → (yss.getD i []).length = 4) : ∀ k, k ≤ yss.length → total (yss.take k) = k * 4
  | 0, _ => by simp [total]
  | k + 1, hk => by
    rw [total_snoc yss k (by omega), total_four yss h k (by omega), h k (by omega)]
    omega
theorem total_mem {yss : List (List Int)} (hl : yss.length = 12) (h : ∀ i, i < 12 → (yss.getD i []).length = 4) : yss.length + total yss ≤ 1048576 := by
  have := total_four yss (fun i hi => h i (by omega)) 12 (by omega)
  rw [take_all hl.symm] at this
  omega
theorem total_nil : ([] : List (List Int)).length + total [] ≤ 1048576 := by simp [total]
theorem set_row4 {xss : List (List Int)} (hm : memOk xss = true) {k : Nat} {r : List Int} (hr : r.length = 4) : ∀ i, i < 12 → ((xss.set k r).getD i []).length = 4 := fun i hi => by
  rw [getD_set]
  split
  · exact hr
  · exact mem_row hm hi

end Go.Proofs.Yticnfekjbknomaa
