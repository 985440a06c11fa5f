/- The contracts of the program's functions on memories as the walks of the statements ask for them, and the walks of the exact statements at all arguments. -/
import Derived.Test.YtgdkeihmddpenaaImplB
import Derived.Test.YtgdkeihmddpenaaLawAux
import Derived.Test.YtgdkeihmddpenaaExMemoryValid
import Derived.Test.YtgdkeihmddpenaaExMemoryGet
import Derived.Test.YtgdkeihmddpenaaExMemoryPut
import Derived.Test.YtgdkeihmddpenaaExMemoryCopy
import Derived.Test.YtgdkeihmddpenaaExMemoryClear
namespace Go.Proofs.Ytgdkeihmddpenaa
open Go.ChangeShapes Go.WideShapes Go.ChangeAt Go.RowKit
set_option linter.unusedVariables false

theorem cGy (w : World) (v : Value) (xss : List (List Int)) (i j : Nat) (h : Rows2 w v xss) (hm : memOk xss = true) (hi : i < 12) (hj : j < 4) :
    Calls Try.prog 15 #[v, .int .i64 i, .int .i64 j] w fun e w' => e = .returned (.tuple #[.int .i64 ((xss.getD i []).getD j 0), .bool true]) ∧ Below w.heap.size w w' := iget_yes w v xss i j h hm hi hj
theorem cGn (w : World) (v : Value) (xss : List (List Int)) (f t : Int) (h : Rows2 w v xss) (hh : ¬ ((memOk xss = true ∧ 0 ≤ f ∧ f < 12) ∧ 0 ≤ t ∧ t ≤ 3)) :
    Calls Try.prog 15 #[v, .int .i64 f, .int .i64 t] w fun e w' => e = .returned (.tuple #[.int .i64 0, .bool false]) ∧ Below w.heap.size w w' := by
  by_cases hm : memOk xss = true
  · refine iget_no w v xss f t h hm ?_
    by_cases hf : 0 ≤ f ∧ f < 12
    · exact .inr ⟨blw_yes hf, blw_no (fun ht => hh ⟨⟨hm, hf⟩, ht.1, by omega⟩)⟩
    · exact .inl (blw_no hf)
  · exact iget_bad w v xss f t h (by simpa using hm)
theorem cPy (w : World) (v : Value) (xss : List (List Int)) (i j : Nat) (x : Int) (h : Rows2 w v xss) (hm : memOk xss = true) (hi : i < 12) (hj : j < 4) (h0 : 0 ≤ x) (h1 : x ≤ 9999) :
    Calls Try.prog 18 #[v, .int .i64 i, .int .i64 j, .int .i64 x] w (NewMem (mput xss i j x) true w) := iput_yes w v xss i j x h hm hi hj (blw_yes (by omega))
theorem cPn (w : World) (v : Value) (xss : List (List Int)) (f t x : Int) (h : Rows2 w v xss) (hh : ¬ (((memOk xss = true ∧ 0 ≤ f ∧ f < 12) ∧ 0 ≤ t ∧ t ≤ 3) ∧ 0 ≤ x ∧ x ≤ 9999)) :
    Calls Try.prog 18 #[v, .int .i64 f, .int .i64 t, .int .i64 x] w (NewMem [] false w) := by
  by_cases hm : memOk xss = true
  · refine iput_no w v xss f t x h hm ?_
    by_cases hf : 0 ≤ f ∧ f < 12
    · by_cases ht : 0 ≤ t ∧ t < 4
      · exact .inr (.inr ⟨blw_yes hf, blw_yes ht, blw_no (fun hx => hh ⟨⟨⟨hm, hf⟩, ht.1, by omega⟩, hx.1, by omega⟩)⟩)
      · exact .inr (.inl ⟨blw_yes hf, blw_no ht⟩)
    · exact .inl (blw_no hf)
  · exact iput_bad w v xss f t x h (by simpa using hm)
theorem cCy (w : World) (v : Value) (xss : List (List Int)) (i k : Nat) (h : Rows2 w v xss) (hm : memOk xss = true) (hi : i < 12) (hk : k < 12) :
    Calls Try.prog 22 #[v, .int .i64 i, .int .i64 k] w (NewMem (xss.set k (xss.getD i [])) true w) := icopy_yes w v xss i k h hm hi hk
theorem cCn (w : World) (v : Value) (xss : List (List Int)) (f t : Int) (h : Rows2 w v xss) (hh : ¬ ((memOk xss = true ∧ 0 ≤ f ∧ f < 12) ∧ 0 ≤ t ∧ t < 12)) :
    Calls Try.prog 22 #[v, .int .i64 f, .int .i64 t] w (NewMem [] false w) := by
  by_cases hm : memOk xss = true
  · refine icopy_no w v xss f t h hm ?_
    by_cases hf : 0 ≤ f ∧ f < 12
    · exact .inr ⟨blw_yes hf, blw_no (fun ht => hh ⟨⟨hm, hf⟩, ht⟩)⟩
    · exact .inl (blw_no hf)
  · exact icopy_bad w v xss f t h (by simpa using hm)
theorem cLy (w : World) (v : Value) (xss : List (List Int)) (i : Nat) (h : Rows2 w v xss) (hm : memOk xss = true) (hi : i < 12) :
    Calls Try.prog 27 #[v, .int .i64 i] w (NewMem (xss.set i [0, 0, 0, 0]) true w) := iclear_yes w v xss i h hm hi
theorem cLn (w : World) (v : Value) (xss : List (List Int)) (f : Int) (h : Rows2 w v xss) (hh : ¬ (memOk xss = true ∧ 0 ≤ f ∧ f < 12)) :
    Calls Try.prog 27 #[v, .int .i64 f] w (NewMem [] false w) := by
  by_cases hm : memOk xss = true
  · exact iclear_no w v xss f h hm (blw_no (fun hf => hh ⟨hm, hf⟩))
  · exact iclear_bad w v xss f h (by simpa using hm)

theorem total_four (yss : List (List Int)) (h : ∀ i, i < yss.length → (yss.getD i []).length = 4) : ∀ k, k ≤ yss.length → total (yss.take k) = k * 4
  | 0, _ => by simp [total]
  | k + 1, hk => by
    rw [total_snoc yss k (by omega), total_four yss h k (by omega), h k (by omega)]
    omega
theorem total_mem {yss : List (List Int)} (hl : yss.length = 12) (h : ∀ i, i < 12 → (yss.getD i []).length = 4) : yss.length + total yss ≤ 1048576 := by
  have := total_four yss (fun i hi => h i (by omega)) 12 (by omega)
  rw [take_all hl.symm] at this
  omega
theorem total_nil : ([] : List (List Int)).length + total [] ≤ 1048576 := by simp [total]
theorem set_row4 {xss : List (List Int)} (hm : memOk xss = true) {k : Nat} {r : List Int} (hr : r.length = 4) : ∀ i, i < 12 → ((xss.set k r).getD i []).length = 4 := fun i hi => by
  rw [getD_set]
  split
  · exact hr
  · exact mem_row hm hi

theorem exMemoryValid_all (W : World) (v0 : Value) (xss : List (List Int)) (h : Rows2 W v0 xss) :
    Calls Try.prog 9 #[v0] W fun e w' => e = .returned (.bool true) ∧ Below W.heap.size W w' :=
  exMemoryValid_walk W v0 xss (memOk xss) h (fun w v h => valid_any w v xss h) (fun w v h => ivalid_any w v xss h)
theorem exMemoryGet_all (W : World) (v0 : Value) (xss : List (List Int)) (f t : Int) (h : Rows2 W v0 xss) :
    Calls Try.prog 10 #[v0, .int .i64 f, .int .i64 t] W fun e w' => e = .returned (.bool true) ∧ Below W.heap.size W w' := by
  by_cases hh : (memOk xss = true ∧ 0 ≤ f ∧ f < 12) ∧ 0 ≤ t ∧ t ≤ 3
  · obtain ⟨⟨hm, hf0, hf1⟩, ht0, ht1⟩ := hh
    obtain ⟨i, rfl⟩ := Int.eq_ofNat_of_zero_le hf0
    obtain ⟨j, rfl⟩ := Int.eq_ofNat_of_zero_le ht0
    exact exMemoryGet_walk W v0 xss _ true _ _ h (fun w v h => sget_yes w v xss i j h hm (by omega) (by omega)) (fun w v h => cGy w v xss i j h hm (by omega) (by omega))
  · exact exMemoryGet_walk W v0 xss 0 false f t h (fun w v h => sget_no w v xss f t h hh) (fun w v h => cGn w v xss f t h hh)
theorem exMemoryPut_all (W : World) (v0 : Value) (xss : List (List Int)) (f t x : Int) (h : Rows2 W v0 xss) :
    Calls Try.prog 11 #[v0, .int .i64 f, .int .i64 t, .int .i64 x] W fun e w' => e = .returned (.bool true) ∧ Below W.heap.size W w' := by
  by_cases hh : ((memOk xss = true ∧ 0 ≤ f ∧ f < 12) ∧ 0 ≤ t ∧ t ≤ 3) ∧ 0 ≤ x ∧ x ≤ 9999
  · obtain ⟨⟨⟨hm, hf0, hf1⟩, ht0, ht1⟩, hx0, hx1⟩ := hh
    obtain ⟨i, rfl⟩ := Int.eq_ofNat_of_zero_le hf0
    obtain ⟨j, rfl⟩ := Int.eq_ofNat_of_zero_le ht0
    exact exMemoryPut_walk W v0 xss (mput xss i j x) true _ _ x h (total_mem (by rw [mput_len, mem_len hm]) (fun k hk => by rw [mput_row]; exact mem_row hm hk))
      (fun w v h => sput_yes w v xss i j x h hm (by omega) (by omega) hx0 hx1) (fun w v h => cPy w v xss i j x h hm (by omega) (by omega) hx0 hx1)
  · exact exMemoryPut_walk W v0 xss [] false f t x h total_nil (fun w v h => sput_no w v xss f t x h hh) (fun w v h => cPn w v xss f t x h hh)
theorem exMemoryCopy_all (W : World) (v0 : Value) (xss : List (List Int)) (f t : Int) (h : Rows2 W v0 xss) :
    Calls Try.prog 12 #[v0, .int .i64 f, .int .i64 t] W fun e w' => e = .returned (.bool true) ∧ Below W.heap.size W w' := by
  by_cases hh : (memOk xss = true ∧ 0 ≤ f ∧ f < 12) ∧ 0 ≤ t ∧ t < 12
  · obtain ⟨⟨hm, hf0, hf1⟩, ht0, ht1⟩ := hh
    obtain ⟨i, rfl⟩ := Int.eq_ofNat_of_zero_le hf0
    obtain ⟨k, rfl⟩ := Int.eq_ofNat_of_zero_le ht0
    exact exMemoryCopy_walk W v0 xss (xss.set k (xss.getD i [])) true _ _ h (total_mem (by rw [List.length_set, mem_len hm]) (set_row4 hm (mem_row hm (by omega))))
      (fun w v h => scopy_yes w v xss i k h hm (by omega) (by omega)) (fun w v h => cCy w v xss i k h hm (by omega) (by omega))
  · exact exMemoryCopy_walk W v0 xss [] false f t h total_nil (fun w v h => scopy_no w v xss f t h hh) (fun w v h => cCn w v xss f t h hh)
theorem exMemoryClear_all (W : World) (v0 : Value) (xss : List (List Int)) (f : Int) (h : Rows2 W v0 xss) :
    Calls Try.prog 13 #[v0, .int .i64 f] W fun e w' => e = .returned (.bool true) ∧ Below W.heap.size W w' := by
  by_cases hh : memOk xss = true ∧ 0 ≤ f ∧ f < 12
  · obtain ⟨hm, hf0, hf1⟩ := hh
    obtain ⟨i, rfl⟩ := Int.eq_ofNat_of_zero_le hf0
    exact exMemoryClear_walk W v0 xss (xss.set i [0, 0, 0, 0]) true _ h (total_mem (by rw [List.length_set, mem_len hm]) (set_row4 hm rfl))
      (fun w v h => sclear_yes w v xss i h hm (by omega)) (fun w v h => cLy w v xss i h hm (by omega))
  · exact exMemoryClear_walk W v0 xss [] false f h total_nil (fun w v h => sclear_no w v xss f h hh) (fun w v h => cLn w v xss f h hh)
end Go.Proofs.Ytgdkeihmddpenaa
