/- What the copying helpers of the laws return: new rows with the same numbers; nothing that was there changes. -/
import Derived.Test.YtopnomklfkkjfaaSz
namespace Go.Proofs.Ytopnomklfkkjfaa
open Go.ChangeShapes Go.WideShapes Go.ChangeAt Go.RowKit
set_option linter.unusedVariables false

theorem intInfo : (Try.prog.info? 3).map (fun i => (i.zero, i.size, i.bytes)) = some (some (.int .i64 0), 1, 8) := by kernel_rfl
theorem cell_lt {w : World} {b o : Nat} {v : Value} (h : w.cell? ⟨b, o, none⟩ = some v) : b < w.heap.size := by
  rcases Nat.lt_or_ge b w.heap.size with h' | h'
  · exact h'
  · simp [World.cell?, Array.getElem?_eq_none h'] at h
theorem Ints.below {B : Nat} {w w' : World} {v : Value} {xs : List Int} (h : Ints w v xs) (hb : Below w.heap.size w w') : Ints w' v xs := by
  obtain ⟨a, cap, rfl, h1, h2, h3⟩ := h
  refine ⟨a, cap, rfl, h1, h2, fun i hi => ?_⟩
  obtain ⟨b, o, rfl, hc⟩ := h3 i hi
  exact ⟨b, o, rfl, (hb.cell (p := ⟨b, o + i, none⟩) (cell_lt hc)).trans hc⟩
theorem Rows2.below {w w' : World} {v : Value} {xss : List (List Int)} (h : Rows2 w v xss) (hb : Below w.heap.size w w') : Rows2 w' v xss := by
  obtain ⟨a, cap, rfl, h1, h2, h3⟩ := h
  refine ⟨a, cap, rfl, h1, h2, fun i hi => ?_⟩
  obtain ⟨b, o, u, rfl, hc, hu⟩ := h3 i hi
  exact ⟨b, o, u, rfl, (hb.cell (p := ⟨b, o + i, none⟩) (cell_lt hc)).trans hc, Ints.below (B := 0) hu hb⟩

/-- the slice v is the whole of block g, and holds the numbers xs -/
def OwnInts (w : World) (g : Nat) (v : Value) (xs : List Int) : Prop := v = .slice (some ⟨g, 0, none⟩) xs.length xs.length ∧ xs.length ≤ maxLen ∧ w.rowIs g 3 xs.length (fun j => .int .i64 (xs.getD j 0))
theorem OwnInts.ints {w : World} {g : Nat} {v : Value} {xs : List Int} (h : OwnInts w g v xs) : Ints w v xs := by
  obtain ⟨rfl, hm, hr⟩ := h
  exact ⟨_, _, rfl, Nat.le_refl _, hm, fun i hi => ⟨g, 0, rfl, by simpa using hr.cell hi⟩⟩
theorem OwnInts.of_block {w w' : World} {g : Nat} {v : Value} {xs : List Int} (h : OwnInts w g v xs) (e : w'.heap[g]? = w.heap[g]?) : OwnInts w' g v xs := ⟨h.1, h.2.1, h.2.2.of_block e⟩
theorem OwnInts.lt {w : World} {g : Nat} {v : Value} {xs : List Int} (h : OwnInts w g v xs) : g < w.heap.size := h.2.2.lt

def cont (xs : List Int) (k : Nat) (j : Nat) : Value := if j < k then .int .i64 (xs.getD j 0) else .int .i64 0
theorem cont_step {xs : List Int} {k : Nat} (j : Nat) : (if j = k then Value.int .i64 (xs.getD k 0) else cont xs k j) = cont xs (k + 1) j := by
  unfold cont
  by_cases h : j = k
  · subst h; simp
  · by_cases h2 : j < k
    · rw [if_neg h, if_pos h2, if_pos (by omega)]
    · rw [if_neg h, if_neg h2, if_neg (by omega)]

theorem own_mk {w : World} {g n : Nat} {xs : List Int} (hN : n = xs.length) (hn : n ≤ 1048576) (hr : w.rowIs g 3 n (cont xs n)) : OwnInts w g (.slice (some ⟨g, 0, none⟩) n n) xs := by
  subst hN
  exact ⟨rfl, by unfold maxLen; omega, hr.congr (fun j hj => by simp [cont, hj])⟩
/-- a new slice of numbers -/
def ToInts (xs : List Int) (w : World) (e : Ending) (w' : World) : Prop :=
  ∃ v, e = .returned v ∧ OwnInts w' w.heap.size v xs ∧ Below w.heap.size w w' ∧ w'.heap.size = w.heap.size + 1

end Go.Proofs.Ytopnomklfkkjfaa
