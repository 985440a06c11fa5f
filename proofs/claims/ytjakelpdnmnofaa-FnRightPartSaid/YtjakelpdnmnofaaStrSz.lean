/- What the counting helper of the laws returns for a slice of texts: a number below 0, or what is left of the bound. -/
import Derived.Test.YtjakelpdnmnofaaStrTo
namespace Go.Proofs.Ytjakelpdnmnofaa
open Go.ChangeShapes Go.WideShapes Go.ChangeAt Go.RowKit
set_option linter.unusedVariables false

def Fit (xs : List Bs) : Prop := ∀ x ∈ xs, x.length ≤ maxLen
theorem Fit.at {xs : List Bs} (h : Fit xs) (i : Nat) : (xs.getD i []).length ≤ maxLen := by
  by_cases hi : i < xs.length
  · rw [getD_lt hi]; exact h _ (List.getElem_mem hi)
  · rw [List.getD, List.getElem?_eq_none (Nat.le_of_not_lt hi)]; exact Nat.zero_le _
def totalS (xs : List Bs) : Nat := (xs.map List.length).sum
theorem totalS_snoc (xs : List Bs) (k : Nat) (h : k < xs.length) : totalS (xs.take (k + 1)) = totalS (xs.take k) + (xs.getD k []).length := by
  rw [take_snoc_getD xs k [] h]; simp [totalS]
theorem totalS_mem {xs : List Bs} {x : Bs} (h : x ∈ xs) : x.length ≤ totalS xs := by
  induction xs with
  | nil => cases h
  | cons y ys ih =>
    simp only [totalS, List.map_cons, List.sum_cons] at ih ⊢
    rcases List.mem_cons.1 h with e | h
    · subst e; omega
    · have := ih h; omega
/-- below 0; or all texts and their letters together with it make 'left' -/
def LeftS (xs : List Bs) (left : Int) (w : World) (e : Ending) (w' : World) : Prop :=
  ∃ r : Int, (r < 0 ∨ (0 ≤ r ∧ r + xs.length + totalS xs = left)) ∧ e = .returned (.int .i64 r) ∧ w = w'
theorem leftS_neg {xs : List Bs} {left : Int} {w : World} : LeftS xs left w (.returned (.int .i64 (-1))) w := ⟨-1, .inl (by omega), rfl, rfl⟩

theorem szStringS_any (w : World) (v : Value) (xs : List Bs) (left : Int) (h : Strs w v xs) (hf : Fit xs) (h0 : 0 ≤ left) (h1 : left ≤ 1048576) :
    Calls Try.prog 37 #[v, .int .i64 left] w (LeftS xs left w) := by
  obtain ⟨a, ca, rfl, hla, hma, hxa⟩ := h
  unfold maxLen at hma
  obtain ⟨n, hN⟩ : ∃ n, n = xs.length := ⟨_, rfl⟩
  rw [← hN] at hla hxa ⊢
  have HN := Lib.hid hN
  have HF := Lib.hid hf
  clear hN hf
  by_cases hneg : left < (n : Int)
  · have hneg' : left - (n : Int) < 0 := by omega
    go_enter Try.func37, Try.ntmps37
    go_wp2
    go_ret
    exact leftS_neg
  · have hpos : ¬ left - (n : Int) < 0 := by omega
    go_enter Try.func37, Try.ntmps37
    go_wp2
    go_loop [1, 5] (fun l i => ∃ (k : Nat) (r : Int), k ≤ n ∧ i = .int .i64 k ∧ l = .int .i64 r ∧ 0 ≤ r ∧ r ≤ 1048576 ∧ Hid (r + n + totalS (xs.take k) = left)) (fun _ i => n - (intOf i).toNat)
    case atStart => exact ⟨0, left - n, Nat.zero_le _, rfl, rfl, by omega, by omega, Lib.hid (by simp [totalS])⟩
    case round =>
      obtain ⟨k, r, hk, rfl, rfl, hr0, hr1, HT⟩ := hrel
      by_cases hlt : k < n
      · obtain ⟨b, o, rfl, hc⟩ := hxa k hlt
        have hx0 := HF.out.at k
        unfold maxLen at hx0
        generalize hx : xs.getD k [] = x at hc hx0
        have HX := Lib.hid hx
        clear hx hxa
        have hlt' : (k : Int) < (n : Int) := by omega
        by_cases hng : r < (x.length : Int)
        · have hng' : r - (x.length : Int) < 0 := by omega
          go_wp2
          go_ret
          exact leftS_neg
        · have hng' : ¬ r - (x.length : Int) < 0 := by omega
          go_wp2
          go_round
          case rel => exact ⟨k + 1, r - x.length, by omega, by go_num, rfl, by omega, by omega, Lib.hid (by have h1 := HT.out; have h2 := totalS_snoc xs k (by have := HN.out; omega); rw [HX.out] at h2; rw [h2]; omega)⟩
          case measure => simp [intOf]; omega
      · go_wp2
        go_ret
        have e : k = n := by omega
        subst e
        exact ⟨r, .inr ⟨hr0, by have h1 := HT.out; rw [take_all HN.out] at h1; rw [← HN.out]; exact h1⟩, rfl, rfl⟩
end Go.Proofs.Ytjakelpdnmnofaa
