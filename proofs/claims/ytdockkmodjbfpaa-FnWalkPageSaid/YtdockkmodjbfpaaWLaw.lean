/- Small facts for the walks of the statements on walks: places compared, what a walk that finds a place tells. -/
import Derived.Test.YtdockkmodjbfpaaDrawW
namespace Go.Proofs.Ytdockkmodjbfpaa
open Go.ChangeShapes Go.WideShapes Go.ChangeAt Go.RowKit
set_option linter.unusedVariables false

theorem row_len {k : IntKind} {w : World} {a : Option Addr} {len cap : Nat} {zs : List Int} (hr : Row k w a len cap zs) : len ≤ 9223372036854775807 := by
  rcases hr with ⟨_, rfl, rfl, _⟩ | ⟨x, _, hl, hm, _⟩
  · omega
  · unfold maxLen at hm; omega
theorem walkF_done {xss : List (List Int)} {r a : Int} (h : (walkF xss r a).c = 0) :
    wOk xss r a ∧ goodB (top xss r a) ∧ goodB (low xss r a) ∧ walkF xss r a = ⟨low xss r a / 4, a % 4, decide (top xss r a % 4 = 3) && decide (low xss r a % 4 = 3), 0⟩ := by
  unfold walkF at h ⊢
  by_cases h1 : wOk xss r a
  · rw [if_pos h1] at h ⊢
    by_cases h2 : goodB (top xss r a)
    · rw [if_pos h2] at h ⊢
      by_cases h3 : goodB (low xss r a)
      · rw [if_pos h3]
        exact ⟨h1, h2, h3, rfl⟩
      · rw [if_neg h3] at h
        cases h
    · rw [if_neg h2] at h
      cases h
  · rw [if_neg h1] at h
    cases h

/-- the words that a walk reads, at every world that holds the rows -/
theorem walk_words {w : World} {v : Value} {xss : List (List Int)} (h : Rows2 w v xss) (hm : memOk xss = true) {r i : Nat} (hr : r < 12) (hi : i < 4) :
    ∃ b o c g p d, v = .slice (some ⟨b, o, none⟩) 12 c ∧ (∀ ob, (w.alloc ob).cell? ⟨b, o + r, none⟩ = some (.slice (some ⟨g, p, none⟩) 4 d)) ∧ (∀ ob, (w.alloc ob).cell? ⟨g, p + i, none⟩ = some (.int .i64 (wd xss r i))) := by
  obtain ⟨b, o, c, g, p, d, rfl, hc, hx⟩ := h.word hm hr hi
  exact ⟨b, o, c, g, p, d, rfl, fun ob => (World.cell?_alloc_lt w ob ⟨b, o + r, none⟩ (cell_lt hc)).trans hc, fun ob => (World.cell?_alloc_lt w ob ⟨g, p + i, none⟩ (cell_lt hx)).trans hx⟩
theorem walkF_ok {xss : List (List Int)} {r a : Int} (h : wOk xss r a) : (walkF xss r a).c ≠ 3 := by
  unfold walkF
  rw [if_pos h]
  split
  · split
    · simp
    · simp
  · simp
theorem walkF_page {xss : List (List Int)} {r t : Int} (h : (walkF xss r t).c = 0) {i : Int} (h0 : 0 ≤ i) (h1 : i < 4) :
    walkF xss r (t - t % 4 + i) = ⟨(walkF xss r t).f, i, (walkF xss r t).b, 0⟩ := by
  obtain ⟨hk, hx, hy, hw⟩ := walkF_done h
  have ht := hk.2.2
  have e1 : (t - t % 4 + i) / 16 = t / 16 := by omega
  have e2 : (t - t % 4 + i) / 4 % 4 = t / 4 % 4 := by omega
  have e3 : (t - t % 4 + i) % 4 = i := by omega
  have et : top xss r (t - t % 4 + i) = top xss r t := by unfold top; rw [e1]
  have el : low xss r (t - t % 4 + i) = low xss r t := by unfold low; rw [et, e2]
  have hk' : wOk xss r (t - t % 4 + i) := ⟨hk.1, hk.2.1, by omega, by omega⟩
  rw [hw]
  unfold walkF
  rw [if_pos hk', et, el, if_pos hx, if_pos hy, e3]
end Go.Proofs.Ytdockkmodjbfpaa
