/- Small facts on memories with another word or row, and how two memories are read on. -/
import Derived.Test.YtgdkeihmddpenaaLawMemoryGet
namespace Go.Proofs.Ytgdkeihmddpenaa
open Go.ChangeShapes Go.WideShapes Go.ChangeAt Go.RowKit
set_option linter.unusedVariables false

theorem mem_mk {xss : List (List Int)} (hl : xss.length = 12) (hr : ∀ i, i < 12 → (xss.getD i []).length = 4) (hw : ∀ i, i < 12 → ∀ j, j < 4 → 0 ≤ (xss.getD i []).getD j 0 ∧ (xss.getD i []).getD j 0 ≤ 9999) : memOk xss = true := by
  unfold memOk
  refine decide_eq_true ⟨fun xs hx => ?_, hl⟩
  obtain ⟨i, hi, rfl⟩ := List.getElem_of_mem hx
  have h1 := hr i (by omega)
  have h2 := hw i (by omega)
  rw [getD_lt hi] at h1
  unfold wordsOk
  refine decide_eq_true ⟨fun x hx' => ?_, h1⟩
  obtain ⟨j, hj, rfl⟩ := List.getElem_of_mem hx'
  have h3 := h2 j (by omega)
  rwa [getD_lt hi, getD_lt hj] at h3
theorem mput_ok {xss : List (List Int)} {i j : Nat} {x : Int} (h : memOk xss = true) (hi : i < 12) (hj : j < 4) (h0 : 0 ≤ x) (h1 : x ≤ 9999) : memOk (mput xss i j x) = true := by
  have hl := mem_len h
  refine mem_mk (by rw [mput_len]; exact hl) (fun k hk => by rw [mput_row]; exact mem_row h hk) (fun k hk m hm => ?_)
  rw [mput_get _ _ _ _ _ _ (by omega) (by rw [mem_row h hi]; exact hj)]
  by_cases hh : k = i ∧ m = j
  · rw [if_pos hh]; exact ⟨h0, h1⟩
  · rw [if_neg hh]; exact mem_word h hk hm
theorem mput_back {xss : List (List Int)} {i j : Nat} {x : Int} (h : memOk xss = true) (hi : i < 12) (hj : j < 4) : mput (mput xss i j x) i j ((xss.getD i []).getD j 0) = xss := by
  have hl := mem_len h
  have hr := mem_row h hi
  refine List.ext_getElem (by simp [mput_len]) (fun k h1 h2 => ?_)
  rw [← getD_lt (d := []) h1, ← getD_lt (d := []) h2]
  refine List.ext_getElem (by rw [mput_row, mput_row]) (fun m h3 h4 => ?_)
  rw [← getD_lt (d := 0) h3, ← getD_lt (d := 0) h4]
  rw [mput_get _ _ _ _ _ _ (by rw [mput_len]; omega) (by rw [mput_row]; omega), mput_get _ _ _ _ _ _ (by omega) (by omega)]
  by_cases hh : k = i ∧ m = j
  · rw [if_pos hh, hh.1, hh.2]
  · rw [if_neg hh, if_neg hh]

/-- two memories go on, and what was there is as it was -/
structure Two (W : World) (v u : Value) (xss yss : List (List Int)) (w : World) : Prop where
  old : Below W.heap.size W w
  one : Rows2 w v xss
  two : Rows2 w u yss
theorem Two.go {W w w' : World} {v u : Value} {xss yss : List (List Int)} (h : Two W v u xss yss w) (hb : Below w.heap.size w w') : Two W v u xss yss w' :=
  ⟨Below.chg h.old (Chg.of_below hb) h.old.size (.inr rfl), h.one.below hb, h.two.below hb⟩
theorem Rows2.word {w : World} {v : Value} {xss : List (List Int)} (h : Rows2 w v xss) (hm : memOk xss = true) {i j : Nat} (hi : i < 12) (hj : j < 4) :
    ∃ b o c g p d, v = .slice (some ⟨b, o, none⟩) 12 c ∧ w.cell? ⟨b, o + i, none⟩ = some (.slice (some ⟨g, p, none⟩) 4 d) ∧ w.cell? ⟨g, p + j, none⟩ = some (.int .i64 ((xss.getD i []).getD j 0)) := by
  obtain ⟨a, c, rfl, h1, h2, h3⟩ := h
  have hl := mem_len hm
  have hr := mem_row hm hi
  obtain ⟨b, o, u, rfl, hc, hu⟩ := h3 i (by omega)
  obtain ⟨ga, d, rfl, hg1, hg2, hg3⟩ := hu
  obtain ⟨g, p, rfl, hgc⟩ := hg3 j (by omega)
  rw [hr] at hc
  exact ⟨b, o, c, g, p, d, by rw [hl], hc, hgc⟩
end Go.Proofs.Ytgdkeihmddpenaa
