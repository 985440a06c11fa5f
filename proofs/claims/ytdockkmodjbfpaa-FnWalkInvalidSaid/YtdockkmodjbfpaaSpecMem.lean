/- What the reference's functions of a memory return, each under the condition that its name tells: a word, or a memory in new blocks; nothing that was there changes. -/
import Derived.Test.YtdockkmodjbfpaaMatW
namespace Go.Proofs.Ytdockkmodjbfpaa
open Go.ChangeShapes Go.WideShapes Go.ChangeAt Go.RowKit
set_option linter.unusedVariables false

theorem mem_len {xss : List (List Int)} (h : memOk xss = true) : xss.length = 12 := (of_decide_eq_true h).2
theorem mem_row {xss : List (List Int)} (h : memOk xss = true) {i : Nat} (hi : i < 12) : (xss.getD i []).length = 4 := by
  have hl := mem_len h
  have := (of_decide_eq_true h).1 _ (List.getElem_mem (show i < xss.length by omega))
  rw [getD_lt (by omega)]
  exact (of_decide_eq_true this).2
theorem mem_word {xss : List (List Int)} (h : memOk xss = true) {i j : Nat} (hi : i < 12) (hj : j < 4) : 0 ≤ (xss.getD i []).getD j 0 ∧ (xss.getD i []).getD j 0 ≤ 9999 := by
  have hl := mem_len h
  have hr := mem_row h hi
  have := (of_decide_eq_true h).1 _ (List.getElem_mem (show i < xss.length by omega))
  rw [getD_lt (show i < xss.length by omega)] at hr ⊢
  rw [getD_lt (by omega)]
  exact (of_decide_eq_true this).1 _ (List.getElem_mem (by omega))

/-- a memory that reads as yss, in new blocks, and true -/
def NewMem (yss : List (List Int)) (b : Bool) (w : World) (e : Ending) (w' : World) : Prop := ∃ v, e = .returned (.tuple #[v, .bool b]) ∧ MatW w' w.heap.size w'.heap.size v yss ∧ Below w.heap.size w w'
theorem new_nil {w : World} : NewMem [] false w (.returned (.tuple #[.slice (some ⟨w.heap.size, 0, none⟩) 0 0, .bool false])) (w.alloc (.cells #[] 34)) :=
  ⟨_, rfl, ⟨some ⟨w.heap.size, 0, none⟩, 0, fun _ => none, fun _ => 0, rfl, Nat.le_refl _, Nat.zero_le _, ⟨fun j hj => by simp at hj, fun j hj => by simp at hj, fun j hj => by simp at hj⟩⟩, (Below.refl _ _).alloc (Nat.le_refl _) _⟩

theorem put_mk {w w1 : World} {a : Option Addr} {cap : Nat} {A : Nat → Option Addr} {C : Nat → Nat} {xss : List (List Int)} {i j : Nat} {x : Int} (h1 : xss.length ≤ cap) (h2 : cap ≤ maxLen)
    (h : MatAt w1 w.heap.size w1.heap.size a xss.length A (fun j => (xss.getD j []).length) C (fun j i => (xss.getD j []).getD i 0)) (hb : Below w.heap.size w w1) (hi : i < xss.length) (hj : j < (xss.getD i []).length)
    {g p : Nat} (hA : A i = some ⟨g, p, none⟩) (hg : w.heap.size ≤ g) :
    NewMem (mput xss i j x) true w (.returned (.tuple #[.slice a xss.length cap, .bool true])) (w1.setCell ⟨g, p + j, none⟩ (.int .i64 x)) := by
  refine ⟨_, rfl, ⟨a, cap, A, C, by rw [mput_len], by rw [mput_len]; exact h1, h2, ?_⟩, hb.setCell (p := ⟨g, p + j, none⟩) hg _⟩
  have hs : (w1.setCell ⟨g, p + j, none⟩ (.int .i64 x)).heap.size = w1.heap.size := by simp [World.setCell]
  rw [hs]
  exact (h.store hi hj hA x).congr (mput_len _ _ _ _) (fun k _ => mput_row _ _ _ _ _) (fun k _ m _ => mput_get _ _ _ _ _ _ hi hj)

theorem set_row_mk {w w1 w2 : World} {a : Option Addr} {cap : Nat} {A : Nat → Option Addr} {C : Nat → Nat} {xss : List (List Int)} {i : Nat} {ys : List Int} (h1 : xss.length ≤ cap) (h2 : cap ≤ maxLen)
    (h : MatAt w1 w.heap.size w1.heap.size a xss.length A (fun j => (xss.getD j []).length) C (fun j i => (xss.getD j []).getD i 0)) (hb : Below w.heap.size w w2)
    (e1 : ∀ b, w.heap.size ≤ b → b < w1.heap.size → w2.heap[b]? = w1.heap[b]?) (hi : i < xss.length)
    {b o g c : Nat} (ha : a = some ⟨b, o, none⟩) (hbb : w.heap.size ≤ b) (hg1 : w1.heap.size ≤ g) (hg2 : g < w2.heap.size) (hlc : ys.length ≤ c) (hcm : c ≤ maxLen)
    (hY : ∀ m, m < ys.length → w2.cell? ⟨g, m, none⟩ = some (.int .i64 (ys.getD m 0)) ∧ w2.frozen? ⟨g, m, none⟩ = false) :
    NewMem (xss.set i ys) true w (.returned (.tuple #[.slice a xss.length cap, .bool true])) (w2.setCell ⟨b, o + i, none⟩ (.slice (some ⟨g, 0, none⟩) ys.length c)) := by
  have hs : (w2.setCell ⟨b, o + i, none⟩ (.slice (some ⟨g, 0, none⟩) ys.length c)).heap.size = w2.heap.size := by simp [World.setCell]
  have hmat := (h.setrow e1 (B2 := w2.heap.size) (Y := fun m => ys.getD m 0) hi ha hg1 hg2 hlc hcm hY).congr (n' := (xss.set i ys).length) (L' := fun k => ((xss.set i ys).getD k []).length) (X' := fun k m => ((xss.set i ys).getD k []).getD m 0)
    List.length_set (fun k hk => by
      simp only [getD_set]
      by_cases h' : k = i
      · subst h'; simp [hk]
      · rw [if_neg (fun hh => h' hh.1.symm), if_neg h']) (fun k hk m _ => by
      simp only [getD_set]
      by_cases h' : k = i
      · subst h'; simp [hk]
      · rw [if_neg (fun hh => h' hh.1.symm), if_neg h'])
  exact ⟨_, rfl, ⟨a, cap, _, _, by rw [List.length_set], by rw [List.length_set]; exact h1, h2, by rw [hs]; exact hmat⟩, hb.setCell (p := ⟨b, o + i, none⟩) hbb _⟩

end Go.Proofs.Ytdockkmodjbfpaa
