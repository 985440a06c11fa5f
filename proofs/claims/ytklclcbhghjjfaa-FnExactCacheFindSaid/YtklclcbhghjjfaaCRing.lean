/- A ring of four translations, as a list. -/
import Derived.Test.YtklclcbhghjjfaaCMath
namespace Go.Proofs.Ytklclcbhghjjfaa
open Go.ChangeShapes Go.WideShapes Go.ChangeAt Go.RowKit
set_option linter.unusedVariables false

/-- the translations of a ring: c of them, from place f on -/
def rlist (A : Nat → CV) (f c : Nat) : List CV := (List.range c).map (fun i => A ((f + i) % 4))
def upd (A : Nat → CV) (k : Nat) (x : CV) (j : Nat) : CV := if j = k then x else A j
theorem rlist_len (A : Nat → CV) (f c : Nat) : (rlist A f c).length = c := by simp [rlist]
theorem rlist_get (A : Nat → CV) (f c : Nat) {i : Nat} (h : i < c) : (rlist A f c).getD i c0 = A ((f + i) % 4) := by
  rw [getD_lt (by rw [rlist_len]; exact h)]
  simp [rlist]
theorem rlist_snoc (A : Nat → CV) (f c : Nat) : rlist A f (c + 1) = rlist A f c ++ [A ((f + c) % 4)] := by
  unfold rlist
  rw [List.range_succ, List.map_append]
  rfl
theorem rlist_congr {A B : Nat → CV} {f c : Nat} (h : ∀ i, i < c → A ((f + i) % 4) = B ((f + i) % 4)) : rlist A f c = rlist B f c := by
  unfold rlist
  refine List.map_congr_left fun i hi => h i (List.mem_range.1 hi)
/-- one more, while there is room -/
theorem push_room (A : Nat → CV) (f c : Nat) (x : CV) (hf : f < 4) (hc : c < 4) : rlist (upd A ((f + c) % 4) x) f (c + 1) = rlist A f c ++ [x] := by
  rw [rlist_snoc]
  congr 1
  · exact rlist_congr fun i hi => by unfold upd; rw [if_neg (by omega)]
  · unfold upd; rw [if_pos rfl]
/-- without the first -/
theorem rlist_drop (A : Nat → CV) (f c : Nat) : rlist A ((f + 1) % 4) (c - 1) = (rlist A f c).drop 1 := by
  refine List.ext_getElem (by rw [List.length_drop, rlist_len, rlist_len]) fun i h1 h2 => ?_
  rw [rlist_len] at h1
  simp only [rlist, List.getElem_map, List.getElem_range, List.getElem_drop]
  congr 1
  omega
/-- one more in the place of the first -/
theorem push_full (A : Nat → CV) (f : Nat) (x : CV) (hf : f < 4) : rlist (upd A f x) ((f + 1) % 4) 4 = (rlist A f 4).drop 1 ++ [x] := by
  have h := push_room A ((f + 1) % 4) 3 x (by omega) (by omega)
  rw [show ((f + 1) % 4 + 3) % 4 = f by omega] at h
  rw [h, show (3 : Nat) = 4 - 1 from rfl, rlist_drop]
/-- the ring as a list without spare: what pushing one by one gives -/
def rput (l : List CV) (x : CV) : List CV := if 4 ≤ l.length then l.drop 1 ++ [x] else l ++ [x]
theorem rput_cut (l : List CV) (x : CV) : rput l x = cut4 l ++ [x] := by
  unfold rput cut4
  split <;> rfl
theorem rput_len (l : List CV) (x : CV) (h : l.length ≤ 4) : (rput l x).length ≤ 4 := by
  unfold rput
  split
  · rw [List.length_append, List.length_drop]; simp; omega
  · rw [List.length_append]; simp; omega
end Go.Proofs.Ytklclcbhghjjfaa
