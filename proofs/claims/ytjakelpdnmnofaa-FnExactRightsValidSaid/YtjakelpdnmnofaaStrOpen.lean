/- What an argument that is a slice of texts reads as, said of the world's cells. -/
import Derived.Test.YtjakelpdnmnofaaStrSz
import Derived.Test.YtjakelpdnmnofaaOpen
import Derived.SliceStrings
namespace Go.Proofs.Ytjakelpdnmnofaa
open Go.ChangeShapes Go.WideShapes Go.ChangeAt Go.RowKit
set_option linter.unusedVariables false

theorem strs_of_trod {H : Type} {enc : TypeId × Value → H} {P : Program} {w : World} {base : Nat} {held : Bool} {t e : TypeId} {fuel : Nat} {a : Option Addr} {len cap : Nat} {x : DataW H × List MemPlace}
    (ht : P.underlying t = some (.slice e)) (he : P.underlying e = some .string) (ce : P.cellsOf e = 1)
    (h : DataW.trod enc P w base (fun _ => true) held fuel t (Value.slice a len cap).cells.toList = some x) : ∃ xs, Strs w (.slice a len cap) xs ∧ Fit xs := by
  rcases open_strings ht he ce h with ⟨hcs, _⟩ | ⟨x, l, c, ss, hcs, _, hl, hm, hz, _, hcell, hsz⟩
  · simp [Value.cells] at hcs
    obtain ⟨rfl, rfl, rfl⟩ := hcs
    exact ⟨[], ⟨none, 0, rfl, Nat.le_refl _, Nat.zero_le _, fun i hi => by simp at hi⟩, fun x hx => by cases hx⟩
  · simp [Value.cells] at hcs
    obtain ⟨rfl, rfl, rfl⟩ := hcs
    have hz' : ss.length = cap := by simpa using hz
    have hlen : ((ss.take len).map (fun s : ByteArray => s.data.toList)).length = len := by rw [List.length_map, List.length_take]; omega
    refine ⟨(ss.take len).map (fun s : ByteArray => s.data.toList), ⟨some x, cap, by rw [hlen], by rw [hlen]; exact hl, hm, fun i hi => ?_⟩, fun y hy => ?_⟩
    · rw [hlen] at hi
      obtain ⟨b, o, rfl, hcells⟩ := addr_at (w := w) (n := cap) (f := fun r => .string (ss.getD r ByteArray.empty)) (fun r hr => hcell r (by omega)) (by omega)
      refine ⟨b, o, rfl, (hcells i (by omega)).trans ?_⟩
      have e1 : ((ss.take len).map (fun s : ByteArray => s.data.toList)).getD i [] = (ss.getD i ByteArray.empty).data.toList := by
        rw [getD_lt (by rw [hlen]; exact hi), getD_lt (show i < ss.length by omega)]
        simp
      rw [e1]
    · obtain ⟨s, hs, rfl⟩ := List.mem_map.1 hy
      have := hsz s (List.mem_of_mem_take hs)
      show s.data.toList.length ≤ maxLen
      rw [Array.length_toList]; exact this
end Go.Proofs.Ytjakelpdnmnofaa
