/- What an argument that is a list of what is known of frames reads as, said of the world's cells. -/
import Derived.Test.YtopnomklfkkjfaaISz
import Derived.Test.YtopnomklfkkjfaaOpen
import Derived.SliceStrings
import Derived.Deep.SlicePairs
import Derived.Lib.SmallJoins
import Derived.Deep.Strs
namespace Go.Proofs.Ytopnomklfkkjfaa
open Go.ChangeShapes Go.WideShapes Go.ChangeAt Go.RowKit
set_option linter.unusedVariables false

theorem is_of_trod {H : Type} {enc : TypeId × Value → H} {w : World} {base : Nat} {held : Bool} {fuel : Nat} {a : Option Addr} {len cap : Nat} {x : DataW H × List MemPlace}
    (h : DataW.trod enc Try.prog w base (fun _ => true) held fuel 41 (Value.slice a len cap).cells.toList = some x) : ∃ xs, Is w (.slice a len cap) xs ∧ FitI xs := by
  rcases Go.Deep.open_slice Try.underlying41 h with ⟨hcs, _⟩ | ⟨a', len', cap', m, n, D, Pl, hcs, _, hl, hm, hmm, _, hrow⟩
  · simp [Value.cells] at hcs
    obtain ⟨rfl, rfl, rfl⟩ := hcs
    exact ⟨[], ⟨none, 0, rfl, Nat.le_refl _, Nat.zero_le _, fun i hi => by simp at hi⟩, fun x hx => by cases hx⟩
  · simp [Value.cells] at hcs
    obtain ⟨rfl, rfl, rfl⟩ := hcs
    have hmc : m = cap := by simpa using hmm
    have hce : Try.prog.cellsOf 68 = 3 := by kernel_rfl
    have hci : Try.prog.cellsOf 3 = 1 := by kernel_rfl
    have hcb : Try.prog.cellsOf 9 = 1 := by kernel_rfl
    have each : ∀ i, i < len → ∃ y : IV, y.g.length ≤ maxLen ∧ w.cell? (a'.add (i * 3)) = some (.int .i64 y.k) ∧ w.cell? (a'.add (i * 3 + 1)) = some (.string ⟨y.g.toArray⟩) ∧ w.cell? (a'.add (i * 3 + 2)) = some (.int .i64 y.r) := by
      intro i hi
      obtain ⟨cs', h1, h2⟩ := hrow i (by omega)
      rw [hce] at h1
      obtain ⟨_, hlen, hcell⟩ := World.cells?_some h1
      obtain ⟨y0, y1, y2, k, _, _, g0, g1, g2⟩ := Go.Deep.trod_struct3 Try.underlying68 h2
      match cs', hlen with
      | [v0, v1, v2], _ =>
        obtain ⟨n0, e0, _⟩ := DataW.trod_int Try.underlying3 g0
        obtain ⟨s1, e1, _, hs1⟩ := DataW.trod_string Try.underlying9 g1
        obtain ⟨n2, e2, _⟩ := DataW.trod_int Try.underlying3 g2
        rw [hci] at e0 e2
        rw [hcb] at e1
        have q0 := hcell 0 (by omega)
        have q1 := hcell 1 (by omega)
        have q2 := hcell 2 (by omega)
        rw [Go.Deep.add_add] at q0 q1 q2
        injection e0 with e0
        injection e1 with e1
        injection e2 with e2
        subst e0 e1 e2
        exact ⟨⟨n0, s1.data.toList, n2⟩, by show s1.data.toList.length ≤ maxLen; rw [Array.length_toList]; exact hs1, q0, q1, q2⟩
    obtain ⟨q, hq⟩ := Go.Deep.choose_lt each
    by_cases h0 : len = 0
    · subst h0
      exact ⟨[], ⟨some a', cap, rfl, by simp, hm, fun i hi => by simp at hi⟩, fun x hx => by cases hx⟩
    · have hs : a'.spot = none := by
        have := (hq 0 (by omega)).2.1
        rw [Nat.zero_mul, show a'.add 0 = a' from rfl] at this
        exact World.cell?_spot this
      obtain ⟨b, o, s⟩ := a'
      simp only at hs
      subst hs
      refine ⟨(List.range len).map q, ⟨some ⟨b, o, none⟩, cap, by simp, by simpa using hl, hm, fun i hi => ⟨b, o, rfl, ?_⟩⟩, fun x hx => by
        obtain ⟨i, hi, rfl⟩ := List.mem_map.1 hx
        exact (hq i (by simpa using hi)).1⟩
      have hi' : i < len := by simpa using hi
      have hg : ((List.range len).map q).getD i iz = q i := by rw [getD_lt hi]; simp
      obtain ⟨_, r0, r1, r2⟩ := hq i hi'
      rw [Addr.add_mid] at r0 r1 r2
      rw [hg]
      exact ⟨r0, r1, r2⟩
end Go.Proofs.Ytopnomklfkkjfaa
