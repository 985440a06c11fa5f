/- What an argument of bytes and an argument of rows of numbers reads as, said of the world's cells. -/
import Derived.Test.YtopnomklfkkjfaaChg
import Derived.Test.YtopnomklfkkjfaaDraw
import Derived.Deep.Matrix
namespace Go.Proofs.Ytopnomklfkkjfaa
open Go.ChangeShapes Go.WideShapes Go.ChangeAt Go.RowKit
set_option linter.unusedVariables false

theorem addr_at {w : World} {a : Addr} {n : Nat} {f : Nat → Value} (h : ∀ i, i < n → w.cell? (a.add i) = some (f i)) (hn : 0 < n) : ∃ b o, a = ⟨b, o, none⟩ ∧ ∀ i, i < n → w.cell? ⟨b, o + i, none⟩ = some (f i) := by
  obtain ⟨b, o, s⟩ := a
  have h0 := h 0 hn
  have hs : s = none := by
    have : w.cell? ⟨b, o, s⟩ = some (f 0) := by simpa [Addr.add] using h0
    exact World.cell?_spot this
  subst hs
  refine ⟨b, o, rfl, fun i hi => ?_⟩
  have := h i hi
  have e : (⟨b, o, none⟩ : Addr).add i = ⟨b, o + i, none⟩ := by unfold Addr.add; split <;> simp_all
  rwa [e] at this

theorem rows_of_trod {H : Type} {enc : TypeId × Value → H} {P : Program} {w : World} {base : Nat} {held : Bool} {t e q : TypeId} {fuel : Nat} {a : Option Addr} {len cap : Nat} {x : DataW H × List MemPlace}
    (ht : P.underlying t = some (.slice e)) (he : P.underlying e = some (.slice q)) (hq : P.underlying q = some (.int .i64)) (ce : P.cellsOf e = 1) (cq : P.cellsOf q = 1)
    (h : DataW.trod enc P w base (fun _ => true) held fuel t (Value.slice a len cap).cells.toList = some x) : ∃ xss, Rows2 w (.slice a len cap) xss := by
  rcases Go.Deep.open_int_rows ht he hq ce cq h with ⟨hcs, _⟩ | ⟨a', len', cap', A, L, C, Z, hcs, _, hl, hm, _, hrow⟩
  · simp [Value.cells] at hcs
    obtain ⟨rfl, rfl, rfl⟩ := hcs
    exact ⟨[], none, 0, rfl, Nat.le_refl _, Nat.zero_le _, fun i hi => by simp at hi⟩
  · simp [Value.cells] at hcs
    obtain ⟨rfl, rfl, rfl⟩ := hcs
    have hlen : ((List.range len).map fun r => (Z r).take (L r)).length = len := by simp
    refine ⟨(List.range len).map fun r => (Z r).take (L r), some a', cap, by rw [hlen], by rw [hlen]; exact hl, hm, fun i hi => ?_⟩
    rw [hlen] at hi
    obtain ⟨b, o, rfl, hcells⟩ := addr_at (w := w) (n := cap) (f := fun r => .slice (A r) (L r) (C r)) (fun r hr => (hrow r hr).1) (by omega)
    obtain ⟨_, h1, h2, h3, _, _, h6⟩ := hrow i (by omega)
    have hg : ((List.range len).map fun r => (Z r).take (L r)).getD i [] = (Z i).take (L i) := by rw [getD_lt (by simpa using hi)]; simp
    have hzl : ((Z i).take (L i)).length = L i := by rw [List.length_take]; omega
    refine ⟨b, o, _, rfl, hcells i (by omega), ?_⟩
    rw [hg]
    refine ⟨A i, C i, by rw [hzl], by rw [hzl]; exact h1, h2, fun m hm' => ?_⟩
    rw [hzl] at hm'
    cases hA : A i with
    | none => 
      have := (hrow i (by omega)).2.2.2.2.2.1 hA
      omega
    | some a'' =>
      obtain ⟨_, h7⟩ := h6 a'' hA
      obtain ⟨g, p, rfl, hgc⟩ := addr_at (w := w) (n := C i) (f := fun c => .int .i64 ((Z i).getD c 0)) h7 (by omega)
      refine ⟨g, p, rfl, (hgc m (by omega)).trans ?_⟩
      congr 2
      rw [getD_lt (show m < (Z i).length by omega), getD_lt (show m < ((Z i).take (L i)).length by omega)]
      simp
theorem row_of_trod {H : Type} {enc : TypeId × Value → H} {P : Program} {w : World} {base : Nat} {held : Bool} {t e : TypeId} {fuel : Nat} {a : Option Addr} {len cap : Nat} {x : DataW H × List MemPlace}
    (ht : P.underlying t = some (.slice e)) (he : P.underlying e = some (.int .u8)) (ce : P.cellsOf e = 1)
    (h : DataW.trod enc P w base (fun _ => true) held fuel t (Value.slice a len cap).cells.toList = some x) : ∃ zs, Row .u8 w a len cap zs := by
  rcases open_ints ht he ce h with ⟨hcs, _⟩ | ⟨x, l, c, zs, hcs, _, hl, hm, hz, _, hcell, hwz⟩
  · simp [Value.cells] at hcs
    obtain ⟨rfl, rfl, rfl⟩ := hcs
    exact ⟨[], .inl ⟨rfl, rfl, rfl, rfl⟩⟩
  · simp [Value.cells] at hcs
    obtain ⟨rfl, rfl, rfl⟩ := hcs
    exact ⟨zs, .inr ⟨_, rfl, hl, hm, by simpa using hz, hcell, hwz⟩⟩
end Go.Proofs.Ytopnomklfkkjfaa
