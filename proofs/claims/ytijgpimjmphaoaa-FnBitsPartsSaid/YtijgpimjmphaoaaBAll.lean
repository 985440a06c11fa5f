/- The walks of the exact statements on sets, out of contracts of the program alone; what an argument of numbers reads as. -/
import Derived.Test.YtijgpimjmphaoaaLawBitsO
import Derived.Test.YtijgpimjmphaoaaOpen
namespace Go.Proofs.Ytijgpimjmphaoaa
open Go.ChangeShapes Go.WideShapes Go.ChangeAt Go.RowKit
set_option linter.unusedVariables false

theorem exBitsOf_all (hO : IOf) (W : World) (v0 : Value) (xs : List Int) (h : Ints W v0 xs) :
    Calls Try.prog 11 #[v0] W fun e w' => e = .returned (.bool true) ∧ Below W.heap.size W w' :=
  exBitsOf_walk W v0 xs (bof xs) h (fun w v k => (bitsOf_any w v xs k).mono (by rintro e w' ⟨he, rfl⟩; exact ⟨he, Below.refl _ _⟩)) (fun w v k => hO w v xs k)
theorem exBitsList_all (hL : IList) (W : World) (n : Int) :
    Calls Try.prog 12 #[.int .i64 n] W fun e w' => e = .returned (.bool true) ∧ Below W.heap.size W w' :=
  exBitsList_walk W n (blist n) (by have := blist_len n; omega) (fun w => (bitsList_any w n).mono fun _ _ h => NewR.of_new h) (fun w => hL w n)
theorem exBitsHas_all (hH : IHas) (W : World) (a b : Int) :
    Calls Try.prog 13 #[.int .i64 a, .int .i64 b] W fun e w' => e = .returned (.bool true) ∧ Below W.heap.size W w' :=
  exBitsHas_walk W a b (bhas a b) (fun w => (bitsHas_any w a b).mono (by rintro e w' ⟨he, rfl⟩; exact ⟨he, Below.refl _ _⟩)) (fun w => hH w a b)
theorem exBitsJoin_all (hJ : IJoin) (W : World) (a b : Int) :
    Calls Try.prog 14 #[.int .i64 a, .int .i64 b] W fun e w' => e = .returned (.bool true) ∧ Below W.heap.size W w' :=
  exBitsJoin_walk W a b (bjoin a b) (fun w => (bitsJoin_any w a b).mono (by rintro e w' ⟨he, rfl⟩; exact ⟨he, Below.refl _ _⟩)) (fun w => hJ w a b)
theorem exBitsWithout_all (hW : IWout) (W : World) (a b : Int) :
    Calls Try.prog 15 #[.int .i64 a, .int .i64 b] W fun e w' => e = .returned (.bool true) ∧ Below W.heap.size W w' :=
  exBitsWithout_walk W a b (bwout a b) (fun w => (bitsWithout_any w a b).mono (by rintro e w' ⟨he, rfl⟩; exact ⟨he, Below.refl _ _⟩)) (fun w => hW w a b)
theorem ints_of_trod {H : Type} {enc : TypeId × Value → H} {P : Program} {w : World} {base : Nat} {held : Bool} {t e : TypeId} {fuel : Nat} {a : Option Addr} {len cap : Nat} {x : DataW H × List MemPlace}
    (ht : P.underlying t = some (.slice e)) (he : P.underlying e = some (.int .i64)) (ce : P.cellsOf e = 1)
    (h : DataW.trod enc P w base (fun _ => true) held fuel t (Value.slice a len cap).cells.toList = some x) : ∃ xs, Ints w (.slice a len cap) xs := by
  rcases open_ints ht he ce h with ⟨hcs, _⟩ | ⟨x, l, c, zs, hcs, _, hl, hm, hz, _, hcell, hwz⟩
  · simp [Value.cells] at hcs
    obtain ⟨rfl, rfl, rfl⟩ := hcs
    exact ⟨[], none, 0, rfl, Nat.le_refl _, Nat.zero_le _, fun i hi => by simp at hi⟩
  · simp [Value.cells] at hcs
    obtain ⟨rfl, rfl, rfl⟩ := hcs
    have hzc : zs.length = cap := by simpa using hz
    have hzl : (zs.take len).length = len := by rw [List.length_take]; omega
    refine ⟨zs.take len, some x, cap, by rw [hzl], by rw [hzl]; exact hl, hm, fun i hi => ?_⟩
    rw [hzl] at hi
    obtain ⟨b, o, rfl, hc⟩ := addr_at (w := w) (n := cap) (f := fun j => .int .i64 (zs.getD j 0)) (fun j hj => hcell j (by omega)) (by omega)
    refine ⟨b, o, rfl, (hc i (by omega)).trans ?_⟩
    congr 2
    rw [getD_lt (show i < zs.length by omega), getD_lt (show i < (zs.take len).length by omega)]
    simp
end Go.Proofs.Ytijgpimjmphaoaa
