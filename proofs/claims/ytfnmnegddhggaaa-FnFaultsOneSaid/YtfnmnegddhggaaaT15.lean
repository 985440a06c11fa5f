/- What the proofs stand on, part 15. -/
import Derived.Test.YtfnmnegddhggaaaRows
import Derived.Test.YtfnmnegddhggaaaT1
import Derived.Test.YtfnmnegddhggaaaT2
import Derived.Test.YtfnmnegddhggaaaT4
import Derived.Test.YtfnmnegddhggaaaT5
set_option linter.unusedSimpArgs false
set_option linter.unusedVariables false
namespace Go.Proofs.Ytfnmnegddhggaaa
open Go.ChangeShapes Go.WideShapes Go.ChangeAt Go.RowKit
set_option linter.unusedVariables false
theorem run_append_zero {w : World} {P : Program} (t ty e : TypeId) (i : TypeInfo) (ht : P.underlying t = some (.slice e)) (hi : P.info? e = some i) (g n cap : Nat) (hn : n ≤ cap) (ao : Option Addr) (c : Nat) :
    (Builtin.append_ #[t, t] ty #[.slice (some ⟨g, 0, none⟩) n cap, .slice ao 0 c]).run P w = .ok (.slice (some ⟨g, 0, none⟩) n cap) w := by
  cases ao <;> simp [Builtin.append_, run_underlying ht, sizeOf, typeInfo, hi, Builtin.lenOf, Builtin.firstCells, hn, storeCells, loadCells, loadCellsFrom]
theorem wp_append_zero {a : Act} {w : World} {K : Act → World → Prop} {Q : Exit → Act → World → Prop} {dst : Option Nat} {tt : TypeId} {pos : String} {after : Array Edge} {gd : Option (Nat × Bool)} (s x : Operand) (t : TypeId) {e : TypeId} (i : TypeInfo) (ht : Try.prog.underlying t = some (.slice e)) (hi : Try.prog.info? e = some i)
    (g n cap : Nat) (hs : a.eval s = .slice (some ⟨g, 0, none⟩) n cap) (ao : Option Addr) (c : Nat) (hx : a.eval x = .slice ao 0 c) (hn : n ≤ cap := by omega) (h : K (a.put dst (.slice (some ⟨g, 0, none⟩) n cap)) w) :
    Oper.wp Try.prog { dst := dst, op := .call { callee := .builtin .append, args := #[s, x], argTypes := #[t, t] }, type := tt, pos := pos, after := after, guard := gd } a w K Q := by
  have hr := run_append_zero (P := Try.prog) (w := w) t tt e i ht hi g n cap hn ao c
  unfold Oper.wp execOp
  simp only [resolve, invoke, builtin, Sem.run_bind, Sem.run_pure, Result.andThen_ok, List.map_toArray, List.map_cons, List.map_nil, hs, hx, hr]
  exact h
theorem OwnI.grow0 {w w1 w2 : World} {v v2 : Value} {ys zs : List Int} {n : Nat} (h : OwnI w v ys w1) (hn : n = ys.length + zs.length) (h2 : w2.ownsRow w.heap.size 3 1 v2 n (ys.map (.int .i64) ++ zs.map (.int .i64))) (hg : w1.grownBy w2 v.ownBlock) (hnn : v2 = .slice none 0 0 → v = .slice none 0 0) :
    OwnI w v2 (ys ++ zs) w2 := by
  subst hn
  exact ⟨by rw [List.length_append, List.map_append]; exact h2, h.bel.grown hg h.bel.size (fun b hb => (h.own.lt b hb).1), fun e => h.nn (hnn e)⟩
theorem wp_append_ints {a : Act} {w : World} {K : Act → World → Prop} {Q : Exit → Act → World → Prop} {dst : Option Nat} {tt : TypeId} {pos : String} {after : Array Edge} {gd : Option (Nat × Bool)} (s x : Operand)
    (W0 : World) (v : Value) (ys : List Int) (hs : a.eval s = v) (hown : OwnI W0 v ys w) (xv : Value) (zs : List Int) (hx : a.eval x = xv) (hz : Ints w xv zs) (hl : ys.length + zs.length ≤ 1000000)
    (h : ∀ v' w', OwnI W0 v' (ys ++ zs) w' → w.grownBy w' v.ownBlock → K (a.put dst v') w') :
    Oper.wp Try.prog { dst := dst, op := .call { callee := .builtin .append, args := #[s, x], argTypes := #[23, 23] }, type := tt, pos := pos, after := after, guard := gd } a w K Q := by
  obtain ⟨i0, hi, hz0, hz1, hz2⟩ := info_parts intInfo
  obtain ⟨ad, cap, rfl, h1, h2, h3⟩ := hz
  by_cases hp : 0 < zs.length
  · obtain ⟨rb, ro, rfl, _⟩ := h3 0 hp
    have hnews : ∀ j y, (zs.map (Value.int .i64))[j]? = some y → w.cell? ((⟨rb, ro, none⟩ : Addr).add j) = some y := fun j y hy => by
      have hj : j < zs.length := by
        rcases Nat.lt_or_ge j zs.length with h' | h'
        · exact h'
        · simp [List.getElem?_eq_none h'] at hy
      obtain ⟨b', o', e', hcell⟩ := h3 j hj
      cases e'
      rw [Addr.add_lit, hcell]
      simpa [List.getElem?_map, getD_lt hj, hj] using hy
    obtain ⟨v', w', hr, g2, g3, g4⟩ := run_append_own (P := Try.prog) w W0.heap.size 23 tt 3 i0 (.int .i64 0) 1 8 Try.underlying23 hi hz0 hz1 hz2 rfl (by decide) v ys.length _ hown.own ⟨rb, ro, none⟩ zs.length cap (zs.map (.int .i64)) (by simp) hnews (ints_one zs) (by unfold maxLen; omega) (by omega) hown.bel.size
    have hk := h v' w' (hown.grow0 rfl g2 g3 (fun e => (g4.1 e).1)) g3
    unfold Oper.wp execOp
    simp only [resolve, invoke, builtin, Sem.run_bind, Sem.run_pure, Result.andThen_ok, List.map_toArray, List.map_cons, List.map_nil, hs, hx, hr]
    exact hk
  · have e0 : zs = [] := List.eq_nil_of_length_eq_zero (by omega)
    subst e0
    obtain ⟨g, c, e, hnc⟩ : ∃ g c, v = .slice (some ⟨g, 0, none⟩) ys.length c ∧ ys.length ≤ c := by
      rcases hown.own.2 with ⟨e, _⟩ | ⟨g, cap, cur, rfl, _, _, hnc, _⟩
      · exact absurd e hown.nn
      · exact ⟨g, cap, rfl, hnc⟩
    subst e
    refine wp_append_zero s x 23 i0 Try.underlying23 hi g ys.length c hs ad cap hx hnc ?_
    exact h _ _ (by rw [List.append_nil]; exact hown) ⟨rfl, rfl, rfl, Nat.le_refl _, fun _ _ _ => rfl⟩
end Go.Proofs.Ytfnmnegddhggaaa
