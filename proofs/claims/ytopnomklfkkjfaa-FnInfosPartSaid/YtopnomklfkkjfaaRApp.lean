/- Appending texts to a new slice of texts. -/
import Derived.Test.YtopnomklfkkjfaaStrMk
import Derived.OwnWalk
import Derived.Maps.AppendAt
import Derived.Laws.AppendOwnNone
namespace Go.Proofs.Ytopnomklfkkjfaa
open Go.ChangeShapes Go.WideShapes Go.ChangeAt Go.RowKit
set_option linter.unusedVariables false

theorem anyH_gen {P : Program} {md : Region.Mode} {ops : Array Oper} {Q : Exit → Act → World → Prop} {S : World → Prop} {fuel : Nat} {listed : Array Bool} {a : Act} (w : World) (h : ∀ w', w' = w → wpAnyH P md ops Q S fuel listed a w') : wpAnyH P md ops Q S fuel listed a w := h w rfl
/-- a slice that is nil has no room -/
def NilOk (v : Value) : Prop := ∀ n c, v = .slice none n c → n = 0 ∧ c = 0
theorem OwnS.nilOk {w w' : World} {v : Value} {ys : List Bs} (h : OwnS w v ys w') : NilOk v := by
  intro n c e
  rcases h.own.2 with ⟨e2, hz⟩ | ⟨g, cap, cur, e2, _⟩
  · rw [e] at e2
    injection e2 with e1 e2 e3
    omega
  · rw [e] at e2; cases e2
theorem nilOk_some {a : Addr} {n c : Nat} : NilOk (.slice (some a) n c) := fun _ _ e => by cases e
theorem texts_get {zs : List Bs} {j : Nat} {u : Value} (h : (zs.map (fun s : Bs => Value.string ⟨s.toArray⟩))[j]? = some u) : j < zs.length ∧ u = .string ⟨(zs.getD j []).toArray⟩ := by
  have hj : j < zs.length := by
    have := (List.getElem?_eq_some_iff.1 h).1
    simpa using this
  refine ⟨hj, ?_⟩
  rw [getD_map_str hj] at h
  exact (Option.some.inj h).symm
theorem texts_one (zs : List Bs) : ∀ u ∈ zs.map (fun s : Bs => Value.string ⟨s.toArray⟩), u.oneCell' = true := by
  intro u hu
  obtain ⟨s, _, rfl⟩ := List.mem_map.1 hu
  rfl

theorem addN (b o j : Nat) : (⟨b, o, none⟩ : Addr).add j = ⟨b, o + j, none⟩ := by unfold Addr.add; split <;> simp_all
/-- 'append(s, x...)' where s owns its row -/
theorem wp_append_row {a : Act} {w : World} {K : Act → World → Prop} {Q : Exit → Act → World → Prop} {dst : Option Nat} {tt : TypeId} {pos : String} {after : Array Edge} {gd : Option (Nat × Bool)} (s x : Operand)
    (base : Nat) (v : Value) (ys : List Bs) (hs : a.eval s = v) (hown : w.ownsRow base 9 1 v ys.length (ys.map (fun s => .string ⟨s.toArray⟩))) (hbase : base ≤ w.heap.size) (xv : Value) (zs : List Bs) (hx : a.eval x = xv) (hz : Strs w xv zs) (hn : NilOk xv) (hl : ys.length + zs.length ≤ 1000000)
    (h : ∀ v' w', w'.ownsRow base 9 1 v' (ys ++ zs).length ((ys ++ zs).map (fun s => .string ⟨s.toArray⟩)) → (v' = .slice none 0 0 ↔ v = .slice none 0 0 ∧ zs.length = 0) → w.grownBy w' v.ownBlock → K (a.put dst v') w') :
    Oper.wp Try.prog { dst := dst, op := .call { callee := .builtin .append, args := #[s, x], argTypes := #[76, 76] }, type := tt, pos := pos, after := after, guard := gd } a w K Q := by
  obtain ⟨i0, hi, hz0, hz1, hz2⟩ := info_parts strInfo
  obtain ⟨ad, cap, rfl, h1, h2, h3⟩ := hz
  cases ad with
  | none =>
    obtain ⟨e1, e2⟩ := hn _ _ rfl
    subst e2
    have hrun := run_append_owned_none (P := Try.prog) (w := w) base 76 tt 9 i0 1 Try.underlying76 hi v ys.length _ hown
    have hzs : zs = [] := List.length_eq_zero_iff.1 e1
    subst hzs
    have hk := h v w (by rw [List.append_nil]; exact hown) (by simp) (World.grownBy.refl w _)
    unfold Oper.wp
    simp [execOp, resolve, invoke, builtin, hs, hx, hrun, Result.andThen]
    exact hk
  | some ad =>
    have hnews : ∀ j u, (zs.map (fun s : Bs => Value.string ⟨s.toArray⟩))[j]? = some u → w.cell? (ad.add j) = some u := by
      intro j u hj
      obtain ⟨hjl, rfl⟩ := texts_get hj
      obtain ⟨b, o, e, hc⟩ := h3 j hjl
      cases e
      rw [addN]
      exact hc
    obtain ⟨v', w', hr, g2, g3, g4, g5⟩ := run_append_own_at (P := Try.prog) w base 76 tt 9 i0 (.string ⟨#[]⟩) 1 16 Try.underlying76 hi hz0 hz1 hz2 rfl (by decide) v ys.length _ hown ad zs.length cap (zs.map (fun s : Bs => Value.string ⟨s.toArray⟩)) (by simp) hnews (texts_one zs) (by unfold maxLen; omega) (by omega) hbase
    have hk := h v' w' (by rw [List.length_append, List.map_append]; exact g2) g4 g3
    unfold Oper.wp execOp
    simp only [resolve, invoke, builtin, Sem.run_bind, Sem.run_pure, Result.andThen_ok, List.map_toArray, List.map_cons, List.map_nil, hs, hx, hr]
    exact hk
theorem wpList_append_row {ops : Array Oper} {rest : List Oper} {a : Act} {w : World} {Q : Exit → Act → World → Prop} {dst : Option Nat} {tt : TypeId} {pos : String} {after : Array Edge} (s x : Operand)
    (base : Nat) (v : Value) (ys : List Bs) (hs : a.eval s = v) (hown : w.ownsRow base 9 1 v ys.length (ys.map (fun s => .string ⟨s.toArray⟩))) (hbase : base ≤ w.heap.size) (xv : Value) (zs : List Bs) (hx : a.eval x = xv) (hz : Strs w xv zs) (hn : NilOk xv) (hl : ys.length + zs.length ≤ 1000000)
    (h : ∀ v' w', w'.ownsRow base 9 1 v' (ys ++ zs).length ((ys ++ zs).map (fun s => .string ⟨s.toArray⟩)) → (v' = .slice none 0 0 ↔ v = .slice none 0 0 ∧ zs.length = 0) → w.grownBy w' v.ownBlock → wpList Try.prog ops Q rest (a.put dst v') w') :
    wpList Try.prog ops Q ({ dst := dst, op := .call { callee := .builtin .append, args := #[s, x], argTypes := #[76, 76] }, type := tt, pos := pos, after := after, guard := none } :: rest) a w :=
  wpList_plain rfl fun K hK => wp_append_row s x base v ys hs hown hbase xv zs hx hz hn hl (fun v' w' h1 h2 h3 => hK _ _ (h v' w' h1 h2 h3))
/-- 'append(s, x...)' where s is new -/
theorem wp_append_strs {a : Act} {w : World} {K : Act → World → Prop} {Q : Exit → Act → World → Prop} {dst : Option Nat} {tt : TypeId} {pos : String} {after : Array Edge} {gd : Option (Nat × Bool)} (s x : Operand)
    (W0 : World) (v : Value) (ys : List Bs) (hs : a.eval s = v) (hown : OwnS W0 v ys w) (xv : Value) (zs : List Bs) (hx : a.eval x = xv) (hz : Strs w xv zs) (hn : NilOk xv) (hl : ys.length + zs.length ≤ 1000000)
    (h : ∀ v' w', OwnS W0 v' (ys ++ zs) w' → (v' = .slice none 0 0 ↔ v = .slice none 0 0 ∧ zs.length = 0) → w.grownBy w' v.ownBlock → K (a.put dst v') w') :
    Oper.wp Try.prog { dst := dst, op := .call { callee := .builtin .append, args := #[s, x], argTypes := #[76, 76] }, type := tt, pos := pos, after := after, guard := gd } a w K Q :=
  wp_append_row s x W0.heap.size v ys hs hown.own hown.bel.size xv zs hx hz hn hl (fun v' w' h1 h2 h3 => h v' w' ⟨h1, hown.bel.grown h3 hown.bel.size (fun b hb => (hown.own.lt b hb).1)⟩ h2 h3)
theorem wpList_append_strs {ops : Array Oper} {rest : List Oper} {a : Act} {w : World} {Q : Exit → Act → World → Prop} {dst : Option Nat} {tt : TypeId} {pos : String} {after : Array Edge} (s x : Operand)
    (W0 : World) (v : Value) (ys : List Bs) (hs : a.eval s = v) (hown : OwnS W0 v ys w) (xv : Value) (zs : List Bs) (hx : a.eval x = xv) (hz : Strs w xv zs) (hn : NilOk xv) (hl : ys.length + zs.length ≤ 1000000)
    (h : ∀ v' w', OwnS W0 v' (ys ++ zs) w' → (v' = .slice none 0 0 ↔ v = .slice none 0 0 ∧ zs.length = 0) → w.grownBy w' v.ownBlock → wpList Try.prog ops Q rest (a.put dst v') w') :
    wpList Try.prog ops Q ({ dst := dst, op := .call { callee := .builtin .append, args := #[s, x], argTypes := #[76, 76] }, type := tt, pos := pos, after := after, guard := none } :: rest) a w :=
  wpList_plain rfl fun K hK => wp_append_strs s x W0 v ys hs hown xv zs hx hz hn hl (fun v' w' h1 h2 h3 => hK _ _ (h v' w' h1 h2 h3))
end Go.Proofs.Ytopnomklfkkjfaa
