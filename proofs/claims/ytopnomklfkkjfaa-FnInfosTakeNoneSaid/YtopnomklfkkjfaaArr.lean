/- Whole arrays as values: how they are made, read in part, laid into variables and returned; whatever their number of cells. -/
import Derived.Test.YtopnomklfkkjfaaChg
import Derived.Deep.MidRow
import Derived.Deep.WholeRow
import Derived.Laws.ResultCell
import Derived.Handy
namespace Go.Proofs.Ytopnomklfkkjfaa
open Go.ChangeShapes Go.WideShapes Go.ChangeAt Go.RowKit
set_option linter.unusedVariables false
theorem add0 (g j : Nat) : (⟨g, 0, none⟩ : Addr).add j = ⟨g, j, none⟩ := by unfold Addr.add; split <;> simp_all
section
variable {P : Program}

theorem wpList_alloc_arr {ops : Array Oper} {rest : List Oper} {op : Oper} {a : Act} {w : World} {Q : Exit → Act → World → Prop} (hgd : op.guard = none) (t : TypeId) (ho : op.op = .alloc t)
    (z : Array Value) (hz : ∀ w, (zeroValue t).run P w = .ok (.agg z) w)
    (h : wpList P ops Q rest (a.put op.dst (.pointer (some ⟨w.heap.size, 0, none⟩))) (w.alloc (.cells z t))) : wpList P ops Q (op :: rest) a w :=
  wpList_plain hgd fun _ hK => by
    unfold Oper.wp execOp
    simp only [ho, Instr.alloc, Sem.run_bind, Sem.run_pure, Result.andThen_ok, hz]
    exact hK _ _ h
theorem wpList_box_arr {ops : Array Oper} {rest : List Oper} {op : Oper} {a : Act} {w : World} {Q : Exit → Act → World → Prop} (hgd : op.guard = none) (t : TypeId) (x : Operand) (ho : op.op = .box t x)
    (z : Array Value) (hx : a.eval x = .agg z)
    (h : wpList P ops Q rest (a.put op.dst (.pointer (some ⟨w.heap.size, 0, none⟩))) (w.alloc (.cells z t))) : wpList P ops Q (op :: rest) a w :=
  wpList_plain hgd fun _ hK => by
    unfold Oper.wp execOp
    simp only [ho, hx]
    exact hK _ _ h
theorem wpList_build_arr {ops : Array Oper} {rest : List Oper} {op : Oper} {a : Act} {w : World} {Q : Exit → Act → World → Prop} (hgd : op.guard = none) (t : TypeId) (ho : op.op = .build t #[])
    (z : Array Value) (n : Nat) (e : TypeId) (s : Nat) (hz : ∀ w, (zeroValue t).run P w = .ok (.agg z) w) (hu : P.underlying t = some (.array n e)) (hs : ∀ w, (sizeOf e).run P w = .ok s w)
    (h : wpList P ops Q rest (a.put op.dst (.agg z)) w) : wpList P ops Q (op :: rest) a w :=
  wpList_plain hgd fun _ hK => by
    unfold Oper.wp execOp
    simp only [ho, Instr.build, Sem.run_bind, Sem.run_pure, Result.andThen_ok, hz, run_underlying hu, hs, Value.cells, List.map_toArray, List.map_nil, Instr.fill]
    exact hK _ _ h
/-- the store of a whole array at a place within a block; the load of one -/
theorem store_arr {ops : Array Oper} {rest : List Oper} {a : Act} {w : World} {Q : Exit → Act → World → Prop} {dst : Option Nat} {tt : TypeId} {pos : String} {after : Array Edge} (ty : TypeId) (x y : Operand)
    (b o : Nat) (cells : Array Value) (hx : a.eval x = .pointer (some ⟨b, o, none⟩)) (hy : a.eval y = .agg cells)
    (ht : w.there b o cells.size) (hi : (P.info? ty).map (·.size) = some cells.size) (h1 : cells.all (·.oneCell') = true)
    (h : wpList P ops Q rest (a.put dst undef) (w.setCells b o cells.toList)) : wpList P ops Q ({ dst := dst, op := .store ty x y, type := tt, pos := pos, after := after, guard := none } :: rest) a w :=
  wpList_store_mid rfl ty x y rfl b o cells hx hy ht hi h1 h
theorem build_arr {ops : Array Oper} {rest : List Oper} {a : Act} {w : World} {Q : Exit → Act → World → Prop} {dst : Option Nat} {tt : TypeId} {pos : String} {after : Array Edge} (t : TypeId)
    (z : Array Value) (n : Nat) (e : TypeId) (s : Nat) (hz : ∀ w, (zeroValue t).run P w = .ok (.agg z) w) (hu : P.underlying t = some (.array n e)) (hs : ∀ w, (sizeOf e).run P w = .ok s w)
    (h : wpList P ops Q rest (a.put dst (.agg z)) w) : wpList P ops Q ({ dst := dst, op := .build t #[], type := tt, pos := pos, after := after, guard := none } :: rest) a w :=
  wpList_build_arr rfl t rfl z n e s hz hu hs h
theorem alloc_arr {ops : Array Oper} {rest : List Oper} {a : Act} {w : World} {Q : Exit → Act → World → Prop} {dst : Option Nat} {tt : TypeId} {pos : String} {after : Array Edge} (t : TypeId)
    (z : Array Value) (hz : ∀ w, (zeroValue t).run P w = .ok (.agg z) w)
    (h : wpList P ops Q rest (a.put dst (.pointer (some ⟨w.heap.size, 0, none⟩))) (w.alloc (.cells z t))) : wpList P ops Q ({ dst := dst, op := .alloc t, type := tt, pos := pos, after := after, guard := none } :: rest) a w :=
  wpList_alloc_arr rfl t rfl z hz h
theorem box_arr {ops : Array Oper} {rest : List Oper} {a : Act} {w : World} {Q : Exit → Act → World → Prop} {dst : Option Nat} {tt : TypeId} {pos : String} {after : Array Edge} (t : TypeId) (x : Operand)
    (z : Array Value) (hx : a.eval x = .agg z)
    (h : wpList P ops Q rest (a.put dst (.pointer (some ⟨w.heap.size, 0, none⟩))) (w.alloc (.cells z t))) : wpList P ops Q ({ dst := dst, op := .box t x, type := tt, pos := pos, after := after, guard := none } :: rest) a w :=
  wpList_box_arr rfl t x rfl z hx h
theorem load_arr {ops : Array Oper} {rest : List Oper} {a : Act} {w : World} {Q : Exit → Act → World → Prop} {dst : Option Nat} {tt : TypeId} {pos : String} {after : Array Edge} (ty : TypeId) (x : Operand)
    (b o : Nat) (cs : List Value) (d : TypeDesc) (hx : a.eval x = .pointer (some ⟨b, o, none⟩)) (hc : w.rangeAt b o cs)
    (hu : P.underlying ty = some d) (hd : d.isRow = true) (hi : (P.info? ty).map (·.size) = some cs.length)
    (h : wpList P ops Q rest (a.put dst (.agg cs.toArray)) w) : wpList P ops Q ({ dst := dst, op := .load ty x, type := tt, pos := pos, after := after, guard := none } :: rest) a w :=
  wpList_load_mid rfl ty x rfl b o hx cs d hc hu hd hi h
theorem run_index_arr (t : TypeId) (n : Nat) (e : TypeId) (s : Nat) (hu : P.underlying t = some (.array n e)) (ha : ∀ w, (isAgg e).run P w = .ok true w) (hs : ∀ w, (sizeOf e).run P w = .ok s w)
    (cs : Array Value) (k : Nat) (hk : k < n) (W : World) : (Instr.index t (.agg cs) (.int .i64 k)).run P W = .ok (.agg (cs.extract (k * s) (k * s + s))) W := by
  have h1 : (0 : Int) ≤ (k : Int) ∧ (k : Int) < (n : Int) := by omega
  unfold Instr.index
  simp only [asIntOf, Sem.run_bind, Sem.run_pure, Result.andThen_ok, run_underlying hu, hs, part, ha, if_pos h1, Int.toNat_natCast, if_true]
theorem run_indexAt_arr (t : TypeId) (n : Nat) (e : TypeId) (s : Nat) (hu : P.underlying t = some (.array n e)) (hs : ∀ w, (sizeOf e).run P w = .ok s w) (hn : 1 < n)
    (b : Nat) (k : Nat) (hk : k < n) (W : World) : (Instr.indexAt t (.pointer (some ⟨b, 0, none⟩)) (.int .i64 k)).run P W = .ok (.pointer (some ⟨b, k * s, none⟩)) W := by
  have h1 : (0 : Int) ≤ (k : Int) ∧ (k : Int) < (n : Int) := by omega
  unfold Instr.indexAt
  simp only [asIntOf, Instr.sureAddr, Sem.run_bind, Sem.run_pure, Result.andThen_ok, run_underlying hu, hs, if_pos h1, Int.toNat_natCast, add0]
theorem run_indexAt_part (t : TypeId) (n : Nat) (e : TypeId) (hu : P.underlying t = some (.array n e)) (hs : ∀ w, (sizeOf e).run P w = .ok 1 w) (hn : 1 < n)
    (b o : Nat) (k : Nat) (hk : k < n) (W : World) : (Instr.indexAt t (.pointer (some ⟨b, o, none⟩)) (.int .i64 k)).run P W = .ok (.pointer (some ⟨b, o + k, none⟩)) W := by
  have h1 : (0 : Int) ≤ (k : Int) ∧ (k : Int) < (n : Int) := by omega
  unfold Instr.indexAt
  simp only [asIntOf, Instr.sureAddr, Sem.run_bind, Sem.run_pure, Result.andThen_ok, run_underlying hu, hs, if_pos h1, Int.toNat_natCast, Nat.mul_one, Addr.add_mid]
theorem results_cell_mid {fn : Func} {p u : Tmp} {ty : TypeId} (h : fn.results = #[.cell p ty, .tmp u]) (tmps : Array Value) (w : World) (b o : Nat) (cs : List Value) (d : TypeDesc)
    (hp : tmps.getD p undef = .pointer (some ⟨b, o, none⟩)) (hc : w.rangeAt b o cs)
    (hu : P.underlying ty = some d) (hd : d.isRow = true) (hi : (P.info? ty).map (·.size) = some cs.length) :
    (results fn tmps).run P w = .ok (.tuple #[.agg cs.toArray, tmps.getD u undef]) w := by
  rw [results_cell_tmp h, hp]
  simp only [asAddr, Sem.run_pure, Result.andThen_ok, run_loadVar_mid w b o ty cs d hc hu hd hi]
end

/-! which operation comes next: asked before a law is offered -/
theorem store_is {P : Program} {ops : Array Oper} {rest : List Oper} {a : Act} {w : World} {Q : Exit → Act → World → Prop} {dst : Option Nat} {tt : TypeId} {pos : String} {after : Array Edge} (ty : TypeId) (x y : Operand) (h : wpList P ops Q ({ dst := dst, op := .store ty x y, type := tt, pos := pos, after := after, guard := none } :: rest) a w) : wpList P ops Q ({ dst := dst, op := .store ty x y, type := tt, pos := pos, after := after, guard := none } :: rest) a w := h
theorem load_is {P : Program} {ops : Array Oper} {rest : List Oper} {a : Act} {w : World} {Q : Exit → Act → World → Prop} {dst : Option Nat} {tt : TypeId} {pos : String} {after : Array Edge} (ty : TypeId) (x : Operand) (h : wpList P ops Q ({ dst := dst, op := .load ty x, type := tt, pos := pos, after := after, guard := none } :: rest) a w) : wpList P ops Q ({ dst := dst, op := .load ty x, type := tt, pos := pos, after := after, guard := none } :: rest) a w := h
theorem build_is {P : Program} {ops : Array Oper} {rest : List Oper} {a : Act} {w : World} {Q : Exit → Act → World → Prop} {dst : Option Nat} {tt : TypeId} {pos : String} {after : Array Edge} (ty : TypeId) (h : wpList P ops Q ({ dst := dst, op := .build ty #[], type := tt, pos := pos, after := after, guard := none } :: rest) a w) : wpList P ops Q ({ dst := dst, op := .build ty #[], type := tt, pos := pos, after := after, guard := none } :: rest) a w := h
theorem alloc_is {P : Program} {ops : Array Oper} {rest : List Oper} {a : Act} {w : World} {Q : Exit → Act → World → Prop} {dst : Option Nat} {tt : TypeId} {pos : String} {after : Array Edge} (ty : TypeId) (h : wpList P ops Q ({ dst := dst, op := .alloc ty, type := tt, pos := pos, after := after, guard := none } :: rest) a w) : wpList P ops Q ({ dst := dst, op := .alloc ty, type := tt, pos := pos, after := after, guard := none } :: rest) a w := h
theorem box_is {P : Program} {ops : Array Oper} {rest : List Oper} {a : Act} {w : World} {Q : Exit → Act → World → Prop} {dst : Option Nat} {tt : TypeId} {pos : String} {after : Array Edge} (ty : TypeId) (x : Operand) (h : wpList P ops Q ({ dst := dst, op := .box ty x, type := tt, pos := pos, after := after, guard := none } :: rest) a w) : wpList P ops Q ({ dst := dst, op := .box ty x, type := tt, pos := pos, after := after, guard := none } :: rest) a w := h
theorem make_is {P : Program} {ops : Array Oper} {rest : List Oper} {a : Act} {w : World} {Q : Exit → Act → World → Prop} {dst : Option Nat} {tt : TypeId} {pos : String} {after : Array Edge} (ty : TypeId) (x y : Operand) (h : wpList P ops Q ({ dst := dst, op := .makeSlice ty x y, type := tt, pos := pos, after := after, guard := none } :: rest) a w) : wpList P ops Q ({ dst := dst, op := .makeSlice ty x y, type := tt, pos := pos, after := after, guard := none } :: rest) a w := h
theorem range_append {w : World} {b o : Nat} {l1 l2 : List Value} {o2 : Nat} (h1 : w.rangeAt b o l1) (h2 : w.rangeAt b o2 l2) (ho : o2 = o + l1.length) : w.rangeAt b o (l1 ++ l2) := by
  subst ho
  intro j v hv
  rw [List.getElem?_append] at hv
  by_cases hj : j < l1.length
  · rw [if_pos hj] at hv
    exact h1 j v hv
  · rw [if_neg hj] at hv
    have := h2 _ v hv
    have e : o + l1.length + (j - l1.length) = o + j := by omega
    rwa [e] at this
theorem range_row {w : World} {b : Nat} {C : Array Value} {t : TypeId} {fr : Nat × Nat} (hb : w.heap[b]? = some (.cells C t fr)) : w.rangeAt b 0 C.toList := fun j v hv => by
  rw [cell_of_row w b (0 + j) C t fr hb, Nat.zero_add]
  simpa using hv
theorem range_nil {w : World} {b o : Nat} : w.rangeAt b o [] := fun j v hv => by simp at hv
theorem range_blocks {w w' : World} {b o : Nat} {cs : List Value} (h : w.rangeAt b o cs) (e : w'.heap[b]? = w.heap[b]?) : w'.rangeAt b o cs := fun j v hv => by
  rw [World.cell?_of_block e]; exact h j v hv
theorem there_blocks {w w' : World} {b o n : Nat} (h : w.there b o n) (e : w'.heap[b]? = w.heap[b]?) : w'.there b o n := fun j hj => by
  rw [World.cell?_of_block e, World.frozen?_of_block e]; exact h j hj
theorem there_row {w : World} {b : Nat} {C : Array Value} {t : TypeId} {n : Nat} (hb : w.heap[b]? = some (.cells C t (0, 0))) (hn : n ≤ C.size) : w.there b 0 n := fun j hj => by
  rw [cell_of_row w b (0 + j) C t (0, 0) hb, frozen_of_row w b (0 + j) C t hb, Nat.zero_add]
  exact ⟨by simp; omega, rfl⟩
theorem there_part {w : World} {b n o m : Nat} (h : w.there b 0 n) (hm : o + m ≤ n) : w.there b o m := fun j hj => by
  have := h (o + j) (by omega)
  rwa [Nat.zero_add] at this
theorem heap_setCells_other (w : World) (b : Nat) : ∀ (vs : List Value) (o : Nat) (w : World) (k : Nat), k ≠ b → (w.setCells b o vs).heap[k]? = w.heap[k]?
  | [], _, _, _, _ => rfl
  | v :: r, o, w, k, h => by
    rw [World.setCells, heap_setCells_other w b r (o + 1) _ k h, heap_setCell_other _ _ _ _ h]
theorem size_setCells (b : Nat) : ∀ (vs : List Value) (o : Nat) (w : World), (w.setCells b o vs).heap.size = w.heap.size
  | [], _, _ => rfl
  | v :: r, o, w => by rw [World.setCells, size_setCells b r (o + 1)]; simp [World.setCell]
theorem Below.setCells {S : Nat} {W w : World} (h : Below S W w) (b : Nat) (hb : S ≤ b) : ∀ (vs : List Value) (o : Nat) (w : World), Below S W w → Below S W (w.setCells b o vs)
  | [], _, _, h => h
  | v :: r, o, w, h => by rw [World.setCells]; exact Below.setCells h b hb r (o + 1) _ (h.setCell (p := ⟨b, o, none⟩) hb v)
end Go.Proofs.Ytopnomklfkkjfaa
