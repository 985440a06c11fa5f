/- What the proofs stand on, part 6: IImpl Open IOpen WordsOf MemOf Lists ImplA SList IntsW RImpl2 RImpl3 Same StrOpen TBuild. -/
import Derived.Test.YticnfekjbknomaaMg5
import Derived.Test.YticnfekjbknomaaMg1
import Derived.Deep.Matrix
import Derived.SliceStrings
import Derived.Deep.SlicePairs
import Derived.Lib.SmallJoins
import Derived.Deep.Strs
import Derived.Test.YticnfekjbknomaaMg2
import Derived.Test.YticnfekjbknomaaMg4
import Derived.WalkKit
import Derived.Test.YticnfekjbknomaaMg3
/- What the program's functions on what is known of frames answer. -/
namespace Go.Proofs.Yticnfekjbknomaa
open Go.ChangeShapes Go.WideShapes Go.ChangeAt Go.RowKit
set_option linter.unusedVariables false

/-- a variable of its own that holds the array -/
structure VarI (w : World) (B : Nat) (zs : List IV) (W : World) : Prop where
  bel : Below w.heap.size w W
  lo : w.heap.size ≤ B
  hi : B < W.heap.size
  len : zs.length = 12
  cells : ∀ i, i < 12 → TriW W B (i * 3) (zs.getD i iz)
theorem VarI.range {w W : World} {B : Nat} {zs : List IV} (h : VarI w B zs W) : W.rangeAt B 0 (isC zs) := fun j u hj => is_cells (fun i hi => by
  rw [Nat.zero_add]
  exact (h.cells i (by have := h.len; omega)).at3) j u hj
theorem VarI.after {w W W2 : World} {B : Nat} {zs : List IV} (h : VarI w B zs W) (hb : Below W.heap.size W W2) : VarI w B zs W2 :=
  ⟨h.bel.trans (hb.mono h.bel.size), h.lo, by have := h.hi; have := hb.size; omega, h.len, fun i hi => (h.cells i hi).block (hb.block _ h.hi)⟩
theorem VarI.make {w w1 : World} {zs : List IV} {Z : Array Value} (t : TypeId) (hb : Below w.heap.size w w1) (hZ : Z.size = 36) (hl : zs.length = 12) : (w1.alloc (.cells Z t)).there w1.heap.size 0 36 ∧ VarI w w1.heap.size zs ((w1.alloc (.cells Z t)).setCells w1.heap.size 0 (isC zs)) := by
  have ht : (w1.alloc (.cells Z t)).there w1.heap.size 0 36 := there_row (heap_alloc_new w1 _) (by omega)
  refine ⟨ht, Below.setCells (Below.refl _ _) _ hb.size _ _ _ (hb.alloc hb.size _), hb.size, by rw [size_setCells]; simp, hl, fun i hi => ⟨tri_of_range (World.rangeAt_setCells_same _ _ _ _ (by rw [isC_36 hl]; exact ht)) (by omega), fun j hj => ?_⟩⟩
  rw [World.frozen?_setCells]
  have := (ht (i * 3 + j) (by omega)).2
  rwa [Nat.zero_add] at this
theorem VarI.set {w W : World} {B k : Nat} {zs : List IV} (h : VarI w B zs W) (hk : k < 12) (x : IV) : W.there B (k * 3) 3 ∧ VarI w B (zs.set k x) (W.setCells B (k * 3) (ivC x)) := by
  have ht := (h.cells k hk).there
  refine ⟨ht, Below.setCells (Below.refl _ _) _ h.lo _ _ _ h.bel, h.lo, by rw [size_setCells]; exact h.hi, by rw [List.length_set]; exact h.len, fun i hi => ?_⟩
  rw [set_getD_eq (by have := h.len; omega)]
  split
  · rename_i e
    subst e
    exact TriW.stored ht
  · rename_i e
    exact (h.cells i hi).apart (.inr (by show i * 3 + 3 ≤ k * 3 ∨ k * 3 + 3 ≤ i * 3; omega))
theorem load_run {P : Program} {W : World} (ty : TypeId) (b o : Nat) (cs : List Value) (d : TypeDesc) (hc : W.rangeAt b o cs) (hu : P.underlying ty = some d) (hd : d.isRow = true) (hi : (P.info? ty).map (·.size) = some cs.length) :
    (do let l ← Instr.loadAt ty (.pointer (some ⟨b, o, none⟩)); pure (Next.value l) : Sem Next).run P W = .ok (.value (.agg cs.toArray)) W := by
  simp only [Instr.loadAt, Instr.sureAddr, Sem.run_bind, Sem.run_pure, Result.andThen_ok, run_loadVar_mid W b o ty cs d hc hu hd hi]
theorem frs_mem {ys : List IV} {x : Nat} (h : x ∈ frs ys 0) : x < ys.length := by
  unfold frs at h
  rw [List.drop_zero, List.mem_filter, List.mem_range] at h
  exact h.1

end Go.Proofs.Yticnfekjbknomaa
/- What an argument of bytes and an argument of rows of numbers reads as, said of the world's cells. -/
namespace Go.Proofs.Yticnfekjbknomaa
open Go.ChangeShapes Go.WideShapes Go.ChangeAt Go.RowKit
set_option linter.unusedVariables false

theorem addr_at {w : World} {a : Addr} {n : Nat} {f : Nat → Value} (h : ∀ i, i < n → w.cell? (a.add i) = some (f i)) (hn : 0 < n) : ∃ b o, a = ⟨b, o, none⟩ ∧ ∀ i, i < n → w.cell? ⟨b, o + i, none⟩ = some (f i) := by
  obtain ⟨b, o, s⟩ := a
  have h0 := h 0 hn
  have hs : s = none := by
    have : w.cell? ⟨b, o, s⟩ = some (f 0) := by simpa [Addr.add] using h0
    exact World.cell?_spot this
  subst hs
  refine ⟨b, o, rfl, fun i hi => ?_⟩
  have := h i hi
  have e : (⟨b, o, none⟩ : Addr).add i = ⟨b, o + i, none⟩ := by unfold Addr.add; split <;> simp_all
  rwa [e] at this

theorem rows_of_trod {H : Type} {enc : TypeId × Value → H} {P : Program} {w : World} {base : Nat} {held : Bool} {t e q : TypeId} {fuel : Nat} {a : Option Addr} {len cap : Nat} {x : DataW H × List MemPlace}
    (ht : P.underlying t = some (.slice e)) (he : P.underlying e = some (.slice q)) (hq : P.underlying q = some (.int .i64)) (ce : P.cellsOf e = 1) (cq : P.cellsOf q = 1)
    (h : DataW.trod enc P w base (fun _ => true) held fuel t (Value.slice a len cap).cells.toList = some x) : ∃ xss, Rows2 w (.slice a len cap) xss := by
  rcases Go.Deep.open_int_rows ht he hq ce cq h with ⟨hcs, _⟩ | ⟨a', len', cap', A, L, C, Z, hcs, _, hl, hm, _, hrow⟩
  · simp [Value.cells] at hcs
    obtain ⟨rfl, rfl, rfl⟩ := hcs
    exact ⟨[], none, 0, rfl, Nat.le_refl _, Nat.zero_le _, fun i hi => by simp at hi⟩
  · simp [Value.cells] at hcs
    obtain ⟨rfl, rfl, rfl⟩ := hcs
    have hlen : ((List.range len).map fun r => (Z r).take (L r)).length = len := by simp
    refine ⟨(List.range len).map fun r => (Z r).take (L r), some a', cap, by rw [hlen], by rw [hlen]; exact hl, hm, fun i hi => ?_⟩
    rw [hlen] at hi
    obtain ⟨b, o, rfl, hcells⟩ := addr_at (w := w) (n := cap) (f := fun r => .slice (A r) (L r) (C r)) (fun r hr => (hrow r hr).1) (by omega)
    obtain ⟨_, h1, h2, h3, _, _, h6⟩ := hrow i (by omega)
    have hg : ((List.range len).map fun r => (Z r).take (L r)).getD i [] = (Z i).take (L i) := by rw [getD_lt (by simpa using hi)]; simp
    have hzl : ((Z i).take (L i)).length = L i := by rw [List.length_take]; omega
    refine ⟨b, o, _, rfl, hcells i (by omega), ?_⟩
    rw [hg]
    refine ⟨A i, C i, by rw [hzl], by rw [hzl]; exact h1, h2, fun m hm' => ?_⟩
    rw [hzl] at hm'
    cases hA : A i with
    | none => 
      have := (hrow i (by omega)).2.2.2.2.2.1 hA
      omega
    | some a'' =>
      obtain ⟨_, h7⟩ := h6 a'' hA
      obtain ⟨g, p, rfl, hgc⟩ := addr_at (w := w) (n := C i) (f := fun c => .int .i64 ((Z i).getD c 0)) h7 (by omega)
      refine ⟨g, p, rfl, (hgc m (by omega)).trans ?_⟩
      congr 2
      rw [getD_lt (show m < (Z i).length by omega), getD_lt (show m < ((Z i).take (L i)).length by omega)]
      simp
theorem row_of_trod {H : Type} {enc : TypeId × Value → H} {P : Program} {w : World} {base : Nat} {held : Bool} {t e : TypeId} {fuel : Nat} {a : Option Addr} {len cap : Nat} {x : DataW H × List MemPlace}
    (ht : P.underlying t = some (.slice e)) (he : P.underlying e = some (.int .u8)) (ce : P.cellsOf e = 1)
    (h : DataW.trod enc P w base (fun _ => true) held fuel t (Value.slice a len cap).cells.toList = some x) : ∃ zs, Row .u8 w a len cap zs := by
  rcases open_ints ht he ce h with ⟨hcs, _⟩ | ⟨x, l, c, zs, hcs, _, hl, hm, hz, _, hcell, hwz⟩
  · simp [Value.cells] at hcs
    obtain ⟨rfl, rfl, rfl⟩ := hcs
    exact ⟨[], .inl ⟨rfl, rfl, rfl, rfl⟩⟩
  · simp [Value.cells] at hcs
    obtain ⟨rfl, rfl, rfl⟩ := hcs
    exact ⟨zs, .inr ⟨_, rfl, hl, hm, by simpa using hz, hcell, hwz⟩⟩
end Go.Proofs.Yticnfekjbknomaa
/- What an argument that is a list of what is known of frames reads as, said of the world's cells. -/
namespace Go.Proofs.Yticnfekjbknomaa
open Go.ChangeShapes Go.WideShapes Go.ChangeAt Go.RowKit
set_option linter.unusedVariables false

set_option maxRecDepth 100000 in
theorem is_of_trod {H : Type} {enc : TypeId × Value → H} {w : World} {base : Nat} {held : Bool} {fuel : Nat} {a : Option Addr} {len cap : Nat} {x : DataW H × List MemPlace}
    (h : DataW.trod enc Try.prog w base (fun _ => true) held fuel 57 (Value.slice a len cap).cells.toList = some x) : ∃ xs, Is w (.slice a len cap) xs ∧ FitI xs := by
  rcases Go.Deep.open_slice Try.underlying57 h with ⟨hcs, _⟩ | ⟨a', len', cap', m, n, D, Pl, hcs, _, hl, hm, hmm, _, hrow⟩
  · simp [Value.cells] at hcs
    obtain ⟨rfl, rfl, rfl⟩ := hcs
    exact ⟨[], ⟨none, 0, rfl, Nat.le_refl _, Nat.zero_le _, fun i hi => by simp at hi⟩, fun x hx => by cases hx⟩
  · simp [Value.cells] at hcs
    obtain ⟨rfl, rfl, rfl⟩ := hcs
    have hmc : m = cap := by simpa using hmm
    have hce : Try.prog.cellsOf 116 = 3 := by kernel_rfl
    have hci : Try.prog.cellsOf 3 = 1 := by kernel_rfl
    have hcb : Try.prog.cellsOf 9 = 1 := by kernel_rfl
    have each : ∀ i, i < len → ∃ y : IV, y.g.length ≤ maxLen ∧ w.cell? (a'.add (i * 3)) = some (.int .i64 y.k) ∧ w.cell? (a'.add (i * 3 + 1)) = some (.string ⟨y.g.toArray⟩) ∧ w.cell? (a'.add (i * 3 + 2)) = some (.int .i64 y.r) := by
      intro i hi
      obtain ⟨cs', h1, h2⟩ := hrow i (by omega)
      rw [hce] at h1
      obtain ⟨_, hlen, hcell⟩ := World.cells?_some h1
      obtain ⟨y0, y1, y2, k, _, _, g0, g1, g2⟩ := Go.Deep.trod_struct3 Try.underlying116 h2
      match cs', hlen with
      | [v0, v1, v2], _ =>
        obtain ⟨n0, e0, _⟩ := DataW.trod_int Try.underlying3 g0
        obtain ⟨s1, e1, _, hs1⟩ := DataW.trod_string Try.underlying9 g1
        obtain ⟨n2, e2, _⟩ := DataW.trod_int Try.underlying3 g2
        rw [hci] at e0 e2
        rw [hcb] at e1
        have q0 := hcell 0 (by omega)
        have q1 := hcell 1 (by omega)
        have q2 := hcell 2 (by omega)
        rw [Go.Deep.add_add] at q0 q1 q2
        injection e0 with e0
        injection e1 with e1
        injection e2 with e2
        subst e0 e1 e2
        exact ⟨⟨n0, s1.data.toList, n2⟩, by show s1.data.toList.length ≤ maxLen; rw [Array.length_toList]; exact hs1, q0, q1, q2⟩
    obtain ⟨q, hq⟩ := Go.Deep.choose_lt each
    by_cases h0 : len = 0
    · subst h0
      exact ⟨[], ⟨some a', cap, rfl, by simp, hm, fun i hi => by simp at hi⟩, fun x hx => by cases hx⟩
    · have hs : a'.spot = none := by
        have := (hq 0 (by omega)).2.1
        rw [Nat.zero_mul, show a'.add 0 = a' from rfl] at this
        exact World.cell?_spot this
      obtain ⟨b, o, s⟩ := a'
      simp only at hs
      subst hs
      refine ⟨(List.range len).map q, ⟨some ⟨b, o, none⟩, cap, by simp, by simpa using hl, hm, fun i hi => ⟨b, o, rfl, ?_⟩⟩, fun x hx => by
        obtain ⟨i, hi, rfl⟩ := List.mem_map.1 hx
        exact (hq i (by simpa using hi)).1⟩
      have hi' : i < len := by simpa using hi
      have hg : ((List.range len).map q).getD i iz = q i := by rw [getD_lt hi]; simp
      obtain ⟨_, r0, r1, r2⟩ := hq i hi'
      rw [Addr.add_mid] at r0 r1 r2
      rw [hg]
      exact ⟨r0, r1, r2⟩
end Go.Proofs.Yticnfekjbknomaa
/- What the program's wordsOf returns: the four words, where they are in range. -/
namespace Go.Proofs.Yticnfekjbknomaa
open Go.ChangeShapes Go.WideShapes Go.ChangeAt Go.RowKit
set_option linter.unusedVariables false

def blw (x n : Int) : Bool := decide (0 ≤ x ∧ x < n)
def isw (x : Int) : Bool := blw x 10000
theorem blw_yes {x n : Int} (h : 0 ≤ x ∧ x < n) : blw x n = true := decide_eq_true h
theorem blw_no {x n : Int} (h : ¬ (0 ≤ x ∧ x < n)) : blw x n = false := decide_eq_false h
theorem below_any (w : World) (x n : Int) : Calls Try.prog 82 #[.int .i64 x, .int .i64 n] w fun e w' => e = .returned (.bool (blw x n)) ∧ w = w' := by
  by_cases h : 0 ≤ x ∧ x < n
  · rw [blw_yes h]
    obtain ⟨h1, h2⟩ := h
    go_enter Try.func82, Try.ntmps82
    go_wp2
    go_ret
    exact ⟨rfl, rfl⟩
  · rw [blw_no h]
    by_cases h1 : 0 ≤ x
    · have h2 : decide (x < n) = false := by simp; omega
      clear h
      go_enter Try.func82, Try.ntmps82
      go_wp2
      go_ret
      exact ⟨rfl, rfl⟩
    · have h2 : decide (0 ≤ x) = false := by simpa using h1
      clear h
      go_enter Try.func82, Try.ntmps82
      go_wp2
      go_ret
      exact ⟨rfl, rfl⟩
theorem isWord_any (w : World) (x : Int) : Calls Try.prog 93 #[.int .i64 x] w fun e w' => e = .returned (.bool (isw x)) ∧ w = w' := by
  go_enter Try.func93, Try.ntmps93
  go_wp2_with (go_at_call 82; refine (below_any _ _ _).mono ?_; rintro e w' ⟨rfl, rfl⟩)
  go_ret
  exact ⟨rfl, rfl⟩

theorem arrayAt_words (W : World) (a : Option Addr) (cap : Nat) : (Instr.arrayAt 77 (.slice a 4 cap)).run Try.prog W = .ok (.pointer a) W := by
  unfold Instr.arrayAt
  rw [Sem.run_bind, run_underlying Try.underlying77]
  simp

/-- an array and whether it is one of words; nothing that was there changes -/
def ArrRes (w : World) (cs : Array Value) (b : Bool) (e : Ending) (w' : World) : Prop := e = .returned (.tuple #[.agg cs, .bool b]) ∧ Below w.heap.size w w'
theorem below2 {w : World} {o1 o2 : Obj} : Below w.heap.size w ((w.alloc o1).alloc o2) := ((Below.refl _ _).alloc (Nat.le_refl _) o1).alloc (by simp) o2
theorem words4 {w : World} {b o cap : Nat} {x0 x1 x2 x3 : Int} {r : Bool} (hc : 4 ≤ cap) (h0 : w.cell? ⟨b, o, none⟩ = some (.int .i64 x0)) (h1 : w.cell? ⟨b, o + 1, none⟩ = some (.int .i64 x1)) (h2 : w.cell? ⟨b, o + 2, none⟩ = some (.int .i64 x2)) (h3 : w.cell? ⟨b, o + 3, none⟩ = some (.int .i64 x3))
    (hr : (isw x0 && isw x1 && isw x2 && isw x3) = r) :
    Calls Try.prog 112 #[.slice (some ⟨b, o, none⟩) 4 cap] w (ArrRes w (bif r then #[.int .i64 x0, .int .i64 x1, .int .i64 x2, .int .i64 x3] else #[.int .i64 0, .int .i64 0, .int .i64 0, .int .i64 0]) r) := by
  have HA := fun W => arrayAt_words W (some ⟨b, o, none⟩) cap
  have g0 := fun ob => (World.cell?_alloc_lt w ob ⟨b, o, none⟩ (block_lt_of_cell h0)).trans h0
  have g1 := fun ob => (World.cell?_alloc_lt w ob ⟨b, o + 1, none⟩ (block_lt_of_cell h1)).trans h1
  have g2 := fun ob => (World.cell?_alloc_lt w ob ⟨b, o + 2, none⟩ (block_lt_of_cell h2)).trans h2
  have g3 := fun ob => (World.cell?_alloc_lt w ob ⟨b, o + 3, none⟩ (block_lt_of_cell h3)).trans h3
  clear h0 h1 h2 h3
  have i0 : ∀ W : World, (Instr.index 77 (.agg #[.int .i64 x0, .int .i64 x1, .int .i64 x2, .int .i64 x3]) (.int .i64 0)).run Try.prog W = .ok (.int .i64 x0) W := fun _ => by kernel_rfl
  have i1 : ∀ W : World, (Instr.index 77 (.agg #[.int .i64 x0, .int .i64 x1, .int .i64 x2, .int .i64 x3]) (.int .i64 1)).run Try.prog W = .ok (.int .i64 x1) W := fun _ => by kernel_rfl
  have i2 : ∀ W : World, (Instr.index 77 (.agg #[.int .i64 x0, .int .i64 x1, .int .i64 x2, .int .i64 x3]) (.int .i64 2)).run Try.prog W = .ok (.int .i64 x2) W := fun _ => by kernel_rfl
  have i3 : ∀ W : World, (Instr.index 77 (.agg #[.int .i64 x0, .int .i64 x1, .int .i64 x2, .int .i64 x3]) (.int .i64 3)).run Try.prog W = .ok (.int .i64 x3) W := fun _ => by kernel_rfl
  have HR := Lib.hid hr
  clear hr
  obtain ⟨R, HRR⟩ : ∃ R : Ending → World → Prop, Hid (R = ArrRes w (bif r then #[.int .i64 x0, .int .i64 x1, .int .i64 x2, .int .i64 x3] else #[.int .i64 0, .int .i64 0, .int .i64 0, .int .i64 0]) r) := ⟨_, Lib.hid rfl⟩
  rw [← HRR.out]
  go_enter Try.func112, Try.ntmps112
  go_wp2
  refine wp_loop_rounds 5 ?_
  rw [rounds_succ]
  by_cases e0 : isw x0 = true
  · go_wp2_with (go_at_call 93; refine (isWord_any _ _).mono ?_; rintro e w' ⟨rfl, rfl⟩)
    rw [rounds_succ]
    by_cases e1 : isw x1 = true
    · go_wp2_with (go_at_call 93; refine (isWord_any _ _).mono ?_; rintro e w' ⟨rfl, rfl⟩)
      rw [rounds_succ]
      by_cases e2 : isw x2 = true
      · go_wp2_with (go_at_call 93; refine (isWord_any _ _).mono ?_; rintro e w' ⟨rfl, rfl⟩)
        rw [rounds_succ]
        by_cases e3 : isw x3 = true
        · go_wp2_with (go_at_call 93; refine (isWord_any _ _).mono ?_; rintro e w' ⟨rfl, rfl⟩)
          rw [rounds_succ]
          go_wp2
          have er : r = true := by rw [← HR.out]; simp [e0, e1, e2, e3]
          refine bodyPost_ret (results_cell_mid rfl _ _ w.heap.size 0 #[.int .i64 x0, .int .i64 x1, .int .i64 x2, .int .i64 x3].toList _ rfl (range_row (heap_alloc2_old w _ _)) Try.underlying77 rfl (by kernel_rfl)) rfl ?_
          rw [HRR.out, er]
          exact ⟨rfl, below2⟩
        · replace e3 : isw x3 = false := by simpa using e3
          go_wp2_with (go_at_call 93; refine (isWord_any _ _).mono ?_; rintro e w' ⟨rfl, rfl⟩)
          have er : r = false := by rw [← HR.out]; simp [e3]
          refine bodyPost_ret (results_cell_mid rfl _ _ w.heap.size 0 #[.int .i64 0, .int .i64 0, .int .i64 0, .int .i64 0].toList _ rfl (range_row (heap_alloc2_old w _ _)) Try.underlying77 rfl (by kernel_rfl)) rfl ?_
          rw [HRR.out, er]
          exact ⟨rfl, below2⟩
      · replace e2 : isw x2 = false := by simpa using e2
        go_wp2_with (go_at_call 93; refine (isWord_any _ _).mono ?_; rintro e w' ⟨rfl, rfl⟩)
        have er : r = false := by rw [← HR.out]; simp [e2]
        refine bodyPost_ret (results_cell_mid rfl _ _ w.heap.size 0 #[.int .i64 0, .int .i64 0, .int .i64 0, .int .i64 0].toList _ rfl (range_row (heap_alloc2_old w _ _)) Try.underlying77 rfl (by kernel_rfl)) rfl ?_
        rw [HRR.out, er]
        exact ⟨rfl, below2⟩
    · replace e1 : isw x1 = false := by simpa using e1
      go_wp2_with (go_at_call 93; refine (isWord_any _ _).mono ?_; rintro e w' ⟨rfl, rfl⟩)
      have er : r = false := by rw [← HR.out]; simp [e1]
      refine bodyPost_ret (results_cell_mid rfl _ _ w.heap.size 0 #[.int .i64 0, .int .i64 0, .int .i64 0, .int .i64 0].toList _ rfl (range_row (heap_alloc2_old w _ _)) Try.underlying77 rfl (by kernel_rfl)) rfl ?_
      rw [HRR.out, er]
      exact ⟨rfl, below2⟩
  · replace e0 : isw x0 = false := by simpa using e0
    go_wp2_with (go_at_call 93; refine (isWord_any _ _).mono ?_; rintro e w' ⟨rfl, rfl⟩)
    have er : r = false := by rw [← HR.out]; simp [e0]
    refine bodyPost_ret (results_cell_mid rfl _ _ w.heap.size 0 #[.int .i64 0, .int .i64 0, .int .i64 0, .int .i64 0].toList _ rfl (range_row (heap_alloc2_old w _ _)) Try.underlying77 rfl (by kernel_rfl)) rfl ?_
    rw [HRR.out, er]
    exact ⟨rfl, below2⟩

theorem wordsOf_other {w : World} {v : Value} {xs : List Int} (h : Ints w v xs) (hl : xs.length ≠ 4) : Calls Try.prog 112 #[v] w (ArrRes w #[.int .i64 0, .int .i64 0, .int .i64 0, .int .i64 0] false) := by
  obtain ⟨a, ca, rfl, hla, hma, hxa⟩ := h
  have hl' : ((xs.length : Int) != 4) = true := by simp; omega
  obtain ⟨R, HRR⟩ : ∃ R : Ending → World → Prop, Hid (R = ArrRes w #[.int .i64 0, .int .i64 0, .int .i64 0, .int .i64 0] false) := ⟨_, Lib.hid rfl⟩
  rw [← HRR.out]
  go_enter Try.func112, Try.ntmps112
  go_wp2
  refine bodyPost_ret (results_cell_mid rfl _ _ w.heap.size 0 #[.int .i64 0, .int .i64 0, .int .i64 0, .int .i64 0].toList _ rfl (range_row (heap_alloc_new w _)) Try.underlying77 rfl (by kernel_rfl)) rfl ?_
  rw [HRR.out]
  exact ⟨rfl, (Below.refl _ _).alloc (Nat.le_refl _) _⟩

/-- the words of a row as an array's cells -/
def rowC (xs : List Int) : Array Value := (xs.map (Value.int .i64)).toArray
theorem words_isw {x0 x1 x2 x3 : Int} : wordsOk [x0, x1, x2, x3] = (isw x0 && isw x1 && isw x2 && isw x3) := by
  unfold wordsOk isw blw
  rw [Bool.eq_iff_iff]
  simp
  omega
theorem wordsOf_any {w : World} {v : Value} {xs : List Int} (h : Ints w v xs) : Calls Try.prog 112 #[v] w (ArrRes w (bif wordsOk xs then rowC xs else rowC [0, 0, 0, 0]) (wordsOk xs)) := by
  by_cases hl : xs.length = 4
  · obtain ⟨a, ca, rfl, hla, hma, hxa⟩ := h
    match xs, hl with
    | [x0, x1, x2, x3], _ =>
      obtain ⟨b, o, rfl, h0⟩ := hxa 0 (by simp)
      obtain ⟨_, _, e1, h1⟩ := hxa 1 (by simp)
      obtain ⟨_, _, e2, h2⟩ := hxa 2 (by simp)
      obtain ⟨_, _, e3, h3⟩ := hxa 3 (by simp)
      cases e1; cases e2; cases e3
      exact words4 hla h0 h1 h2 h3 words_isw.symm
  · have e : wordsOk xs = false := decide_eq_false (fun hh => hl hh.2)
    rw [e]
    exact wordsOf_other h hl
end Go.Proofs.Yticnfekjbknomaa
/- What the program's memoryOf returns: all words of a memory in one array, where it is valid. -/
namespace Go.Proofs.Yticnfekjbknomaa
open Go.ChangeShapes Go.WideShapes Go.ChangeAt Go.RowKit
set_option linter.unusedVariables false

/-- all words of all frames, in order, as an array's cells -/
def flatL (xss : List (List Int)) : List Value := xss.flatten.map (Value.int .i64)
def zero48 : Array Value := Array.replicate 48 (.int .i64 0)
theorem zero_mem (w : World) : (zeroValue 79).run Try.prog w = .ok (.agg zero48) w := Try.zeroValue79 w
theorem zero_size : zero48.size = 48 := by simp [zero48]
theorem zero_one : zero48.all (·.oneCell') = true := by kernel_rfl
theorem size_words (w : World) : (sizeOf 77).run Try.prog w = .ok 4 w := Try.sizeOf77 w
theorem agg_words (w : World) : (isAgg 77).run Try.prog w = .ok true w := Try.isAgg77 w
theorem info_mem {n : Nat} (h : n = 48) : (Try.prog.info? 79).map (·.size) = some n := by subst h; kernel_rfl
theorem info_words : (Try.prog.info? 77).map (·.size) = some 4 := by kernel_rfl
theorem flat_one (xss : List (List Int)) : (flatL xss).toArray.all (·.oneCell') = true := all_oneCell_toArray (fun v hv => by
  obtain ⟨x, _, rfl⟩ := List.mem_map.1 hv
  rfl)
theorem flat_take_len (xss : List (List Int)) (h : ∀ i, i < xss.length → (xss.getD i []).length = 4) : ∀ k, k ≤ xss.length → (flatL (xss.take k)).length = k * 4
  | 0, _ => by simp [flatL]
  | k + 1, hk => by
    have ih := flat_take_len xss h k (by omega)
    rw [take_snoc_getD xss k [] (by omega)]
    simp only [flatL, List.flatten_append, List.map_append, List.length_append] at ih ⊢
    rw [ih]
    have := h k (by omega)
    simp at this ⊢
    omega
theorem flat_len12 {xss : List (List Int)} (hl : xss.length = 12) (h : ∀ i, i < xss.length → (xss.getD i []).length = 4) : (flatL xss).length = 48 := by
  have := flat_take_len xss h 12 (by omega)
  rwa [take_all hl.symm] at this
theorem flat_len {xss : List (List Int)} (hm : memOk xss = true) : (flatL xss).length = 48 := by
  have hl := mem_len hm
  have := flat_take_len xss (fun i hi => mem_row hm (by omega)) 12 (by omega)
  rwa [take_all hl.symm] at this
theorem flat_snoc (xss : List (List Int)) (k : Nat) (xs : List Int) (hk : k < xss.length) (hx : xs = xss.getD k []) : flatL (xss.take (k + 1)) = flatL (xss.take k) ++ xs.map (Value.int .i64) := by
  subst hx
  rw [take_snoc_getD xss k [] hk]
  simp [flatL]

structure MRel (w : World) (xss : List (List Int)) (k : Nat) (wr : World) : Prop where
  bel : Below w.heap.size w wr
  size : w.heap.size + 2 ≤ wr.heap.size
  res : wr.there w.heap.size 0 48
  mem : wr.there (w.heap.size + 1) 0 48
  row : wr.rangeAt (w.heap.size + 1) 0 (flatL (xss.take k))
  ok : ∀ i, i < k → wordsOk (xss.getD i []) = true
theorem MRel.start (w : World) (xss : List (List Int)) (t : TypeId) : MRel w xss 0 ((w.alloc (.cells zero48 t)).alloc (.cells zero48 t)) :=
  ⟨below2, by simp, there_row (heap_alloc2_old w _ _) (by rw [zero_size]; omega), there_row (heap_alloc2_new w _ _) (by rw [zero_size]; omega), by rw [List.take_zero]; exact range_nil, fun i hi => by omega⟩
theorem MRel.lens {w wr : World} {xss : List (List Int)} {k : Nat} (h : MRel w xss k wr) (hk : k ≤ xss.length) : (flatL (xss.take k)).length = k * 4 := by
  have h1 : ∀ i, i < (xss.take k).length → ((xss.take k).getD i []).length = 4 := fun i hi => by
    have hi' : i < k := by simp at hi; omega
    have := of_decide_eq_true (h.ok i hi')
    have e : (xss.take k).getD i [] = xss.getD i [] := by simp [List.getD, hi']
    rw [e]; exact this.2
  have h2 := flat_take_len (xss.take k) h1 (xss.take k).length (Nat.le_refl _)
  rw [List.take_length] at h2
  rw [h2, List.length_take]
  congr 1
  omega
theorem MRel.step {w wr w1 : World} {xss : List (List Int)} {k : Nat} {xs : List Int} {o1 : Obj} (h : MRel w xss k wr) (hl : xss.length = 12) (hk : k < 12) (hx : xs = xss.getD k []) (hw : wordsOk xs = true) (hb : Below wr.heap.size wr w1) :
    MRel w xss (k + 1) ((w1.alloc o1).setCells (w.heap.size + 1) (k * 4) (xs.map (Value.int .i64))) := by
  have hs := h.size
  have hs1 := hb.size
  have hx4 : xs.length = 4 := (of_decide_eq_true hw).2
  have e : ∀ b, b < wr.heap.size → (w1.alloc o1).heap[b]? = wr.heap[b]? := fun b hlt => (Below.heap_alloc _ _ _ (by omega)).trans (hb.block b hlt)
  have b1 : Below w.heap.size w w1 := h.bel.trans (hb.mono (by omega))
  have tm : (w1.alloc o1).there (w.heap.size + 1) 0 48 := there_blocks h.mem (e _ (by omega))
  have tr : (w1.alloc o1).there w.heap.size 0 48 := there_blocks h.res (e _ (by omega))
  have hrow := range_blocks h.row (e _ (by omega))
  have hlen := h.lens (by omega)
  refine ⟨Below.setCells (Below.refl _ _) _ (by omega) _ _ _ (b1.alloc (by omega) o1), by rw [size_setCells]; simp; omega, World.there_setCells tr _ _ _, World.there_setCells tm _ _ _, ?_, fun i hi => ?_⟩
  · rw [flat_snoc xss k xs (by omega) hx]
    exact range_append (World.rangeAt_setCells_apart hrow _ _ _ (.inr (.inl (by omega)))) (World.rangeAt_setCells_same _ _ _ _ (there_part tm (by simp; omega))) (by omega)
  · by_cases hik : i = k
    · subst hik; rw [← hx]; exact hw
    · exact h.ok i (by omega)

theorem row4 {xs : List Int} (h : wordsOk xs = true) : ∃ x0 x1 x2 x3, xs = [x0, x1, x2, x3] := by
  have hl := (of_decide_eq_true h).2
  match xs, hl with
  | [x0, x1, x2, x3], _ => exact ⟨x0, x1, x2, x3, rfl⟩
theorem MRel.bad {w wr w1 w3 : World} {xss : List (List Int)} {k : Nat} (h : MRel w xss k wr) (hb : Below wr.heap.size wr w1) (hs : w1.heap.size ≤ w3.heap.size) (e : ∀ b, b < w1.heap.size → w3.heap[b]? = w1.heap[b]?) (ht : w3.os = w1.os ∧ w3.tape = w1.tape ∧ w3.output = w1.output) :
    w3.there w.heap.size 0 48 ∧ ∀ cs, Below w.heap.size w (w3.setCells w.heap.size 0 cs) := by
  have hs0 := h.size
  have hs1 := hb.size
  have e3 : Below wr.heap.size wr w3 := ⟨ht.1.trans hb.os, ht.2.1.trans hb.tape, ht.2.2.trans hb.output, by omega, fun b hlt => (e b (by omega)).trans (hb.block b hlt)⟩
  refine ⟨there_blocks h.res (e3.block _ (by omega)), fun cs => ?_⟩
  have b1 : Below w.heap.size w w3 := h.bel.trans (e3.mono (by omega))
  exact Below.setCells (Below.refl _ _) _ (Nat.le_refl _) _ _ _ b1

set_option maxHeartbeats 1000000 in
theorem memoryOf_any {w : World} {v : Value} {xss : List (List Int)} (h : Rows2 w v xss) :
    Calls Try.prog 81 #[v] w (ArrRes w (bif memOk xss then (flatL xss).toArray else zero48) (memOk xss)) := by
  obtain ⟨a, ca, rfl, hla, hma, hxa⟩ := h
  unfold maxLen at hma
  obtain ⟨R, HRR⟩ : ∃ R : Ending → World → Prop, Hid (R = ArrRes w (bif memOk xss then (flatL xss).toArray else zero48) (memOk xss)) := ⟨_, Lib.hid rfl⟩
  rw [← HRR.out]
  obtain ⟨z48, hz48⟩ : ∃ z, z = zero48 := ⟨_, rfl⟩
  have ZM := Lib.hid zero_mem
  have ZS := Lib.hid zero_size
  have ZO := Lib.hid zero_one
  have ZT := Lib.hid (fun t => MRel.start w xss t)
  rw [← hz48] at HRR ZM ZS ZO ZT
  clear hz48
  obtain ⟨n, hN⟩ : ∃ n, n = xss.length := ⟨_, rfl⟩
  rw [← hN] at hla hxa ⊢
  have HN := Lib.hid hN
  clear hN
  obtain ⟨B0, hB0⟩ : ∃ B0, B0 = w.heap.size := ⟨_, rfl⟩
  have HB0 := Lib.hid hB0
  by_cases hn : n = 12
  · have hn' : ((n : Int) != 12) = false := by simp; omega
    obtain ⟨w2, hw2⟩ : ∃ w2, w2 = (w.alloc (.cells z48 79)).alloc (.cells z48 79) := ⟨_, rfl⟩
    have HS := Lib.hid (ZT.out 79)
    rw [← hw2] at HS
    go_enter Try.func81, Try.ntmps81
    go_wp2_with ((with_reducible refine alloc_is 79 ?_); refine alloc_arr 79 z48 ZM.out ?_)
    rw [← hB0, ← hw2]
    have HW2 := Lib.hid hw2
    clear hw2 hB0
    go_loopw [15] (fun i wr => ∃ k : Nat, k ≤ n ∧ i = .int .i64 k ∧ MRel w xss k wr) (fun i _ => n - (intOf i).toNat)
    case atStart => exact ⟨0, Nat.zero_le _, rfl, HS.out⟩
    case round =>
      obtain ⟨k, hk, rfl, hrel⟩ := hrel
      by_cases hlt : k < n
      · obtain ⟨b, o, ur, rfl, hc, hur⟩ := hxa k hlt
        have hb := cell_lt hc
        have hcr := (hrel.bel.cell (p := ⟨b, o + k, none⟩) hb).trans hc
        have HC := Lib.hid (wordsOf_any (Ints.below (B := 0) hur hrel.bel))
        have HREL := Lib.hid hrel
        have hlt' : (k : Int) < (n : Int) := by omega
        clear hc hur hxa hrel
        have HIX := run_indexAt_arr (P := Try.prog) 79 12 77 4 Try.underlying79 size_words (by omega) (B0 + 1) k (by omega)
        obtain ⟨xs, hxs⟩ : ∃ xs, xs = xss.getD k [] := ⟨_, rfl⟩
        rw [← hxs] at HC
        have HXS := Lib.hid hxs
        clear hxs
        by_cases hok : wordsOk xs = true
        · have HOK := Lib.hid hok
          obtain ⟨x0, x1, x2, x3, rfl⟩ := row4 hok
          rw [hok] at HC
          clear hok
          have HC' : Hid (Calls Try.prog 112 #[ur] wr (ArrRes wr #[.int .i64 x0, .int .i64 x1, .int .i64 x2, .int .i64 x3] true)) := Lib.hid HC.out
          clear HC
          go_wp2_with fail
          refine HC'.out.mono ?_
          rintro e w1 ⟨rfl, hb1⟩
          have HT : Hid (∀ ob, (w1.alloc ob).there (B0 + 1) (k * 4) 4) := Lib.hid (fun ob => by
            have hs := HREL.out.size
            have hs1 := hb1.size
            have e0 := HB0.out
            have := there_blocks HREL.out.mem ((Below.heap_alloc w1 ob _ (by omega)).trans (hb1.block _ (by omega)))
            rw [← e0] at this
            exact there_part this (by omega))
          have HST : Hid (∀ ob, MRel w xss (k + 1) ((w1.alloc ob).setCells (B0 + 1) (k * 4) ([x0, x1, x2, x3].map (Value.int .i64)))) := Lib.hid (fun ob => by
            rw [HB0.out]
            exact HREL.out.step (o1 := ob) (by have := HN.out; omega) (by omega) HXS.out HOK.out hb1)
          go_wp2_with ((with_reducible refine store_is 77 (.tmp 30) (.tmp 29) ?_); refine store_arr 77 (.tmp 30) (.tmp 29) (B0 + 1) (k * 4) #[.int .i64 x0, .int .i64 x1, .int .i64 x2, .int .i64 x3] rfl rfl (HT.out _) info_words (by kernel_rfl) ?_)
          exact ⟨⟨k + 1, by omega, by go_num, HST.out _⟩, by simp [intOf]; omega⟩
        · have hno : wordsOk xs = false := by simpa using hok
          have HM : Hid (memOk xss = false) := Lib.hid (mem_no (k := k) (by have := HN.out; omega) (by rw [← HXS.out]; exact hno))
          rw [hno] at HC
          clear hok hno
          have HC' : Hid (Calls Try.prog 112 #[ur] wr (ArrRes wr #[.int .i64 0, .int .i64 0, .int .i64 0, .int .i64 0] false)) := Lib.hid HC.out
          clear HC
          go_wp2_with fail
          refine HC'.out.mono ?_
          rintro e w1 ⟨rfl, hb1⟩
          have HT : Hid (∀ ob, (w1.alloc ob).there B0 0 48 ∧ ∀ cs, Below w.heap.size w ((w1.alloc ob).setCells B0 0 cs)) := Lib.hid (fun ob => by
            rw [HB0.out]
            exact HREL.out.bad hb1 (by simp) (fun b hlt => Below.heap_alloc _ _ _ hlt) ⟨rfl, rfl, rfl⟩)
          go_wp2_with (first | ((with_reducible refine build_is 79 ?_); refine build_arr 79 z48 12 77 4 ZM.out Try.underlying79 size_words ?_) | ((with_reducible refine store_is 79 (.tmp 2) (.tmp 27) ?_); refine store_arr 79 (.tmp 2) (.tmp 27) B0 0 z48 rfl rfl (by rw [ZS.out]; exact (HT.out _).1) (info_mem ZS.out) ZO.out ?_))
          refine bodyPost_ret (results_cell_mid rfl _ _ B0 0 z48.toList _ rfl (World.rangeAt_setCells_same _ _ _ _ (by rw [Array.length_toList, ZS.out]; exact (HT.out _).1)) Try.underlying79 rfl (info_mem (by rw [Array.length_toList, ZS.out]))) rfl ?_
          rw [HRR.out, HM.out]
          exact ⟨by simp, (HT.out _).2 _⟩
      · have e : k = n := by omega
        subst e
        have HM : Hid (memOk xss = true) := Lib.hid (by rw [mem_end HN.out hrel.ok, hn]; rfl)
        have HT : Hid (wr.there B0 0 48) := Lib.hid (by rw [HB0.out]; exact hrel.res)
        have HF : Hid (wr.rangeAt (B0 + 1) 0 (flatL xss)) := Lib.hid (by rw [HB0.out, ← take_all (l := xss) HN.out]; exact hrel.row)
        have HL := Lib.hid (flat_len HM.out)
        have HE : Hid (Below w.heap.size w (wr.setCells B0 0 (flatL xss))) := Lib.hid (Below.setCells (Below.refl _ _) _ (by rw [HB0.out]; omega) _ _ _ hrel.bel)
        clear hrel
        have HO := Lib.hid (flat_one xss)
        obtain ⟨L, hL⟩ : ∃ L, L = flatL xss := ⟨_, rfl⟩
        have HLR : Hid (R = ArrRes w L.toArray true) := Lib.hid (by rw [HRR.out, HM.out, hL]; rfl)
        rw [← hL] at HF HL HE HO
        clear hL HRR
        go_wp2_with (first | ((with_reducible refine load_is 79 (.tmp 4) ?_); refine load_arr 79 (.tmp 4) (B0 + 1) 0 L _ rfl HF.out Try.underlying79 rfl (info_mem HL.out) ?_) | ((with_reducible refine store_is 79 (.tmp 2) (.tmp 32) ?_); refine store_arr 79 (.tmp 2) (.tmp 32) B0 0 L.toArray rfl rfl (by rw [List.size_toArray, HL.out]; exact HT.out) (info_mem (by rw [List.size_toArray, HL.out])) HO.out ?_))
        refine bodyPost_ret (results_cell_mid rfl _ _ B0 0 L _ rfl (World.rangeAt_setCells_same _ _ _ _ (by rw [HL.out]; exact HT.out)) Try.underlying79 rfl (info_mem HL.out)) rfl ?_
        rw [HLR.out]
        exact ⟨rfl, HE.out⟩
  · have hn' : ((n : Int) != 12) = true := by simp; omega
    have HM : Hid (memOk xss = false) := Lib.hid (by
      refine decide_eq_false (fun hh => hn (HN.out.trans hh.2)))
    clear hxa
    obtain ⟨w2, hw2⟩ : ∃ w2, w2 = (w.alloc (.cells z48 79)).alloc (.cells z48 79) := ⟨_, rfl⟩
    have HS := Lib.hid (ZT.out 79)
    have hT := HS.out.res
    have HT := Lib.hid hT
    have HE : Hid (Below w.heap.size w (((w.alloc (.cells z48 79)).alloc (.cells z48 79)).setCells w.heap.size 0 z48.toList)) := Lib.hid (Below.setCells (Below.refl _ _) _ (Nat.le_refl _) _ _ _ below2)
    clear hT
    go_enter Try.func81, Try.ntmps81
    go_wp2_with (first | ((with_reducible refine alloc_is 79 ?_); refine alloc_arr 79 z48 ZM.out ?_) | ((with_reducible refine build_is 79 ?_); refine build_arr 79 z48 12 77 4 ZM.out Try.underlying79 size_words ?_) | ((with_reducible refine store_is 79 (.tmp 2) (.tmp 12) ?_); refine store_arr 79 (.tmp 2) (.tmp 12) w.heap.size 0 z48 rfl rfl (by rw [ZS.out]; exact HT.out) (info_mem ZS.out) ZO.out ?_))
    refine bodyPost_ret (results_cell_mid rfl _ _ w.heap.size 0 z48.toList _ rfl (World.rangeAt_setCells_same _ _ _ _ (by rw [Array.length_toList, ZS.out]; exact HT.out)) Try.underlying79 rfl (info_mem (by rw [Array.length_toList, ZS.out]))) rfl ?_
    rw [HRR.out, HM.out]
    exact ⟨by simp, HE.out⟩
end Go.Proofs.Yticnfekjbknomaa
/- What the program's lists returns: a slice of its own for each frame of the array. -/
namespace Go.Proofs.Yticnfekjbknomaa
open Go.ChangeShapes Go.WideShapes Go.ChangeAt Go.RowKit
set_option linter.unusedVariables false

theorem slice_words (b : Nat) (W : World) : (Instr.sliceAt 77 (.pointer (some ⟨b, 0, none⟩)) none none none).run Try.prog W = .ok (.slice (some ⟨b, 0, none⟩) 4 4) W := by
  unfold Instr.sliceAt
  simp only [Instr.sureAddr, Sem.run_bind, Sem.run_pure, Result.andThen_ok, run_underlying Try.underlying77, Instr.sliceBounds]
  simp [add0]

theorem clone4 {W : World} {b : Nat} {xs : List Int} (hl : xs.length = 4) (hc : ∀ j y, (xs.map (Value.int .i64))[j]? = some y → W.cell? ⟨b, j, none⟩ = some y) :
    Calls Try.prog 113 #[.slice (some ⟨b, 0, none⟩) 4 4] W fun e w1 => ∃ v1, e = .returned v1 ∧ w1.ownsRow W.heap.size 3 1 v1 4 (xs.map (.int .i64)) ∧ (W.alloc (.cells #[] 3)).grownBy w1 (some W.heap.size) := by
  obtain ⟨i0, hi, hz0, hz1, hz2⟩ := info_parts intInfo
  have HI := Lib.hid hi
  have HZ0 := Lib.hid hz0
  have HZ1 := Lib.hid hz1
  have HZ2 := Lib.hid hz2
  clear hi hz0 hz1 hz2
  have HE : ∀ W : World, (binOp .eql 34 (.slice (some ⟨b, 0, none⟩) 4 4) (.slice none 0 0)).run Try.prog W = .ok (.bool false) W := fun _ => by kernel_rfl
  have HL := Lib.hid hl
  have HNEWS : Hid (∀ j y, (xs.map (Value.int .i64))[j]? = some y → (W.alloc (.cells #[] 3)).cell? ((⟨b, 0, none⟩ : Addr).add j) = some y) := Lib.hid (fun j y hy => by
    rw [add0]
    have := hc j y hy
    rw [World.cell?_alloc_past _ _ _ (cell_lt this), this])
  clear hc hl
  go_enter Try.func113, Try.ntmps113
  go_wp2_with (at_builtin; refine wpList_append_own _ rfl (.tmp 5) (.tmp 6) 34 rfl W.heap.size 3 i0 (.int .i64 0) 1 8 Try.underlying34 HI.out HZ0.out HZ1.out HZ2.out rfl (by decide) _ _ _ rfl (World.ownsRow_made W #[] 0 (Nat.le_refl _) (Nat.zero_le _) rfl) ⟨b, 0, none⟩ 4 4 (xs.map (.int .i64)) rfl (by rw [List.length_map, HL.out]) HNEWS.out (ints_one xs) (by unfold maxLen; omega) (by omega) (by simp) ?_; intro v1 w1 hown1 hgrow1 _; simp only [Nat.zero_add, List.nil_append] at hown1)
  have HO := Lib.hid hown1
  have HG := Lib.hid hgrow1
  clear hown1 hgrow1
  go_wp2
  go_ret
  exact ⟨_, rfl, HO.out, HG.out⟩

theorem CRel.alloc {w wr : World} {xss : List (List Int)} {k : Nat} {v : Value} {V : Nat → Value} {G : Nat → Nat} (h : CRel w xss k v wr V G) (o : Obj) : CRel w xss k v (wr.alloc o) V G :=
  ⟨h.own.alloc o, fun j hj => ⟨(h.rows j hj).1.alloc o, (h.rows j hj).2⟩, h.inj, h.bel.alloc h.bel.size o⟩
theorem CRel.begin {w wm : World} {xss : List (List Int)} {o : Obj} {v : Value} (hown : wm.ownsRow w.heap.size 34 1 v 0 []) (hg : (w.alloc o).grownBy wm none) : CRel w xss 0 v wm (fun _ => undef) (fun _ => 0) :=
  ⟨hown, fun j hj => by omega, fun i hi => by omega, ((Below.refl _ _).alloc (Nat.le_refl _) o).grown hg (by simp) (fun k hk => by cases hk)⟩

theorem flat_row (xss : List (List Int)) (h : ∀ i, i < xss.length → (xss.getD i []).length = 4) (k : Nat) (hk : k < xss.length) : ((flatL xss).toArray.extract (k * 4) (k * 4 + 4)) = rowC (xss.getD k []) := by
  have h1 := flat_take_len xss h k (by omega)
  have h2 := flat_take_len xss h (k + 1) (by omega)
  have e : flatL xss = flatL (xss.take (k + 1)) ++ flatL (xss.drop (k + 1)) := by
    unfold flatL
    rw [← List.map_append, ← List.flatten_append, List.take_append_drop]
  rw [flat_snoc xss k _ hk rfl] at e h2
  rw [e]
  unfold rowC
  simp only [List.extract_toArray, List.extract_eq_take_drop]
  congr 1
  rw [List.append_assoc, List.drop_append_of_le_length (by omega), List.drop_of_length_le (by omega), List.nil_append]
  rw [List.take_append_of_le_length (by have := h k hk; rw [List.length_map]; omega), List.take_of_length_le (by have := h k hk; rw [List.length_map]; omega)]

set_option maxHeartbeats 1000000 in
theorem lists_any {w : World} {xss : List (List Int)} (hl : xss.length = 12) (hr4 : ∀ i, i < 12 → (xss.getD i []).length = 4) :
    Calls Try.prog 83 #[.agg (flatL xss).toArray] w (ToMat xss w) := by
  rw [← hl] at hr4
  obtain ⟨i1, hj, hy0, hy1, hy2⟩ := info_parts intsInfo
  have HJ := Lib.hid hj
  have HY0 := Lib.hid hy0
  have HY1 := Lib.hid hy1
  have HY2 := Lib.hid hy2
  clear hj hy0 hy1 hy2
  have HN := Lib.hid hl
  have HR4 := Lib.hid hr4
  have HLL := Lib.hid (flat_len12 hl hr4)
  have HIX := Lib.hid (fun k (hk : k < 12) W => (run_index_arr (P := Try.prog) 79 12 77 4 Try.underlying79 agg_words size_words (flatL xss).toArray k hk W).trans (by rw [flat_row xss hr4 k (by omega)]))
  clear hl hr4
  obtain ⟨L, hL⟩ : ∃ L, L = flatL xss := ⟨_, rfl⟩
  rw [← hL] at HIX HLL ⊢
  clear hL
  obtain ⟨R, HRR⟩ : ∃ R : Ending → World → Prop, Hid (R = ToMat xss w) := ⟨_, Lib.hid rfl⟩
  rw [← HRR.out]
  go_enter Try.func83, Try.ntmps83
  go_wp2_with (first
    | ((with_reducible refine box_is 79 (.tmp 0) ?_); refine box_arr 79 (.tmp 0) L.toArray rfl ?_)
    | ((with_reducible refine make_is 26 (.const (.int .i64 0)) (.const (.int .i64 12)) ?_); refine wpList_make_own _ rfl (.const (.int .i64 0)) (.const (.int .i64 12)) 26 rfl w.heap.size 34 i1 (.slice none 0 0) 1 Try.underlying26 HJ.out HY0.out HY1.out .i64 .i64 12 12 rfl rfl rfl (by rw [HY2.out]; omega) (by unfold maxLen; omega) (by simp) ?_; intro wm hown hgrow; have hrng : wm.rangeAt w.heap.size 0 L := range_blocks (range_row (heap_alloc_new w (.cells L.toArray 79))) (hgrow.block _ (by simp) (by simp)))
    | ((with_reducible refine load_is 79 (.tmp 1) ?_); refine load_arr 79 (.tmp 1) w.heap.size 0 L _ rfl hrng Try.underlying79 rfl (info_mem HLL.out) ?_))
  have HS : Hid (CRel w xss 0 (.slice (some ⟨w.heap.size + 1, 0, none⟩) 0 12) wm (fun _ => undef) (fun _ => 0)) := Lib.hid (CRel.begin (by simpa using hown) hgrow)
  clear hown hgrow hrng
  have HSL := slice_words
  go_loopw [3, 8] (fun u i wr => ∃ (k : Nat) (V : Nat → Value) (G : Nat → Nat), k ≤ 12 ∧ i = .int .i64 k ∧ CRel w xss k u wr V G) (fun _ i _ => 12 - (intOf i).toNat)
  case atStart => exact ⟨0, _, _, Nat.zero_le _, rfl, HS.out⟩
  case round =>
    obtain ⟨k, V, G, hk, rfl, hrel⟩ := hrel
    by_cases hlt : k < 12
    · have hlt' : (k : Int) < 12 := by omega
      obtain ⟨xs, hxs⟩ : ∃ xs, xs = xss.getD k [] := ⟨_, rfl⟩
      have h4 := HR4.out k (by have := HN.out; omega)
      have hix := HIX.out k hlt
      rw [← hxs] at h4 hix
      have HXS := Lib.hid hxs
      clear hxs
      obtain ⟨x0, x1, x2, x3, rfl⟩ : ∃ x0 x1 x2 x3, xs = [x0, x1, x2, x3] := by
        match xs, h4 with
        | [x0, x1, x2, x3], _ => exact ⟨x0, x1, x2, x3, rfl⟩
      clear h4
      replace hix : ∀ W : World, (Instr.index 79 (.agg L.toArray) (.int .i64 k)).run Try.prog W = .ok (.agg #[.int .i64 x0, .int .i64 x1, .int .i64 x2, .int .i64 x3]) W := hix
      obtain ⟨w4, hw4⟩ : ∃ w4, w4 = wr.alloc (.cells #[.int .i64 x0, .int .i64 x1, .int .i64 x2, .int .i64 x3] 77) := ⟨_, rfl⟩
      have HREL := Lib.hid (hrel.alloc (.cells #[.int .i64 x0, .int .i64 x1, .int .i64 x2, .int .i64 x3] 77))
      have HC : Hid (Calls Try.prog 113 #[.slice (some ⟨wr.heap.size, 0, none⟩) 4 4] w4 fun e w1 => ∃ v1, e = .returned v1 ∧ w1.ownsRow w4.heap.size 3 1 v1 4 ([x0, x1, x2, x3].map (.int .i64)) ∧ (w4.alloc (.cells #[] 3)).grownBy w1 (some w4.heap.size)) := Lib.hid (clone4 rfl (fun j y hy => by
        rw [hw4, cell_of_row _ _ j _ _ _ (heap_alloc_new wr _), ← hy]
        simp))
      rw [← hw4] at HREL
      clear hrel
      go_wp2_with fail
      rw [← hw4]
      clear hw4
      refine HC.out.mono ?_
      rintro e w1 ⟨v1, rfl, hown1, hgrow1⟩
      obtain ⟨g1, c1, rfl⟩ := own_slice hown1 (by omega)
      have hsz1 := hgrow1.size
      simp at hsz1
      have hszr := HREL.out.bel.size
      have HO1 := Lib.hid hown1
      have HG1 := Lib.hid hgrow1
      clear hown1 hgrow1
      go_wp2_with (at_builtin; refine wpList_append_own _ rfl (.tmp 11) (.tmp 14) 26 rfl w.heap.size 34 i1 (.slice none 0 0) 1 24 Try.underlying26 HJ.out HY0.out HY1.out HY2.out rfl (by decide) _ _ _ rfl (HREL.out.own_mid HG1.out) ⟨w1.heap.size, 0, none⟩ 1 1 [.slice (some ⟨g1, 0, none⟩) 4 c1] rfl rfl (cell_one_new _ _ _) (by intro u hu; simp at hu; subst hu; rfl) (by unfold maxLen; omega) (by omega) (by simp; omega) ?_; intro v2 w2 hown2 hgrow2 _)
      have HREL2 : Hid (∃ V' G', CRel w xss (k + 1) v2 w2 V' G') := Lib.hid (HREL.out.step HXS.out.symm (by simp) HO1.out HG1.out hown2 hgrow2)
      clear hown2 hgrow2
      go_wp2
      go_roundw
      case rel =>
        obtain ⟨V', G', hR⟩ := HREL2.out
        exact ⟨k + 1, V', G', by omega, by go_num, hR⟩
      case measure => simp [intOf]; omega
    · have hge : decide ((k : Int) < 12) = false := by simp; omega
      go_wp2
      have e : k = 12 := by omega
      subst e
      rw [HRR.out]
      exact ⟨_, rfl, hrel.mat HN.out.symm (by omega) (fun j hj => by rw [HR4.out j (by have := HN.out; omega)]; omega), hrel.bel⟩
end Go.Proofs.Yticnfekjbknomaa
/- What the program's functions on memories return: the contracts that the walks of the statements ask for. -/
namespace Go.Proofs.Yticnfekjbknomaa
open Go.ChangeShapes Go.WideShapes Go.ChangeAt Go.RowKit
set_option linter.unusedVariables false

theorem flat_get (xss : List (List Int)) (h : ∀ i, i < xss.length → (xss.getD i []).length = 4) {i j : Nat} (hi : i < xss.length) (hj : j < 4) :
    (flatL xss)[i * 4 + j]? = some (.int .i64 ((xss.getD i []).getD j 0)) := by
  have h1 := flat_take_len xss h i (by omega)
  have h4 := h i hi
  have e : flatL xss = flatL (xss.take i) ++ ((xss.getD i []).map (Value.int .i64) ++ flatL (xss.drop (i + 1))) := by
    rw [← List.append_assoc, ← flat_snoc xss i _ hi rfl]
    unfold flatL
    rw [← List.map_append, ← List.flatten_append, List.take_append_drop]
  rw [e, List.getElem?_append_right (by omega), h1, List.getElem?_append_left (by rw [List.length_map]; omega)]
  have e2 : i * 4 + j - i * 4 = j := by omega
  rw [e2, List.getElem?_map, getD_lt (l := xss.getD i []) (i := j) (by omega), List.getElem?_eq_getElem (by omega)]
  rfl
/-- the block B holds 12 rows of 4 numbers -/
def Cells48 (w : World) (B : Nat) (X : Nat → Nat → Int) : Prop := ∀ i, i < 12 → ∀ j, j < 4 → w.cell? ⟨B, i * 4 + j, none⟩ = some (.int .i64 (X i j))
theorem Cells48.of_range {w : World} {B : Nat} {xss : List (List Int)} (hl : xss.length = 12) (h4 : ∀ i, i < 12 → (xss.getD i []).length = 4) (h : w.rangeAt B 0 (flatL xss)) : Cells48 w B (fun i j => (xss.getD i []).getD j 0) := fun i hi j hj => by
  have := h (i * 4 + j) _ (flat_get xss (by rw [hl]; exact h4) (by omega) hj)
  rwa [Nat.zero_add] at this
theorem Cells48.range {w : World} {B : Nat} {X : Nat → Nat → Int} {yss : List (List Int)} (h : Cells48 w B X) (hl : yss.length = 12) (h4 : ∀ i, i < 12 → (yss.getD i []).length = 4)
    (hX : ∀ i, i < 12 → ∀ j, j < 4 → (yss.getD i []).getD j 0 = X i j) : w.rangeAt B 0 (flatL yss) := fun n v hv => by
  have hlen := flat_len12 hl (by rw [hl]; exact h4)
  have hn : n < 48 := by rw [← hlen]; exact (List.getElem?_eq_some_iff.1 hv).1
  have e : n = n / 4 * 4 + n % 4 := by omega
  have hi : n / 4 < 12 := by omega
  have hj : n % 4 < 4 := by omega
  have h1 := flat_get yss (by rw [hl]; exact h4) (i := n / 4) (j := n % 4) (by omega) hj
  rw [← e, hv] at h1
  injection h1 with h1
  rw [h1, hX _ hi _ hj, Nat.zero_add]
  have := h _ hi _ hj
  rwa [← e] at this
theorem MatW.lower {w : World} {B0 B0' B1 : Nat} {v : Value} {xss : List (List Int)} (h : MatW w B0 B1 v xss) (hB : B0' ≤ B0) : MatW w B0' B1 v xss := by
  obtain ⟨a, cap, A, C, rfl, h1, h2, h3⟩ := h
  refine ⟨a, cap, A, C, rfl, h1, h2, ⟨fun k hk => ?_, fun k hk m hm => ?_, h3.apart⟩⟩
  · obtain ⟨b, o, e, p1, p2, p3⟩ := h3.top k hk
    exact ⟨b, o, e, by omega, p2, p3⟩
  · obtain ⟨g, p, e, p1, p2, p3⟩ := h3.row k hk m hm
    exact ⟨g, p, e, by omega, p2, p3⟩
theorem nil_mem {w w' : World} (h : Below w.heap.size w w') : NewMem [] false w (.returned (.tuple #[.slice none 0 0, .bool false])) w' :=
  ⟨_, rfl, ⟨none, 0, fun _ => none, fun _ => 0, rfl, Nat.le_refl _, Nat.zero_le _, ⟨fun j hj => by simp at hj, fun j hj => by simp at hj, fun j hj => by simp at hj⟩⟩, h⟩

/-- a variable of its own that holds the array -/
structure Laid (w : World) (B : Nat) (cs : List Value) (wb : World) : Prop where
  bel : Below w.heap.size w wb
  lo : w.heap.size ≤ B
  hi : B < wb.heap.size
  here : wb.there B 0 48
  row : wb.rangeAt B 0 cs
theorem Laid.make {w w1 : World} {cs : List Value} {z : Array Value} {t : TypeId} (hb : Below w.heap.size w w1) (hz : z.size = 48) (hc : cs.length = 48) : Laid w w1.heap.size cs ((w1.alloc (.cells z t)).setCells w1.heap.size 0 cs) := by
  have ht : (w1.alloc (.cells z t)).there w1.heap.size 0 48 := there_row (heap_alloc_new w1 _) (by omega)
  refine ⟨Below.setCells (Below.refl _ _) _ hb.size _ _ _ (hb.alloc hb.size _), hb.size, by rw [size_setCells]; simp, World.there_setCells ht _ _ _, World.rangeAt_setCells_same _ _ _ _ (by rw [hc]; exact ht)⟩
theorem new_of {w wb w' : World} {v : Value} {yss : List (List Int)} (h : Below w.heap.size w wb) (hv : MatW w' wb.heap.size w'.heap.size v yss) (hb : Below wb.heap.size wb w') : NewMem yss true w (.returned (.tuple #[v, .bool true])) w' :=
  ⟨v, rfl, hv.lower h.size, h.trans (hb.mono h.size)⟩

theorem iput_bad (w : World) (v : Value) (xss : List (List Int)) (f t x : Int) (h : Rows2 w v xss) (hm : memOk xss = false) :
    Calls Try.prog 45 #[v, .int .i64 f, .int .i64 t, .int .i64 x] w (NewMem [] false w) := by
  have hc := memoryOf_any h
  rw [hm] at hc
  replace hc : Calls Try.prog 81 #[v] w (ArrRes w zero48 false) := hc
  obtain ⟨z48, hz48⟩ : ∃ z, z = zero48 := ⟨_, rfl⟩
  have ZM := Lib.hid zero_mem
  have ZS := Lib.hid zero_size
  have ZO := Lib.hid zero_one
  rw [← hz48] at ZM ZS ZO
  rw [← hz48] at hc
  have HC := Lib.hid hc
  clear hc h hm hz48
  go_enter Try.func45, Try.ntmps45
  go_wp2_with fail
  refine HC.out.mono ?_
  rintro e w1 ⟨rfl, hb1⟩
  have HB : Hid (∀ t c, Below w.heap.size w ((w1.alloc (.cells z48 t)).setCells w1.heap.size 0 c)) := Lib.hid (fun t c => Below.setCells (Below.refl _ _) _ hb1.size _ _ _ (hb1.alloc hb1.size _))
  go_wp2_with (first | ((with_reducible refine alloc_is 79 ?_); refine alloc_arr 79 z48 ZM.out ?_) | ((with_reducible refine store_is 79 (.tmp 10) (.tmp 15) ?_); refine store_arr 79 (.tmp 10) (.tmp 15) w1.heap.size 0 z48 rfl rfl (there_row (heap_alloc_new w1 _) (Nat.le_refl _)) (info_mem ZS.out) ZO.out ?_))
  go_ret2
  exact nil_mem (HB.out _ _)
theorem iclear_bad (w : World) (v : Value) (xss : List (List Int)) (f : Int) (h : Rows2 w v xss) (hm : memOk xss = false) :
    Calls Try.prog 30 #[v, .int .i64 f] w (NewMem [] false w) := by
  have hc := memoryOf_any h
  rw [hm] at hc
  replace hc : Calls Try.prog 81 #[v] w (ArrRes w zero48 false) := hc
  obtain ⟨z48, hz48⟩ : ∃ z, z = zero48 := ⟨_, rfl⟩
  have ZM := Lib.hid zero_mem
  have ZS := Lib.hid zero_size
  have ZO := Lib.hid zero_one
  rw [← hz48] at ZM ZS ZO
  rw [← hz48] at hc
  have HC := Lib.hid hc
  clear hc h hm hz48
  go_enter Try.func30, Try.ntmps30
  go_wp2_with fail
  refine HC.out.mono ?_
  rintro e w1 ⟨rfl, hb1⟩
  have HB : Hid (∀ t c, Below w.heap.size w ((w1.alloc (.cells z48 t)).setCells w1.heap.size 0 c)) := Lib.hid (fun t c => Below.setCells (Below.refl _ _) _ hb1.size _ _ _ (hb1.alloc hb1.size _))
  go_wp2_with (first | ((with_reducible refine alloc_is 79 ?_); refine alloc_arr 79 z48 ZM.out ?_) | ((with_reducible refine store_is 79 (.tmp 6) (.tmp 11) ?_); refine store_arr 79 (.tmp 6) (.tmp 11) w1.heap.size 0 z48 rfl rfl (there_row (heap_alloc_new w1 _) (Nat.le_refl _)) (info_mem ZS.out) ZO.out ?_))
  go_ret2
  exact nil_mem (HB.out _ _)
theorem iput_no (w : World) (v : Value) (xss : List (List Int)) (f t x : Int) (h : Rows2 w v xss) (hm : memOk xss = true) (hb : blw f 12 = false ∨ blw f 12 = true ∧ blw t 4 = false ∨ blw f 12 = true ∧ blw t 4 = true ∧ isw x = false) :
    Calls Try.prog 45 #[v, .int .i64 f, .int .i64 t, .int .i64 x] w (NewMem [] false w) := by
  have hl := mem_len hm
  have hr4 : ∀ i, i < 12 → (xss.getD i []).length = 4 := fun i hi => mem_row hm hi
  have hc := memoryOf_any h
  rw [hm] at hc
  replace hc : Calls Try.prog 81 #[v] w (ArrRes w (flatL xss).toArray true) := hc
  have HLL := Lib.hid (flat_len hm)
  have HLO := Lib.hid (flat_one xss)
  have HCR := Lib.hid (fun (W : World) (B : Nat) (h : W.rangeAt B 0 (flatL xss)) => Cells48.of_range hl hr4 h)
  obtain ⟨L, hL⟩ : ∃ L, L = flatL xss := ⟨_, rfl⟩
  rw [← hL] at hc HLL HLO HCR
  have HC := Lib.hid hc
  have HXL := Lib.hid hl
  have HX4 := Lib.hid hr4
  clear hL hc h hm hl hr4
  obtain ⟨z48, hz48⟩ : ∃ z, z = zero48 := ⟨_, rfl⟩
  have ZM := Lib.hid zero_mem
  have ZS := Lib.hid zero_size
  have ZO := Lib.hid zero_one
  rw [← hz48] at ZM ZS ZO
  clear hz48
  go_enter Try.func45, Try.ntmps45
  go_wp2_with fail
  refine HC.out.mono ?_
  rintro e w1 ⟨rfl, hb1⟩
  obtain ⟨wb, hwb⟩ : ∃ wb, wb = (w1.alloc (.cells z48 79)).setCells w1.heap.size 0 L.toArray.toList := ⟨_, rfl⟩
  have HLD : Hid (Laid w w1.heap.size L wb) := Lib.hid (by rw [hwb]; exact Laid.make hb1 ZS.out HLL.out)
  have HCE := Lib.hid (HCR.out wb w1.heap.size HLD.out.row)
  rcases hb with hf | ⟨hf, ht⟩ | ⟨hf, ht, hx⟩
  · go_wp2_with (first | ((with_reducible refine alloc_is 79 ?_); refine alloc_arr 79 z48 ZM.out ?_) | ((with_reducible refine store_is 79 (.tmp 10) (.tmp 15) ?_); refine store_arr 79 (.tmp 10) (.tmp 15) w1.heap.size 0 L.toArray rfl rfl (there_row (heap_alloc_new w1 _) (by rw [ZS.out, List.size_toArray, HLL.out]; omega)) (info_mem (by rw [List.size_toArray, HLL.out])) HLO.out ?_; rw [← hwb]; clear hwb) | (go_at_call 82; refine (below_any _ _ _).mono ?_; rintro e w' ⟨rfl, rfl⟩) | (go_at_call 93; refine (isWord_any _ _).mono ?_; rintro e w' ⟨rfl, rfl⟩))
    go_ret2
    exact nil_mem HLD.out.bel
  · go_wp2_with (first | ((with_reducible refine alloc_is 79 ?_); refine alloc_arr 79 z48 ZM.out ?_) | ((with_reducible refine store_is 79 (.tmp 10) (.tmp 15) ?_); refine store_arr 79 (.tmp 10) (.tmp 15) w1.heap.size 0 L.toArray rfl rfl (there_row (heap_alloc_new w1 _) (by rw [ZS.out, List.size_toArray, HLL.out]; omega)) (info_mem (by rw [List.size_toArray, HLL.out])) HLO.out ?_; rw [← hwb]; clear hwb) | (go_at_call 82; refine (below_any _ _ _).mono ?_; rintro e w' ⟨rfl, rfl⟩) | (go_at_call 93; refine (isWord_any _ _).mono ?_; rintro e w' ⟨rfl, rfl⟩))
    go_ret2
    exact nil_mem HLD.out.bel
  · go_wp2_with (first | ((with_reducible refine alloc_is 79 ?_); refine alloc_arr 79 z48 ZM.out ?_) | ((with_reducible refine store_is 79 (.tmp 10) (.tmp 15) ?_); refine store_arr 79 (.tmp 10) (.tmp 15) w1.heap.size 0 L.toArray rfl rfl (there_row (heap_alloc_new w1 _) (by rw [ZS.out, List.size_toArray, HLL.out]; omega)) (info_mem (by rw [List.size_toArray, HLL.out])) HLO.out ?_; rw [← hwb]; clear hwb) | (go_at_call 82; refine (below_any _ _ _).mono ?_; rintro e w' ⟨rfl, rfl⟩) | (go_at_call 93; refine (isWord_any _ _).mono ?_; rintro e w' ⟨rfl, rfl⟩))
    go_ret2
    exact nil_mem HLD.out.bel
theorem iclear_no (w : World) (v : Value) (xss : List (List Int)) (f : Int) (h : Rows2 w v xss) (hm : memOk xss = true) (hf : blw f 12 = false) :
    Calls Try.prog 30 #[v, .int .i64 f] w (NewMem [] false w) := by
  have hl := mem_len hm
  have hr4 : ∀ i, i < 12 → (xss.getD i []).length = 4 := fun i hi => mem_row hm hi
  have hc := memoryOf_any h
  rw [hm] at hc
  replace hc : Calls Try.prog 81 #[v] w (ArrRes w (flatL xss).toArray true) := hc
  have HLL := Lib.hid (flat_len hm)
  have HLO := Lib.hid (flat_one xss)
  have HCR := Lib.hid (fun (W : World) (B : Nat) (h : W.rangeAt B 0 (flatL xss)) => Cells48.of_range hl hr4 h)
  obtain ⟨L, hL⟩ : ∃ L, L = flatL xss := ⟨_, rfl⟩
  rw [← hL] at hc HLL HLO HCR
  have HC := Lib.hid hc
  have HXL := Lib.hid hl
  have HX4 := Lib.hid hr4
  clear hL hc h hm hl hr4
  obtain ⟨z48, hz48⟩ : ∃ z, z = zero48 := ⟨_, rfl⟩
  have ZM := Lib.hid zero_mem
  have ZS := Lib.hid zero_size
  have ZO := Lib.hid zero_one
  rw [← hz48] at ZM ZS ZO
  clear hz48
  go_enter Try.func30, Try.ntmps30
  go_wp2_with fail
  refine HC.out.mono ?_
  rintro e w1 ⟨rfl, hb1⟩
  obtain ⟨wb, hwb⟩ : ∃ wb, wb = (w1.alloc (.cells z48 79)).setCells w1.heap.size 0 L.toArray.toList := ⟨_, rfl⟩
  have HLD : Hid (Laid w w1.heap.size L wb) := Lib.hid (by rw [hwb]; exact Laid.make hb1 ZS.out HLL.out)
  have HCE := Lib.hid (HCR.out wb w1.heap.size HLD.out.row)
  go_wp2_with (first | ((with_reducible refine alloc_is 79 ?_); refine alloc_arr 79 z48 ZM.out ?_) | ((with_reducible refine store_is 79 (.tmp 6) (.tmp 11) ?_); refine store_arr 79 (.tmp 6) (.tmp 11) w1.heap.size 0 L.toArray rfl rfl (there_row (heap_alloc_new w1 _) (by rw [ZS.out, List.size_toArray, HLL.out]; omega)) (info_mem (by rw [List.size_toArray, HLL.out])) HLO.out ?_; rw [← hwb]; clear hwb) | (go_at_call 82; refine (below_any _ _ _).mono ?_; rintro e w' ⟨rfl, rfl⟩))
  go_ret2
  exact nil_mem HLD.out.bel
theorem Laid.set {w wb : World} {B : Nat} {cs : List Value} (h : Laid w B cs wb) (o : Nat) (x : Value) : Below w.heap.size w (wb.setCell ⟨B, o, none⟩ x) ∧ (wb.setCell ⟨B, o, none⟩ x).heap.size = wb.heap.size :=
  ⟨h.bel.setCell (p := ⟨B, o, none⟩) h.lo x, by simp [World.setCell]⟩
theorem Cells48.set {w : World} {B : Nat} {X : Nat → Nat → Int} (h : Cells48 w B X) {i j : Nat} (hi : i < 12) (hj : j < 4) (x : Int) : Cells48 (w.setCell ⟨B, i * 4 + j, none⟩ (.int .i64 x)) B (fun k m => if k = i ∧ m = j then x else X k m) := fun k hk m hm => by
  show _ = some (Value.int .i64 (if k = i ∧ m = j then x else X k m))
  by_cases e : k = i ∧ m = j
  · obtain ⟨rfl, rfl⟩ := e
    rw [if_pos ⟨rfl, rfl⟩]
    exact cell_set_same (h k hk m hm)
  · rw [if_neg e]
    refine (cell_set_other (.inr ?_)).trans (h k hk m hm)
    show k * 4 + m ≠ i * 4 + j
    omega
theorem Cells48.row {w : World} {B : Nat} {X : Nat → Nat → Int} (h : Cells48 w B X) (ht : w.there B 0 48) {i : Nat} (hi : i < 12) (ys : List Int) (hy : ys.length = 4) :
    Cells48 (w.setCells B (i * 4) (ys.map (Value.int .i64))) B (fun k m => if k = i then ys.getD m 0 else X k m) := fun k hk m hm => by
  have hin := World.rangeAt_setCells_same w B (i * 4) (ys.map (Value.int .i64)) (there_part ht (by simp; omega))
  show _ = some (Value.int .i64 (if k = i then ys.getD m 0 else X k m))
  by_cases e : k = i
  · subst e
    rw [if_pos rfl]
    refine hin m _ ?_
    rw [List.getElem?_map, List.getElem?_eq_getElem (by omega), getD_lt (by omega)]
    rfl
  · rw [if_neg e, World.cell?_setCells_out B _ _ w ⟨B, k * 4 + m, none⟩ (fun _ _ => by
      simp
      omega)]
    exact h k hk m hm
set_option maxHeartbeats 1000000 in
theorem iput_yes (w : World) (v : Value) (xss : List (List Int)) (i j : Nat) (x : Int) (h : Rows2 w v xss) (hm : memOk xss = true) (hi : i < 12) (hj : j < 4) (hx : isw x = true) :
    Calls Try.prog 45 #[v, .int .i64 i, .int .i64 j, .int .i64 x] w (NewMem (mput xss i j x) true w) := by
  obtain ⟨yss, hy0⟩ : ∃ yss, yss = mput xss i j x := ⟨_, rfl⟩
  rw [← hy0]
  have HY := Lib.hid hy0
  clear hy0
  have hl := mem_len hm
  have hr4 : ∀ i, i < 12 → (xss.getD i []).length = 4 := fun i hi => mem_row hm hi
  have hc := memoryOf_any h
  rw [hm] at hc
  replace hc : Calls Try.prog 81 #[v] w (ArrRes w (flatL xss).toArray true) := hc
  have HLL := Lib.hid (flat_len hm)
  have HLO := Lib.hid (flat_one xss)
  have HCR := Lib.hid (fun (W : World) (B : Nat) (h : W.rangeAt B 0 (flatL xss)) => Cells48.of_range hl hr4 h)
  obtain ⟨L, hL⟩ : ∃ L, L = flatL xss := ⟨_, rfl⟩
  rw [← hL] at hc HLL HLO HCR
  have HC := Lib.hid hc
  have HXL := Lib.hid hl
  have HX4 := Lib.hid hr4
  clear hL hc h hm hl hr4
  obtain ⟨z48, hz48⟩ : ∃ z, z = zero48 := ⟨_, rfl⟩
  have ZM := Lib.hid zero_mem
  have ZS := Lib.hid zero_size
  have ZO := Lib.hid zero_one
  rw [← hz48] at ZM ZS ZO
  clear hz48
  go_enter Try.func45, Try.ntmps45
  go_wp2_with fail
  refine HC.out.mono ?_
  rintro e w1 ⟨rfl, hb1⟩
  obtain ⟨wb, hwb⟩ : ∃ wb, wb = (w1.alloc (.cells z48 79)).setCells w1.heap.size 0 L.toArray.toList := ⟨_, rfl⟩
  have HLD : Hid (Laid w w1.heap.size L wb) := Lib.hid (by rw [hwb]; exact Laid.make hb1 ZS.out HLL.out)
  have HCE := Lib.hid (HCR.out wb w1.heap.size HLD.out.row)
  have hf : blw i 12 = true := blw_yes (by omega)
  have ht : blw j 4 = true := blw_yes (by omega)
  have HIX := run_indexAt_arr (P := Try.prog) 79 12 77 4 Try.underlying79 size_words (by omega) w1.heap.size i hi
  have HJX := run_indexAt_part (P := Try.prog) 77 4 3 Try.underlying77 Try.sizeOf3 (by omega) w1.heap.size (i * 4) j hj
  obtain ⟨y, hcell⟩ : ∃ y, wb.cell? ⟨w1.heap.size, i * 4 + j, none⟩ = some y := ⟨_, HCE.out i hi j hj⟩
  have hfz : wb.frozen? ⟨w1.heap.size, i * 4 + j, none⟩ = false := by
    have := (HLD.out.here (i * 4 + j) (by omega)).2
    rwa [Nat.zero_add] at this
  have HYL : Hid (yss.length = 12) := Lib.hid (by rw [HY.out, mput_len, HXL.out])
  have HY4 : Hid (∀ k, k < 12 → (yss.getD k []).length = 4) := Lib.hid (fun k hk => by rw [HY.out, mput_row]; exact HX4.out k hk)
  have HRG : Hid ((wb.setCell ⟨w1.heap.size, i * 4 + j, none⟩ (.int .i64 x)).rangeAt w1.heap.size 0 (flatL yss)) := Lib.hid (Cells48.range (HCE.out.set hi hj x) HYL.out HY4.out (fun k hk m hm => by
    rw [HY.out, mput_get _ _ _ _ _ _ (by rw [HXL.out]; exact hi) (by rw [HX4.out i hi]; exact hj)]))
  have HLS := Lib.hid (fun W => lists_any (w := W) (xss := yss) HYL.out HY4.out)
  have HL2 := Lib.hid (flat_len12 HYL.out (by rw [HYL.out]; exact HY4.out))
  have HBC := Lib.hid (HLD.out.set (i * 4 + j) (.int .i64 x))
  obtain ⟨L2, hL2⟩ : ∃ L2, L2 = flatL yss := ⟨_, rfl⟩
  rw [← hL2] at HRG HLS HL2
  clear hL2
  go_wp2_with (first | ((with_reducible refine alloc_is 79 ?_); refine alloc_arr 79 z48 ZM.out ?_) | ((with_reducible refine store_is 79 (.tmp 10) (.tmp 15) ?_); refine store_arr 79 (.tmp 10) (.tmp 15) w1.heap.size 0 L.toArray rfl rfl (there_row (heap_alloc_new w1 _) (by rw [ZS.out, List.size_toArray, HLL.out]; omega)) (info_mem (by rw [List.size_toArray, HLL.out])) HLO.out ?_; rw [← hwb]; clear hwb) | (go_at_call 82; refine (below_any _ _ _).mono ?_; rintro e w' ⟨rfl, rfl⟩) | (go_at_call 93; refine (isWord_any _ _).mono ?_; rintro e w' ⟨rfl, rfl⟩) | ((with_reducible refine load_is 79 (.tmp 10) ?_); refine load_arr 79 (.tmp 10) w1.heap.size 0 L2 _ rfl HRG.out Try.underlying79 rfl (info_mem HL2.out) ?_))
  refine (HLS.out _).mono ?_
  rintro e w5 ⟨v5, rfl, hm5, hb5⟩
  have HE := Lib.hid (new_of HBC.out.1 hm5 hb5)
  clear hm5 hb5
  go_wp2_with fail
  go_ret2
  exact HE.out
end Go.Proofs.Yticnfekjbknomaa
/- What the reference's lists of named frames are: those that words name, in order; and sorted, each once. -/
namespace Go.Proofs.Yticnfekjbknomaa
open Go.ChangeShapes Go.WideShapes Go.ChangeAt Go.RowKit
set_option linter.unusedVariables false

/-- a new slice of numbers; nothing that was there changes -/
structure OwnI (w : World) (v : Value) (ys : List Int) (w' : World) : Prop where
  own : w'.ownsRow w.heap.size 3 1 v ys.length (ys.map (.int .i64))
  bel : Below w.heap.size w w'
  nn : v ≠ .slice none 0 0
def NewI (ys : List Int) (w : World) (e : Ending) (w' : World) : Prop := ∃ v, e = .returned v ∧ OwnI w v ys w'
theorem ints_of_own {w : World} {B : Nat} {v : Value} {ys : List Int} (h : w.ownsRow B 3 1 v ys.length (ys.map (.int .i64))) : Ints w v ys := by
  rcases h.2 with ⟨rfl, hz⟩ | ⟨g, cap, cur, rfl, hb, hbl, hnc, hcm, hcs, htk⟩
  · exact ⟨none, 0, by rw [hz], by omega, Nat.zero_le _, fun i hi => by omega⟩
  · refine ⟨some ⟨g, 0, none⟩, cap, rfl, hnc, hcm, fun i hi => ⟨g, 0, rfl, ?_⟩⟩
    have := h.cells (g := g) rfl i (.int .i64 (ys.getD i 0)) (by rw [getD_lt hi]; simp)
    rw [add0] at this
    rw [Nat.zero_add]; exact this
theorem OwnI.ints {w w' : World} {v : Value} {ys : List Int} (h : OwnI w v ys w') : Ints w' v ys := ints_of_own h.own
theorem own_lower {w : World} {B B' : Nat} {e : TypeId} {v : Value} {n : Nat} {x : List Value} (h : w.ownsRow B e 1 v n x) (hB : B' ≤ B) : w.ownsRow B' e 1 v n x := by
  refine ⟨h.1, ?_⟩
  rcases h.2 with hn | ⟨g, cap, cur, e, hb, rest⟩
  · exact .inl hn
  · exact .inr ⟨g, cap, cur, e, by omega, rest⟩
theorem OwnI.from {w w1 w2 : World} {v : Value} {ys : List Int} (h : OwnI w1 v ys w2) (hb : Below w.heap.size w w1) : OwnI w v ys w2 :=
  ⟨own_lower h.own hb.size, hb.trans (h.bel.mono hb.size), h.nn⟩
theorem OwnI.start (w : World) : OwnI w (.slice (some ⟨w.heap.size, 0, none⟩) 0 0) [] (w.alloc (.cells #[] 3)) :=
  ⟨World.ownsRow_made w #[] 0 (Nat.le_refl _) (Nat.zero_le _) rfl, (Below.refl _ _).alloc (Nat.le_refl _) _, fun h => by cases h⟩
theorem OwnI.grow {w wr w2 : World} {v v2 : Value} {ys zs : List Int} {o : Obj} {n : Nat} (h : OwnI w v ys wr) (hn : n = ys.length + zs.length) (h2 : w2.ownsRow w.heap.size 3 1 v2 n (ys.map (.int .i64) ++ zs.map (.int .i64))) (hg : (wr.alloc o).grownBy w2 v.ownBlock) (hnn : v2 = .slice none 0 0 → v = .slice none 0 0) :
    OwnI w v2 (ys ++ zs) w2 := by
  subst hn
  refine ⟨by rw [List.length_append, List.map_append]; exact h2, (h.bel.alloc h.bel.size o).grown hg (by have := h.bel.size; simp; omega) (fun b hb => (h.own.lt b hb).1), fun e => h.nn (hnn e)⟩

def named (xs : List Int) : List Int := (xs.filter (fun x => decide (goodB x))).map (fun x => x / 4)
theorem named_snoc (xs : List Int) (k : Nat) (hk : k < xs.length) : named (xs.take (k + 1)) = named (xs.take k) ++ (if goodB (xs.getD k 0) then [xs.getD k 0 / 4] else []) := by
  rw [take_snoc_getD xs k 0 hk]
  unfold named
  by_cases h : goodB (xs.getD k 0)
  · rw [if_pos h]
    simp only [List.filter_append, List.map_append, List.filter_cons, h, decide_true, if_true, List.filter_nil, List.map_cons, List.map_nil]
  · rw [if_neg h]
    simp only [List.filter_append, List.map_append, List.filter_cons, h, decide_false, List.filter_nil]
    simp
theorem named_len (xs : List Int) : (named xs).length ≤ xs.length := by
  unfold named
  rw [List.length_map]
  exact List.length_filter_le _ _

theorem l3Named_any (w : World) (v : Value) (xs : List Int) (h : Ints w v xs) (hn : xs.length ≤ 1000) (hb : ∀ i, i < xs.length → 0 ≤ xs.getD i 0 ∧ xs.getD i 0 ≤ 9999) :
    Calls Try.prog 115 #[v] w (NewI (named xs) w) := by
  obtain ⟨a, ca, rfl, hla, hma, hxa⟩ := h
  unfold maxLen at hma
  obtain ⟨m, hm⟩ : ∃ m, m = xs.length := ⟨_, rfl⟩
  rw [← hm] at hla hxa hn hb ⊢
  have HM := Lib.hid hm
  have HB := Lib.hid hb
  clear hm hb
  obtain ⟨i0, hi, hz0, hz1, hz2⟩ := info_parts intInfo
  have HI := Lib.hid hi
  have HZ0 := Lib.hid hz0
  have HZ1 := Lib.hid hz1
  have HZ2 := Lib.hid hz2
  clear hi hz0 hz1 hz2
  go_enter Try.func115, Try.ntmps115
  go_wp2
  go_loopw [3, 4] (fun u i wr => ∃ k : Nat, k ≤ m ∧ i = .int .i64 k ∧ OwnI w u (named (xs.take k)) wr) (fun _ i _ => m - (intOf i).toNat)
  case atStart => exact ⟨0, Nat.zero_le _, rfl, OwnI.start w⟩
  case round =>
    obtain ⟨k, hk, rfl, hrel⟩ := hrel
    by_cases hlt : k < m
    · obtain ⟨ba, oa, rfl, hca⟩ := hxa k hlt
      obtain ⟨x, hx⟩ : ∃ x, x = xs.getD k 0 := ⟨_, rfl⟩
      have hxb := HB.out k hlt
      have hsn := named_snoc xs k (by have := HM.out; omega)
      have hnl := named_len (xs.take k)
      rw [← hx] at hca hsn hxb
      have hcr := (hrel.bel.cell (p := ⟨ba, oa + k, none⟩) (cell_lt hca)).trans hca
      have hlt' : (k : Int) < (m : Int) := by omega
      have HSN := Lib.hid hsn
      have hnl' : (named (xs.take k)).length ≤ 1000 := by rw [List.length_take] at hnl; omega
      have HNL := Lib.hid hnl'
      clear hsn hnl hnl' hx hxa hca
      by_cases hg : goodB x
      · rw [if_pos hg] at HSN
        have HC := Lib.hid (fun w => eS_yes x w hg)
        obtain ⟨z, hz⟩ : ∃ z, z = x / 4 := ⟨_, rfl⟩
        rw [← hz] at HC HSN
        obtain ⟨b2, hb2⟩ : ∃ b2, b2 = decide (x % 4 = 3) := ⟨_, rfl⟩
        rw [← hb2] at HC
        clear hz hb2 hg
        have HREL := Lib.hid hrel
        clear hrel
        go_wp2_with fail
        refine (HC.out _).mono ?_
        rintro e w' ⟨rfl, rfl⟩
        go_wp2_with (at_builtin; refine wpList_append_own _ rfl (.tmp 25) (.tmp 27) 34 rfl w.heap.size 3 i0 (.int .i64 0) 1 8 Try.underlying34 HI.out HZ0.out HZ1.out HZ2.out rfl (by decide) _ _ _ rfl (HREL.out.own.alloc _) ⟨wr.heap.size, 0, none⟩ 1 1 [.int .i64 z] rfl rfl (cell_one_new _ _ _) (by intro u hu; simp at hu; subst hu; rfl) (by have := HNL.out; unfold maxLen; omega) (by have := HNL.out; omega) (by have := HREL.out.bel.size; simp; omega) ?_; intro v2 w2 hown2 hgrow2 hnn2)
        have HR2 : Hid (OwnI w v2 (named (xs.take (k + 1))) w2) := Lib.hid (by
          rw [HSN.out]
          exact HREL.out.grow (zs := [z]) rfl hown2 hgrow2 (fun e => (hnn2.1 e).1))
        clear hown2 hgrow2 hnn2
        go_wp2
        go_roundw
        case rel => exact ⟨k + 1, by omega, by go_num, HR2.out⟩
        case measure => simp [intOf]; omega
      · rw [if_neg hg, List.append_nil] at HSN
        have HC := Lib.hid (fun w => eS_no x w hg (by omega) (by omega))
        have HR2 : Hid (OwnI w u3 (named (xs.take (k + 1))) wr) := Lib.hid (by rw [HSN.out]; exact hrel)
        clear hg hrel
        go_wp2_with fail
        refine (HC.out _).mono ?_
        rintro e w' ⟨rfl, rfl⟩
        go_wp2_with fail
        go_roundw
        case rel => exact ⟨k + 1, by omega, by go_num, HR2.out⟩
        case measure => simp [intOf]; omega
    · have e : k = m := by omega
      subst e
      rw [take_all HM.out] at hrel
      have HREL := Lib.hid hrel
      clear hrel
      go_wp2
      go_ret
      exact ⟨_, rfl, HREL.out⟩
end Go.Proofs.Yticnfekjbknomaa
/- Slices of numbers in blocks of their own, and what marking one does; how they go on from one world to the next. -/
namespace Go.Proofs.Yticnfekjbknomaa
open Go.ChangeShapes Go.WideShapes Go.ChangeAt Go.RowKit
set_option linter.unusedVariables false

/-- a slice of numbers in blocks from B0 to B1-1 -/
def IntsW (w : World) (B0 B1 : Nat) (v : Value) (xs : List Int) : Prop :=
  ∃ (a : Option Addr) (cap : Nat), v = .slice a xs.length cap ∧ xs.length ≤ cap ∧ cap ≤ maxLen ∧
    ∀ i, i < xs.length → ∃ g p, a = some ⟨g, p, none⟩ ∧ B0 ≤ g ∧ g < B1 ∧ w.cell? ⟨g, p + i, none⟩ = some (.int .i64 (xs.getD i 0)) ∧ w.frozen? ⟨g, p + i, none⟩ = false
theorem IntsW.ints {w : World} {B0 B1 : Nat} {v : Value} {xs : List Int} (h : IntsW w B0 B1 v xs) : Ints w v xs := by
  obtain ⟨a, cap, rfl, h1, h2, h3⟩ := h
  refine ⟨a, cap, rfl, h1, h2, fun i hi => ?_⟩
  obtain ⟨g, p, e, _, _, hc, _⟩ := h3 i hi
  exact ⟨g, p, e, hc⟩
theorem IntsW.chg {lo hi B0 B1 : Nat} {w w' : World} {v : Value} {xs : List Int} (h : IntsW w B0 B1 v xs) (c : Chg lo hi w w') (hB : B1 ≤ w.heap.size) (hh : B1 ≤ lo ∨ hi ≤ B0) : IntsW w' B0 B1 v xs := by
  obtain ⟨a, cap, rfl, h1, h2, h3⟩ := h
  refine ⟨a, cap, rfl, h1, h2, fun i hi => ?_⟩
  obtain ⟨g, p, e, hg0, hg1, hc, hf⟩ := h3 i hi
  have hb := c.block g (by omega) (by omega)
  exact ⟨g, p, e, hg0, hg1, (World.cell?_of_block hb).trans hc, (World.frozen?_of_block hb).trans hf⟩
theorem IntsW.of_own {w w' : World} {v : Value} {ys : List Int} (h : OwnI w v ys w') : IntsW w' w.heap.size w'.heap.size v ys := by
  rcases h.own.2 with ⟨e, _⟩ | ⟨g, cap, cur, rfl, hb, hbl, hnc, hcm, hcs, htk⟩
  · exact absurd e h.nn
  · refine ⟨some ⟨g, 0, none⟩, cap, rfl, hnc, hcm, fun i hi => ⟨g, 0, rfl, hb, (Array.getElem?_eq_some_iff.1 hbl).1, ?_, ?_⟩⟩
    · have := h.own.cells (g := g) rfl i (.int .i64 (ys.getD i 0)) (by rw [getD_lt hi]; simp)
      rw [add0] at this
      rw [Nat.zero_add]; exact this
    · simp [World.frozen?, hbl]
/-- the call returns a new slice of numbers, perhaps nil; nothing that was there changes -/
def NewR (ys : List Int) (w : World) (e : Ending) (w' : World) : Prop := ∃ v, e = .returned v ∧ IntsW w' w.heap.size w'.heap.size v ys ∧ Below w.heap.size w w'
theorem NewR.of_new {ys : List Int} {w : World} {e : Ending} {w' : World} (h : NewI ys w e w') : NewR ys w e w' := by
  obtain ⟨v, rfl, h⟩ := h
  exact ⟨v, rfl, IntsW.of_own h, h.bel⟩

def mk1 (n : Nat) : List Int := (List.range n).map (fun i : Nat => 1 + (i : Int))
theorem mk1_len (n : Nat) : (mk1 n).length = n := by simp [mk1]
theorem mk1_get {n i : Nat} (h : i < n) : (mk1 n).getD i 0 = 1 + i := by
  rw [getD_lt (by rw [mk1_len]; exact h)]
  simp [mk1]
theorem IntsW.marked {w w' : World} {B0 B1 : Nat} {a : Option Addr} {n cap : Nat} {xs : List Int} (h : IntsW w B0 B1 (.slice a n cap) xs) (hn : n = xs.length) (hm : Marked a n 1 w w') : IntsW w' B0 B1 (.slice a n cap) (mk1 n) ∧ Kept B0 B1 w w' := by
  obtain ⟨a', cap', e, h1, h2, h3⟩ := h
  injection e with e1 e2 e3
  subst e1
  subst e3
  rw [← hn] at h1 h3
  refine ⟨⟨a, cap, by rw [mk1_len], by rw [mk1_len]; exact h1, h2, fun i hi => ?_⟩, ⟨hm.os, hm.tape, hm.output, hm.size, fun b hb => hm.block b (fun p => ?_)⟩⟩
  · rw [mk1_len] at hi
    obtain ⟨g, p, e, hg0, hg1, _, hf⟩ := h3 i hi
    exact ⟨g, p, e, hg0, hg1, by rw [hm.inside g p e i hi, mk1_get hi], (hm.frozen _).trans hf⟩
  · by_cases h0 : n = 0
    · exact .inl h0
    · refine .inr (fun e => ?_)
      obtain ⟨g, q, e', hg0, hg1, _⟩ := h3 0 (by omega)
      rw [e] at e'
      injection e' with e'
      injection e' with e' _
      omega
theorem held_of {w : World} {B0 B1 : Nat} {a : Option Addr} {n cap : Nat} (h : IntsW w B0 B1 (.slice a n cap) (mk1 n)) (hn : n ≤ 1048576) :
    Calls Try.prog 59 #[.slice a n cap, .int .i64 1] w fun e w' => e = .returned (.int .i64 (1 + n)) ∧ w = w' := by
  obtain ⟨a', cap', e, h1, h2, h3⟩ := h
  injection e with e1 e2 e3
  subst e1
  subst e3
  rw [mk1_len] at h3
  exact heldIntS_any w a n cap 1 hn (by omega) (by omega) (fun i hi => by
    obtain ⟨g, p, e, _, _, hc, _⟩ := h3 i hi
    exact ⟨g, p, e, by rw [hc, mk1_get hi]⟩)
theorem mark_of {w : World} {B0 B1 : Nat} {a : Option Addr} {n cap : Nat} {xs : List Int} (h : IntsW w B0 B1 (.slice a n cap) xs) (hn : n = xs.length) (hl : n ≤ 1048576) :
    Calls Try.prog 58 #[.slice a n cap, .int .i64 1] w fun e w' => e = .returned (.int .i64 (1 + n)) ∧ IntsW w' B0 B1 (.slice a n cap) (mk1 n) ∧ Kept B0 B1 w w' := by
  have h0 := h
  obtain ⟨a', cap', e, h1, h2, h3⟩ := h
  injection e with e1 e2 e3
  subst e1
  subst e3
  rw [← hn] at h3
  exact (markIntS_any w a n cap 1 hl (by omega) (by omega) (fun i hi => by
    obtain ⟨g, p, e, _, _, hc, hf⟩ := h3 i hi
    exact ⟨g, p, _, e, hc, hf⟩)).mono fun e w' ⟨he, hm⟩ => ⟨he, h0.marked hn hm⟩
theorem eqs_c (w : World) (va vb : Value) (xs : List Int) (ha : Ints w va xs) (hb : Ints w vb xs) :
    Calls Try.prog 55 #[va, vb] w fun e w' => e = .returned (.bool true) ∧ Chg 0 0 w w' :=
  (eqIntS_any w va vb xs xs ha hb).mono fun e w' ⟨he, n, hn⟩ => ⟨by rw [he]; simp, by rw [hn]; exact Chg.of_drewN w n⟩
end Go.Proofs.Yticnfekjbknomaa
/- What the program's functions on the set of rights answer. -/
namespace Go.Proofs.Yticnfekjbknomaa
open Go.ChangeShapes Go.WideShapes Go.ChangeAt Go.RowKit Go.Maps
set_option linter.unusedVariables false

theorem plainElem_bool_inv {H : Type} {P : Program} {e : TypeId} (he : P.underlying e = some .bool) {v : Value} {z : DataW H × List MemPlace} (h : plainElem P e v = some z) : ∃ x, v = .bool x ∧ z = (.lit (.bool x), []) := by
  cases v <;> simp [plainElem, he] at h
  exact ⟨_, rfl, h.symm⟩
theorem keyOf_s (s : Bs) (hs : s.length ≤ maxLen) : keyOf Try.prog 9 (.string ⟨s.toArray⟩) = some (.string s) := by
  have hz : (ByteArray.mk s.toArray).size ≤ maxLen := by simpa [ByteArray.size] using hs
  simp [keyOf, Try.underlying9, mapKey, hz]
theorem SetAt.look {w : World} {b : Nat} {xs : List Bs} (h : SetAt w b xs) (s : Bs) (hs : s.length ≤ maxLen) : (Instr.lookup 87 (.map (some b)) (.string ⟨s.toArray⟩) false).run Try.prog w = .ok (.bool (decide (s ∈ xs))) w := by
  obtain ⟨n, D, hn, ho, hsi⟩ := h
  obtain ⟨v, ps, hrun, hv⟩ := ho.lookup keyS Try.underlying87 (Try.zeroValue4 w) (plainElem_bool Try.underlying4 false) (keyOf_s s hs)
  obtain ⟨x, rfl, hx⟩ := plainElem_bool_inv Try.underlying4 hv
  have := hsi.atKey s
  simp only [Prod.mk.injEq] at hx
  rw [this] at hx
  have e : decide (s ∈ xs) = x := by simpa using hx.1
  rw [e]; exact hrun
theorem SetAt.len {w : World} {b : Nat} {xs : List Bs} (h : SetAt w b xs) (ty : TypeId) : (Builtin.len_ #[87] ty #[.map (some b)]).run Try.prog w = .ok (.int .i64 xs.length) w := by
  obtain ⟨n, D, hn, ho, hsi⟩ := h
  rw [ho.len Try.underlying87 ty, hsi.size]
theorem SetAt.put {w : World} {b : Nat} {xs : List Bs} (h : SetAt w b xs) (hl : xs.length < 900) (s : Bs) (hs : s.length ≤ maxLen) : ∃ w', (Instr.mapUpdate 87 (.map (some b)) (.string ⟨s.toArray⟩) (.bool true)).run Try.prog w = .ok () w' ∧ SetAt w' b (if s ∈ xs then xs else s :: xs) ∧ w.grownBy w' (some b) := by
  obtain ⟨n, D, hn, ho, hsi⟩ := h
  have ho' := ho
  obtain ⟨es, clock, hb, F, hz, hD⟩ := ho
  have hz2 := hsi.size
  have ho2 : w.ownsMap (H := Unit) Try.prog 9 (plainElem Try.prog 4) b xs.length D := ⟨es, clock, hb, F, by
    have : Maps.size D = es.size := by rw [hD]; simp [Maps.size, length_sorted]
    omega, hD⟩
  obtain ⟨w', hrun, how, hg⟩ := ho2.update keyS Try.underlying87 (by unfold maxLen; omega) (keyOf_s s hs) (plainElem_bool Try.underlying4 true)
  refine ⟨w', hrun, ⟨xs.length + 1, _, by omega, how, ?_⟩, hg⟩
  by_cases hm : s ∈ xs
  · rw [if_pos hm]; exact hsi.again hm
  · rw [if_neg hm]; exact hsi.put hm
theorem SetAt.made (w : World) : SetAt (w.alloc (.map #[] 0)) w.heap.size [] := ⟨0, _, Nat.zero_le _, World.ownsMap_made w _ _ _, SetIs.none⟩

theorem getD_take {xs : List Bs} {m j : Nat} (hj : j < m) (hm : m ≤ xs.length) : (xs.take m).getD j [] = xs.getD j [] := by
  rw [getD_lt (by rw [List.length_take]; omega), getD_lt (by omega), List.getElem_take]
theorem rokTo_rok {xs : List Bs} {m : Nat} (h : rokTo xs m) (hm : m ≤ xs.length) : rok (xs.take m) = true := by
  rw [rok_iff]
  intro j hj
  rw [List.length_take] at hj
  have := h j (by omega)
  rw [getD_take (by omega) hm, getD_take (by omega) hm]
  exact this
theorem rokTo_new {xs : List Bs} {k : Nat} (h : rokTo xs (k + 1)) (hk : k < xs.length) : xs.getD k [] ∉ xs.take k := by
  have hn := asc_nodup (rok_asc (rokTo_rok h hk))
  rw [take_snoc_getD xs k [] hk] at hn
  intro hm
  exact (List.nodup_append.1 hn).2.2 _ hm _ (List.mem_singleton.2 rfl) rfl
theorem SetAt.snoc {w : World} {b : Nat} {xs : List Bs} {x : Bs} (h : SetAt w b (if x ∈ xs then xs else x :: xs)) (hn : x ∉ xs) : SetAt w b (xs ++ [x]) := by
  rw [if_neg hn] at h
  exact h.perm (List.perm_append_singleton x xs).symm
theorem take_le_six {xs : List Bs} {k : Nat} (h : k ≤ 6) : (xs.take k).length < 900 := by rw [List.length_take]; omega

/-- the set of the rights xs in a new map, and true; nil and false if they are not valid; nothing that was there changes -/
def SetOf (xs : List Bs) (w : World) (e : Ending) (w' : World) : Prop :=
  Below w.heap.size w w' ∧ ∃ m, e = .returned (.tuple #[.map m, .bool (rvs xs)]) ∧ (rvs xs = true → ∃ b, m = some b ∧ w.heap.size ≤ b ∧ SetAt w' b xs)
theorem setOf_any (w : World) (v : Value) (xs : List Bs) (h : Strs w v xs) (hs : Short xs) : Calls Try.prog 76 #[v] w (SetOf xs w) := by
  obtain ⟨a, ca, rfl, hla, hma, hxa⟩ := h
  unfold maxLen at hma
  obtain ⟨n, hN⟩ : ∃ n, n = xs.length := ⟨_, rfl⟩
  rw [← hN] at hla hxa ⊢
  have HN := Lib.hid hN
  have HX := Lib.hid hxa
  have HS := Lib.hid hs
  clear hN hxa hs
  by_cases h6 : 6 < n
  · have h6' : (6 : Int) < (n : Int) := by omega
    have HR : Hid (rvs xs = false) := Lib.hid (by rw [Bool.eq_false_iff]; intro h; have := rvs_len h; have := HN.out; omega)
    go_enter Try.func76, Try.ntmps76
    go_wp2_with fail
    go_ret2
    exact ⟨Below.refl _ _, none, by rw [HR.out]; rfl, fun h => by rw [HR.out] at h; cases h⟩
  have h6' : ¬ (6 : Int) < (n : Int) := by omega
  have hmm := @run_makeMap Try.prog
  go_enter Try.func76, Try.ntmps76
  go_wp2
  go_loopw [13] (fun i wr => ∃ k : Nat, k ≤ n ∧ i = .int .i64 k ∧ Hid (rokTo xs k) ∧ Hid (SetAt wr w.heap.size (xs.take k)) ∧ Hid (Below w.heap.size w wr)) (fun i _ => n - (intOf i).toNat)
  case atStart => exact ⟨0, Nat.zero_le _, rfl, Lib.hid (fun j hj => by omega), Lib.hid (SetAt.made w), Lib.hid ((Below.refl _ _).alloc (Nat.le_refl _) _)⟩
  case round =>
    obtain ⟨k, hk, rfl, HT, HA, HB⟩ := hrel
    by_cases hlt : k < n
    · have hlt' : (k : Int) < (n : Int) := by omega
      have hkx : k < xs.length := by rw [← HN.out]; exact hlt
      obtain ⟨b, o, rfl, hc0⟩ := HX.out k hlt
      have hc := (HB.out.cell (p := ⟨b, o + k, none⟩) (cell_lt hc0)).trans hc0
      clear hc0
      have HV := Lib.hid (fun w => irv_any w (xs.getD k []) (HS.out.at k))
      have HB1 := Lib.hid (fun h => rok_bad1 hkx h)
      have HB2 := Lib.hid (fun h0 h => rok_bad2 hkx h0 h)
      have HO := Lib.hid (fun h1 h2 => rokTo_succ HT.out h1 h2)
      have HTK := Lib.hid (take_snoc_getD xs k [] hkx)
      have HNW := Lib.hid (fun h => rokTo_new (xs := xs) (k := k) h hkx)
      have HSX := Lib.hid (short_max (HS.out.at k))
      generalize xs.getD k [] = x at hc HV HB1 HB2 HO HTK HNW HSX
      clear hkx
      cases hv : rv x with
      | false =>
        have HR := Lib.hid (HB1.out hv)
        rw [hv] at HV
        clear hv
        go_wp2_with fail
        refine (HV.out wr).mono ?_
        rintro e w1 ⟨rfl, hb1⟩
        have B1 := Lib.hid (HB.out.trans (hb1.mono HB.out.size))
        clear hb1
        go_wp2
        go_ret2
        exact ⟨B1.out, none, by rw [HR.out]; rfl, fun h => by rw [HR.out] at h; cases h⟩
      | true =>
        have HW := Lib.hid hv
        rw [hv] at HV
        clear hv
        rcases Nat.eq_zero_or_pos k with h0 | hpos
        · have hgt : ¬ (0 : Int) < (k : Int) := by omega
          have hgt2 : ¬ 0 < k := by omega
          have HO2 := Lib.hid (HO.out HW.out (fun h => absurd h hgt2))
          clear h0
          go_wp2_with fail
          refine (HV.out wr).mono ?_
          rintro e w1 ⟨rfl, hb1⟩
          have B1 := Lib.hid (HB.out.trans (hb1.mono HB.out.size))
          have A1 := Lib.hid (HA.out.below hb1)
          clear hb1
          obtain ⟨w2, hrun, hset, hg⟩ := A1.out.put (take_le_six (by omega)) x HSX.out
          have A2 := Lib.hid (hset.snoc (HNW.out HO2.out))
          rw [← HTK.out] at A2
          have B2 := Lib.hid (B1.out.grown hg B1.out.size (fun j hj => by cases hj; exact Nat.le_refl _))
          clear hset hg
          go_wp2
          go_roundw
          case rel => exact ⟨k + 1, by omega, by go_num, HO2, A2, B2⟩
          case measure => simp [intOf]; omega
        · obtain ⟨q, rfl⟩ : ∃ q, k = q + 1 := ⟨k - 1, by omega⟩
          have hgt : (0 : Int) < ((q + 1 : Nat) : Int) := by omega
          simp only [Nat.add_sub_cancel] at HB2 HO
          obtain ⟨b', o', e, hcq⟩ := HX.out q (by omega)
          cases e
          have hcy := (HB.out.cell (p := ⟨b, o + q, none⟩) (cell_lt hcq)).trans hcq
          clear hcq
          generalize xs.getD q [] = y at hcy HB2 HO
          cases hb : bl y x with
          | false =>
            have HR := Lib.hid (HB2.out (Nat.succ_pos _) hb)
            have hbb : Op.bytesLess y x = false := hb
            clear hb
            go_wp2_with fail
            refine (HV.out wr).mono ?_
            rintro e w1 ⟨rfl, hb1⟩
            have B1 := Lib.hid (HB.out.trans (hb1.mono HB.out.size))
            have hc1 := (hb1.cell (p := ⟨b, o + q, none⟩) (cell_lt hcy)).trans hcy
            clear hb1 hcy
            go_wp2_with fail
            go_ret2
            exact ⟨B1.out, none, by rw [HR.out]; rfl, fun h => by rw [HR.out] at h; cases h⟩
          | true =>
            have HO2 := Lib.hid (HO.out HW.out (fun _ => hb))
            have hbb : Op.bytesLess y x = true := hb
            clear hb
            go_wp2_with fail
            refine (HV.out wr).mono ?_
            rintro e w1 ⟨rfl, hb1⟩
            have B1 := Lib.hid (HB.out.trans (hb1.mono HB.out.size))
            have hc1 := (hb1.cell (p := ⟨b, o + q, none⟩) (cell_lt hcy)).trans hcy
            have A1 := Lib.hid (HA.out.below hb1)
            clear hb1 hcy
            obtain ⟨w2, hrun, hset, hg⟩ := A1.out.put (take_le_six (by omega)) x HSX.out
            have A2 := Lib.hid (hset.snoc (HNW.out HO2.out))
            rw [← HTK.out] at A2
            have B2 := Lib.hid (B1.out.grown hg B1.out.size (fun j hj => by cases hj; exact Nat.le_refl _))
            clear hset hg
            go_wp2
            go_roundw
            case rel => exact ⟨q + 1 + 1, by omega, by go_num, HO2, A2, B2⟩
            case measure => simp [intOf]; omega
    · have e : k = n := by omega
      have HR : Hid (rvs xs = true) := Lib.hid (by rw [rvs, rokTo_all HT.out (by rw [e]; exact HN.out), decide_eq_true (by have := HN.out; omega)]; rfl)
      have HA2 := Lib.hid (show SetAt wr w.heap.size xs by have := HA.out; rwa [take_all (by rw [e]; exact HN.out)] at this)
      go_wp2
      go_ret2
      exact ⟨HB.out, _, by rw [HR.out]; rfl, fun _ => ⟨_, rfl, Nat.le_refl _, HA2.out⟩⟩
end Go.Proofs.Yticnfekjbknomaa
/- What the program's functions on lists of rights answer. -/
namespace Go.Proofs.Yticnfekjbknomaa
open Go.ChangeShapes Go.WideShapes Go.ChangeAt Go.RowKit Go.Maps
set_option linter.unusedVariables false

theorem may_yes {xs : List Bs} {s : Bs} {k : Nat} (hk : k ≤ s.length) (h : s.take k ∈ xs) : may0 xs s = true := by
  unfold may0
  refine List.any_eq_true.2 ⟨_, h, cov_iff.2 ⟨by rw [List.length_take]; omega, ?_⟩⟩
  rw [List.length_take, Nat.min_eq_left hk]
theorem may_no {xs : List Bs} {s : Bs} (h : ∀ j, j ≤ s.length → s.take j ∉ xs) : may0 xs s = false := by
  rw [Bool.eq_false_iff]
  intro hm
  obtain ⟨x, hx, hc⟩ := List.any_eq_true.1 hm
  rw [cov_iff] at hc
  exact h _ hc.1 (by rw [hc.2]; exact hx)
theorem extract_zero (s : Bs) (k : Nat) : (ByteArray.mk s.toArray).extract 0 k = ⟨(s.take k).toArray⟩ := by rw [extract_mk]; rfl
theorem allow_any (w : World) (b : Nat) (xs : List Bs) (s : Bs) (h : SetAt w b xs) (hs : s.length ≤ 2000000) : Calls Try.prog 78 #[.map (some b), .string ⟨s.toArray⟩] w (Says (may0 xs s) w) := by
  have hsl : (s.length : Int) ≤ 2000000 := by omega
  have H := Lib.hid h
  clear h
  go_enter Try.func78, Try.ntmps78
  go_wp2
  go_loop [9] (fun i => ∃ k : Nat, k ≤ s.length + 1 ∧ i = .int .i64 k ∧ Hid (∀ j, j < k → s.take j ∉ xs)) (fun i => s.length + 1 - (intOf i).toNat)
  case atStart => exact ⟨0, Nat.zero_le _, rfl, Lib.hid (fun j hj => by omega)⟩
  case round =>
    obtain ⟨k, hk, rfl, HT⟩ := hrel
    by_cases hks : k < s.length + 1
    · have hlt' : (k : Int) < (s.length : Int) + 1 := by omega
      have hkl : (k : Int) ≤ (s.length : Int) := by omega
      have hlook := H.out.look (s.take k) (short_max (by rw [List.length_take]; omega))
      rw [← extract_zero] at hlook
      have HY := Lib.hid (fun h => may_yes (xs := xs) (s := s) (k := k) (by omega) h)
      have HNO := Lib.hid (fun (h : s.take k ∉ xs) => (fun j hj => by
        rcases Nat.lt_succ_iff_lt_or_eq.1 hj with h1 | h1
        · exact HT.out j h1
        · rw [h1]; exact h : ∀ j, j < k + 1 → s.take j ∉ xs))
      by_cases hm : s.take k ∈ xs
      · have HR := Lib.hid (HY.out hm)
        rw [decide_eq_true hm] at hlook
        clear hm
        go_wp2
        go_ret
        exact says_mk HR.out.symm
      · have HN2 := Lib.hid (HNO.out hm)
        rw [decide_eq_false hm] at hlook
        clear hm
        go_wp2
        go_round
        case rel => exact ⟨k + 1, by omega, by go_num, HN2⟩
        case measure => simp [intOf]; omega
    · go_wp2
      go_ret
      exact says_mk (may_no (fun j hj => HT.out j (by omega))).symm
theorem irmay_any : IRMay := by
  intro w v xs g h hs hg
  have HC := Lib.hid (setOf_any w v xs h hs)
  have HV := Lib.hid (fun w => irv_any w g hg)
  have HA := Lib.hid (fun w b h => allow_any w b xs g h hg)
  obtain ⟨r, hr⟩ : ∃ r, r = rmay xs g := ⟨_, rfl⟩
  rw [← hr]
  have HE : Hid (r = (rvs xs && (rv g && may0 xs g))) := Lib.hid (by rw [hr]; rfl)
  clear hr h
  obtain ⟨z, hz⟩ : ∃ z, z = may0 xs g := ⟨_, rfl⟩
  rw [← hz] at HA HE
  clear hz
  unfold SetOf at HC
  go_enter Try.func27, Try.ntmps27
  go_wp2_with fail
  refine HC.out.mono ?_
  rintro e w1 ⟨hb1, m, rfl, hm⟩
  have B1 := Lib.hid hb1
  have HM := Lib.hid hm
  clear hb1 hm HC
  cases hx : rvs xs with
  | false =>
    rw [hx] at HE
    clear hx
    go_wp2_with fail
    go_ret
    exact ⟨by rw [HE.out]; rfl, B1.out⟩
  | true =>
    obtain ⟨b, rfl, hb0, hset⟩ := HM.out hx
    rw [hx] at HE
    have HSET := Lib.hid hset
    clear hx hb0 hset HM
    go_wp2_with fail
    refine (HV.out w1).mono ?_
    rintro e w2 ⟨rfl, hb2⟩
    have B2 := Lib.hid (B1.out.trans (hb2.mono B1.out.size))
    have HS2 := Lib.hid (HSET.out.below hb2)
    clear hb2
    cases hy : rv g with
    | false =>
      rw [hy] at HE
      clear hy
      go_wp2_with fail
      go_ret
      exact ⟨by rw [HE.out]; rfl, B2.out⟩
    | true =>
      rw [hy] at HE
      clear hy
      go_wp2_with fail
      refine (HA.out w2 b HS2.out).mono ?_
      rintro e w' ⟨rfl, rfl⟩
      go_wp2_with fail
      go_ret
      exact ⟨by rw [HE.out]; cases z <;> rfl, B2.out⟩
end Go.Proofs.Yticnfekjbknomaa
/- What the comparing functions of the drawn statements return: true exactly if both lists hold the same numbers; they change nothing. -/
namespace Go.Proofs.Yticnfekjbknomaa
open Go.ChangeShapes Go.WideShapes Go.ChangeAt Go.RowKit
set_option linter.unusedVariables false

theorem sameInts_any (w : World) (va vb : Value) (xs ys : List Int) (ha : Ints w va xs) (hb : Ints w vb ys) :
    Calls Try.prog 34 #[va, vb] w (Reads (.bool (decide (xs = ys))) w) := by
  obtain ⟨a, ca, rfl, hla, hma, hxa⟩ := ha
  obtain ⟨b, cb, rfl, hlb, hmb, hxb⟩ := hb
  unfold maxLen at hma hmb
  by_cases hl : xs.length = ys.length
  · obtain ⟨n, hn⟩ : ∃ n, n = xs.length := ⟨_, rfl⟩
    have hn2 : ys.length = n := by omega
    rw [← hn] at hla hxa ⊢
    rw [hn2] at hlb hxb ⊢
    have HN := Lib.hid hn
    have HN2 := Lib.hid hn2
    clear hn hn2 hl
    go_enter Try.func34, Try.ntmps34
    go_wp2
    go_loopw [5] (fun i wr => ∃ k d : Nat, k ≤ n ∧ i = .int .i64 k ∧ Hid (xs.take k = ys.take k) ∧ wr = w.drewN d) (fun i _ => n - (intOf i).toNat)
    case atStart => exact ⟨0, 0, Nat.zero_le _, rfl, Lib.hid rfl, rfl⟩
    case round =>
      obtain ⟨k, d, hk, rfl, HT, rfl⟩ := hrel
      by_cases hlt : k < n
      · obtain ⟨ba, oa, rfl, hca⟩ := hxa k hlt
        obtain ⟨bb, ob, rfl, hcb⟩ := hxb k hlt
        generalize hx : xs.getD k 0 = x at hca
        generalize hy : ys.getD k 0 = y at hcb
        have HX := Lib.hid hx
        have HY := Lib.hid hy
        clear hx hy hxa hxb
        have hlt' : (k : Int) < (n : Int) := by omega
        by_cases he : x = y
        · subst he
          go_wp2_with fail
          go_quiet (fail)
          go_wp2
          go_roundw
          case rel => exact ⟨k + 1, _, by omega, by go_num, Lib.hid (take_eq_succ (d := 0) (HN.out.symm.trans HN2.out.symm) (by have := HN.out; omega) HT.out (HX.out.trans HY.out.symm)), rfl⟩
          case measure => simp [intOf]; omega
        · have hne : (x != y) = true := by simpa using he
          have HE : Hid (¬ x = y) := Lib.hid he
          clear he
          go_wp2_with fail
          go_quiet (fail)
          go_wp2
          go_ret
          exact reads_mk2 (by symm; exact decide_eq_false (ne_of_getD (d := 0) (k := k) (fun h => HE.out (HX.out.symm.trans (h.trans HY.out)))))
      · go_wp2
        go_ret
        exact reads_mk (by symm; exact decide_eq_true (eq_of_take (HN.out.symm.trans HN2.out.symm) (by have := HN.out; omega) HT.out))
  · have hne : ((xs.length : Int) != (ys.length : Int)) = true := by simp; omega
    have HL := Lib.hid hl
    clear hl
    go_enter Try.func34, Try.ntmps34
    go_wp2
    go_ret
    exact reads_mk0 (by symm; exact decide_eq_false (fun h => HL.out (by rw [h])))

theorem sameI_c (w : World) (va vb : Value) (xs : List Int) (ha : Ints w va xs) (hb : Ints w vb xs) :
    Calls Try.prog 34 #[va, vb] w fun e w' => e = .returned (.bool true) ∧ Chg 0 0 w w' :=
  (sameInts_any w va vb xs xs ha hb).mono fun e w' ⟨he, n, hn⟩ => ⟨by rw [he]; simp, by rw [hn]; exact Chg.of_drewN w n⟩
end Go.Proofs.Yticnfekjbknomaa
/- What an argument that is a slice of texts reads as, said of the world's cells. -/
namespace Go.Proofs.Yticnfekjbknomaa
open Go.ChangeShapes Go.WideShapes Go.ChangeAt Go.RowKit
set_option linter.unusedVariables false

theorem strs_of_trod {H : Type} {enc : TypeId × Value → H} {P : Program} {w : World} {base : Nat} {held : Bool} {t e : TypeId} {fuel : Nat} {a : Option Addr} {len cap : Nat} {x : DataW H × List MemPlace}
    (ht : P.underlying t = some (.slice e)) (he : P.underlying e = some .string) (ce : P.cellsOf e = 1)
    (h : DataW.trod enc P w base (fun _ => true) held fuel t (Value.slice a len cap).cells.toList = some x) : ∃ xs, Strs w (.slice a len cap) xs ∧ Fit xs := by
  rcases open_strings ht he ce h with ⟨hcs, _⟩ | ⟨x, l, c, ss, hcs, _, hl, hm, hz, _, hcell, hsz⟩
  · simp [Value.cells] at hcs
    obtain ⟨rfl, rfl, rfl⟩ := hcs
    exact ⟨[], ⟨none, 0, rfl, Nat.le_refl _, Nat.zero_le _, fun i hi => by simp at hi⟩, fun x hx => by cases hx⟩
  · simp [Value.cells] at hcs
    obtain ⟨rfl, rfl, rfl⟩ := hcs
    have hz' : ss.length = cap := by simpa using hz
    have hlen : ((ss.take len).map (fun s : ByteArray => s.data.toList)).length = len := by rw [List.length_map, List.length_take]; omega
    refine ⟨(ss.take len).map (fun s : ByteArray => s.data.toList), ⟨some x, cap, by rw [hlen], by rw [hlen]; exact hl, hm, fun i hi => ?_⟩, fun y hy => ?_⟩
    · rw [hlen] at hi
      obtain ⟨b, o, rfl, hcells⟩ := addr_at (w := w) (n := cap) (f := fun r => .string (ss.getD r ByteArray.empty)) (fun r hr => hcell r (by omega)) (by omega)
      refine ⟨b, o, rfl, (hcells i (by omega)).trans ?_⟩
      have e1 : ((ss.take len).map (fun s : ByteArray => s.data.toList)).getD i [] = (ss.getD i ByteArray.empty).data.toList := by
        rw [getD_lt (by rw [hlen]; exact hi), getD_lt (show i < ss.length by omega)]
        simp
      rw [e1]
    · obtain ⟨s, hs, rfl⟩ := List.mem_map.1 hy
      have := hsz s (List.mem_of_mem_take hs)
      show s.data.toList.length ≤ maxLen
      rw [Array.length_toList]; exact this
end Go.Proofs.Yticnfekjbknomaa
/- Structs made of whole arrays: their cells are those of the parts, one after the other. -/
namespace Go.Proofs.Yticnfekjbknomaa
open Go.ChangeShapes Go.WideShapes Go.ChangeAt Go.RowKit
set_option linter.unusedVariables false

section
theorem foldl_zip (off : Nat) : ∀ (c : List Value) (k : Nat) (p z : List Value), off + k = p.length → c.length ≤ z.length →
    (c.zipIdx k).foldl (fun (cs : Array Value) (x : Value × Nat) => cs.setIfInBounds (off + x.2) x.1) (p ++ z).toArray = (p ++ (c ++ z.drop c.length)).toArray
  | [], k, p, z, _, _ => by simp
  | v :: c, k, p, [], _, h => by simp at h
  | v :: c, k, p, y :: z, hk, h => by
    rw [List.zipIdx_cons, List.foldl_cons]
    have e : (p ++ y :: z).toArray.setIfInBounds (off + k) v = ((p ++ [v]) ++ z).toArray := by
      rw [List.setIfInBounds_toArray, hk]
      congr 1
      simp
    show (c.zipIdx (k + 1)).foldl _ ((p ++ y :: z).toArray.setIfInBounds (off + k) v) = _
    rw [e, foldl_zip off c (k + 1) (p ++ [v]) z (by simp; omega) (by simp at h; omega)]
    simp
theorem fill_step {place : Nat → Option (Nat × Nat)} {i : Nat} {v : Value} {rest : List (Nat × Value)} {p c z : List Value} {s : Nat} (hp : place i = some (p.length, s)) (hv : v.cells = c.toArray) (hs : c.length = s) (hz : c.length ≤ z.length) :
    Instr.fill place (p ++ z).toArray ((i, v) :: rest) = Instr.fill place ((p ++ c) ++ z.drop c.length).toArray rest := by
  have h1 : ¬ (v.cells.size ≠ s ∨ p.length + v.cells.size > (p ++ z).toArray.size) := by
    rw [hv]
    simp only [List.size_toArray, List.length_append]
    omega
  rw [Instr.fill, hp]
  simp only [Bool.or_eq_true, decide_eq_true_eq]
  rw [if_neg (by simpa using h1), hv]
  congr 1
  have := foldl_zip p.length c 0 p z (by omega) hz
  rw [List.append_assoc, ← this]
  simp [Array.zipIdx, List.mapIdx_eq_zipIdx_map]
end
theorem wpList_build_run {P : Program} {ops : Array Oper} {rest : List Oper} {op : Oper} {a : Act} {w : World} {Q : Exit → Act → World → Prop} (hgd : op.guard = none) (t : TypeId) (parts : Array (Nat × Operand)) (ho : op.op = .build t parts)
    (z : Array Value) (hz : ∀ w, (Instr.build t (parts.map fun (i, x) => (i, a.eval x))).run P w = .ok (.agg z) w)
    (h : wpList P ops Q rest (a.put op.dst (.agg z)) w) : wpList P ops Q (op :: rest) a w :=
  wpList_plain hgd fun _ hK => by
    unfold Oper.wp execOp
    simp only [ho, Sem.run_bind, Sem.run_pure, Result.andThen_ok, hz]
    exact hK _ _ h
theorem build_run {P : Program} {ops : Array Oper} {rest : List Oper} {a : Act} {w : World} {Q : Exit → Act → World → Prop} {dst : Option Nat} {tt : TypeId} {pos : String} {after : Array Edge} (t : TypeId) (parts : Array (Nat × Operand))
    (z : Array Value) (hz : ∀ w, (Instr.build t (parts.map fun (i, x) => (i, a.eval x))).run P w = .ok (.agg z) w)
    (h : wpList P ops Q rest (a.put dst (.agg z)) w) : wpList P ops Q ({ dst := dst, op := .build t parts, type := tt, pos := pos, after := after, guard := none } :: rest) a w :=
  wpList_build_run rfl t parts rfl z hz h
theorem build_run0 {P : Program} {ops : Array Oper} {rest : List Oper} {a : Act} {w : World} {Q : Exit → Act → World → Prop} {dst : Option Nat} {tt : TypeId} {pos : String} {after : Array Edge} (t : TypeId)
    (z : Array Value) (hz : ∀ w, (Instr.build t #[]).run P w = .ok (.agg z) w)
    (h : wpList P ops Q rest (a.put dst (.agg z)) w) : wpList P ops Q ({ dst := dst, op := .build t #[], type := tt, pos := pos, after := after, guard := none } :: rest) a w :=
  build_run t _ z (fun w => by
    have e : (#[] : Array (Nat × Operand)).map (fun (i, x) => (i, a.eval x)) = #[] := by simp
    rw [e]; exact hz w) h
theorem build_run2 {P : Program} {ops : Array Oper} {rest : List Oper} {a : Act} {w : World} {Q : Exit → Act → World → Prop} {dst : Option Nat} {tt : TypeId} {pos : String} {after : Array Edge} (t : TypeId) (x y : Operand) (vx vy : Value) (hx : a.eval x = vx) (hy : a.eval y = vy)
    (z : Array Value) (hz : ∀ w, (Instr.build t #[(0, vx), (1, vy)]).run P w = .ok (.agg z) w)
    (h : wpList P ops Q rest (a.put dst (.agg z)) w) : wpList P ops Q ({ dst := dst, op := .build t #[(0, x), (1, y)], type := tt, pos := pos, after := after, guard := none } :: rest) a w :=
  build_run t _ z (fun w => by
    have e : (#[(0, x), (1, y)] : Array (Nat × Operand)).map (fun (i, x) => (i, a.eval x)) = #[(0, vx), (1, vy)] := by simp [hx, hy]
    rw [e]; exact hz w) h
theorem build_run4 {P : Program} {ops : Array Oper} {rest : List Oper} {a : Act} {w : World} {Q : Exit → Act → World → Prop} {dst : Option Nat} {tt : TypeId} {pos : String} {after : Array Edge} (t : TypeId) (x y u v : Operand) (vx vy vu vv : Value) (hx : a.eval x = vx) (hy : a.eval y = vy) (hu : a.eval u = vu) (hv : a.eval v = vv)
    (z : Array Value) (hz : ∀ w, (Instr.build t #[(0, vx), (1, vy), (2, vu), (3, vv)]).run P w = .ok (.agg z) w)
    (h : wpList P ops Q rest (a.put dst (.agg z)) w) : wpList P ops Q ({ dst := dst, op := .build t #[(0, x), (1, y), (2, u), (3, v)], type := tt, pos := pos, after := after, guard := none } :: rest) a w :=
  build_run t _ z (fun w => by
    have e : (#[(0, x), (1, y), (2, u), (3, v)] : Array (Nat × Operand)).map (fun (i, x) => (i, a.eval x)) = #[(0, vx), (1, vy), (2, vu), (3, vv)] := by simp [hx, hy, hu, hv]
    rw [e]; exact hz w) h
theorem buildp_is {P : Program} {ops : Array Oper} {rest : List Oper} {a : Act} {w : World} {Q : Exit → Act → World → Prop} {dst : Option Nat} {tt : TypeId} {pos : String} {after : Array Edge} (ty : TypeId) (parts : Array (Nat × Operand)) (h : wpList P ops Q ({ dst := dst, op := .build ty parts, type := tt, pos := pos, after := after, guard := none } :: rest) a w) : wpList P ops Q ({ dst := dst, op := .build ty parts, type := tt, pos := pos, after := after, guard := none } :: rest) a w := h
/-- what a struct of zeros has in its cells -/
def Z84 : List Value := List.replicate 48 (Value.int .i64 0) ++ isC z12
theorem Z84_len : Z84.length = 84 := rfl
theorem run_build_tables (A B : List Value) (hA : A.length = 48) (hB : B.length = 36) (w : World) : (Instr.build 83 #[(0, .agg A.toArray), (1, .agg B.toArray)]).run Try.prog w = .ok (.agg (A ++ B).toArray) w := by
  have hb : ∀ X Y : Value, Try.prog.built 83 [(0, X), (1, Y)] = Instr.fill ((#[(0, 48), (48, 36)] : Array (Nat × Nat))[·]?) Z84.toArray [(0, X), (1, Y)] := fun X Y => by kernel_rfl
  refine run_build w _ _ _ ((hb _ _).trans ?_)
  have hz := Z84_len
  rw [show Z84.toArray = ([] ++ Z84).toArray from rfl, fill_step (p := []) (c := A) (s := 48) rfl rfl hA (by omega), fill_step (c := B) (s := 36) (by rw [List.nil_append, hA]; rfl) rfl hB (by rw [List.length_drop]; omega)]
  rw [Instr.fill, List.nil_append, List.drop_of_length_le (by rw [List.length_drop]; omega), List.append_nil]
def Z39 : List Value := isC z12 ++ [Value.int .i64 0, Value.int .i64 0, Value.map none]
theorem run_build_rule (B : List Value) (hB : B.length = 36) (f n : Int) (m : Option Nat) (w : World) : (Instr.build 89 #[(0, .agg B.toArray), (1, .int .i64 f), (2, .int .i64 n), (3, .map m)]).run Try.prog w = .ok (.agg (B ++ [Value.int .i64 f, Value.int .i64 n, Value.map m]).toArray) w := by
  have hb : ∀ X Y Z U : Value, Try.prog.built 89 [(0, X), (1, Y), (2, Z), (3, U)] = Instr.fill ((#[(0, 36), (36, 1), (37, 1), (38, 1)] : Array (Nat × Nat))[·]?) Z39.toArray [(0, X), (1, Y), (2, Z), (3, U)] := fun X Y Z U => by kernel_rfl
  refine run_build w _ _ _ ((hb _ _ _ _).trans ?_)
  have hz : Z39.length = 39 := rfl
  rw [show Z39.toArray = ([] ++ Z39).toArray from rfl, fill_step (p := []) (c := B) (s := 36) rfl rfl hB (by omega),
    fill_step (c := [Value.int .i64 f]) (s := 1) (by rw [List.nil_append, hB]; rfl) rfl rfl (by simp only [List.length_drop, List.length_cons, List.length_nil]; omega),
    fill_step (c := [Value.int .i64 n]) (s := 1) (by rw [List.nil_append, List.length_append, hB]; rfl) rfl rfl (by simp only [List.length_drop, List.length_cons, List.length_nil]; omega),
    fill_step (c := [Value.map m]) (s := 1) (by rw [List.nil_append, List.length_append, List.length_append, hB]; rfl) rfl rfl (by simp only [List.length_drop, List.length_cons, List.length_nil]; omega)]
  rw [Instr.fill, List.nil_append, List.drop_of_length_le (by simp only [List.length_drop, List.length_cons, List.length_nil]; omega), List.append_nil, List.append_assoc, List.append_assoc]
  rfl
theorem run_zero_rule (w : World) : (Instr.build 89 #[]).run Try.prog w = .ok (.agg Z39.toArray) w := run_build w _ _ _ (by kernel_rfl)
theorem build_val {P : Program} {W : World} (t : TypeId) (parts : Array (Nat × Value)) (z : Array Value) (hz : (Instr.build t parts).run P W = .ok (.agg z) W) :
    ((do let l ← Instr.build t parts; pure (Next.value l)) : Sem Next).run P W = .ok (.value (.agg z)) W := by
  simp only [Sem.run_bind, hz, Result.andThen_ok, Sem.run_pure]
end Go.Proofs.Yticnfekjbknomaa
