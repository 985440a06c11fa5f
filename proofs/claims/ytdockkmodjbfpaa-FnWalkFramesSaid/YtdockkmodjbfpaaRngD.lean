/- A range over an iterator that itself ranges over iterators: what such an iterator promises, and the law for a loop over it whose body is never left early. -/
import Derived.Test.YtdockkmodjbfpaaRng
namespace Go.Proofs.Ytdockkmodjbfpaa
open Go.ChangeShapes Go.WideShapes Go.ChangeAt Go.RowKit Go.Shelf
set_option linter.unusedVariables false

/-- d blocks from M on lie as they lay -/
def Lies (M d : Nat) (W W' : World) : Prop := ∀ k, M ≤ k → k < M + d → W'.heap[k]? = W.heap[k]?
/-- an iterator with d blocks of its own, laid first of all: each round keeps these, and whatever is no cells and was laid since the iterator was called -/
def SeqD {α : Type} (d : Nat) (F : Fence) (n : Nat) (P : Program) (g : Nat) (lb : Array Value) (enc : α → Array Value) (Kp : World → World → Prop) (S : List α → Prop) (N : Nat) (w : World) : Prop :=
  ∀ (l : Nat) (J : List α → World → Prop) (W : World), Below w.heap.size w W → OwnFrom W.heap.size J →
    (∀ pre x W1, J pre W1 → pre.length < N → W.heap.size + d ≤ W1.heap.size → YieldAt F (n - 1) P l (enc x) W1 fun e W' =>
      e = .returned (.bool true) ∧ J (pre ++ [x]) W' ∧ Kp W1 W' ∧ KeepsFrom W.heap.size W1 W' ∧ Lies W.heap.size d W1 W') →
    J [] W →
    CallsIn F n P g (#[.func (.yield l) #[] #[]] ++ lb) W fun e W' => (∃ v, e = .returned v) ∧ ∃ xs, S xs ∧ J xs W'
theorem SeqD.of_stops {α : Type} {F : Fence} {n : Nat} {P : Program} {g : Nat} {lb : Array Value} {enc : α → Array Value} {Kp : World → World → Prop} {S Sp : List α → Prop} {N : Nat} {w : World}
    (h : SeqStopsK F n P g lb enc Kp S Sp N w) : SeqD 0 F n P g lb enc Kp S N w := fun l J W hW hJ hY h0 =>
  (h l (fun pre A => J pre A ∧ W.heap.size ≤ A.heap.size) (fun _ _ => False) W hW (fun s A B row hs hg hr => ⟨hJ s A B row hs.1 hg (fun r e => by obtain ⟨hB, o, ho, hw⟩ := hr r e; exact ⟨hB, o, ho, Obj.not_cells_of_walk hw⟩), Nat.le_trans hs.2 hg.size⟩) (fun _ _ _ _ hs _ _ => hs)
    (fun pre x W1 hj hl => (hY pre x W1 hj.1 hl hj.2).mono fun e W' ⟨he, hj', hk, hf, _⟩ => .inl ⟨he, ⟨hj', Nat.le_trans hj.2 hf.size⟩, hk⟩) ⟨h0, Nat.le_refl _⟩).mono fun e W' => by
    rintro ⟨he, ⟨xs, hS, hj, _⟩ | ⟨_, _, hf⟩⟩
    · exact ⟨he, xs, hS, hj⟩
    · exact hf.elim

theorem range_slotD {F : Fence} {n : Nat} {P : Program} {α : Type} {d : Nat} {g : Operand} {p1 id : Nat} {body : Code} {Q : Exit → Act → World → Prop} {a : Act} {w : World} (p0 : Nat) {T : TypeId} {pos : String} {after : Array Edge}
    (hro : F.round = none) (h1 : 1 ≤ n) {gf : Nat} {lb : Array Value} (hg : a.eval g = .func (.func gf) #[] lb) (hFg : F.fn gf) (eg : ∀ args w, (callFunc gf args).run P w = .ok (.enter gf args) w)
    {enc : α → Value} {Kp : World → World → Prop} {S : List α → Prop} {N : Nat} {w0 : World} (hseq : SeqD d F (n - 1) P gf lb (fun x => #[enc x]) Kp S N w0)
    (hKt : ∀ {A B C : World}, Kp A B → Kp B C → Kp A C) (hKb : ∀ (W : World) (l : Nat) (o o' : Obj), w.heap.size ≤ l → W.heap[l]? = some o → o.isCells = false → o.isWalk = false → Kp W (W.putObj l o')) (hb0 : Below w0.heap.size w0 w)
    (hp1 : p1 < a.tmps.size)
    (I : List α → World → Prop) (hI : OwnFrom w.heap.size I) (h0 : I [] w)
    (hbody : ∀ (l : Nat) (pre : List α) (x : α) (W : World), w.heap.size ≤ l → (∃ r, W.heap[l]? = some (.loop r)) → I pre W → pre.length < N → w.heap.size + 2 + d ≤ W.heap.size →
      body.wpIn (F.inRound l) (n - 1 - 1) P (fun e _ W' => e = .normal ∧ KeepsFrom w.heap.size W W' ∧ Lies (w.heap.size + 2) d W W' ∧ Kp W W' ∧ I (pre ++ [x]) W') (slotAct a p1 p0 (enc x)) W)
    (hdone : ∀ (D : Nat) (xs : List α) (W : World), w.heap.size ≤ D → S xs → I xs W → W.heap[D]? = some (.deferred (some [])) → Q .normal { a with defers := { target := .collected D, args := #[] } :: a.defers } W) :
    (Code.rangeFunc g #[p1] (Code.region id #[{ dst := some p0, op := .assign (.tmp p1), type := T, pos := pos, after := after, guard := none }] false) body).wpIn F n P Q a w := by
  refine wpIn_rangeFunc ?_
  intro fn hfn
  rw [hro]
  obtain ⟨asg, hasg⟩ : ∃ asg, asg = (Code.region id #[{ dst := some p0, op := Op.assign (Operand.tmp p1), type := T, pos := pos, after := after, guard := none }] false) := ⟨_, rfl⟩
  rw [← hasg]
  obtain ⟨rec, hrec⟩ : ∃ rec : LoopState → Option Code → Loop, rec = fun st pe => { state := st, pending := pe, fn, tmps := a.tmps, params := #[p1], assign := asg, body, defers := w.heap.size } := ⟨_, rfl⟩
  obtain ⟨W1, hW1⟩ : ∃ W1, (w.alloc (.deferred (some []))).alloc (.loop (rec .ready none)) = W1 := ⟨_, rfl⟩
  have hs1 : W1.heap.size = w.heap.size + 2 := by rw [← hW1]; simp
  have hL1 : W1.heap[w.heap.size + 1]? = some (.loop (rec .ready none)) := by
    rw [← hW1]; have := World.alloc_heap_new (w.alloc (.deferred (some []))) (.loop (rec .ready none)); rwa [World.size_alloc] at this
  have hK1 : W1.heap[w.heap.size]? = some (.deferred (some [])) := by
    rw [← hW1]; exact (Below.heap_alloc _ _ _ (by simp)).trans (World.alloc_heap_new w _)
  have hI1 : I [] W1 := by rw [← hW1]; exact hI.alloc _ (hI.alloc _ h0)
  have hb1 : Below w0.heap.size w0 W1 := by
    rw [← hW1]; exact hb0.trans ((((Below.refl _ w).alloc (Nat.le_refl _) _).alloc (by simp) _).mono hb0.size)
  refine ⟨w.heap.size + 1, [{ target := .collected w.heap.size, args := #[] }], W1, { target := .fn (.func gf) lb, args := #[.func (.yield (w.heap.size + 1)) #[] #[]] }, W1, gf,
    #[.func (.yield (w.heap.size + 1)) #[] #[]] ++ lb, W1, ?_, ?_, ?_, ?_, fun _ => h1, ?_⟩
  · rw [← hW1, hrec]; exact run_enterLoop_outer _ _ _ _ _
  · simp only [resolve, hg]
    simp [go_sem]
  · intro f' hf'; simp [Target.leads] at hf'; subst hf'; exact hFg
  · simp [invoke, go_sem, eg]
  · have hkeep : ∀ {A B : World} {row : Option Nat} {k : Nat} {o : Obj}, k < W1.heap.size → A.grownBy B row → (∀ r, row = some r → W1.heap.size ≤ r ∧ ∃ o : Obj, A.heap[r]? = some o ∧ o.isCells = false) → A.heap[k]? = some o → B.heap[k]? = some o :=
      fun hk hg' hr ho => (hg'.block _ (Array.getElem?_eq_some_iff.1 ho).1 (fun e => by have := (hr _ e.symm).1; omega)).trans ho
    refine (hseq (w.heap.size + 1)
      (fun pre W => I pre W ∧ W.heap[w.heap.size + 1]? = some (.loop (rec .ready none)) ∧ W.heap[w.heap.size]? = some (.deferred (some [])))
      W1 hb1
      (fun s A B row hs hg' hr => ⟨hI s A B row hs.1 hg' (fun r e => ⟨by have := (hr r e).1; omega, (hr r e).2⟩), hkeep (by omega) hg' hr hs.2.1, hkeep (by omega) hg' hr hs.2.2⟩)
      ?_ ⟨hI1, hL1, hK1⟩).mono ?_
    · rintro pre x W ⟨hi, hl, hk⟩ hlen hsz
      rw [hs1] at hsz ⊢
      have hlt : w.heap.size + 1 < W.heap.size := (Array.getElem?_eq_some_iff.1 hl).1
      have hy := run_yield (P := P) (args := #[enc x]) hl (by rw [hrec]; rfl)
      rw [hrec] at hy
      refine ⟨fn, _, asg, body, hy, roundIn_of_wpIn hfn ?_⟩
      clear hy
      rw [hasg]
      refine wpIn_region_list ?_
      refine wpListIn_plain rfl fun K' hK' => ?_
      unfold Oper.wpIn
      refine ⟨by simp [Oper.about], ?_⟩
      rw [Oper.semAt_plain _ _ _ (by intro c hc; cases hc)]
      simp only [execOp]
      refine hK' _ _ (wpListIn_nil ?_)
      refine ⟨_, run_beginRound hl (by rw [hrec]), ?_⟩
      have hl2 : (W.putObj (w.heap.size + 1) (.loop { rec .ready none with state := .busy })).heap[w.heap.size + 1]? = some (.loop { rec .ready none with state := .busy }) := World.putObj_heap_same hlt
      have hk2 : (W.putObj (w.heap.size + 1) (.loop { rec .ready none with state := .busy })).heap[w.heap.size]? = some (.deferred (some [])) := (World.putObj_heap_other (by omega)).trans hk
      have hw2 : Kp W (W.putObj (w.heap.size + 1) (.loop { rec .ready none with state := .busy })) := hKb _ _ _ _ (by omega) hl rfl rfl
      have hact : ∀ (t : Array Value), t = a.tmps → (({ tmps := ((#[p1].zip #[enc x]).foldl (fun t (p, v) => t.setIfInBounds p v) t), defers := [] } : Act).put (some p0) (({ tmps := ((#[p1].zip #[enc x]).foldl (fun t (p, v) => t.setIfInBounds p v) t), defers := [] } : Act).eval (.tmp p1))) = slotAct a p1 p0 (enc x) := by
        intro t ht
        subst ht
        simp [slotAct, Act.put, Act.eval, Array.getD, hp1]
      have hbd := hbody (w.heap.size + 1) pre x _ (by omega) ⟨_, hl2⟩ (hI.putObj _ hi (by omega) hl rfl) hlen (by rw [World.putObj_size]; omega)
      rw [← hact _ rfl] at hbd
      refine wpIn_mono hbd ?_
      rintro e a3 W3 ⟨rfl, hk3, hli3, hkp3, hi3⟩
      have hl3 := hk3.same _ _ (by omega) hl2 rfl
      have hr3 := run_endRound (P := P) none hl3
      rw [hrec] at hr3 hl3
      have hk4 := hk3.same _ _ (Nat.le_refl _) hk2 rfl
      refine ⟨_, _, hr3, rfl, ⟨hI.putObj _ hi3 (by omega) hl3 rfl, ?_, (World.putObj_heap_other (by omega)).trans hk4⟩, hKt (hKt hw2 hkp3) (hKb _ _ _ _ (by omega) hl3 rfl rfl), ⟨?_, ?_⟩, ?_⟩
      · rw [hrec]; exact World.putObj_heap_same (Array.getElem?_eq_some_iff.1 hl3).1
      · have := hk3.size
        simpa using this
      · intro k o hB ho hc
        rw [World.putObj_heap_other (by omega)]
        exact hk3.same k o (by omega) ((World.putObj_heap_other (by omega)).trans ho) hc
      · intro k hB hM
        rw [World.putObj_heap_other (by omega), hli3 k hB hM, World.putObj_heap_other (by omega)]
    · rintro e W2 ⟨⟨v, rfl⟩, xs, hS, hi, hl, hk⟩
      exact ⟨none, _, by have := run_endLoop (P := P) hl (by rw [hrec]; simp); rw [hrec] at this; exact this, hdone _ xs _ (Nat.le_refl _) hS (hI.putObj _ hi (by omega) hl rfl) ((World.putObj_heap_other (by omega)).trans hk)⟩
end Go.Proofs.Ytdockkmodjbfpaa
