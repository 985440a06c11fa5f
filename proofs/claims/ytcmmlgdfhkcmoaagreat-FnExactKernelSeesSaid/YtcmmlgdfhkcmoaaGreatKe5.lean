/- What the proofs stand on, part 5. -/
import Derived.Test.YtcmmlgdfhkcmoaaGreatRows
import Derived.Test.YtcmmlgdfhkcmoaaGreatKe1
import Derived.Test.YtcmmlgdfhkcmoaaGreatKe2
import Derived.Test.YtcmmlgdfhkcmoaaGreatKe3
import Derived.Test.YtcmmlgdfhkcmoaaGreatKe4
set_option linter.unusedSimpArgs false
set_option linter.unusedVariables false
namespace Go.Proofs.YtcmmlgdfhkcmoaaGreat
open Go.ChangeShapes Go.WideShapes Go.ChangeAt Go.RowKit Go.Shelf
set_option linter.unusedVariables false
set_option maxRecDepth 100000
theorem upTo_asc (zs : List Int) (hs : zs.Pairwise (· ≤ ·)) : ∀ m, m ≤ zs.length → (Lib.compactUpTo zs.toArray m).Pairwise (· < ·) ∧ (∀ x, x ∈ Lib.compactUpTo zs.toArray m ↔ ∃ j, j < m ∧ zs.toArray[j]! = x) := by
  intro m
  induction m with
  | zero =>
    intro _
    refine ⟨by simp [Lib.compactUpTo], fun x => ?_⟩
    constructor
    · intro h
      simp [Lib.compactUpTo] at h
    · rintro ⟨j, hj, _⟩
      omega
  | succ m ih =>
    intro hm
    obtain ⟨h1, h2⟩ := ih (by omega)
    have hmono : ∀ i j, i < j → j < zs.length → zs.toArray[i]! ≤ zs.toArray[j]! := by
      intro i j hij hj
      have := List.pairwise_iff_getElem.1 hs i j (by omega) hj hij
      simpa [getElem!_pos, hj, show i < zs.length by omega] using this
    rw [Lib.compactUpTo_succ]
    by_cases hk : Lib.keeps zs.toArray m = true
    · rw [if_pos hk]
      refine ⟨?_, fun x => ?_⟩
      · rw [List.pairwise_append]
        refine ⟨h1, List.pairwise_singleton _ _, fun x hx y hy => ?_⟩
        rw [List.mem_singleton] at hy
        subst hy
        obtain ⟨j, hj, rfl⟩ := (h2 x).1 hx
        unfold Lib.keeps at hk
        have hk := of_decide_eq_true hk
        have h3 := hmono j m hj (by omega)
        have h4 : j ≤ m - 1 := by omega
        have h5 : zs.toArray[j]! ≤ zs.toArray[m - 1]! := by
          by_cases e : j = m - 1
          · rw [e]; exact Int.le_refl _
          · exact hmono j (m - 1) (by omega) (by omega)
        have h6 := hmono (m - 1) m (by omega) (by omega)
        rcases hk with hk | hk
        · omega
        · omega
      · rw [List.mem_append, List.mem_singleton, h2 x]
        constructor
        · rintro (⟨j, hj, e⟩ | e)
          · exact ⟨j, by omega, e⟩
          · exact ⟨m, by omega, e.symm⟩
        · rintro ⟨j, hj, e⟩
          by_cases hjm : j = m
          · exact .inr (by rw [← e, hjm])
          · exact .inl ⟨j, by omega, e⟩
    · rw [if_neg hk, List.append_nil]
      refine ⟨h1, fun x => ?_⟩
      rw [h2 x]
      constructor
      · rintro ⟨j, hj, e⟩
        exact ⟨j, by omega, e⟩
      · rintro ⟨j, hj, e⟩
        by_cases hjm : j = m
        · subst hjm
          have hk' : ¬ (j = 0 ∨ zs.toArray[j]! ≠ zs.toArray[j - 1]!) := fun hh => hk (by unfold Lib.keeps; exact decide_eq_true hh)
          have h0 : j ≠ 0 := fun e => hk' (.inl e)
          have h1 : zs.toArray[j]! = zs.toArray[j - 1]! := by
            by_cases e : zs.toArray[j]! = zs.toArray[j - 1]!
            · exact e
            · exact absurd (.inr e) hk'
          exact ⟨j - 1, by omega, by rw [← e, h1]⟩
        · exact ⟨j, by omega, e⟩
theorem arr_get (zs : List Int) {j : Nat} (hj : j < zs.length) : zs.toArray[j]! = zs[j] := by simp [hj]
theorem compact_srt (l : List Int) (h : ∀ x ∈ l, 0 ≤ x ∧ x < 12) : Lib.compact (l.mergeSort fun x y => decide (x ≤ y)) = srt l 12 := by
  have hs : (l.mergeSort fun x y => decide (x ≤ y)).Pairwise (· ≤ ·) := by
    have := List.pairwise_mergeSort (le := fun x y : Int => decide (x ≤ y)) (by intro a b c; simp; omega) (by intro a b; simp; omega) l
    exact this.imp (fun h => by simpa using h)
  obtain ⟨h1, h2⟩ := upTo_asc _ hs _ (Nat.le_refl _)
  refine asc_same h1 (srt_lt l 12) (fun x => ?_)
  unfold Lib.compact
  rw [h2 x]
  have hm : (∃ j, j < (l.mergeSort fun x y => decide (x ≤ y)).length ∧ (l.mergeSort fun x y => decide (x ≤ y)).toArray[j]! = x) ↔ x ∈ l := by
    rw [← List.mem_mergeSort (le := fun x y : Int => decide (x ≤ y)), List.mem_iff_getElem]
    constructor
    · rintro ⟨j, hj, e⟩
      exact ⟨j, hj, by rw [← e]; exact (arr_get _ hj).symm⟩
    · rintro ⟨j, hj, e⟩
      exact ⟨j, hj, by rw [← e]; exact arr_get _ hj⟩
  rw [hm]
  constructor
  · intro hx
    exact mem_srt (h x hx).1 (h x hx).2 hx
  · intro hx
    exact (srt_mem hx).2.2
theorem below_put {n0 b off q : Nat} {w : World} {d : Array Int} {os : Array Obj} (h : n0 ≤ b) (hb : b < w.heap.size) : Below n0 w (Sort.grow (Sort.putRow (Value.int .i64) (Sort.ahead w q) b off d) os) :=
  ⟨rfl, rfl, rfl, by simp [Sort.grow, Sort.putRow, Sort.mapBlock, Sort.ahead], fun k hk => by
    show ((w.heap.modify b _) ++ os)[k]? = _
    rw [Array.getElem?_append_left (by simp; omega), Array.getElem?_modify, if_neg (by omega)]⟩
theorem IntsW.holds {w : World} {B0 B1 g p cap n : Nat} {xs : List Int} (h : IntsW w B0 B1 (.slice (some ⟨g, p, none⟩) n cap) xs) : Sort.Holds (Value.int .i64) w g p xs.toArray := by
  obtain ⟨a, c, e, h1, h2, h3⟩ := h
  intro j hj
  have hj' : j < xs.length := by simpa using hj
  obtain ⟨g', p', e', _, _, hc, hf⟩ := h3 j hj'
  injection e with e1 _ _
  subst e1
  injection e' with e'
  injection e' with e1 e2
  subst e1
  subst e2
  refine ⟨?_, hf⟩
  rw [hc, getD_lt hj']
  simp [getElem!_pos, hj']
theorem intsW_put {w : World} {B0 B1 g p cap q n : Nat} {xs ys zs : List Int} {os : Array Obj} (h : IntsW w B0 B1 (.slice (some ⟨g, p, none⟩) n cap) xs) (hn : n = xs.length) (hg0 : B0 ≤ g) (hg1 : g < w.heap.size) (hy : (ys ++ zs).length = xs.length) :
    IntsW (Sort.grow (Sort.putRow (Value.int .i64) (Sort.ahead w q) g p (ys ++ zs).toArray) os) B0 (Sort.grow (Sort.putRow (Value.int .i64) (Sort.ahead w q) g p (ys ++ zs).toArray) os).heap.size (.slice (some ⟨g, p, none⟩) ys.length cap) ys := by
  have hH := h.holds
  obtain ⟨a, c, e, h1, h2, h3⟩ := h
  injection e with e1 e2 e3
  subst e3
  rw [List.length_append] at hy
  refine ⟨some ⟨g, p, none⟩, cap, rfl, by omega, h2, fun i hi => ⟨g, p, rfl, hg0, by simp; omega, ?_, ?_⟩⟩
  · have h4 := Sort.cell?_putRow (Value.int .i64) (Sort.ahead w q) g p xs.toArray (ys ++ zs).toArray (Sort.holds_ahead _ _ _ _ _ _ hH) (by simp; omega) i (by simp; omega)
    have h5 : (ys ++ zs).toArray[i]! = ys.getD i 0 := by
      rw [getD_lt hi]
      simp [getElem!_pos, hi, List.getElem_append_left, show i < ys.length + zs.length by omega]
    rw [h5] at h4
    rw [Sort.cell?_grow _ os _ (World.block_lt_of_cell? _ _ h4)]
    exact h4
  · have hb : (Sort.grow (Sort.putRow (Value.int .i64) (Sort.ahead w q) g p (ys ++ zs).toArray) os).heap[g]? = (Sort.putRow (Value.int .i64) (Sort.ahead w q) g p (ys ++ zs).toArray).heap[g]? := Sort.heap_grow_old _ os (by simp; omega)
    rw [World.frozen?_of_block hb, Sort.frozen?_putRow]
    exact (hH i (by simp; omega)).2
theorem sort_any (w : World) (B0 : Nat) (v : Value) (xs : List Int) (h : IntsW w B0 w.heap.size v xs) (hl : xs.length ≤ 1000) (hB : B0 ≤ w.heap.size) :
    Calls Tryz.prog 199 #[v] w fun e w' => e = .returned (.tuple #[]) ∧ IntsW w' B0 w'.heap.size v (xs.mergeSort fun x y => decide (x ≤ y)) ∧ Below B0 w w' := by
  have h0 := h
  obtain ⟨a, cap, rfl, h1, h2, h3⟩ := h
  by_cases hx : xs = []
  · subst hx
    refine (Any.slices_Sort_int_none laySort a cap w).mono ?_
    rintro e w' ⟨rfl, rfl⟩
    exact ⟨rfl, by simpa [List.mergeSort] using h0, Below.refl _ _⟩
  · have hx0 : 0 < xs.length := by
      cases xs with
      | nil => exact absurd rfl hx
      | cons x xs => simp
    obtain ⟨g, p, rfl, hg0, hg1, _⟩ := h3 0 hx0
    refine (Any.slices_Sort_int laySort g p cap xs w h0.holds hg1 (by omega)).mono ?_
    rintro e w' ⟨rfl, q, os, rfl⟩
    refine ⟨rfl, ?_, below_put hg0 hg1⟩
    have h4 := intsW_put (q := q) (ys := xs.mergeSort fun x y => decide (x ≤ y)) (zs := []) (os := os) h0 rfl hg0 hg1 (by simp)
    simpa using h4
theorem compact_any (w : World) (B0 : Nat) (v : Value) (xs : List Int) (h : IntsW w B0 w.heap.size v xs) (hl : xs.length ≤ 1000) (hB : B0 ≤ w.heap.size) :
    Calls Tryz.prog 145 #[v] w fun e w' => ∃ v', e = .returned v' ∧ IntsW w' B0 w'.heap.size v' (Lib.compact xs) ∧ Below B0 w w' := by
  have h0 := h
  obtain ⟨a, cap, rfl, h1, h2, h3⟩ := h
  by_cases hx : xs = []
  · subst hx
    refine (Any.slices_Compact_int_empty layCompact a cap w).mono ?_
    rintro e w' ⟨rfl, rfl⟩
    exact ⟨_, rfl, h0, Below.refl _ _⟩
  · have hx0 : 0 < xs.length := by
      cases xs with
      | nil => exact absurd rfl hx
      | cons x xs => simp
    obtain ⟨g, p, rfl, hg0, hg1, _⟩ := h3 0 hx0
    refine (Any.slices_Compact_int layCompact g p cap xs w h0.holds (by omega) h1).mono ?_
    rintro e w' ⟨rfl, q, rfl⟩
    have hlen : (Lib.compact xs).length ≤ xs.length := by
      unfold Lib.compact Lib.compactUpTo
      rw [List.length_map]
      exact Nat.le_trans (List.length_filter_le _ _) (by simp)
    refine ⟨_, rfl, ?_, ?_⟩
    · have h4 := intsW_put (q := q) (ys := Lib.compact xs) (zs := List.replicate (xs.length - (Lib.compact xs).length) 0) (os := #[]) h0 rfl hg0 hg1 (by simp; omega)
      rwa [Sort.grow_empty] at h4
    · have h5 := below_put (q := q) (off := p) (d := (Lib.compact xs ++ List.replicate (xs.length - (Lib.compact xs).length) 0).toArray) (os := #[]) hg0 hg1
      rwa [Sort.grow_empty] at h5
end Go.Proofs.YtcmmlgdfhkcmoaaGreat
namespace Go.Proofs.YtcmmlgdfhkcmoaaGreat
open Go.ChangeShapes Go.WideShapes Go.ChangeAt Go.RowKit Go.Shelf
set_option linter.unusedVariables false
set_option maxRecDepth 100000
attribute [local go_sem] Oper.semAt_some
theorem names_yes (w : World) (x : Int) (h : goodB x) : Calls Tryz.prog 138 #[.int .i64 x] w fun e w' => e = .returned (.bool true) ∧ w = w' := by
  obtain ⟨h0, h1, h2⟩ := h
  have hc : x % 4 = 1 ∨ x % 4 = 3 := by omega
  have h3 : 0 ≤ x := by omega
  have h4 : x / 4 < 12 := by omega
  clear h1
  rcases hc with hc | hc
  · have e1 : (x % 4 == 1) = true := by simpa using hc
    clear hc
    go_enter Tryz.func138, Tryz.ntmps138
    go_wp2
    go_ret
    exact ⟨rfl, rfl⟩
  · have e1 : (x % 4 == 1) = false := by simp; omega
    have e3 : (x % 4 == 3) = true := by simpa using hc
    clear hc
    go_enter Tryz.func138, Tryz.ntmps138
    go_wp2
    go_ret
    exact ⟨rfl, rfl⟩
theorem names_no (w : World) (x : Int) (h : ¬ goodB x) (hb0 : 0 ≤ x) (hb1 : x ≤ 9999) : Calls Tryz.prog 138 #[.int .i64 x] w fun e w' => e = .returned (.bool false) ∧ w = w' := by
  unfold goodB at h
  by_cases h1 : x % 4 = 1
  · have h4 : decide (x / 4 < 12) = false := by simp; omega
    have e1 : (x % 4 == 1) = true := by simpa using h1
    clear h1 h
    go_enter Tryz.func138, Tryz.ntmps138
    go_wp2
    go_ret
    exact ⟨rfl, rfl⟩
  · have e1 : (x % 4 == 1) = false := by simpa using h1
    by_cases h3 : x % 4 = 3
    · have h4 : decide (x / 4 < 12) = false := by simp; omega
      have e3 : (x % 4 == 3) = true := by simpa using h3
      clear h1 h h3
      go_enter Tryz.func138, Tryz.ntmps138
      go_wp2
      go_ret
      exact ⟨rfl, rfl⟩
    · have e3 : (x % 4 == 3) = false := by simpa using h3
      clear h1 h h3
      go_enter Tryz.func138, Tryz.ntmps138
      go_wp2
      go_ret
      exact ⟨rfl, rfl⟩
theorem frame_of (w : World) (x : Int) (h : 0 ≤ x) (h1 : x ≤ 9999) : Calls Tryz.prog 139 #[.int .i64 x] w fun e w' => e = .returned (.int .i64 (x / 4)) ∧ w = w' := by
  go_enter Tryz.func139, Tryz.ntmps139
  go_wp2
  go_ret
  exact ⟨rfl, rfl⟩
def finI (l : List (Fin 12)) : List Int := l.map (fun k => (k.val : Int))
theorem finI_snoc (l : List (Fin 12)) (k : Fin 12) : finI (l ++ [k]) = finI l ++ [(k.val : Int)] := by simp [finI]
def frF {x : Int} (h : goodB x) : Fin 12 := ⟨(x / 4).toNat, by obtain ⟨_, _, _⟩ := h; omega⟩
theorem frF_val {x : Int} (h : goodB x) : ((frF h).val : Int) = x / 4 := by unfold frF; have := h.1; simp; omega
end Go.Proofs.YtcmmlgdfhkcmoaaGreat
namespace Go.Proofs.YtcmmlgdfhkcmoaaGreat
open Go.ChangeShapes Go.WideShapes Go.ChangeAt Go.RowKit Go.Shelf
set_option linter.unusedVariables false
set_option maxRecDepth 100000
abbrev slotAct (a : Act) (p1 p0 : Nat) (v : Value) : Act := { tmps := (a.tmps.setIfInBounds p1 v).setIfInBounds p0 v, defers := [] }
theorem range_slot {F : Fence} {n : Nat} {P : Program} {α : Type} {g : Operand} {p1 id : Nat} {body : Code} {Q : Exit → Act → World → Prop} {a : Act} {w : World} (p0 : Nat) {T : TypeId} {pos : String} {after : Array Edge}
    (hro : F.round = none) (h1 : 1 ≤ n) {gf : Nat} {lb : Array Value} (hg : a.eval g = .func (.func gf) #[] lb) (hFg : F.fn gf) (eg : ∀ args w, (callFunc gf args).run P w = .ok (.enter gf args) w)
    {enc : α → Value} {Kp : World → World → Prop} {S Sp : List α → Prop} {N : Nat} {w0 : World} (hseq : SeqStopsK F (n - 1) P gf lb (fun x => #[enc x]) Kp S Sp N w0)
    (hKr : ∀ W, Kp W W) (hKt : ∀ {A B C : World}, Kp A B → Kp B C → Kp A C) (hKb : ∀ (W : World) (l : Nat) (o o' : Obj), w.heap.size ≤ l → W.heap[l]? = some o → o.isCells = false → o.isWalk = false → Kp W (W.putObj l o')) (hb0 : Below w0.heap.size w0 w)
    (hp1 : p1 < a.tmps.size)
    (I : List α → World → Prop) (Ix : Code → List α → World → Prop) (hI : OwnFrom w.heap.size I) (hIx : ∀ c, OwnFrom w.heap.size (Ix c)) (h0 : I [] w)
    (hbody : ∀ (l : Nat) (pre : List α) (x : α) (W : World), w.heap.size ≤ l → (∃ r, W.heap[l]? = some (.loop r)) → I pre W → pre.length < N → body.wpIn (F.inRound l) (n - 1 - 1) P (ownPostG w.heap.size Kp I Ix (pre ++ [x]) W) (slotAct a p1 p0 (enc x)) W)
    (hdone : ∀ (D : Nat) (xs : List α) (W : World), w.heap.size ≤ D → S xs → I xs W → W.heap[D]? = some (.deferred (some [])) → Q .normal { a with defers := { target := .collected D, args := #[] } :: a.defers } W)
    (hstop : ∀ (D : Nat) (c : Code) (pre : List α) (W : World), w.heap.size ≤ D → Sp pre → Ix c pre W → W.heap[D]? = some (.deferred (some [])) → c.wpIn F n P Q { a with defers := { target := .collected D, args := #[] } :: a.defers } W) :
    (Code.rangeFunc g #[p1] (Code.region id #[{ dst := some p0, op := .assign (.tmp p1), type := T, pos := pos, after := after, guard := none }] false) body).wpIn F n P Q a w := by
  refine wpIn_rangeFunc_ownH hro h1 hg hFg eg hseq hKt hKb hb0 (fun _ => rfl) I Ix hI hIx h0 (fun x a' _ => a' = slotAct a p1 p0 (enc x)) (fun _ _ _ _ _ _ hs _ _ => hs) ?_ ?_ hdone hstop
  · intro l pre x W K hi hK
    refine wpIn_region_list ?_
    refine wpListIn_plain rfl fun K' hK' => ?_
    unfold Oper.wpIn
    refine ⟨by simp [Oper.about], ?_⟩
    rw [Oper.semAt_plain _ _ _ (by intro c hc; cases hc)]
    simp only [execOp]
    refine hK' _ _ (wpListIn_nil (hK _ _ (KeepsFrom.refl _ _) (hKr W) hi ?_))
    simp [slotAct, Act.put, Act.eval, Array.getD, hp1]
  · rintro l pre x a' W hl hr hi rfl hlt
    exact hbody l pre x W hl hr hi hlt
theorem range_slotN {F : Fence} {n : Nat} {P : Program} {α : Type} {g : Operand} {p1 id : Nat} {body : Code} {Q : Exit → Act → World → Prop} {a : Act} {w : World} (p0 : Nat) {T : TypeId} {pos : String} {after : Array Edge}
    {l₀ : Nat} {r₀ : Loop} (hro : F.round = some l₀) (hl₀ : w.heap[l₀]? = some (.loop r₀)) (h1 : 1 ≤ n) {gf : Nat} {lb : Array Value} (hg : a.eval g = .func (.func gf) #[] lb) (hFg : F.fn gf) (eg : ∀ args w, (callFunc gf args).run P w = .ok (.enter gf args) w)
    {enc : α → Value} {Kp : World → World → Prop} {S Sp : List α → Prop} {N : Nat} {w0 : World} (hseq : SeqStopsK F (n - 1) P gf lb (fun x => #[enc x]) Kp S Sp N w0)
    (hKr : ∀ W, Kp W W) (hKt : ∀ {A B C : World}, Kp A B → Kp B C → Kp A C) (hKb : ∀ (W : World) (l : Nat) (o o' : Obj), w.heap.size ≤ l → W.heap[l]? = some o → o.isCells = false → o.isWalk = false → Kp W (W.putObj l o')) (hb0 : Below w0.heap.size w0 w)
    (hp1 : p1 < a.tmps.size)
    (I : List α → World → Prop) (Ix : Code → List α → World → Prop) (hI : OwnFrom w.heap.size I) (hIx : ∀ c, OwnFrom w.heap.size (Ix c)) (h0 : I [] w)
    (hbody : ∀ (l : Nat) (pre : List α) (x : α) (W : World), w.heap.size ≤ l → (∃ r, W.heap[l]? = some (.loop r)) → I pre W → pre.length < N → body.wpIn (F.inRound l) (n - 1 - 1) P (ownPostG w.heap.size Kp I Ix (pre ++ [x]) W) (slotAct a p1 p0 (enc x)) W)
    (hdone : ∀ (xs : List α) (W : World), S xs → I xs W → Q .normal a W)
    (hstop : ∀ (c : Code) (pre : List α) (W : World), Sp pre → Ix c pre W → c.wpIn F n P Q a W) :
    (Code.rangeFunc g #[p1] (Code.region id #[{ dst := some p0, op := .assign (.tmp p1), type := T, pos := pos, after := after, guard := none }] false) body).wpIn F n P Q a w := by
  refine wpIn_rangeFunc_ownN hro hl₀ h1 hg hFg eg hseq hKt hKb hb0 (fun _ => rfl) I Ix hI hIx h0 (fun x a' _ => a' = slotAct a p1 p0 (enc x)) (fun _ _ _ _ _ _ hs _ _ => hs) ?_ ?_ hdone hstop
  · intro l pre x W K hi hK
    refine wpIn_region_list ?_
    refine wpListIn_plain rfl fun K' hK' => ?_
    unfold Oper.wpIn
    refine ⟨by simp [Oper.about], ?_⟩
    rw [Oper.semAt_plain _ _ _ (by intro c hc; cases hc)]
    simp only [execOp]
    refine hK' _ _ (wpListIn_nil (hK _ _ (KeepsFrom.refl _ _) (hKr W) hi ?_))
    simp [slotAct, Act.put, Act.eval, Array.getD, hp1]
  · rintro l pre x a' W hl hr hi rfl hlt
    exact hbody l pre x W hl hr hi hlt
end Go.Proofs.YtcmmlgdfhkcmoaaGreat
namespace Go.Proofs.YtcmmlgdfhkcmoaaGreat
open Go.ChangeShapes Go.WideShapes Go.ChangeAt Go.RowKit Go.Shelf
set_option linter.unusedVariables false
set_option maxRecDepth 100000
def Lies (M d : Nat) (W W' : World) : Prop := ∀ k, M ≤ k → k < M + d → W'.heap[k]? = W.heap[k]?
def SeqD {α : Type} (d : Nat) (F : Fence) (n : Nat) (P : Program) (g : Nat) (lb : Array Value) (enc : α → Array Value) (Kp : World → World → Prop) (S : List α → Prop) (N : Nat) (w : World) : Prop :=
  ∀ (l : Nat) (J : List α → World → Prop) (W : World), Below w.heap.size w W → OwnFrom W.heap.size J →
    (∀ pre x W1, J pre W1 → pre.length < N → W.heap.size + d ≤ W1.heap.size → YieldAt F (n - 1) P l (enc x) W1 fun e W' =>
      e = .returned (.bool true) ∧ J (pre ++ [x]) W' ∧ Kp W1 W' ∧ KeepsFrom W.heap.size W1 W' ∧ Lies W.heap.size d W1 W') →
    J [] W →
    CallsIn F n P g (#[.func (.yield l) #[] #[]] ++ lb) W fun e W' => (∃ v, e = .returned v) ∧ ∃ xs, S xs ∧ J xs W'
theorem SeqD.of_stops {α : Type} {F : Fence} {n : Nat} {P : Program} {g : Nat} {lb : Array Value} {enc : α → Array Value} {Kp : World → World → Prop} {S Sp : List α → Prop} {N : Nat} {w : World}
    (h : SeqStopsK F n P g lb enc Kp S Sp N w) : SeqD 0 F n P g lb enc Kp S N w := fun l J W hW hJ hY h0 =>
  (h l (fun pre A => J pre A ∧ W.heap.size ≤ A.heap.size) (fun _ _ => False) W hW (fun s A B row hs hg hr => ⟨hJ s A B row hs.1 hg (fun r e => by obtain ⟨hB, o, ho, hw⟩ := hr r e; exact ⟨hB, o, ho, Obj.not_cells_of_walk hw⟩), Nat.le_trans hs.2 hg.size⟩) (fun _ _ _ _ hs _ _ => hs)
    (fun pre x W1 hj hl => (hY pre x W1 hj.1 hl hj.2).mono fun e W' ⟨he, hj', hk, hf, _⟩ => .inl ⟨he, ⟨hj', Nat.le_trans hj.2 hf.size⟩, hk⟩) ⟨h0, Nat.le_refl _⟩).mono fun e W' => by
    rintro ⟨he, ⟨xs, hS, hj, _⟩ | ⟨_, _, hf⟩⟩
    · exact ⟨he, xs, hS, hj⟩
    · exact hf.elim
theorem range_slotD {F : Fence} {n : Nat} {P : Program} {α : Type} {d : Nat} {g : Operand} {p1 id : Nat} {body : Code} {Q : Exit → Act → World → Prop} {a : Act} {w : World} (p0 : Nat) {T : TypeId} {pos : String} {after : Array Edge}
    (hro : F.round = none) (h1 : 1 ≤ n) {gf : Nat} {lb : Array Value} (hg : a.eval g = .func (.func gf) #[] lb) (hFg : F.fn gf) (eg : ∀ args w, (callFunc gf args).run P w = .ok (.enter gf args) w)
    {enc : α → Value} {Kp : World → World → Prop} {S : List α → Prop} {N : Nat} {w0 : World} (hseq : SeqD d F (n - 1) P gf lb (fun x => #[enc x]) Kp S N w0)
    (hKt : ∀ {A B C : World}, Kp A B → Kp B C → Kp A C) (hKb : ∀ (W : World) (l : Nat) (o o' : Obj), w.heap.size ≤ l → W.heap[l]? = some o → o.isCells = false → o.isWalk = false → Kp W (W.putObj l o')) (hb0 : Below w0.heap.size w0 w)
    (hp1 : p1 < a.tmps.size)
    (I : List α → World → Prop) (hI : OwnFrom w.heap.size I) (h0 : I [] w)
    (hbody : ∀ (l : Nat) (pre : List α) (x : α) (W : World), w.heap.size ≤ l → (∃ r, W.heap[l]? = some (.loop r)) → I pre W → pre.length < N → w.heap.size + 2 + d ≤ W.heap.size →
      body.wpIn (F.inRound l) (n - 1 - 1) P (fun e _ W' => e = .normal ∧ KeepsFrom w.heap.size W W' ∧ Lies (w.heap.size + 2) d W W' ∧ Kp W W' ∧ I (pre ++ [x]) W') (slotAct a p1 p0 (enc x)) W)
    (hdone : ∀ (D : Nat) (xs : List α) (W : World), w.heap.size ≤ D → S xs → I xs W → W.heap[D]? = some (.deferred (some [])) → Q .normal { a with defers := { target := .collected D, args := #[] } :: a.defers } W) :
    (Code.rangeFunc g #[p1] (Code.region id #[{ dst := some p0, op := .assign (.tmp p1), type := T, pos := pos, after := after, guard := none }] false) body).wpIn F n P Q a w := by
  refine wpIn_rangeFunc ?_
  intro fn hfn
  rw [hro]
  obtain ⟨asg, hasg⟩ : ∃ asg, asg = (Code.region id #[{ dst := some p0, op := Op.assign (Operand.tmp p1), type := T, pos := pos, after := after, guard := none }] false) := ⟨_, rfl⟩
  rw [← hasg]
  obtain ⟨rec, hrec⟩ : ∃ rec : LoopState → Option Code → Loop, rec = fun st pe => { state := st, pending := pe, fn, tmps := a.tmps, params := #[p1], assign := asg, body, defers := w.heap.size } := ⟨_, rfl⟩
  obtain ⟨W1, hW1⟩ : ∃ W1, (w.alloc (.deferred (some []))).alloc (.loop (rec .ready none)) = W1 := ⟨_, rfl⟩
  have hs1 : W1.heap.size = w.heap.size + 2 := by rw [← hW1]; simp
  have hL1 : W1.heap[w.heap.size + 1]? = some (.loop (rec .ready none)) := by
    rw [← hW1]; have := World.alloc_heap_new (w.alloc (.deferred (some []))) (.loop (rec .ready none)); rwa [World.size_alloc] at this
  have hK1 : W1.heap[w.heap.size]? = some (.deferred (some [])) := by
    rw [← hW1]; exact (Below.heap_alloc _ _ _ (by simp)).trans (World.alloc_heap_new w _)
  have hI1 : I [] W1 := by rw [← hW1]; exact hI.alloc _ (hI.alloc _ h0)
  have hb1 : Below w0.heap.size w0 W1 := by
    rw [← hW1]; exact hb0.trans ((((Below.refl _ w).alloc (Nat.le_refl _) _).alloc (by simp) _).mono hb0.size)
  refine ⟨w.heap.size + 1, [{ target := .collected w.heap.size, args := #[] }], W1, { target := .fn (.func gf) lb, args := #[.func (.yield (w.heap.size + 1)) #[] #[]] }, W1, gf,
    #[.func (.yield (w.heap.size + 1)) #[] #[]] ++ lb, W1, ?_, ?_, ?_, ?_, fun _ => h1, ?_⟩
  · rw [← hW1, hrec]; exact run_enterLoop_outer _ _ _ _ _
  · simp only [resolve, hg]
    simp [go_sem]
  · intro f' hf'; simp [Target.leads] at hf'; subst hf'; exact hFg
  · simp [invoke, go_sem, eg]
  · have hkeep : ∀ {A B : World} {row : Option Nat} {k : Nat} {o : Obj}, k < W1.heap.size → A.grownBy B row → (∀ r, row = some r → W1.heap.size ≤ r ∧ ∃ o : Obj, A.heap[r]? = some o ∧ o.isCells = false) → A.heap[k]? = some o → B.heap[k]? = some o :=
      fun hk hg' hr ho => (hg'.block _ (Array.getElem?_eq_some_iff.1 ho).1 (fun e => by have := (hr _ e.symm).1; omega)).trans ho
    refine (hseq (w.heap.size + 1)
      (fun pre W => I pre W ∧ W.heap[w.heap.size + 1]? = some (.loop (rec .ready none)) ∧ W.heap[w.heap.size]? = some (.deferred (some [])))
      W1 hb1
      (fun s A B row hs hg' hr => ⟨hI s A B row hs.1 hg' (fun r e => ⟨by have := (hr r e).1; omega, (hr r e).2⟩), hkeep (by omega) hg' hr hs.2.1, hkeep (by omega) hg' hr hs.2.2⟩)
      ?_ ⟨hI1, hL1, hK1⟩).mono ?_
    · rintro pre x W ⟨hi, hl, hk⟩ hlen hsz
      rw [hs1] at hsz ⊢
      have hlt : w.heap.size + 1 < W.heap.size := (Array.getElem?_eq_some_iff.1 hl).1
      have hy := run_yield (P := P) (args := #[enc x]) hl (by rw [hrec]; rfl)
      rw [hrec] at hy
      refine ⟨fn, _, asg, body, hy, roundIn_of_wpIn hfn ?_⟩
      clear hy
      rw [hasg]
      refine wpIn_region_list ?_
      refine wpListIn_plain rfl fun K' hK' => ?_
      unfold Oper.wpIn
      refine ⟨by simp [Oper.about], ?_⟩
      rw [Oper.semAt_plain _ _ _ (by intro c hc; cases hc)]
      simp only [execOp]
      refine hK' _ _ (wpListIn_nil ?_)
      refine ⟨_, run_beginRound hl (by rw [hrec]), ?_⟩
      have hl2 : (W.putObj (w.heap.size + 1) (.loop { rec .ready none with state := .busy })).heap[w.heap.size + 1]? = some (.loop { rec .ready none with state := .busy }) := World.putObj_heap_same hlt
      have hk2 : (W.putObj (w.heap.size + 1) (.loop { rec .ready none with state := .busy })).heap[w.heap.size]? = some (.deferred (some [])) := (World.putObj_heap_other (by omega)).trans hk
      have hw2 : Kp W (W.putObj (w.heap.size + 1) (.loop { rec .ready none with state := .busy })) := hKb _ _ _ _ (by omega) hl rfl rfl
      have hact : ∀ (t : Array Value), t = a.tmps → (({ tmps := ((#[p1].zip #[enc x]).foldl (fun t (p, v) => t.setIfInBounds p v) t), defers := [] } : Act).put (some p0) (({ tmps := ((#[p1].zip #[enc x]).foldl (fun t (p, v) => t.setIfInBounds p v) t), defers := [] } : Act).eval (.tmp p1))) = slotAct a p1 p0 (enc x) := by
        intro t ht
        subst ht
        simp [slotAct, Act.put, Act.eval, Array.getD, hp1]
      have hbd := hbody (w.heap.size + 1) pre x _ (by omega) ⟨_, hl2⟩ (hI.putObj _ hi (by omega) hl rfl) hlen (by rw [World.putObj_size]; omega)
      rw [← hact _ rfl] at hbd
      refine wpIn_mono hbd ?_
      rintro e a3 W3 ⟨rfl, hk3, hli3, hkp3, hi3⟩
      have hl3 := hk3.same _ _ (by omega) hl2 rfl
      have hr3 := run_endRound (P := P) none hl3
      rw [hrec] at hr3 hl3
      have hk4 := hk3.same _ _ (Nat.le_refl _) hk2 rfl
      refine ⟨_, _, hr3, rfl, ⟨hI.putObj _ hi3 (by omega) hl3 rfl, ?_, (World.putObj_heap_other (by omega)).trans hk4⟩, hKt (hKt hw2 hkp3) (hKb _ _ _ _ (by omega) hl3 rfl rfl), ⟨?_, ?_⟩, ?_⟩
      · rw [hrec]; exact World.putObj_heap_same (Array.getElem?_eq_some_iff.1 hl3).1
      · have := hk3.size
        simpa using this
      · intro k o hB ho hc
        rw [World.putObj_heap_other (by omega)]
        exact hk3.same k o (by omega) ((World.putObj_heap_other (by omega)).trans ho) hc
      · intro k hB hM
        rw [World.putObj_heap_other (by omega), hli3 k hB hM, World.putObj_heap_other (by omega)]
    · rintro e W2 ⟨⟨v, rfl⟩, xs, hS, hi, hl, hk⟩
      exact ⟨none, _, by have := run_endLoop (P := P) hl (by rw [hrec]; simp); rw [hrec] at this; exact this, hdone _ xs _ (Nat.le_refl _) hS (hI.putObj _ hi (by omega) hl rfl) ((World.putObj_heap_other (by omega)).trans hk)⟩
end Go.Proofs.YtcmmlgdfhkcmoaaGreat
namespace Go.Proofs.YtcmmlgdfhkcmoaaGreat
open Go.ChangeShapes Go.WideShapes Go.ChangeAt Go.RowKit Go.Shelf
set_option linter.unusedVariables false
set_option maxRecDepth 100000
attribute [local go_sem] Oper.semAt_some
theorem boxed_appendedD {W w1 : World} {n0 n1 B M d : Nat} {t e : TypeId} {v v' : Value} {k m : Nat} {xs ys : List Value} {tmp : Obj}
    (hv : Boxed W B t v) (hte : t ≠ e) (hrow : W.ownsRow n1 e 1 v k xs) (hn1 : n1 ≤ W.heap.size) (h0 : n0 ≤ B) (h01 : n0 ≤ n1) (hBM : B < M) (hM : M + d ≤ n1)
    (hown' : w1.ownsRow n1 e 1 v' m ys) (hgrow : (W.alloc tmp).grownBy w1 v.ownBlock) :
    Boxed w1 B t v ∧ Boxed (w1.setCell ⟨B, 0, none⟩ v') B t v' ∧ (w1.setCell ⟨B, 0, none⟩ v').ownsRow n1 e 1 v' m ys ∧ KeepsOthers W (w1.setCell ⟨B, 0, none⟩ v') ∧ Below n0 W (w1.setCell ⟨B, 0, none⟩ v') ∧ Lies M d W (w1.setCell ⟨B, 0, none⟩ v') := by
  obtain ⟨h1, h2, h3, h4, h5⟩ := hv.appended hte (own_lower hrow h01) (by omega) h0 (own_lower hown' h01) hgrow
  refine ⟨h1, h2, hown'.kept (grownBy_setCell' w1 B v') (.inr (h1.not_row hte hown').symm), h4, h5, fun k hk hkM => ?_⟩
  rw [Below.heap_setCell _ _ _ k (by simp; omega), hgrow.block k (by simp; omega) (fun e => ?_), Below.heap_alloc _ _ _ (by omega)]
  have := (hrow.lt k e.symm).1
  omega
theorem intsW_of_row {w : World} {B B0 : Nat} {v : Value} {ys : List Int} {n : Nat} (h : w.ownsRow B 3 1 v n (ys.map (.int .i64))) (hn : n = ys.length) (hB : B0 ≤ B) : IntsW w B0 w.heap.size v ys := by
  subst hn
  rcases h.2 with ⟨rfl, hz⟩ | ⟨g, cap, cur, rfl, hb, hbl, hnc, hcm, hcs, htk⟩
  · exact ⟨none, 0, by rw [hz], by omega, Nat.zero_le _, fun i hi => by omega⟩
  · refine ⟨some ⟨g, 0, none⟩, cap, rfl, hnc, hcm, fun i hi => ⟨g, 0, rfl, by omega, (Array.getElem?_eq_some_iff.1 hbl).1, ?_, ?_⟩⟩
    · have := h.cells (g := g) rfl i (.int .i64 (ys.getD i 0)) (by rw [getD_lt hi]; simp)
      rw [add0] at this
      rw [Nat.zero_add]; exact this
    · simp [World.frozen?, hbl]
def Gave (S : List (Fin 12) → Prop) (w : World) (e : Ending) (w' : World) : Prop := ∃ xs v, e = .returned v ∧ S xs ∧ xs.length ≤ 1000 ∧ IntsW w' w.heap.size w'.heap.size v (finI xs) ∧ Below w.heap.size w w'
set_option maxRecDepth 100000 in
set_option maxHeartbeats 2000000 in
theorem appendSeq_in {d N g : Nat} {lb : Array Value} {S : List (Fin 12) → Prop} (n : Nat) (hN : N ≤ 1000) (hS : ∀ xs, S xs → xs.length ≤ 1000) (w : World) (eg : ∀ args w, (callFunc g args).run Tryz.prog w = .ok (.enter g args) w)
    (hseq : SeqD d Fence.wide n Tryz.prog g lb (fun k : Fin 12 => #[.int .i64 (k.val : Int)]) (Below w.heap.size) S N w) :
    CallsIn Fence.wide (n + 1) Tryz.prog 132 #[.slice none 0 0, .func (.func g) #[] lb] w (Gave S w) := by
  obtain ⟨i0, hi, hz0, hz1, hz2⟩ := info_parts intInfo
  have HI := Lib.hid hi
  have HZ0 := Lib.hid hz0
  have HZ1 := Lib.hid hz1
  have HZ2 := Lib.hid hz2
  have HS := Lib.hid hS
  have HSEQ := Lib.hid hseq
  clear hi hz0 hz1 hz2 hS hseq
  refine callsIn_of_wp_marks Tryz.func132 rfl trivial ?_ rfl
  simp only [Tryz.ntmps132, List.size_toArray, List.length_cons, List.length_nil, Nat.reduceAdd, Nat.reduceSub, Array.replicate_succ, Array.replicate_zero, List.push_toArray, List.append_toArray, List.nil_append, List.cons_append]
  gi_wp2
  have bO := Boxed.new w 42 (.slice none 0 0)
  have hB0 : Below w.heap.size w (w.alloc (.cells #[.slice none 0 0] 42)) := (Below.refl _ w).alloc (Nat.le_refl _) _
  refine range_slotD (d := d) 5 rfl (by omega) (gf := g) (lb := lb) rfl trivial eg HSEQ.out belowK_t (belowK_b (by simp)) hB0 (by simp)
    (fun pre W => (∃ v, Boxed W w.heap.size 42 v ∧ W.ownsRow (w.heap.size + 3 + d) 3 1 v pre.length ((finI pre).map (.int .i64)) ∧ True) ∧ Below w.heap.size w W)
    (OwnFrom.and (Own.from (holdsRow_own (w.heap.size + 3 + d) w.heap.size 42 3 1 (fun pre => pre.length) (fun pre => (finI pre).map (.int .i64)) (fun _ _ => True)) _) (ownFrom_below (Nat.le_refl _) (by simp)))
    ⟨⟨_, bO, World.ownsRow_nil _ _ _ _, trivial⟩, hB0⟩ ?body ?done
  case body =>
    rintro l pre x W hl _ ⟨⟨v, hv, hrow, _⟩, hB⟩ hlt hsz
    rw [World.size_alloc] at hsz
    have hc := hv.cell
    have HROW := Lib.hid hrow
    have HV := Lib.hid hv
    have HBB := Lib.hid hB
    have hpl : pre.length ≤ 1000 := by omega
    clear hrow hv hB
    gi_wp2_with (gi_at_builtin; refine wpListIn_append_own _ rfl (.tmp 8) (.tmp 10) 42 rfl (w.heap.size + 3 + d) 3 i0 (.int .i64 0) 1 8 Tryz.underlying42 HI.out HZ0.out HZ1.out HZ2.out rfl (by decide) _ _ _ rfl (HROW.out.alloc _) ⟨W.heap.size, 0, none⟩ 1 1 [.int .i64 (x.val : Int)] rfl rfl (cell_one_new _ _ _) (by intro u hu; simp at hu; subst hu; rfl) (by unfold maxLen; omega) (by omega) (by simp; omega) ?_; intro v' w1 hown' hgrow _; obtain ⟨g', cap', rfl⟩ := ownsRow_succ hown'; obtain ⟨hv1, hv2, hr2, hk2, hb2, hl2⟩ := boxed_appendedD (n0 := w.heap.size) (M := w.heap.size + 3) (d := d) HV.out (by decide) HROW.out (by omega) (Nat.le_refl _) (by omega) (by omega) (by omega) hown' hgrow; have hc1 := hv1.cell; have hf1 := hv1.frozen)
    exact ⟨hk2.from _, ⟨_, hv2, by rw [finI_snoc, List.map_append]; exact hr2⟩, HBB.out.trans hb2⟩
  case done =>
    rintro D xs W hD hSx ⟨⟨v, hv, hrow, _⟩, hB⟩ hK
    have hc := hv.cell
    have HROW := Lib.hid hrow
    have HBB := Lib.hid hB
    have HKK := Lib.hid hK
    have HSX := Lib.hid hSx
    clear hrow hB hSx hv
    gi_wp2
    refine ⟨by simp, .inl ⟨_, _, rfl, run_takeDeferred hK, ?_⟩⟩
    refine ⟨_, results_tmp rfl _ _ _, xs, v, rfl, HSX.out, HS.out _ HSX.out, intsW_of_row (ownsRow_putObj HROW.out _ HKK.out rfl) (by simp [finI]) (by omega), HBB.out.trans (belowK_b (w := w) (Nat.le_refl _) W D _ _ (by simp at hD; omega) HKK.out rfl rfl)⟩
set_option maxRecDepth 100000 in
set_option maxHeartbeats 2000000 in
theorem collect_in {g : Nat} {lb : Array Value} {S : List (Fin 12) → Prop} (n : Nat) (w : World)
    (hc : CallsIn Fence.wide n Tryz.prog 132 #[.slice none 0 0, .func (.func g) #[] lb] w (Gave S w)) :
    CallsIn Fence.wide (n + 1) Tryz.prog 198 #[.func (.func g) #[] lb] w (Gave S w) := by
  refine callsIn_of_wp Tryz.func198 rfl trivial ?_ rfl
  simp only [Tryz.ntmps198, List.size_toArray, List.length_cons, List.length_nil, Nat.reduceAdd, Nat.reduceSub, Array.replicate_succ, Array.replicate_zero, List.push_toArray, List.append_toArray, List.nil_append, List.cons_append]
  have HC := Lib.hid hc
  clear hc
  gi_wp2_with fail
  refine ⟨trivial, HC.out.mono ?_⟩
  rintro e w' ⟨xs, v, rfl, hG⟩
  have HG := Lib.hid hG
  clear hG
  gi_wp2_with fail
  go_ret
  exact ⟨xs, v, rfl, HG.out⟩
def Sorted (S : List (Fin 12) → Prop) (w : World) (e : Ending) (w' : World) : Prop := ∃ xs v, e = .returned v ∧ S xs ∧ xs.length ≤ 1000 ∧ IntsW w' w.heap.size w'.heap.size v ((finI xs).mergeSort fun x y => decide (x ≤ y)) ∧ Below w.heap.size w w'
set_option maxRecDepth 100000 in
set_option maxHeartbeats 2000000 in
theorem sorted_in {g : Nat} {lb : Array Value} {S : List (Fin 12) → Prop} (n : Nat) (w : World)
    (hc : CallsIn Fence.wide n Tryz.prog 198 #[.func (.func g) #[] lb] w (Gave S w)) :
    CallsIn Fence.wide (n + 1) Tryz.prog 146 #[.func (.func g) #[] lb] w (Sorted S w) := by
  refine callsIn_of_wp Tryz.func146 rfl trivial ?_ rfl
  simp only [Tryz.ntmps146, List.size_toArray, List.length_cons, List.length_nil, Nat.reduceAdd, Nat.reduceSub, Array.replicate_succ, Array.replicate_zero, List.push_toArray, List.append_toArray, List.nil_append, List.cons_append]
  have HC := Lib.hid hc
  clear hc
  gi_wp2_with fail
  refine ⟨trivial, HC.out.mono ?_⟩
  rintro e w' ⟨xs, v, rfl, hS, hl, hI, hB⟩
  have HS := Lib.hid hS
  have HL := Lib.hid hl
  have HSO := Lib.hid (sort_any w' w.heap.size v (finI xs) hI (by simpa [finI] using hl) hB.size)
  have HB := Lib.hid hB
  clear hS hl hI hB
  gi_wp2_with fail
  refine ⟨trivial, (callsIn_wide.2 HSO.out).mono ?_⟩
  rintro e w2 ⟨rfl, hI2, hB2⟩
  have HI2 := Lib.hid hI2
  have HB2 := Lib.hid (HB.out.trans hB2)
  clear hI2 hB2
  gi_wp2_with fail
  go_ret
  exact ⟨xs, v, rfl, HS.out, HL.out, HI2.out, HB2.out⟩
theorem fin_rng (xs : List (Fin 12)) : ∀ x ∈ finI xs, 0 ≤ x ∧ x < 12 := by
  intro x hx
  unfold finI at hx
  obtain ⟨k, _, rfl⟩ := List.mem_map.1 hx
  have := k.isLt
  omega
def Once (S : List (Fin 12) → Prop) (w : World) (e : Ending) (w' : World) : Prop := ∃ xs v, e = .returned v ∧ S xs ∧ IntsW w' w.heap.size w'.heap.size v (srt (finI xs) 12) ∧ Below w.heap.size w w'
set_option maxRecDepth 100000 in
set_option maxHeartbeats 2000000 in
theorem eachOnce_in {g : Nat} {lb : Array Value} {S : List (Fin 12) → Prop} (n : Nat) (w : World)
    (hc : CallsIn Fence.wide n Tryz.prog 146 #[.func (.func g) #[] lb] w (Sorted S w)) :
    CallsIn Fence.wide (n + 1) Tryz.prog 85 #[.func (.func g) #[] lb] w (Once S w) := by
  refine callsIn_of_wp Tryz.func85 rfl trivial ?_ rfl
  simp only [Tryz.ntmps85, List.size_toArray, List.length_cons, List.length_nil, Nat.reduceAdd, Nat.reduceSub, Array.replicate_succ, Array.replicate_zero, List.push_toArray, List.append_toArray, List.nil_append, List.cons_append]
  have HC := Lib.hid hc
  clear hc
  gi_wp2_with fail
  refine ⟨trivial, HC.out.mono ?_⟩
  rintro e w' ⟨xs, v, rfl, hS, hl, hI, hB⟩
  have HS := Lib.hid hS
  have HCO := Lib.hid (compact_any w' w.heap.size v _ hI (by simpa [finI] using hl) hB.size)
  have HB := Lib.hid hB
  clear hS hl hI hB
  gi_wp2_with fail
  refine ⟨trivial, (callsIn_wide.2 HCO.out).mono ?_⟩
  rintro e w2 ⟨v2, rfl, hI2, hB2⟩
  have HI2 := Lib.hid hI2
  have HB2 := Lib.hid (HB.out.trans hB2)
  clear hI2 hB2
  gi_wp2_with fail
  go_ret
  refine ⟨xs, v2, rfl, HS.out, ?_, HB2.out⟩
  rw [← compact_srt (finI xs) (fin_rng xs)]
  exact HI2.out
theorem once_of_iter {d N g : Nat} {lb : Array Value} {S : List (Fin 12) → Prop} (n : Nat) (hN : N ≤ 1000) (hS : ∀ xs, S xs → xs.length ≤ 1000) (w : World) (eg : ∀ args w, (callFunc g args).run Tryz.prog w = .ok (.enter g args) w)
    (hseq : SeqD d Fence.wide n Tryz.prog g lb (fun k : Fin 12 => #[.int .i64 (k.val : Int)]) (Below w.heap.size) S N w) :
    Calls Tryz.prog 85 #[.func (.func g) #[] lb] w (Once S w) :=
  callsIn_wide.1 (eachOnce_in _ w (sorted_in _ w (collect_in _ w (appendSeq_in n hN hS w eg hseq))))
end Go.Proofs.YtcmmlgdfhkcmoaaGreat
namespace Go.Proofs.YtcmmlgdfhkcmoaaGreat
open Go.ChangeShapes Go.WideShapes Go.ChangeAt Go.RowKit
set_option linter.unusedVariables false
set_option maxRecDepth 100000
theorem load_arrI {F : Fence} {nF : Nat} {P : Program} {ops : Array Oper} {rest : List Oper} {a : Act} {w : World} {Q : Exit → Act → World → Prop} {dst : Option Nat} {tt : TypeId} {pos : String} {after : Array Edge} (ty : TypeId) (x : Operand) (b o : Nat) (cs : List Value) (d : TypeDesc) (hx : a.eval x = .pointer (some ⟨b, o, none⟩)) (hc : w.rangeAt b o cs) (hu : P.underlying ty = some d) (hd : d.isRow = true) (hi : (P.info? ty).map (·.size) = some cs.length)
    (h : wpListIn F nF P ops Q rest (a.put dst (.agg cs.toArray)) w) : wpListIn F nF P ops Q ({ dst := dst, op := .load ty x, type := tt, pos := pos, after := after, guard := none } :: rest) a w :=
  wpListIn_plain rfl fun K hK => by
    unfold Oper.wpIn
    refine ⟨by simp [Oper.about], ?_⟩
    rw [Oper.semAt_plain F _ _ (by intro c hc'; cases hc')]
    simp only [execOp, hx, Instr.loadAt, Instr.sureAddr, Sem.run_bind, Sem.run_pure, Result.andThen_ok, run_loadVar_mid w b o ty cs d hc hu hd hi]
    exact hK _ _ h
theorem load_isI {F : Fence} {nF : Nat} {P : Program} {ops : Array Oper} {rest : List Oper} {a : Act} {w : World} {Q : Exit → Act → World → Prop} {dst : Option Nat} {tt : TypeId} {pos : String} {after : Array Edge} (ty : TypeId) (x : Operand) (h : wpListIn F nF P ops Q ({ dst := dst, op := .load ty x, type := tt, pos := pos, after := after, guard := none } :: rest) a w) : wpListIn F nF P ops Q ({ dst := dst, op := .load ty x, type := tt, pos := pos, after := after, guard := none } :: rest) a w := h
end Go.Proofs.YtcmmlgdfhkcmoaaGreat
namespace Go.Proofs.YtcmmlgdfhkcmoaaGreat
open Go.ChangeShapes Go.WideShapes Go.ChangeAt Go.RowKit Go.Shelf
set_option linter.unusedVariables false
set_option maxRecDepth 100000
attribute [local go_sem] Oper.semAt_some
theorem row_one (row : List Int) : (row.map (Value.int .i64)).toArray.all (·.oneCell') = true := by
  rw [Array.all_eq_true_iff_forall_mem]
  intro x hx
  obtain ⟨y, _, rfl⟩ := List.mem_map.1 (List.mem_toArray.1 hx)
  rfl
theorem nil_intsW {w : World} {B0 B1 : Nat} : IntsW w B0 B1 (.slice none 0 0) [] := ⟨none, 0, rfl, Nat.le_refl _, Nat.zero_le _, fun i hi => by simp at hi⟩
set_option maxRecDepth 100000 in
set_option maxHeartbeats 2000000 in
theorem named_make (w : World) (cs : Array Value) (hs : cs.size = 4) (h1 : cs.all (·.oneCell') = true) : Calls Tryz.prog 86 #[.agg cs] w fun e w' => e = .returned (.func (.func 147) #[] #[.pointer (some ⟨w.heap.size, 0, none⟩)]) ∧ w' = w.alloc (.cells cs 92) := by
  go_enter Tryz.func86, Tryz.ntmps86
  go_wp2
  go_ret
  exact ⟨rfl, rfl⟩
set_option maxRecDepth 100000 in
set_option maxHeartbeats 2000000 in
theorem all_make (w : World) (cs : Array Value) (g : Nat) (lb : Array Value) (hs : cs.size = 48) (h1 : cs.all (·.oneCell') = true) : Calls Tryz.prog 87 #[.agg cs, .func (.func g) #[] lb] w fun e w' =>
    e = .returned (.func (.func 148) #[] #[.pointer (some ⟨w.heap.size + 1, 0, none⟩), .pointer (some ⟨w.heap.size, 0, none⟩)]) ∧ w' = (w.alloc (.cells cs 94)).alloc (.cells #[.func (.func g) #[] lb] 145) := by
  go_enter Tryz.func87, Tryz.ntmps87
  go_wp2
  go_ret
  exact ⟨rfl, rfl⟩
theorem round_any {m : Nat} (m' : Nat) {P : Program} {l1 l2 l : Nat} {f : FuncId} {tmps : Array Value} {asg body : Code} {w : World} {R : Ending → World → Prop}
    (h : RoundIn Fence.wide m P l f tmps asg body w R) : RoundIn ((Fence.wide.inRound l1).inRound l2) m' P l f tmps asg body w R := ⟨h.1, fun c cs _ => h.2 c cs (room_wide _)⟩
theorem named_rng {xs : List Int} {x : Int} (h : x ∈ named xs) : 0 ≤ x ∧ x < 12 := by
  unfold named at h
  obtain ⟨y, hy, rfl⟩ := List.mem_map.1 h
  obtain ⟨h0, h1, h2⟩ := of_decide_eq_true (List.mem_filter.1 hy).2
  omega
theorem fin_len (xs : List (Fin 12)) : (finI xs).length = xs.length := by simp [finI]
theorem flat_add (xss : List (List Int)) (ts : List Int) (x : Nat) : flat xss (ts ++ [(x : Int)]) = flat xss ts ++ named (xss.getD x []) := by simp [flat, rw4]
end Go.Proofs.YtcmmlgdfhkcmoaaGreat
namespace Go.Proofs.YtcmmlgdfhkcmoaaGreat
open Go.ChangeShapes Go.WideShapes Go.ChangeAt Go.RowKit Go.Shelf
set_option linter.unusedVariables false
set_option maxRecDepth 100000
theorem IntsW.lower {w : World} {B0 B0' B1 : Nat} {v : Value} {xs : List Int} (h : IntsW w B0 B1 v xs) (hB : B0' ≤ B0) : IntsW w B0' B1 v xs := by
  obtain ⟨a, cap, rfl, h1, h2, h3⟩ := h
  refine ⟨a, cap, rfl, h1, h2, fun i hi => ?_⟩
  obtain ⟨g, p, e, hg0, hg1, hc, hf⟩ := h3 i hi
  exact ⟨g, p, e, by omega, hg1, hc, hf⟩
theorem frs_eq (xss : List (List Int)) (k : Nat) (row : List Int) (hr : row = xss.getD k []) : frs xss (k : Int) = srt (flat xss (named row)) 12 := by
  have e1 : tabs xss (k : Int) = srt (named row) 12 := by rw [hr]; unfold tabs rw4; simp
  have hcong : ∀ {l l' : List Int}, (∀ x, x ∈ l ↔ x ∈ l') → srt l 12 = srt l' 12 := fun h => by
    unfold srt
    refine congrArg _ (List.filter_congr (fun f _ => ?_))
    simp only [h]
  refine hcong (fun x => ?_)
  rw [e1]
  unfold flat
  rw [List.mem_flatMap, List.mem_flatMap]
  constructor
  · rintro ⟨t, ht, hx⟩
    exact ⟨t, (srt_mem ht).2.2, hx⟩
  · rintro ⟨t, ht, hx⟩
    have hb := named_rng ht
    exact ⟨t, mem_srt hb.1 hb.2 ht, hx⟩
end Go.Proofs.YtcmmlgdfhkcmoaaGreat
namespace Go.Proofs.YtcmmlgdfhkcmoaaGreat
open Go.ChangeShapes Go.WideShapes Go.ChangeAt Go.RowKit Go.Shelf
set_option linter.unusedVariables false
set_option maxRecDepth 100000
theorem write_of (w : World) (x : Int) (h : goodB x) : Calls Tryz.prog 140 #[.int .i64 x] w fun e w' => e = .returned (.bool (decide (x % 4 = 3))) ∧ w = w' := by
  obtain ⟨h0, h1, h2⟩ := h
  have h3 : 0 ≤ x := by omega
  by_cases hc : x % 4 = 3
  · have e3 : (x % 4 == 3) = true := by simpa using hc
    rw [decide_eq_true hc]
    clear hc
    go_enter Tryz.func140, Tryz.ntmps140
    go_wp2
    go_ret
    exact ⟨rfl, rfl⟩
  · have e3 : (x % 4 == 3) = false := by simpa using hc
    rw [decide_eq_false hc]
    clear hc
    go_enter Tryz.func140, Tryz.ntmps140
    go_wp2
    go_ret
    exact ⟨rfl, rfl⟩
theorem heap2 (w : World) (o : Obj) {C : Array Value} {t : TypeId} : ((w.alloc o).alloc (.cells C t)).heap[w.heap.size + 1]? = some (.cells C t (0, 0)) := by
  have := heap_alloc_new (w.alloc o) (.cells C t)
  rwa [World.size_alloc] at this
set_option maxRecDepth 100000 in
set_option maxHeartbeats 1000000 in
theorem mw_top (w : World) (cs : List Value) (hs : cs.length = 48) (ho : cs.toArray.all (·.oneCell') = true) (r i : Nat) (j t x : Int) (hr : r < 12) (hi : i < 4) (hx : cs[r * 4 + i]? = some (.int .i64 x)) (hb0 : 0 ≤ x) (hb1 : x ≤ 9999) (hg : ¬ goodB x) :
    Calls Tryz.prog 81 #[.agg cs.toArray, .int .i64 r, .int .i64 i, .int .i64 j, .int .i64 t] w (WalkRes w ⟨0, 0, false, 1⟩) := by
  have hix := run_indexAt_arr (P := Tryz.prog) 94 12 92 4 Tryz.underlying94 size_words (by omega) w.heap.size r hr
  have hjx := fun W => run_indexAt_part (P := Tryz.prog) 92 4 _ Tryz.underlying92 (fun w => Tryz.sizeOf3 w) (by omega) w.heap.size (r * 4) i hi W
  have HC : ∀ ob, ((w.alloc (.cells cs.toArray 94)).alloc ob).cell? ⟨w.heap.size, r * 4 + i, none⟩ = some (.int .i64 x) := fun ob => by
    have h1 : (w.alloc (.cells cs.toArray 94)).cell? ⟨w.heap.size, r * 4 + i, none⟩ = some (.int .i64 x) := by
      rw [cell_of_row _ _ _ _ _ _ (heap_alloc_new w _)]
      simpa using hx
    exact (World.cell?_alloc_lt _ ob _ (cell_lt h1)).trans h1
  have HN := Lib.hid (fun w => names_no w x hg hb0 hb1)
  have HO := Lib.hid ho
  obtain ⟨R, HRR⟩ : ∃ R : Ending → World → Prop, Hid (R = WalkRes w ⟨0, 0, false, 1⟩) := ⟨_, Lib.hid rfl⟩
  rw [← HRR.out]
  have HB : Hid (∀ o1 o2, Below w.heap.size w ((w.alloc o1).alloc o2)) := Lib.hid (fun o1 o2 => ((Below.refl _ _).alloc (Nat.le_refl _) o1).alloc (by simp) o2)
  clear hx hg hb0 hb1 ho
  go_enter Tryz.func81, Tryz.ntmps81
  go_wp2_with (first | ((with_reducible refine box_is 94 (.tmp 0) ?_); refine box_arr 94 (.tmp 0) cs.toArray rfl ?_) | (go_at_call 138; refine (HN.out _).mono ?_; rintro e w' ⟨rfl, rfl⟩))
  refine bodyPost_ret (results_cell_mid rfl _ _ (w.heap.size + 1) 0 [.int .i64 (0), .int .i64 (0), .bool false] _ rfl (range_row (heap2 w _)) Tryz.underlying50 rfl (by kernel_rfl)) rfl ?_
  rw [HRR.out]
  exact ⟨rfl, HB.out _ _⟩
set_option maxRecDepth 100000 in
set_option maxHeartbeats 1000000 in
theorem mw_low (w : World) (cs : List Value) (hs : cs.length = 48) (ho : cs.toArray.all (·.oneCell') = true) (r i j f : Nat) (t x y : Int) (hr : r < 12) (hi : i < 4) (hx : cs[r * 4 + i]? = some (.int .i64 x)) (hb0 : 0 ≤ x) (hb1 : x ≤ 9999) (hg : goodB x) (hj : j < 4) (hf : x / 4 = (f : Int)) (hf12 : f < 12) (hy : cs[f * 4 + j]? = some (.int .i64 y)) (hy0 : 0 ≤ y) (hy1 : y ≤ 9999) (hgy : ¬ goodB y) :
    Calls Tryz.prog 81 #[.agg cs.toArray, .int .i64 r, .int .i64 i, .int .i64 j, .int .i64 t] w (WalkRes w ⟨0, 0, false, 2⟩) := by
  have hix := run_indexAt_arr (P := Tryz.prog) 94 12 92 4 Tryz.underlying94 size_words (by omega) w.heap.size r hr
  have hjx := fun W => run_indexAt_part (P := Tryz.prog) 92 4 _ Tryz.underlying92 (fun w => Tryz.sizeOf3 w) (by omega) w.heap.size (r * 4) i hi W
  have HC : ∀ ob, ((w.alloc (.cells cs.toArray 94)).alloc ob).cell? ⟨w.heap.size, r * 4 + i, none⟩ = some (.int .i64 x) := fun ob => by
    have h1 : (w.alloc (.cells cs.toArray 94)).cell? ⟨w.heap.size, r * 4 + i, none⟩ = some (.int .i64 x) := by
      rw [cell_of_row _ _ _ _ _ _ (heap_alloc_new w _)]
      simpa using hx
    exact (World.cell?_alloc_lt _ ob _ (cell_lt h1)).trans h1
  have hix2 := run_indexAt_arr (P := Tryz.prog) 94 12 92 4 Tryz.underlying94 size_words (by omega) w.heap.size f hf12
  have hjx2 := fun W => run_indexAt_part (P := Tryz.prog) 92 4 _ Tryz.underlying92 (fun w => Tryz.sizeOf3 w) (by omega) w.heap.size (f * 4) j hj W
  have HC2 : ∀ ob, ((w.alloc (.cells cs.toArray 94)).alloc ob).cell? ⟨w.heap.size, f * 4 + j, none⟩ = some (.int .i64 y) := fun ob => by
    have h1 : (w.alloc (.cells cs.toArray 94)).cell? ⟨w.heap.size, f * 4 + j, none⟩ = some (.int .i64 y) := by
      rw [cell_of_row _ _ _ _ _ _ (heap_alloc_new w _)]
      simpa using hy
    exact (World.cell?_alloc_lt _ ob _ (cell_lt h1)).trans h1
  have HN := Lib.hid (fun w => names_yes w x hg)
  have HFR := Lib.hid (fun w => frame_of w x hb0 hb1)
  rw [hf] at HFR
  have HN2 := Lib.hid (fun w => names_no w y hgy hy0 hy1)
  have HO := Lib.hid ho
  obtain ⟨R, HRR⟩ : ∃ R : Ending → World → Prop, Hid (R = WalkRes w ⟨0, 0, false, 2⟩) := ⟨_, Lib.hid rfl⟩
  rw [← HRR.out]
  have HB : Hid (∀ o1 o2, Below w.heap.size w ((w.alloc o1).alloc o2)) := Lib.hid (fun o1 o2 => ((Below.refl _ _).alloc (Nat.le_refl _) o1).alloc (by simp) o2)
  clear hx hg hb0 hb1 ho hf hy hy0 hy1 hgy
  go_enter Tryz.func81, Tryz.ntmps81
  go_wp2_with (first | ((with_reducible refine box_is 94 (.tmp 0) ?_); refine box_arr 94 (.tmp 0) cs.toArray rfl ?_) | (go_at_call 138; refine (HN.out _).mono ?_; clear HN; rintro e w' ⟨rfl, rfl⟩) | (go_at_call 138; refine (HN2.out _).mono ?_; rintro e w' ⟨rfl, rfl⟩) | (go_at_call 139; refine (HFR.out _).mono ?_; rintro e w' ⟨rfl, rfl⟩))
  refine bodyPost_ret (results_cell_mid rfl _ _ (w.heap.size + 1) 0 [.int .i64 (0), .int .i64 (0), .bool false] _ rfl (range_row (heap2 w _)) Tryz.underlying50 rfl (by kernel_rfl)) rfl ?_
  rw [HRR.out]
  exact ⟨rfl, HB.out _ _⟩
set_option maxRecDepth 100000 in
set_option maxHeartbeats 1000000 in
theorem mw_done (w : World) (cs : List Value) (hs : cs.length = 48) (ho : cs.toArray.all (·.oneCell') = true) (r i j f : Nat) (t x y : Int) (hr : r < 12) (hi : i < 4) (hx : cs[r * 4 + i]? = some (.int .i64 x)) (hb0 : 0 ≤ x) (hb1 : x ≤ 9999) (hg : goodB x) (hj : j < 4) (hf : x / 4 = (f : Int)) (hf12 : f < 12) (hy : cs[f * 4 + j]? = some (.int .i64 y)) (hy0 : 0 ≤ y) (hy1 : y ≤ 9999) (hgy : goodB y) :
    Calls Tryz.prog 81 #[.agg cs.toArray, .int .i64 r, .int .i64 i, .int .i64 j, .int .i64 t] w (WalkRes w ⟨y / 4, t, decide (x % 4 = 3) && decide (y % 4 = 3), 0⟩) := by
  have hix := run_indexAt_arr (P := Tryz.prog) 94 12 92 4 Tryz.underlying94 size_words (by omega) w.heap.size r hr
  have hjx := fun W => run_indexAt_part (P := Tryz.prog) 92 4 _ Tryz.underlying92 (fun w => Tryz.sizeOf3 w) (by omega) w.heap.size (r * 4) i hi W
  have HC : ∀ ob, ((w.alloc (.cells cs.toArray 94)).alloc ob).cell? ⟨w.heap.size, r * 4 + i, none⟩ = some (.int .i64 x) := fun ob => by
    have h1 : (w.alloc (.cells cs.toArray 94)).cell? ⟨w.heap.size, r * 4 + i, none⟩ = some (.int .i64 x) := by
      rw [cell_of_row _ _ _ _ _ _ (heap_alloc_new w _)]
      simpa using hx
    exact (World.cell?_alloc_lt _ ob _ (cell_lt h1)).trans h1
  have hix2 := run_indexAt_arr (P := Tryz.prog) 94 12 92 4 Tryz.underlying94 size_words (by omega) w.heap.size f hf12
  have hjx2 := fun W => run_indexAt_part (P := Tryz.prog) 92 4 _ Tryz.underlying92 (fun w => Tryz.sizeOf3 w) (by omega) w.heap.size (f * 4) j hj W
  have HC2 : ∀ ob, ((w.alloc (.cells cs.toArray 94)).alloc ob).cell? ⟨w.heap.size, f * 4 + j, none⟩ = some (.int .i64 y) := fun ob => by
    have h1 : (w.alloc (.cells cs.toArray 94)).cell? ⟨w.heap.size, f * 4 + j, none⟩ = some (.int .i64 y) := by
      rw [cell_of_row _ _ _ _ _ _ (heap_alloc_new w _)]
      simpa using hy
    exact (World.cell?_alloc_lt _ ob _ (cell_lt h1)).trans h1
  have HN := Lib.hid (fun w => names_yes w x hg)
  have HFR := Lib.hid (fun w => frame_of w x hb0 hb1)
  rw [hf] at HFR
  have HN2 := Lib.hid (fun w => names_yes w y hgy)
  have HFR2 := Lib.hid (fun w => frame_of w y hy0 hy1)
  have HW1 := Lib.hid (fun w => write_of w x hg)
  have HW2 := Lib.hid (fun w => write_of w y hgy)
  obtain ⟨z, hz⟩ : ∃ z, z = y / 4 := ⟨_, rfl⟩
  obtain ⟨b1, hb1'⟩ : ∃ b1, b1 = decide (x % 4 = 3) := ⟨_, rfl⟩
  obtain ⟨b2, hb2'⟩ : ∃ b2, b2 = decide (y % 4 = 3) := ⟨_, rfl⟩
  rw [← hz] at HFR2 ⊢
  rw [← hb1'] at HW1 ⊢
  rw [← hb2'] at HW2 ⊢
  clear hz hb1' hb2'
  have HO := Lib.hid ho
  obtain ⟨R, HRR⟩ : ∃ R : Ending → World → Prop, Hid (R = WalkRes w ⟨z, t, b1 && b2, 0⟩) := ⟨_, Lib.hid rfl⟩
  rw [← HRR.out]
  have HB : Hid (∀ o1 o2, Below w.heap.size w ((w.alloc o1).alloc o2)) := Lib.hid (fun o1 o2 => ((Below.refl _ _).alloc (Nat.le_refl _) o1).alloc (by simp) o2)
  clear hx hg hb0 hb1 ho hf hy hy0 hy1 hgy
  cases b1 <;> cases b2 <;> skip
  all_goals
    go_enter Tryz.func81, Tryz.ntmps81
    go_wp2_with (first | ((with_reducible refine box_is 94 (.tmp 0) ?_); refine box_arr 94 (.tmp 0) cs.toArray rfl ?_) | (go_at_call 138; refine (HN.out _).mono ?_; clear HN; rintro e w' ⟨rfl, rfl⟩) | (go_at_call 138; refine (HN2.out _).mono ?_; rintro e w' ⟨rfl, rfl⟩) | (go_at_call 139; refine (HFR.out _).mono ?_; clear HFR; rintro e w' ⟨rfl, rfl⟩) | (go_at_call 139; refine (HFR2.out _).mono ?_; rintro e w' ⟨rfl, rfl⟩) | (go_at_call 140; refine (HW1.out _).mono ?_; clear HW1; rintro e w' ⟨rfl, rfl⟩) | (go_at_call 140; refine (HW2.out _).mono ?_; rintro e w' ⟨rfl, rfl⟩))
    refine bodyPost_ret (results_cell_mid rfl _ _ (w.heap.size + 1) 0 [.int .i64 z, .int .i64 t, .bool _] _ rfl (range_row (heap2 w _)) Tryz.underlying50 rfl (by kernel_rfl)) rfl ?_
    rw [HRR.out]
    exact ⟨rfl, HB.out _ _⟩
end Go.Proofs.YtcmmlgdfhkcmoaaGreat
namespace Go.Proofs.YtcmmlgdfhkcmoaaGreat
open Go.ChangeShapes Go.WideShapes Go.ChangeAt Go.RowKit Go.Shelf
set_option linter.unusedVariables false
set_option maxRecDepth 100000
theorem mw_any (w : World) (xss : List (List Int)) (r a : Int) (h : wOk xss r a) :
    Calls Tryz.prog 81 #[.agg (flatL xss).toArray, .int .i64 r, .int .i64 (a / 16), .int .i64 (a / 4 % 4), .int .i64 (a % 4)] w (WalkRes w (walkF xss r a)) := by
  have hk := h
  obtain ⟨hm, ⟨hr0, hr1⟩, ha0, ha1⟩ := h
  have hs : (flatL xss).length = 48 := flat_len hm
  have ho : (flatL xss).toArray.all (·.oneCell') = true := flat_one xss
  obtain ⟨n, rfl⟩ := Int.eq_ofNat_of_zero_le hr0
  obtain ⟨i, hi⟩ := Int.eq_ofNat_of_zero_le (show 0 ≤ a / 16 by omega)
  obtain ⟨j, hj⟩ := Int.eq_ofNat_of_zero_le (show 0 ≤ a / 4 % 4 by omega)
  have hfg : ∀ i j, i < 12 → j < 4 → (flatL xss)[i * 4 + j]? = some (.int .i64 (wd xss i j)) := fun i j hi hj => flat_get xss (fun i hi => mem_row hm (by have := mem_len hm; omega)) (by have := mem_len hm; omega) hj
  have hxe : wd xss n i = top xss n a := by unfold top; rw [hi]; simp
  have hx := hfg n i (by omega) (by omega)
  have hxb := wd_bounds hm (i := n) (j := i) (by omega) (by omega)
  rw [hxe] at hx hxb
  by_cases hg : goodB (top xss n a)
  · obtain ⟨f, hf⟩ := Int.eq_ofNat_of_zero_le (good_frame hg).1
    have hf12 := (good_frame hg).2
    have hye : wd xss f j = low xss n a := by unfold low; rw [hf, hj]; simp
    have hy := hfg f j (by omega) (by omega)
    have hyb := wd_bounds hm (i := f) (j := j) (by omega) (by omega)
    rw [hye] at hy hyb
    by_cases hl : goodB (low xss n a)
    · have e : walkF xss n a = ⟨low xss n a / 4, a % 4, decide (top xss n a % 4 = 3) && decide (low xss n a % 4 = 3), 0⟩ := by unfold walkF; rw [if_pos hk, if_pos hg, if_pos hl]
      rw [e, hi, hj]
      exact mw_done w _ hs ho n i j f _ _ _ (by omega) (by omega) hx hxb.1 hxb.2 hg (by omega) hf (by omega) hy hyb.1 hyb.2 hl
    · have e : walkF xss n a = ⟨0, 0, false, 2⟩ := by unfold walkF; rw [if_pos hk, if_pos hg, if_neg hl]
      rw [e, hi, hj]
      exact mw_low w _ hs ho n i j f _ _ _ (by omega) (by omega) hx hxb.1 hxb.2 hg (by omega) hf (by omega) hy hyb.1 hyb.2 hl
  · have e : walkF xss n a = ⟨0, 0, false, 1⟩ := by unfold walkF; rw [if_pos hk, if_neg hg]
    rw [e, hi]
    exact mw_top w _ hs ho n i _ _ _ (by omega) (by omega) hx hxb.1 hxb.2 hg
theorem walk_bad {xss : List (List Int)} {r a : Int} (h : ¬ wOk xss r a) : walkF xss r a = ⟨0, 0, false, 3⟩ := by unfold walkF; rw [if_neg h]
theorem info_place : (Tryz.prog.info? 50).map (·.size) = some 3 := by kernel_rfl
end Go.Proofs.YtcmmlgdfhkcmoaaGreat
namespace Go.Proofs.YtcmmlgdfhkcmoaaGreat
open Go.ChangeShapes Go.WideShapes Go.ChangeAt Go.RowKit
set_option linter.unusedVariables false
set_option maxRecDepth 100000
set_option linter.unusedSimpArgs false
theorem findL_b (l : List CV) (e p : Int) : (findL l e p).b = true ↔ ∃ y ∈ l, y.e = e ∧ y.p = p := by
  unfold findL
  rcases fnd_spec l e p with ⟨h3, h4⟩ | ⟨k, hk, h3, h4, h5⟩
  · rw [h3, if_neg (by omega)]
    constructor
    · intro h; cases h
    · rintro ⟨y, hy, hh⟩
      have := h4 y hy
      rw [same_not] at this
      exact absurd hh this
  · rw [h3, if_pos (by omega)]
    rw [getD_lt hk, same_iff] at h4
    exact ⟨fun _ => ⟨_, List.getElem_mem _, h4⟩, fun _ => rfl⟩
theorem cOk_take {xs : List CV} (h : cOk xs = true) (k : Nat) : cOk (xs.take k) = true := by
  obtain ⟨h1, h2, hl⟩ := (cOk_iff xs).1 h
  rw [cOk_iff]
  have hs : (xs.take k).Sublist xs := List.take_sublist k xs
  exact ⟨fun x hx => h1 x (hs.subset hx), List.Pairwise.sublist hs h2, Nat.le_trans hs.length_le hl⟩
theorem cOk_snoc_twice {l : List CV} {x : CV} (h : (findL l x.e x.p).b = true) : cOk (l ++ [x]) = false := by
  rw [Bool.eq_false_iff]
  intro hc
  obtain ⟨_, h2, _⟩ := (cOk_iff _).1 hc
  obtain ⟨y, hy, hh⟩ := (findL_b _ _ _).1 h
  unfold Dst at h2
  rw [List.pairwise_append] at h2
  exact h2.2.2 y hy x (List.mem_singleton.2 rfl) hh
theorem cOk_snoc_bad {l : List CV} {x : CV} (h : cvOk x = false) : cOk (l ++ [x]) = false := by
  rw [Bool.eq_false_iff]
  intro hc
  obtain ⟨h1, _, _⟩ := (cOk_iff _).1 hc
  have := h1 x (List.mem_append_right _ (List.mem_singleton.2 rfl))
  rw [this] at h
  cases h
theorem cOk_snoc_good {l : List CV} {x : CV} (h : cOk l = true) (h1 : (findL l x.e x.p).b = false) (h2 : cvOk x = true) (h3 : l.length < 4) : cOk (l ++ [x]) = true := by
  obtain ⟨g1, g2, g3⟩ := (cOk_iff l).1 h
  rw [cOk_iff]
  refine ⟨fun y hy => ?_, ?_, by rw [List.length_append]; simp; omega⟩
  · rw [List.mem_append, List.mem_singleton] at hy
    rcases hy with hy | rfl
    · exact g1 y hy
    · exact h2
  · unfold Dst
    rw [List.pairwise_append]
    refine ⟨g2, List.pairwise_singleton _ _, fun y hy z hz hh => ?_⟩
    rw [List.mem_singleton] at hz
    subst hz
    have := (findL_b l z.e z.p).2 ⟨y, hy, hh⟩
    rw [this] at h1
    cases h1
theorem cOk_not_take {xs : List CV} {k : Nat} (h : cOk (xs.take k) = false) : cOk xs = false := by
  rw [Bool.eq_false_iff]
  intro hc
  rw [cOk_take hc k] at h
  cases h
def OfR (w : World) (xs : List CV) (b : Bool) (e : Ending) (w' : World) : Prop := ∃ u, e = .returned (.tuple #[u, .bool b]) ∧ RV u (bif b then xs else []) ∧ Below w.heap.size w w'
theorem build_zero {P : Program} {ops : Array Oper} {rest : List Oper} {a : Act} {w : World} {Q : Exit → Act → World → Prop} {dst : Option Nat} {tt : TypeId} {pos : String} {after : Array Edge} (t : TypeId)
    (z : Array Value) (hz : ∀ w, (Instr.build t #[]).run P w = .ok (.agg z) w)
    (h : wpList P ops Q rest (a.put dst (.agg z)) w) : wpList P ops Q ({ dst := dst, op := .build t #[], type := tt, pos := pos, after := after, guard := none } :: rest) a w :=
  wpList_plain rfl fun _ hK => by
    unfold Oper.wp execOp
    simp only [List.map_toArray, List.map_nil, Sem.run_bind, Sem.run_pure, Result.andThen_ok, hz]
    exact hK _ _ h
theorem build_ring (w : World) : (Instr.build 99 #[]).run Tryz.prog w = .ok (.agg (ringC A0 0 0).toArray) w := by
  rw [ringC_zero]
  unfold Instr.build
  go_simp
set_option maxRecDepth 100000 in
set_option maxHeartbeats 2000000 in
theorem cacheOf_any (w : World) (v : Value) (xs : List CV) (h : Cs w v xs) :
    Calls Tryz.prog 115 #[v] w (OfR w xs (cOk xs)) := by
  obtain ⟨a, cap, rfl, h1, h2, h3⟩ := h
  unfold maxLen at h2
  obtain ⟨R, HR⟩ : ∃ R, Hid (R = OfR w xs (cOk xs)) := ⟨_, Lib.hid rfl⟩
  rw [← HR.out]
  have H3 := Lib.hid h3
  obtain ⟨m, hm⟩ : ∃ m, m = xs.length := ⟨_, rfl⟩
  have HM := Lib.hid hm
  rw [← hm] at h1 ⊢
  clear hm h3
  have HBX := Lib.hid (Ring.boxed · A0 0 0 99)
  have HRV := Lib.hid RV.zero
  obtain ⟨Z, hZ⟩ : ∃ Z, Z = ringC A0 0 0 := ⟨_, rfl⟩
  have HAL : Hid (∀ w, (zeroValue 99).run Tryz.prog w = .ok (.agg Z.toArray) w) := Lib.hid (by rw [hZ]; exact Tryz.zeroValue99)
  have HBU : Hid (∀ w, (Instr.build 99 #[]).run Tryz.prog w = .ok (.agg Z.toArray) w) := Lib.hid (by rw [hZ]; exact build_ring)
  have HZL : Hid (Z.length = 18) := Lib.hid (by rw [hZ]; rfl)
  have HZS : Hid (Z.toArray.size = 18) := Lib.hid (by rw [hZ]; rfl)
  have HZO := Lib.hid (ringC_one A0 0 0)
  unfold ringV at HRV
  rw [← hZ] at HZO HBX HRV
  clear hZ
  have HB0 := Lib.hid ((Below.refl w.heap.size w).alloc (Nat.le_refl _) (.cells Z.toArray 99))
  by_cases h4 : 4 < m
  · have h4' : (4 : Int) < (m : Int) := by omega
    have HN : Hid (cOk xs = false) := Lib.hid (by
      rw [Bool.eq_false_iff]
      intro hc
      have := cOk_len hc
      have := HM.out
      omega)
    have HT := Lib.hid (HBX.out w).there
    go_enter Tryz.func115, Tryz.ntmps115
    go_wp2_with (first | ((with_reducible refine alloc_is 99 ?_); refine alloc_arr 99 Z.toArray HAL.out ?_) | ((with_reducible refine build_is 99 ?_); refine build_zero 99 Z.toArray HBU.out ?_) | ((with_reducible refine store_is 99 (.tmp 2) (.tmp 12) ?_); refine store_arr 99 (.tmp 2) (.tmp 12) w.heap.size 0 Z.toArray rfl rfl (by rw [HZS.out]; exact HT.out) (by rw [HZS.out, ← HZL.out]; exact ring_info HZL.out) HZO.out ?_) | fail)
    refine bodyPost_ret (results_cell_mid rfl _ _ w.heap.size 0 Z _ rfl (World.rangeAt_setCells_same _ _ _ _ (by rw [HZL.out]; exact HT.out)) Tryz.underlying99 rfl (ring_info HZL.out)) rfl ?_
    rw [HR.out, HN.out]
    exact ⟨_, rfl, HRV.out, Below.setCells HB0.out _ (Nat.le_refl _) _ _ _ HB0.out⟩
  · have h4' : decide ((4 : Int) < (m : Int)) = false := by simp; omega
    go_enter Tryz.func115, Tryz.ntmps115
    go_wp2_with (first | ((with_reducible refine alloc_is 99 ?_); refine alloc_arr 99 Z.toArray HAL.out ?_) | fail)
    obtain ⟨X, hX⟩ : ∃ X, w.heap.size = X := ⟨_, rfl⟩
    obtain ⟨w0, hw0⟩ : ∃ w0, (w.alloc (.cells Z.toArray 99)).alloc (.cells Z.toArray 99) = w0 := ⟨_, rfl⟩
    have HRS : Hid (Ring w0 X A0 0 0) := Lib.hid (by rw [← hw0, ← hX]; exact (HBX.out w).block (heap_alloc_old _ _ (by simp)))
    have HRL : Hid (RL w0 (X + 1) (xs.take 0)) := Lib.hid (by
      have h := HBX.out (w.alloc (.cells Z.toArray 99))
      rw [World.size_alloc] at h
      rw [← hw0, ← hX]
      exact RL.zero h)
    have HB : Hid (Below X w w0) := Lib.hid (by rw [← hw0, ← hX]; exact ((Below.refl _ _).alloc (Nat.le_refl _) _).alloc (by simp) _)
    have HXW := Lib.hid hX
    simp only [hX, hw0]
    clear hw0 HB0 hX
    go_loopw [15] (fun i wr => ∃ k : Nat, k ≤ m ∧ i = .int .i64 k ∧ Hid (Ring wr X A0 0 0) ∧ Hid (RL wr (X + 1) (xs.take k)) ∧ Hid (cOk (xs.take k) = true) ∧ Hid (Below X w wr)) (fun i _ => m - (intOf i).toNat)
    case atStart => exact ⟨0, Nat.zero_le _, rfl, HRS, HRL, Lib.hid cOk_nil, HB⟩
    case round =>
      obtain ⟨k, hk, rfl, HRS, HRL, HOK, HB⟩ := hrel
      by_cases hlt : k < m
      · have hlt' : (k : Int) < (m : Int) := by omega
        obtain ⟨b, o, rfl, hf0⟩ := H3.out k (by have := HM.out; omega)
        obtain ⟨x, hx⟩ : ∃ x, x = xs.getD k c0 := ⟨_, rfl⟩
        rw [← hx] at hf0
        have HTK : Hid (xs.take (k + 1) = xs.take k ++ [x]) := Lib.hid (by rw [hx]; exact take_snoc_getD xs k c0 (by have := HM.out; omega))
        have HTL : Hid ((xs.take k).length < 4) := Lib.hid (by rw [List.length_take]; omega)
        obtain ⟨g0, g1, g2, g3⟩ := hf0.below HB.out (by have h1 : b < w.heap.size := block_lt_of_cell hf0.c0; have := HXW.out; omega)
        clear hx hf0
        obtain ⟨A, f, c, hring, hf, hc, hl⟩ := HRL.out
        obtain ⟨r, hr⟩ : ∃ r, r = findL (xs.take k) x.e x.p := ⟨_, rfl⟩
        have HFI := Lib.hid (fun w => ringFind_any w A f c x.e x.p hf hc)
        rw [hl, ← hr] at HFI
        unfold ringV at HFI
        obtain ⟨L, hL⟩ : ∃ L, L = ringC A f c := ⟨_, rfl⟩
        have HLL : Hid (L.length = 18) := Lib.hid (by rw [hL]; rfl)
        rw [← hL] at HFI
        have HL := Lib.hid hL
        have HRF := Lib.hid hr
        have HRI := Lib.hid hring
        obtain ⟨⟨re, rp, rf, rb⟩, rt⟩ := r
        obtain ⟨Y, hY⟩ : ∃ Y, wr.heap.size = Y := ⟨_, rfl⟩
        obtain ⟨w1, hw1⟩ : ∃ w1, wr.alloc (.cells #[.int .i64 x.e, .int .i64 x.p, .int .i64 x.f, .bool x.b] 55) = w1 := ⟨_, rfl⟩
        have HB1 : Hid (Below Y wr w1) := Lib.hid (by rw [← hw1, ← hY]; exact (Below.refl _ _).alloc (Nat.le_refl _) _)
        have HF1 : Hid (FourW w1 Y 0 x ∧ Y < w1.heap.size) := Lib.hid (by
          rw [← hw1, ← hY]
          exact ⟨fourW_row (heap_alloc_new wr (.cells #[.int .i64 x.e, .int .i64 x.p, .int .i64 x.f, .bool x.b] 55)), by simp⟩)
        have HXY : Hid (X + 1 < Y) := Lib.hid (by rw [← hY]; exact HRL.out.lt)
        have HYE := Lib.hid hY
        clear hl hring hr hL
        have HW1 := Lib.hid hw1
        clear hw1 hY
        go_wp2_with (first | ((with_reducible refine load_is 99 (.tmp 4) ?_); rw [HYE.out, HW1.out]; refine load_arr 99 (.tmp 4) (X + 1) 0 L _ rfl (by rw [HL.out]; exact (HRI.out.block (HB1.out.block (X + 1) HXY.out)).range) Tryz.underlying99 rfl (ring_info HLL.out) ?_; obtain ⟨q0, q1, q2, q3⟩ := HF1.out.1.at4; rw [Nat.zero_add] at q1 q2 q3) | fail)
        refine (HFI.out w1).mono ?_
        rintro en w2 ⟨rfl, hb2⟩
        unfold cvV
        dsimp only
        obtain ⟨wA, hA⟩ : ∃ wA, w2.alloc (.cells #[.int .i64 re, .int .i64 rp, .int .i64 rf, .bool rb] 55) = wA := ⟨_, rfl⟩
        have HBA : Hid (Below Y wr wA) := Lib.hid (by
          rw [← hA]
          have h2 := hb2.mono (Nat.le_of_lt HF1.out.2)
          exact (HB1.out.trans h2).alloc (Nat.le_trans (Nat.le_of_lt HF1.out.2) hb2.size) _)
        have HFA : Hid (FourW wA Y 0 x) := Lib.hid (by
          rw [← hA]
          exact (HF1.out.1.block (hb2.block _ HF1.out.2)).block (heap_alloc_old _ _ (Nat.lt_of_lt_of_le HF1.out.2 hb2.size)))
        have HF2 : Hid (FourW w2 Y 0 x ∧ Y < w2.heap.size) := Lib.hid ⟨HF1.out.1.block (hb2.block _ HF1.out.2), Nat.lt_of_lt_of_le HF1.out.2 hb2.size⟩
        have HAE := Lib.hid hA
        have HXX : Hid (X < Y) := Lib.hid (by have := HXY.out; omega)
        have HRSA : Hid (Ring wA X A0 0 0) := Lib.hid (HRS.out.block (HBA.out.block X HXX.out))
        have HRLA : Hid (RL wA (X + 1) (xs.take k)) := Lib.hid (HRL.out.block (HBA.out.block (X + 1) HXY.out))
        have HBBA : Hid (Below X w wA) := Lib.hid (HB.out.trans (HBA.out.mono (Nat.le_of_lt HXX.out)))
        have HT := Lib.hid HRSA.out.there
        clear hb2 hA q0 q1 q2 q3
        cases rt
        · have HVA := Lib.hid (fun w => valid_anyC w x)
          obtain ⟨vb, hvb⟩ : ∃ vb, vb = cvOk x := ⟨_, rfl⟩
          have HVB := Lib.hid hvb
          rw [← hvb] at HVA
          clear hvb
          obtain ⟨q0, q1, q2, q3⟩ := HF2.out.1.at4
          have hYw := HF2.out.2
          rw [Nat.zero_add] at q1 q2 q3
          go_wp2_with fail
          rw [HAE.out]
          refine (HVA.out wA).mono ?_
          rintro en w3 ⟨rfl, hb3⟩
          have HB3 : Hid (Below Y wr w3) := Lib.hid (HBA.out.trans (hb3.mono HBA.out.size |> (fun z => HYE.out ▸ z)))
          have HF3 : Hid (FourW w3 Y 0 x) := Lib.hid (HFA.out.block (hb3.block _ (block_lt_of_cell HFA.out.at4.c0)))
          have HRS3 : Hid (Ring w3 X A0 0 0) := Lib.hid (HRSA.out.block (hb3.block _ HRSA.out.lt))
          have HRL3 : Hid (RL w3 (X + 1) (xs.take k)) := Lib.hid (HRLA.out.block (hb3.block _ HRLA.out.lt))
          have HBB3 : Hid (Below X w w3) := Lib.hid (HBBA.out.trans (hb3.mono (Nat.le_of_lt HRSA.out.lt)))
          have HT3 := Lib.hid HRS3.out.there
          clear hb3 q0 q1 q2 q3
          cases vb
          · have HN : Hid (cOk xs = false) := Lib.hid (cOk_not_take (k := k + 1) (by rw [HTK.out]; exact cOk_snoc_bad HVB.out.symm))
            go_wp2_with (first | ((with_reducible refine build_is 99 ?_); refine build_zero 99 Z.toArray HBU.out ?_) | ((with_reducible refine store_is 99 (.tmp 2) (.tmp 34) ?_); refine store_arr 99 (.tmp 2) (.tmp 34) X 0 Z.toArray rfl rfl (by rw [List.size_toArray, HZL.out]; exact HT3.out) (by rw [List.size_toArray]; exact ring_info HZL.out) HZO.out ?_) | fail)
            refine bodyPost_ret (results_cell_mid rfl _ _ X 0 Z _ rfl (World.rangeAt_setCells_same _ _ _ _ (by rw [HZL.out]; exact HT3.out)) Tryz.underlying99 rfl (ring_info HZL.out)) rfl ?_
            rw [HR.out, HN.out]
            exact ⟨_, rfl, HRV.out, by rw [HXW.out]; exact Below.setCells HBB3.out _ (Nat.le_refl _) _ _ _ HBB3.out⟩
          · have HGO : Hid (cOk (xs.take (k + 1)) = true) := Lib.hid (by rw [HTK.out]; exact cOk_snoc_good HOK.out (by rw [← HRF.out]) HVB.out.symm HTL.out)
            obtain ⟨q0, q1, q2, q3⟩ := HF3.out.at4
            rw [Nat.zero_add] at q1 q2 q3
            go_wp2_with fail
            refine (push_any w3 (X + 1) _ x HRL3.out).mono ?_
            rintro en w4 ⟨rfl, hrl4, hch4⟩
            have HRL4 : Hid (RL w4 (X + 1) (xs.take (k + 1))) := Lib.hid (by rw [HTK.out, ← rput_room HTL.out]; exact hrl4)
            have HRS4 : Hid (Ring w4 X A0 0 0) := Lib.hid (HRS3.out.block (hch4.block _ HRS3.out.lt (by omega)))
            have HBB4 : Hid (Below X w w4) := Lib.hid (Below.chg HBB3.out hch4 (Nat.le_of_lt HRS3.out.lt) (by omega))
            clear hrl4 hch4 q0 q1 q2 q3
            go_wp2
            go_roundw
            case rel => exact ⟨k + 1, by omega, by go_num, HRS4, HRL4, HGO, HBB4⟩
            case measure => simp [intOf]; omega
        · have HN : Hid (cOk xs = false) := Lib.hid (cOk_not_take (k := k + 1) (by rw [HTK.out]; exact cOk_snoc_twice (by rw [← HRF.out])))
          go_wp2_with (first | ((with_reducible refine alloc_is 99 ?_); refine alloc_arr 99 Z.toArray HAL.out ?_) | ((with_reducible refine build_is 99 ?_); refine build_zero 99 Z.toArray HBU.out ?_) | ((with_reducible refine store_is 99 (.tmp 2) (.tmp 34) ?_); rw [HAE.out]; refine store_arr 99 (.tmp 2) (.tmp 34) X 0 Z.toArray rfl rfl (by rw [HZS.out]; exact HT.out) (by rw [HZS.out, ← HZL.out]; exact ring_info HZL.out) HZO.out ?_) | fail)
          refine bodyPost_ret (results_cell_mid rfl _ _ X 0 Z _ rfl (World.rangeAt_setCells_same _ _ _ _ (by rw [HZL.out]; exact HT.out)) Tryz.underlying99 rfl (ring_info HZL.out)) rfl ?_
          rw [HR.out, HN.out]
          exact ⟨_, rfl, HRV.out, by rw [HXW.out]; exact Below.setCells HBBA.out _ (Nat.le_refl _) _ _ _ HBBA.out⟩
      · have ek : k = m := by omega
        subst ek
        obtain ⟨A, f, c, hring, hf, hc, hl⟩ := HRL.out
        have HRI := Lib.hid hring
        obtain ⟨L, hL⟩ : ∃ L, L = ringC A f c := ⟨_, rfl⟩
        have HLL : Hid (L.length = 18) := Lib.hid (by rw [hL]; rfl)
        have HL := Lib.hid hL
        have HT := Lib.hid HRS.out.there
        have HO := Lib.hid (ringC_one A f c)
        rw [← hL] at HO
        have hxk : xs.take k = xs := take_all HM.out
        have HOK2 : Hid (cOk xs = true) := Lib.hid (by have := HOK.out; rwa [hxk] at this)
        have HRV2 : Hid (RV (.agg L.toArray) xs) := Lib.hid ⟨A, f, c, by rw [hL], hf, hc, by rw [hl, hxk]⟩
        clear hring hL hf hc hl hxk
        go_wp2_with (first | ((with_reducible refine load_is 99 (.tmp 4) ?_); refine load_arr 99 (.tmp 4) (X + 1) 0 L _ rfl (by rw [HL.out]; exact HRI.out.range) Tryz.underlying99 rfl (ring_info HLL.out) ?_) | ((with_reducible refine store_is 99 (.tmp 2) (.tmp 38) ?_); refine store_arr 99 (.tmp 2) (.tmp 38) X 0 L.toArray rfl rfl (by rw [List.size_toArray, HLL.out]; exact HT.out) (by rw [List.size_toArray]; exact ring_info HLL.out) HO.out ?_) | fail)
        refine bodyPost_ret (results_cell_mid rfl _ _ X 0 L _ rfl (World.rangeAt_setCells_same _ _ _ _ (by rw [HLL.out]; exact HT.out)) Tryz.underlying99 rfl (ring_info HLL.out)) rfl ?_
        rw [HR.out, HOK2.out]
        exact ⟨_, rfl, HRV2.out, by rw [HXW.out]; exact Below.setCells HB.out _ (Nat.le_refl _) _ _ _ HB.out⟩
end Go.Proofs.YtcmmlgdfhkcmoaaGreat
namespace Go.Proofs.YtcmmlgdfhkcmoaaGreat
open Go.ChangeShapes Go.WideShapes Go.ChangeAt Go.RowKit Go.Maps
set_option linter.unusedVariables false
set_option linter.unusedSimpArgs false
set_option maxRecDepth 100000
def mapC (M : Nat → Option Nat) (T : Nat → Int) : List Value := [.map (M 0), .int .i64 (T 0), .map (M 1), .int .i64 (T 1), .map (M 2), .int .i64 (T 2)]
def kC (xss : List (List Int)) (ys : List IV) (M : Nat → Option Nat) (T : Nat → Int) (R : List Value) : List Value := flatL xss ++ (isC ys ++ (mapC M T ++ R))
theorem mapC_get (M : Nat → Option Nat) (T : Nat → Int) {j : Nat} (hj : j < 3) : (mapC M T)[j * 2]? = some (.map (M j)) ∧ (mapC M T)[j * 2 + 1]? = some (.int .i64 (T j)) := by
  rcases (by omega : j = 0 ∨ j = 1 ∨ j = 2) with rfl | rfl | rfl <;> exact ⟨rfl, rfl⟩
theorem mapC_one (M : Nat → Option Nat) (T : Nat → Int) : ∀ v ∈ mapC M T, v.oneCell' = true := fun v hv => by
  simp only [mapC, List.mem_cons, List.not_mem_nil, or_false] at hv
  rcases hv with rfl | rfl | rfl | rfl | rfl | rfl <;> rfl
theorem isok_short {ys : List IV} (h : isok ys = true) : ShortI ys := fun x hx => by
  obtain ⟨i, hi, rfl⟩ := List.getElem_of_mem hx
  have hr := isok_right h i
  rw [getD_lt hi] at hr
  have := rv_len hr
  omega
structure KL (W : World) (M : List (List Int)) (I : List IV) (E : List EV) (bs : Nat → Nat) (R L : List Value) : Prop where
  m : memOk M = true
  i : isok I = true
  n : E.length = 3
  L : L = kC M I (fun j => some (bs j)) (fun j => (E.getD j ez).t) R
  r : R.length = 18
  ro : R.toArray.all (·.oneCell') = true
  set : ∀ j, j < 3 → SetAt W (bs j) (E.getD j ez).r
theorem KL.below {W W' : World} {M : List (List Int)} {I : List IV} {E : List EV} {bs : Nat → Nat} {R L : List Value} (h : KL W M I E bs R L) (hb : Below W.heap.size W W') : KL W' M I E bs R L :=
  ⟨h.m, h.i, h.n, h.L, h.r, h.ro, fun j hj => (h.set j hj).below hb⟩
theorem KL.len {W : World} {M : List (List Int)} {I : List IV} {E : List EV} {bs : Nat → Nat} {R L : List Value} (h : KL W M I E bs R L) : L.length = 108 := by
  rw [h.L]; unfold kC
  rw [List.length_append, List.length_append, List.length_append, flat_len h.m, isC_36 (isok_len h.i), h.r]; rfl
theorem KL.one {W : World} {M : List (List Int)} {I : List IV} {E : List EV} {bs : Nat → Nat} {R L : List Value} (h : KL W M I E bs R L) : L.toArray.all (·.oneCell') = true := all_oneCell_toArray (fun v hv => by
  have h2 := h.ro
  rw [List.all_toArray, List.all_eq_true] at h2
  have h1 := flat_one M
  rw [List.all_toArray, List.all_eq_true] at h1
  rw [h.L] at hv; unfold kC at hv
  rcases List.mem_append.1 hv with hv | hv
  · exact h1 v hv
  · rcases List.mem_append.1 hv with hv | hv
    · exact isC_one I v hv
    · rcases List.mem_append.1 hv with hv | hv
      · exact mapC_one _ _ v hv
      · exact h2 v hv)
structure KC (W : World) (X : Nat) (M : List (List Int)) (I : List IV) (E : List EV) (bs : Nat → Nat) (R L : List Value) : Prop where
  l : KL W M I E bs R L
  at0 : W.rangeAt X 0 L
theorem KC.lt {W : World} {X : Nat} {M : List (List Int)} {I : List IV} {E : List EV} {bs : Nat → Nat} {R L : List Value} (h : KC W X M I E bs R L) : X < W.heap.size := by
  have h0 : 0 < L.length := by rw [h.l.len]; omega
  exact block_lt_of_cell (h.at0 0 L[0] (List.getElem?_eq_getElem h0))
theorem KC.below {W W' : World} {X : Nat} {M : List (List Int)} {I : List IV} {E : List EV} {bs : Nat → Nat} {R L : List Value} (h : KC W X M I E bs R L) (hb : Below W.heap.size W W') : KC W' X M I E bs R L :=
  ⟨h.l.below hb, range_blocks h.at0 (hb.block _ h.lt)⟩
theorem KC.drew {W : World} {X : Nat} {M : List (List Int)} {I : List IV} {E : List EV} {bs : Nat → Nat} {R L : List Value} (h : KC W X M I E bs R L) : KC W.drew X M I E bs R L := h.below (Below.refl _ _).drew
theorem KL.box {W : World} {M : List (List Int)} {I : List IV} {E : List EV} {bs : Nat → Nat} {R L : List Value} (h : KL W M I E bs R L) (t : TypeId) : KC (W.alloc (.cells L.toArray t)) W.heap.size M I E bs R L :=
  ⟨h.below ((Below.refl _ _).alloc (Nat.le_refl _) _), range_row (heap_alloc_new W _)⟩
theorem KC.mem {W : World} {X : Nat} {M : List (List Int)} {I : List IV} {E : List EV} {bs : Nat → Nat} {R L : List Value} (h : KC W X M I E bs R L) : W.rangeAt X 0 (flatL M) := by
  have := h.at0
  rw [h.l.L] at this
  exact range_left this
theorem KC.inf {W : World} {X : Nat} {M : List (List Int)} {I : List IV} {E : List EV} {bs : Nat → Nat} {R L : List Value} (h : KC W X M I E bs R L) : W.rangeAt X 48 (isC I) := by
  have := h.at0
  rw [h.l.L] at this
  exact range_left (range_right (o2 := 48) this (by rw [flat_len h.l.m]))
theorem KC.env {W : World} {X : Nat} {M : List (List Int)} {I : List IV} {E : List EV} {bs : Nat → Nat} {R L : List Value} (h : KC W X M I E bs R L) : W.rangeAt X 84 (mapC (fun j => some (bs j)) (fun j => (E.getD j ez).t)) := by
  have := h.at0
  rw [h.l.L] at this
  exact range_left (range_right (o2 := 84) (range_right (o2 := 48) this (by rw [flat_len h.l.m])) (by rw [isC_36 (isok_len h.l.i)]))
theorem KC.ring {W : World} {X : Nat} {M : List (List Int)} {I : List IV} {E : List EV} {bs : Nat → Nat} {R L : List Value} (h : KC W X M I E bs R L) : W.rangeAt X 90 R := by
  have := h.at0
  rw [h.l.L] at this
  exact range_right (o2 := 90) (range_right (o2 := 84) (range_right (o2 := 48) this (by rw [flat_len h.l.m])) (by rw [isC_36 (isok_len h.l.i)])) rfl
theorem KC.root {W : World} {X : Nat} {M : List (List Int)} {I : List IV} {E : List EV} {bs : Nat → Nat} {R L : List Value} (h : KC W X M I E bs R L) {j : Nat} (hj : j < 3) : W.cell? ⟨X, 84 + j * 2 + 1, none⟩ = some (.int .i64 (E.getD j ez).t) := by
  have := h.env _ _ (mapC_get (fun j => some (bs j)) (fun j => (E.getD j ez).t) hj).2
  rwa [← Nat.add_assoc] at this
theorem KC.map {W : World} {X : Nat} {M : List (List Int)} {I : List IV} {E : List EV} {bs : Nat → Nat} {R L : List Value} (h : KC W X M I E bs R L) {j : Nat} (hj : j < 3) : W.cell? ⟨X, 84 + j * 2, none⟩ = some (.map (some (bs j))) :=
  h.env _ _ (mapC_get (fun j => some (bs j)) (fun j => (E.getD j ez).t) hj).1
theorem KC.tri {W : World} {X : Nat} {M : List (List Int)} {I : List IV} {E : List EV} {bs : Nat → Nat} {R L : List Value} (h : KC W X M I E bs R L) {f : Nat} (hf : f < 12) : Tri W X (48 + f * 3) (I.getD f iz) := by
  have hl := isok_len h.l.i
  have hc : ∀ j v, j < 3 → (ivC (I.getD f iz))[j]? = some v → W.cell? ⟨X, 48 + f * 3 + j, none⟩ = some v := fun j v hj hv => by
    have := h.inf (f * 3 + j) v (by rw [isC_get I (by omega) hj]; exact hv)
    rwa [← Nat.add_assoc] at this
  exact ⟨hc 0 _ (by omega) rfl, hc 1 _ (by omega) rfl, hc 2 _ (by omega) rfl⟩
theorem KC.word {W : World} {X : Nat} {M : List (List Int)} {I : List IV} {E : List EV} {bs : Nat → Nat} {R L : List Value} (h : KC W X M I E bs R L) {f i : Nat} (hf : f < 12) (hi : i < 4) : W.cell? ⟨X, f * 4 + i, none⟩ = some (.int .i64 (wd M f i)) := by
  have := h.mem (f * 4 + i) _ (flat_get M (fun i hi => mem_row h.l.m (by have := mem_len h.l.m; omega)) (by have := mem_len h.l.m; omega) hi)
  rwa [Nat.zero_add] at this
theorem size_env (w : World) : (sizeOf 86).run Tryz.prog w = .ok 2 w := Tryz.sizeOf86 w
theorem info_kernel {n : Nat} (h : n = 108) : (Tryz.prog.info? 101).map (·.size) = some n := by subst h; kernel_rfl
theorem info_ring {n : Nat} (h : n = 18) : (Tryz.prog.info? 99).map (·.size) = some n := by subst h; kernel_rfl
theorem info_envs {n : Nat} (h : n = 6) : (Tryz.prog.info? 88).map (·.size) = some n := by subst h; kernel_rfl
def rootB (I : List IV) (t : Int) : Bool := decide (t = -1) || (inR t 0 11 && decide ((I.getD t.toNat iz).k = 3))
set_option maxHeartbeats 1000000 in
theorem rooted_any (W : World) (X : Nat) (M : List (List Int)) (I : List IV) (E : List EV) (bs : Nat → Nat) (R L : List Value) (h : KC W X M I E bs R L) (j : Nat) (hj : j < 3) :
    Calls Tryz.prog 171 #[.int .i64 j, .pointer (some ⟨X, 0, none⟩)] W (Says (rootB I (E.getD j ez).t) W) := by
  have hc := h.root hj
  have HIX := run_indexAt_off (P := Tryz.prog) 88 3 86 2 Tryz.underlying88 size_env (by omega) X 84 j hj
  have HT : Hid (∀ f, f < 12 → W.cell? ⟨X, 48 + f * 3, none⟩ = some (.int .i64 (I.getD f iz).k)) := Lib.hid (fun f hf => (h.tri hf).c0)
  have HBL := Lib.hid (fun w t => ibelow_any w t 12)
  have hj0 : (0 : Int) ≤ (j : Int) := by omega
  have hj3 : (j : Int) < 3 := by omega
  obtain ⟨t, ht⟩ : ∃ t, t = (E.getD j ez).t := ⟨_, rfl⟩
  rw [← ht] at hc ⊢
  unfold rootB
  clear ht h hj
  by_cases h1 : t = -1
  · subst h1
    go_enter Tryz.func171, Tryz.ntmps171
    go_wp2_with fail
    go_ret
    exact ⟨by simp, rfl⟩
  · have h1' : (t == -1) = false := by simpa using h1
    rw [decide_eq_false h1, Bool.false_or]
    have HB := Lib.hid (fun w => HBL.out w t)
    rw [show (12 : Int) - 1 = 11 from rfl] at HB
    obtain ⟨b, hb⟩ : ∃ b, b = inR t 0 11 := ⟨_, rfl⟩
    rw [← hb] at HB ⊢
    have HBB := Lib.hid hb
    clear hb h1
    cases b with
    | false =>
      go_enter Tryz.func171, Tryz.ntmps171
      go_wp2_with fail
      refine (HB.out _).mono ?_
      rintro e w' ⟨rfl, rfl⟩
      go_wp2_with fail
      go_ret
      exact ⟨by simp, rfl⟩
    | true =>
      obtain ⟨t0, t11⟩ := inR_iff.1 HBB.out.symm
      obtain ⟨f, rfl⟩ := Int.eq_ofNat_of_zero_le t0
      have hf12 : f < 12 := by omega
      have hk := HT.out f hf12
      have HIF := run_indexAt_off (P := Tryz.prog) 96 12 46 3 Tryz.underlying96 size_info (by omega) X 48 f hf12
      rw [Int.toNat_natCast]
      obtain ⟨kd, hkd⟩ : ∃ kd, kd = (I.getD f iz).k := ⟨_, rfl⟩
      rw [← hkd] at hk ⊢
      have hf12' : (f : Int) < 12 := by omega
      clear hkd HT t11
      have HE : Hid ((kd == 3) = decide (kd = 3)) := Lib.hid rfl
      go_enter Tryz.func171, Tryz.ntmps171
      go_wp2_with fail
      refine (HB.out _).mono ?_
      rintro e w' ⟨rfl, rfl⟩
      go_wp2_with fail
      go_ret
      exact ⟨by rw [← HE.out]; simp, rfl⟩
end Go.Proofs.YtcmmlgdfhkcmoaaGreat
namespace Go.Proofs.YtcmmlgdfhkcmoaaGreat
open Go.ChangeShapes Go.WideShapes Go.ChangeAt Go.RowKit Go.Maps
set_option linter.unusedVariables false
set_option linter.unusedSimpArgs false
set_option maxRecDepth 100000
theorem agg_env (w : World) : (isAgg 86).run Tryz.prog w = .ok true w := Tryz.isAgg86 w
theorem index_envs (M : Nat → Option Nat) (T : Nat → Int) {k : Nat} (hk : k < 3) (W : World) : (Instr.index 88 (.agg (mapC M T).toArray) (.int .i64 k)).run Tryz.prog W = .ok (.agg #[.map (M k), .int .i64 (T k)]) W := by
  rw [run_index_arr (P := Tryz.prog) 88 3 86 2 Tryz.underlying88 agg_env size_env _ k hk W]
  rcases (by omega : k = 0 ∨ k = 1 ∨ k = 2) with rfl | rfl | rfl <;> rfl
def SaysI (n : Int) (w : World) (e : Ending) (w' : World) : Prop := e = .returned (.int .i64 n) ∧ Below w.heap.size w w'
set_option maxHeartbeats 1000000 in
theorem rootedAt_any (w : World) (M : List (List Int)) (I : List IV) (E : List EV) (bs : Nat → Nat) (R L : List Value) (h : KL w M I E bs R L) (f : Nat) :
    Calls Tryz.prog 177 #[.agg L.toArray, .int .i64 f] w (SaysI (cntE E 3 f) w) := by
  have HKC := Lib.hid (h.box 101)
  have HXE := Lib.hid (fun k hk W => index_envs (fun j => some (bs j)) (fun j => (E.getD j ez).t) (k := k) hk W)
  have HST : Hid (∀ k, k < 3 → ∀ j, cntE E (k + 1) j = cntE E k j + if (E.getD k ez).t = (j : Int) then 1 else 0) := Lib.hid (fun k hk j => cntE_step (es := E) (k := k) (by have := h.n; omega) j)
  have HLE := Lib.hid (fun k => cntE_le E k f)
  have HN := Lib.hid h.n
  obtain ⟨Y, hY⟩ : ∃ Y, Y = mapC (fun j => some (bs j)) (fun j => (E.getD j ez).t) := ⟨_, rfl⟩
  obtain ⟨W0, hW0⟩ : ∃ W0, W0 = w.alloc (.cells L.toArray 101) := ⟨_, rfl⟩
  have HYR : Hid (W0.rangeAt w.heap.size 84 Y) := Lib.hid (by rw [hY, hW0]; exact HKC.out.env)
  have HYL : Hid (Y.length = 6) := Lib.hid (by rw [hY]; rfl)
  have HB0 : Hid (Below w.heap.size w W0) := Lib.hid (by rw [hW0]; exact (Below.refl _ _).alloc (Nat.le_refl _) _)
  rw [← hY] at HXE
  have HW0 := Lib.hid hW0
  clear hY hW0 h HKC
  go_enter Tryz.func177, Tryz.ntmps177
  go_wp2_with (first | ((with_reducible refine box_is 101 (.tmp 0) ?_); refine box_arr 101 (.tmp 0) L.toArray rfl ?_; rw [← HW0.out]) | ((with_reducible refine load_is 88 (.tmp 8) ?_); refine load_arr 88 (.tmp 8) w.heap.size 84 Y _ rfl HYR.out Tryz.underlying88 rfl (info_envs HYL.out) ?_) | fail)
  go_loopw [5, 10] (fun q i wr => ∃ k : Nat, k ≤ 3 ∧ i = .int .i64 k ∧ q = .int .i64 (cntE E k f : Nat) ∧ Hid (Below w.heap.size w wr)) (fun _ i _ => 3 - (intOf i).toNat)
  case atStart => exact ⟨0, Nat.zero_le _, rfl, rfl, HB0⟩
  case round =>
    obtain ⟨k, hk, rfl, rfl, HB⟩ := hrel
    by_cases hlt : k < 3
    · have hlt' : (k : Int) < 3 := by omega
      have hk0 : (0 : Int) ≤ (k : Int) := by omega
      have HIX := HXE.out k hlt
      have hst := HST.out k hlt f
      obtain ⟨t, ht⟩ : ∃ t, t = (E.getD k ez).t := ⟨_, rfl⟩
      rw [← ht] at HIX hst
      obtain ⟨q, hq⟩ : ∃ q, q = cntE E k f := ⟨_, rfl⟩
      have hqb : q ≤ 3 := by rw [hq]; have h1 := HLE.out k; have h2 := HN.out; omega
      rw [← hq] at hst ⊢
      have HQ := Lib.hid hst
      have HB1 : Hid (∀ o, Below w.heap.size w (wr.alloc o)) := Lib.hid (fun o => HB.out.alloc HB.out.size o)
      have hqb' : (q : Int) ≤ 3 := by omega
      clear ht hq hst
      by_cases he : t = (f : Int)
      · subst he
        go_wp2_with fail
        go_roundw
        case rel => exact ⟨k + 1, by omega, by go_num, by rw [HQ.out, if_pos rfl]; go_num, Lib.hid (HB1.out _)⟩
        case measure => simp [intOf]; omega
      · have he' : (t == (f : Int)) = false := by simpa using he
        have HQ2 : Hid (cntE E (k + 1) f = q) := Lib.hid (by rw [HQ.out, if_neg he]; rfl)
        clear he
        go_wp2_with fail
        go_roundw
        case rel => exact ⟨k + 1, by omega, by go_num, by rw [HQ2.out], Lib.hid (HB1.out _)⟩
        case measure => simp [intOf]; omega
    · have e : k = 3 := by omega
      subst e
      go_wp2_with fail
      go_ret
      exact ⟨rfl, HB.out⟩
set_option maxHeartbeats 1000000 in
theorem counted_any (W : World) (X U : Nat) (M : List (List Int)) (I : List IV) (E : List EV) (bs : Nat → Nat) (R L : List Value) (h : KC W X M I E bs R L) (hu : Us W U (cu M I 12)) (f : Nat) (hf : f < 12) :
    Calls Tryz.prog 176 #[.int .i64 f, .pointer (some ⟨X, 0, none⟩), .pointer (some ⟨U, 0, none⟩)] W (BRes (decide ((I.getD f iz).r = ((cntN M I f 12 + cntE E 3 f : Nat) : Int))) W) := by
  have hr := (h.tri hf).c2
  have hc : W.cell? ⟨U, f, none⟩ = some (.int .i64 ((cntN M I f 12 : Nat) : Int)) := (hu f hf).1
  have HR := Lib.hid (rootedAt_any W.drew M I E bs R L (h.l.below (Below.refl _ _).drew) f)
  have HRG := Lib.hid h.at0
  have HLL := Lib.hid h.l.len
  have HB1 : Hid (cntN M I f 12 ≤ 48) := Lib.hid (cntN_le h.l.m f 12 (Nat.le_refl _))
  have HB2 : Hid (cntE E 3 f ≤ 3) := Lib.hid (by have := cntE_le E 3 f; have := h.l.n; omega)
  have HIF := run_indexAt_off (P := Tryz.prog) 96 12 46 3 Tryz.underlying96 size_info (by omega) X 48 f hf
  have HIU := fun W => run_indexAt_part (P := Tryz.prog) 140 12 _ Tryz.underlying140 (fun w => Tryz.sizeOf3 w) (by omega) U 0 f hf W
  simp only [Nat.zero_add] at HIU
  have hf0 : (0 : Int) ≤ (f : Int) := by omega
  have hf12 : (f : Int) < 12 := by omega
  obtain ⟨y, hy⟩ : ∃ y, y = (I.getD f iz).r := ⟨_, rfl⟩
  obtain ⟨a, ha⟩ : ∃ a, a = cntN M I f 12 := ⟨_, rfl⟩
  obtain ⟨b, hb⟩ : ∃ b, b = cntE E 3 f := ⟨_, rfl⟩
  rw [← hy] at hr ⊢
  rw [← ha] at hc HB1 ⊢
  rw [← hb] at HR HB2 ⊢
  have ha48 : (a : Int) ≤ 48 := by have := HB1.out; omega
  have hb3 : (b : Int) ≤ 3 := by have := HB2.out; omega
  have hwr : IntKind.i64.wrap ((a : Int) + (b : Int)) = (a : Int) + (b : Int) := by rw [IntKind.wrap_i64]; omega
  have FS : Hid (∀ W', Below W.heap.size W W' → W'.rangeAt X 0 L ∧ W'.cell? ⟨X, 48 + f * 3 + 2, none⟩ = some (.int .i64 y) ∧ W'.cell? ⟨U, f, none⟩ = some (.int .i64 (a : Int))) := Lib.hid (fun W' hb => ⟨(h.below hb).at0, (hb.cell (p := ⟨X, 48 + f * 3 + 2, none⟩) (cell_lt hr)).trans hr, (hb.cell (p := ⟨U, f, none⟩) (cell_lt hc)).trans hc⟩)
  have HIX : Hid (∀ W' : World, W'.rangeAt X 0 L → (do let l ← Instr.loadAt 101 (.pointer (some ⟨X, 0, none⟩)); pure (Next.value l) : Sem Next).run Tryz.prog W' = .ok (.value (.agg L.toArray)) W') := Lib.hid (fun W' hh => load_run 101 X 0 L _ hh Tryz.underlying101 rfl (info_kernel HLL.out))
  clear hu h hy ha hb hf HB1 HB2 HRG
  have HE : Hid (decide (y = ((a + b : Nat) : Int)) = (y == (a : Int) + (b : Int))) := Lib.hid (by rw [Int.natCast_add]; rfl)
  rw [HE.out]
  go_enter Tryz.func176, Tryz.ntmps176
  go_wp2_with fail
  refine wp_region_held_drew (S := fun w' => w'.rangeAt X 0 L ∧ w'.cell? ⟨X, 48 + f * 3 + 2, none⟩ = some (.int .i64 y) ∧ w'.cell? ⟨U, f, none⟩ = some (.int .i64 (a : Int))) (by kernel_rfl) (FS.out _ (Below.refl _ _).drew) (fun hHeld => ?_)
  refine wpAnyH_take (i := 0) (oi := { dst := some 5, op := .move (.tmp 0), type := _, pos := _, after := _, guard := none }) (v := .int .i64 (f : Int)) rfl (by kernel_rfl) (by kernel_rfl) (by kernel_rfl) (fun _ _ _ h => h) (Or.inl ⟨by rfl, fun wh hSw => ?_⟩) hHeld ?_
  · (obtain ⟨s0, s1, s2⟩ := hSw; go_simp)
  try simp only [Act.put, List.setIfInBounds_toArray, List.set_cons_zero, List.set_cons_succ]
  refine wpAnyH_take (i := 1) (oi := { dst := some 6, op := .fieldAddr 101 (.tmp 1) 1, type := _, pos := _, after := _, guard := none }) (v := .pointer (some ⟨X, 48, none⟩)) rfl (by kernel_rfl) (by kernel_rfl) (by kernel_rfl) (fun _ _ _ h => h) (Or.inl ⟨by rfl, fun wh hSw => ?_⟩) hHeld ?_
  · (obtain ⟨s0, s1, s2⟩ := hSw; go_simp)
  try simp only [Act.put, List.setIfInBounds_toArray, List.set_cons_zero, List.set_cons_succ]
  refine wpAnyH_take (i := 2) (oi := { dst := some 7, op := .indexAddr 96 (.tmp 6) (.tmp 5), type := _, pos := _, after := _, guard := none }) (v := .pointer (some ⟨X, 48 + f * 3, none⟩)) rfl (by kernel_rfl) (by kernel_rfl) (by kernel_rfl) (fun _ _ _ h => h) (Or.inl ⟨by rfl, fun wh hSw => ?_⟩) hHeld ?_
  · (obtain ⟨s0, s1, s2⟩ := hSw; go_simp)
  try simp only [Act.put, List.setIfInBounds_toArray, List.set_cons_zero, List.set_cons_succ]
  refine wpAnyH_take (i := 3) (oi := { dst := some 8, op := .fieldAddr 46 (.tmp 7) 2, type := _, pos := _, after := _, guard := none }) (v := .pointer (some ⟨X, 48 + f * 3 + 2, none⟩)) rfl (by kernel_rfl) (by kernel_rfl) (by kernel_rfl) (fun _ _ _ h => h) (Or.inl ⟨by rfl, fun wh hSw => ?_⟩) hHeld ?_
  · (obtain ⟨s0, s1, s2⟩ := hSw; go_simp)
  try simp only [Act.put, List.setIfInBounds_toArray, List.set_cons_zero, List.set_cons_succ]
  refine wpAnyH_take (i := 4) (oi := { dst := some 9, op := .load 3 (.tmp 8), type := _, pos := _, after := _, guard := none }) (v := .int .i64 y) rfl (by kernel_rfl) (by kernel_rfl) (by kernel_rfl) (fun _ _ _ h => h) (Or.inl ⟨by rfl, fun wh hSw => ?_⟩) hHeld ?_
  · (obtain ⟨s0, s1, s2⟩ := hSw; go_simp)
  try simp only [Act.put, List.setIfInBounds_toArray, List.set_cons_zero, List.set_cons_succ]
  refine wpAnyH_take (i := 5) (oi := { dst := some 10, op := .move (.tmp 0), type := _, pos := _, after := _, guard := none }) (v := .int .i64 (f : Int)) rfl (by kernel_rfl) (by kernel_rfl) (by kernel_rfl) (fun _ _ _ h => h) (Or.inl ⟨by rfl, fun wh hSw => ?_⟩) hHeld ?_
  · (obtain ⟨s0, s1, s2⟩ := hSw; go_simp)
  try simp only [Act.put, List.setIfInBounds_toArray, List.set_cons_zero, List.set_cons_succ]
  refine wpAnyH_take (i := 6) (oi := { dst := some 11, op := .indexAddr 140 (.tmp 2) (.tmp 10), type := _, pos := _, after := _, guard := none }) (v := .pointer (some ⟨U, f, none⟩)) rfl (by kernel_rfl) (by kernel_rfl) (by kernel_rfl) (fun _ _ _ h => h) (Or.inl ⟨by rfl, fun wh hSw => ?_⟩) hHeld ?_
  · (obtain ⟨s0, s1, s2⟩ := hSw; go_simp)
  try simp only [Act.put, List.setIfInBounds_toArray, List.set_cons_zero, List.set_cons_succ]
  refine wpAnyH_take (i := 7) (oi := { dst := some 12, op := .load 3 (.tmp 11), type := _, pos := _, after := _, guard := none }) (v := .int .i64 (a : Int)) rfl (by kernel_rfl) (by kernel_rfl) (by kernel_rfl) (fun _ _ _ h => h) (Or.inl ⟨by rfl, fun wh hSw => ?_⟩) hHeld ?_
  · (obtain ⟨s0, s1, s2⟩ := hSw; go_simp)
  try simp only [Act.put, List.setIfInBounds_toArray, List.set_cons_zero, List.set_cons_succ]
  refine wpAnyH_take (i := 8) (oi := { dst := some 13, op := .load 101 (.tmp 1), type := _, pos := _, after := _, guard := none }) (v := .agg L.toArray) rfl (by kernel_rfl) (by kernel_rfl) (by kernel_rfl) (fun _ _ _ h => h) (Or.inl ⟨by rfl, fun wh hSw => ?_⟩) hHeld ?_
  · (simp only [execOp]; exact HIX.out _ hSw.1)
  try simp only [Act.put, List.setIfInBounds_toArray, List.set_cons_zero, List.set_cons_succ]
  refine wpAnyH_take (i := 9) (oi := { dst := some 14, op := .move (.tmp 0), type := _, pos := _, after := _, guard := none }) (v := .int .i64 (f : Int)) rfl (by kernel_rfl) (by kernel_rfl) (by kernel_rfl) (fun _ _ _ h => h) (Or.inl ⟨by rfl, fun wh hSw => ?_⟩) hHeld ?_
  · (obtain ⟨s0, s1, s2⟩ := hSw; go_simp)
  try simp only [Act.put, List.setIfInBounds_toArray, List.set_cons_zero, List.set_cons_succ]
  refine wpAnyH_ready (rs := [10]) (by kernel_rfl) (by simp) ?_
  refine AllReadyH.cons (o := { dst := some 15, op := .call { callee := .value (.func 177), args := #[.tmp 13, .tmp 14], argTypes := #[101, 3] }, type := _, pos := _, after := _, guard := none }) rfl (fun K hK => ?_) AllReadyH.nil
  go_simp
  refine HR.out.mono ?_
  rintro _ w1 ⟨rfl, hb1⟩
  have HBE : Hid (Below W.heap.size W w1) := Lib.hid ((Below.refl W.heap.size W).drew.trans (hb1.mono (Nat.le_refl _)))
  clear hb1
  try go_simp
  refine hK.out _ _ ?_ (fun hHeld => ?_)
  · exact FS.out _ HBE.out
  clear hK K
  try simp only [Act.put, List.setIfInBounds_toArray, List.set_cons_zero, List.set_cons_succ]
  refine wpAnyH_take (i := 11) (oi := { dst := some 16, op := .binOp .add 3 (.tmp 12) (.tmp 15) 3, type := _, pos := _, after := _, guard := none }) (v := .int .i64 ((a : Int) + (b : Int))) rfl (by kernel_rfl) (by kernel_rfl) (by kernel_rfl) (fun _ _ _ h => h) (Or.inl ⟨by rfl, fun wh hSw => ?_⟩) hHeld ?_
  · (obtain ⟨s0, s1, s2⟩ := hSw; go_simp)
  try simp only [Act.put, List.setIfInBounds_toArray, List.set_cons_zero, List.set_cons_succ]
  refine wpAnyH_take (i := 12) (oi := { dst := some 17, op := .binOp .eql 3 (.tmp 9) (.tmp 16) 3, type := _, pos := _, after := _, guard := none }) (v := .bool (y == (a : Int) + (b : Int))) rfl (by kernel_rfl) (by kernel_rfl) (by kernel_rfl) (fun _ _ _ h => h) (Or.inl ⟨by rfl, fun wh hSw => ?_⟩) hHeld ?_
  · (obtain ⟨s0, s1, s2⟩ := hSw; go_simp)
  try simp only [Act.put, List.setIfInBounds_toArray, List.set_cons_zero, List.set_cons_succ]
  refine wpAnyH_take (i := 13) (oi := { dst := some 4, op := .assign (.tmp 17), type := _, pos := _, after := _, guard := none }) (v := .bool (y == (a : Int) + (b : Int))) rfl (by kernel_rfl) (by kernel_rfl) (by kernel_rfl) (fun _ _ _ h => h) (Or.inl ⟨by rfl, fun wh hSw => ?_⟩) hHeld ?_
  · (obtain ⟨s0, s1, s2⟩ := hSw; go_simp)
  try simp only [Act.put, List.setIfInBounds_toArray, List.set_cons_zero, List.set_cons_succ]
  refine wpAnyH_done (by kernel_rfl) ?_ _
  go_wp2_with fail
  go_ret
  exact ⟨rfl, HBE.out⟩
end Go.Proofs.YtcmmlgdfhkcmoaaGreat
namespace Go.Proofs.YtcmmlgdfhkcmoaaGreat
open Go.ChangeShapes Go.WideShapes Go.ChangeAt Go.RowKit Go.Maps
set_option linter.unusedVariables false
set_option linter.unusedSimpArgs false
set_option maxRecDepth 100000
set_option maxHeartbeats 2000000 in
theorem place_any (w : World) (M : List (List Int)) (I : List IV) (E : List EV) (bs : Nat → Nat) (R L : List Value) (h : KL w M I E bs R L) (j : Nat) (hj : j < 3) (a : Int) (hb : -1 ≤ (E.getD j ez).t ∧ (E.getD j ez).t ≤ 11) :
    Calls Tryz.prog 89 #[.agg L.toArray, .int .i64 j, .int .i64 a] w (WalkRes w (walkF M (E.getD j ez).t a)) := by
  have HKC := Lib.hid (h.box 101)
  have HW : Hid (∀ (W : World) (t : Int), 0 ≤ t ∧ t < 12 → 0 ≤ a ∧ a < 64 → Calls Tryz.prog 81 #[.agg (flatL M).toArray, .int .i64 t, .int .i64 (a / 16), .int .i64 (a / 4 % 4), .int .i64 (a % 4)] W (WalkRes W (walkF M t a))) := Lib.hid (fun W t ht ha => mw_any W M t a ⟨h.m, ht, ha⟩)
  have HFL : Hid ((flatL M).length = 48) := Lib.hid (flat_len h.m)
  obtain ⟨F, hF⟩ : ∃ F, F = flatL M := ⟨_, rfl⟩
  rw [← hF] at HW HFL
  obtain ⟨W0, hW0⟩ : ∃ W0, W0 = w.alloc (.cells L.toArray 101) := ⟨_, rfl⟩
  rw [← hW0] at HKC
  have HB0 : Hid (Below w.heap.size w W0) := Lib.hid (by rw [hW0]; exact (Below.refl _ _).alloc (Nat.le_refl _) _)
  have hz0 : w.heap.size < W0.heap.size := HKC.out.lt
  have hrt := HKC.out.root hj
  have HME : Hid (∀ W, Below W0.heap.size W0 W → W.rangeAt w.heap.size 0 F) := Lib.hid (fun W hW => by rw [hF]; exact (HKC.out.below hW).mem)
  have HIX := run_indexAt_off (P := Tryz.prog) 88 3 86 2 Tryz.underlying88 size_env (by omega) w.heap.size 84 j hj
  obtain ⟨t, ht⟩ : ∃ t, t = (E.getD j ez).t := ⟨_, rfl⟩
  rw [← ht] at hrt hb ⊢
  have HW0 := Lib.hid hW0
  have hj0 : (0 : Int) ≤ (j : Int) := by omega
  have hj3 : (j : Int) < 3 := by omega
  clear hF hW0 h ht hj HKC
  obtain ⟨p, hp⟩ : ∃ p, p = walkF M t a := ⟨_, rfl⟩
  rw [← hp]
  have HP := Lib.hid hp
  clear hp
  obtain ⟨W1, hW1⟩ : ∃ W1, W1 = W0.alloc (.cells #[.int .i64 0, .int .i64 0, .bool false] 50) := ⟨_, rfl⟩
  have HB1 : Hid (Below W0.heap.size W0 W1) := Lib.hid (by rw [hW1]; exact (Below.refl _ _).alloc (Nat.le_refl _) _)
  have HT1 : Hid (W1.there W0.heap.size 0 3) := Lib.hid (by rw [hW1]; exact there_row (heap_alloc_new W0 _) (Nat.le_refl _))
  have HS1 : Hid (W0.heap.size < W1.heap.size) := Lib.hid (by rw [hW1]; simp)
  have HEND : Hid (∀ W (x y : Int) (b : Bool), Below W1.heap.size W1 W → Below w.heap.size w (W.setCells W0.heap.size 0 [.int .i64 x, .int .i64 y, .bool b]) ∧ (W.setCells W0.heap.size 0 [.int .i64 x, .int .i64 y, .bool b]).rangeAt W0.heap.size 0 [.int .i64 x, .int .i64 y, .bool b]) := Lib.hid (fun W x y b hW => ⟨Below.setCells (Below.refl _ _) _ (by have := HB0.out.size; omega) _ _ _ ((HB0.out.trans (HB1.out.mono HB0.out.size)).trans (hW.mono (by have := HB0.out.size; have := HS1.out; omega))), World.rangeAt_setCells_same _ _ _ _ (there_blocks HT1.out (hW.block _ HS1.out))⟩)
  have HTW : Hid (∀ W, Below W1.heap.size W1 W → W.there W0.heap.size 0 3) := Lib.hid (fun W hW => there_blocks HT1.out (hW.block _ HS1.out))
  have HW1 := Lib.hid hW1
  have hrt1 := (HB1.out.cell (p := ⟨w.heap.size, 84 + j * 2 + 1, none⟩) hz0).trans hrt
  clear hW1 HT1
  have HNONE : ∀ (x : WV), x = ⟨0, 0, false, 3⟩ → x.f = 0 ∧ x.t = 0 ∧ x.b = false ∧ x.c = 3 := fun x hx => by subst hx; exact ⟨rfl, rfl, rfl, rfl⟩
  by_cases ha : 0 ≤ a ∧ a < 64
  · have HA := Lib.hid (fun w => aI_yes a w ha.1 ha.2)
    by_cases h1 : t = -1
    · subst h1
      have HPE : Hid (p = ⟨0, 0, false, 3⟩) := Lib.hid (by rw [HP.out]; exact walk_bad (fun hh => by have := hh.2.1.1; omega))
      clear ha hb HNONE
      go_enter Tryz.func89, Tryz.ntmps89
      go_wp2_with (first | ((with_reducible refine box_is 101 (.tmp 0) ?_); refine box_arr 101 (.tmp 0) L.toArray rfl ?_; rw [← HW0.out]) | ((with_reducible refine alloc_is 50 ?_); refine alloc_arr 50 #[.int .i64 0, .int .i64 0, .bool false] (fun w => Tryz.zeroValue50 w) ?_; rw [← HW1.out]) | fail)
      refine (HA.out _).mono ?_
      rintro e w' ⟨rfl, rfl⟩
      go_wp2_with (first | ((with_reducible refine store_is 50 (.tmp 6) (.tmp 31) ?_); refine store_arr 50 (.tmp 6) (.tmp 31) W0.heap.size 0 #[.int .i64 0, .int .i64 0, .bool false] rfl rfl (HTW.out _ (Below.refl _ _)) info_place (by simp [Value.oneCell']) ?_) | fail)
      refine bodyPost_ret (results_cell_mid rfl _ _ W0.heap.size 0 [.int .i64 0, .int .i64 0, .bool false] _ rfl (HEND.out _ 0 0 false (Below.refl _ _)).2 Tryz.underlying50 rfl (by kernel_rfl)) rfl ?_
      rw [HPE.out]
      exact ⟨rfl, (HEND.out _ 0 0 false (Below.refl _ _)).1⟩
    · have h1' : (t == -1) = false := by simpa using h1
      have HWK := Lib.hid (fun W => HW.out W t (by omega) ha)
      rw [← HP.out] at HWK
      obtain ⟨pf, pt, pb, pc⟩ := p
      unfold WalkRes plV at HWK
      dsimp only at HWK
      have HME1 := Lib.hid (HME.out W1 HB1.out)
      clear ha hb h1 HNONE
      go_enter Tryz.func89, Tryz.ntmps89
      go_wp2_with (first | ((with_reducible refine box_is 101 (.tmp 0) ?_); refine box_arr 101 (.tmp 0) L.toArray rfl ?_; rw [← HW0.out]) | ((with_reducible refine alloc_is 50 ?_); refine alloc_arr 50 #[.int .i64 0, .int .i64 0, .bool false] (fun w => Tryz.zeroValue50 w) ?_; rw [← HW1.out]) | fail)
      refine (HA.out _).mono ?_
      rintro e w' ⟨rfl, rfl⟩
      go_wp2_with (first | ((with_reducible refine load_is 94 (.tmp 32) ?_); refine load_arr 94 (.tmp 32) w.heap.size 0 F _ rfl HME1.out Tryz.underlying94 rfl (info_mem HFL.out) ?_) | fail)
      refine (HWK.out _).mono ?_
      rintro e W2 ⟨rfl, hb2⟩
      have HB2 := Lib.hid hb2
      clear hb2
      go_wp2_with (first | ((with_reducible refine store_is 50 (.tmp 6) (.tmp 39) ?_); refine store_arr 50 (.tmp 6) (.tmp 39) W0.heap.size 0 #[.int .i64 pf, .int .i64 pt, .bool pb] rfl rfl (HTW.out _ HB2.out) info_place (by simp [Value.oneCell']) ?_) | fail)
      refine bodyPost_ret (results_cell_mid rfl _ _ W0.heap.size 0 [.int .i64 pf, .int .i64 pt, .bool pb] _ rfl (HEND.out _ pf pt pb HB2.out).2 Tryz.underlying50 rfl (by kernel_rfl)) rfl ?_
      exact ⟨rfl, (HEND.out _ pf pt pb HB2.out).1⟩
  · have HA := Lib.hid (fun w => aI_no a w (by omega))
    have HPE : Hid (p = ⟨0, 0, false, 3⟩) := Lib.hid (by rw [HP.out]; exact walk_bad (fun hh => ha ⟨hh.2.2.1, hh.2.2.2⟩))
    have HD : Hid ((t == -1) = decide (t = -1)) := Lib.hid rfl
    obtain ⟨q, hq⟩ : ∃ q, q = (t == -1) := ⟨_, rfl⟩
    have hq' := hq.symm
    clear ha hb HNONE hq HD
    cases q
    all_goals
      go_enter Tryz.func89, Tryz.ntmps89
      go_wp2_with (first | ((with_reducible refine box_is 101 (.tmp 0) ?_); refine box_arr 101 (.tmp 0) L.toArray rfl ?_; rw [← HW0.out]) | ((with_reducible refine alloc_is 50 ?_); refine alloc_arr 50 #[.int .i64 0, .int .i64 0, .bool false] (fun w => Tryz.zeroValue50 w) ?_; rw [← HW1.out]) | fail)
      refine (HA.out _).mono ?_
      rintro e w' ⟨rfl, rfl⟩
      go_wp2_with (first | ((with_reducible refine store_is 50 (.tmp 6) (.tmp 31) ?_); refine store_arr 50 (.tmp 6) (.tmp 31) W0.heap.size 0 #[.int .i64 0, .int .i64 0, .bool false] rfl rfl (HTW.out _ (Below.refl _ _)) info_place (by simp [Value.oneCell']) ?_) | fail)
      refine bodyPost_ret (results_cell_mid rfl _ _ W0.heap.size 0 [.int .i64 0, .int .i64 0, .bool false] _ rfl (HEND.out _ 0 0 false (Below.refl _ _)).2 Tryz.underlying50 rfl (by kernel_rfl)) rfl ?_
      rw [HPE.out]
      exact ⟨rfl, (HEND.out _ 0 0 false (Below.refl _ _)).1⟩
end Go.Proofs.YtcmmlgdfhkcmoaaGreat
namespace Go.Proofs.YtcmmlgdfhkcmoaaGreat
open Go.ChangeShapes Go.WideShapes Go.ChangeAt Go.RowKit Go.Maps
set_option linter.unusedVariables false
set_option linter.unusedSimpArgs false
set_option maxRecDepth 100000
theorem ret2K {x y : Int} {b : Bool} (h : x = y) : Ending.returned (.tuple #[.int .i64 x, .bool b]) = Ending.returned (.tuple #[.int .i64 y, .bool b]) := by rw [h]
theorem iofK_yes (p : Int) (w : World) (h0 : 0 ≤ p) (h1 : p < 16) :
    Calls Tryz.prog 208 #[.int .i64 p, .int .i64 0] w fun e w' => e = .returned (.tuple #[.int .i64 (4 * p), .bool true]) ∧ w = w' := by
  have h4 : p < 16 := by omega
  go_enter Tryz.func208, Tryz.ntmps208
  go_wp2
  go_ret2
  exact ⟨ret2K (by omega), rfl⟩
theorem walkF_none {M : List (List Int)} {t a : Int} (h : t < 0) : walkF M t a = ⟨0, 0, false, 3⟩ := walk_bad (fun hh => by have := hh.2.1.1; omega)
set_option maxHeartbeats 2000000 in
theorem translates_any (w : World) (M : List (List Int)) (I : List IV) (E : List EV) (bs : Nat → Nat) (R L : List Value) (h : KL w M I E bs R L) (x : CV) (hx : cvOk x = true) (hb : ∀ j, j < 3 → -1 ≤ (E.getD j ez).t ∧ (E.getD j ez).t ≤ 11) :
    Calls Tryz.prog 179 #[.agg L.toArray, cvV x] w (BRes (cach1 M E x) w) := by
  obtain ⟨xe, xp, xf, xb⟩ := x
  have hcv : (0 ≤ xe ∧ xe < 3) ∧ 0 ≤ xp ∧ xp < 16 := by
    unfold cvOk at hx
    rw [Bool.and_eq_true, Bool.and_eq_true, inR_iff, inR_iff] at hx
    dsimp only at hx
    omega
  obtain ⟨⟨e0, e3⟩, p0, p16⟩ := hcv
  obtain ⟨j, rfl⟩ := Int.eq_ofNat_of_zero_le e0
  have hj : j < 3 := by omega
  have hbj := hb j hj
  have HPL : Hid (∀ W, Below w.heap.size w W → Calls Tryz.prog 89 #[.agg L.toArray, .int .i64 (j : Int), .int .i64 (4 * xp)] W (WalkRes W (walkF M (E.getD j ez).t (4 * xp)))) := Lib.hid (fun W hW => place_any W M I E bs R L (h.below hW) j hj (4 * xp) hbj)
  have HIO := Lib.hid (fun w => iofK_yes xp w p0 p16)
  have HLL := Lib.hid h.len
  have hce : cach1 M E ⟨(j : Int), xp, xf, xb⟩ = decide ((walkF M (E.getD j ez).t (4 * xp)).c = 0 ∧ (walkF M (E.getD j ez).t (4 * xp)).f = xf ∧ (walkF M (E.getD j ez).t (4 * xp)).b = xb) := by
    unfold cach1
    dsimp only
    rw [show rootOf E (j : Int) = (E.getD j ez).t from by unfold rootOf; rw [Int.toNat_natCast]]
    by_cases h0 : 0 ≤ (E.getD j ez).t
    · rw [decide_eq_true h0, Bool.true_and]
    · rw [decide_eq_false h0, Bool.false_and, walkF_none (by omega)]
      symm
      exact decide_eq_false (fun hh => by have := hh.1; dsimp only at this; omega)
  rw [hce]
  obtain ⟨p, hp⟩ : ∃ p, p = walkF M (E.getD j ez).t (4 * xp) := ⟨_, rfl⟩
  rw [← hp] at HPL ⊢
  obtain ⟨pf, pt, pb, pc⟩ := p
  unfold WalkRes plV at HPL
  dsimp only at HPL ⊢
  have HD : Hid (decide (pc = 0 ∧ pf = xf ∧ pb = xb) = ((pc == 0) && ((pf == xf) && (pb == xb)))) := Lib.hid (by
    rw [Bool.eq_iff_iff, decide_eq_true_iff]; simp)
  rw [HD.out]
  obtain ⟨q1, hq1⟩ : ∃ q, q = (pc == 0) := ⟨_, rfl⟩
  obtain ⟨q2, hq2⟩ : ∃ q, q = (pf == xf) := ⟨_, rfl⟩
  obtain ⟨q3, hq3⟩ : ∃ q, q = (pb == xb) := ⟨_, rfl⟩
  rw [← hq1, ← hq2, ← hq3]
  have HQ1 := Lib.hid hq1.symm
  have HQ2 := Lib.hid hq2.symm
  have HQ3 := Lib.hid hq3.symm
  clear hq1 hq2 hq3 HD
  obtain ⟨W0, hW0⟩ : ∃ W0, W0 = w.alloc (.cells L.toArray 101) := ⟨_, rfl⟩
  obtain ⟨W1, hW1⟩ : ∃ W1, W1 = W0.alloc (.cells #[.int .i64 (j : Int), .int .i64 xp, .int .i64 xf, .bool xb] 55) := ⟨_, rfl⟩
  have HB0 : Hid (Below w.heap.size w W0) := Lib.hid (by rw [hW0]; exact (Below.refl _ _).alloc (Nat.le_refl _) _)
  have HB1 : Hid (Below w.heap.size w W1) := Lib.hid (by rw [hW1]; exact HB0.out.alloc HB0.out.size _)
  have HB01 : Hid (Below W0.heap.size W0 W1) := Lib.hid (by rw [hW1]; exact (Below.refl _ _).alloc (Nat.le_refl _) _)
  have HZ0 : Hid (w.heap.size < W0.heap.size) := Lib.hid (by rw [hW0]; simp)
  have HZ1 : Hid (W0.heap.size < W1.heap.size) := Lib.hid (by rw [hW1]; simp)
  have HR0 : Hid (W1.rangeAt w.heap.size 0 L) := Lib.hid (range_blocks (by rw [hW0]; exact range_row (heap_alloc_new w _)) (HB01.out.block _ HZ0.out))
  have HXC : Hid (∀ W, Below W1.heap.size W1 W → W.cell? ⟨W0.heap.size, 0, none⟩ = some (.int .i64 (j : Int)) ∧ W.cell? ⟨W0.heap.size, 1, none⟩ = some (.int .i64 xp) ∧ W.cell? ⟨W0.heap.size, 2, none⟩ = some (.int .i64 xf) ∧ W.cell? ⟨W0.heap.size, 3, none⟩ = some (.bool xb)) := Lib.hid (fun W hW => by
    have e : ∀ i v, (#[.int .i64 (j : Int), .int .i64 xp, .int .i64 xf, .bool xb] : Array Value)[i]? = some v → W.cell? ⟨W0.heap.size, i, none⟩ = some v := fun i v hv => (hW.cell (p := ⟨W0.heap.size, i, none⟩) HZ1.out).trans (by rw [hW1]; exact new_cell hv)
    exact ⟨e 0 _ rfl, e 1 _ rfl, e 2 _ rfl, e 3 _ rfl⟩)
  have HW0 := Lib.hid hW0
  have HW1 := Lib.hid hW1
  obtain ⟨c0, c1, c2, c3⟩ := HXC.out W1 (Below.refl _ _)
  clear hW0 hW1 h hce hp hx hb hbj e0
  go_enter Tryz.func179, Tryz.ntmps179
  go_wp2_with (first | ((with_reducible refine box_is 101 (.tmp 0) ?_); refine box_arr 101 (.tmp 0) L.toArray rfl ?_; rw [← HW0.out]) | ((with_reducible refine box_is 55 (.tmp 1) ?_); refine box_arr 55 (.tmp 1) #[.int .i64 (j : Int), .int .i64 xp, .int .i64 xf, .bool xb] rfl ?_; rw [← HW1.out]) | fail)
  refine (HIO.out _).mono ?_
  rintro _ w' ⟨rfl, rfl⟩
  go_wp2_with (first | ((with_reducible refine load_is 101 (.tmp 2) ?_); refine load_arr 101 (.tmp 2) w.heap.size 0 L _ rfl HR0.out Tryz.underlying101 rfl (info_kernel HLL.out) ?_) | fail)
  refine (HPL.out W1 HB1.out).mono ?_
  rintro _ W2 ⟨rfl, hb2⟩
  clear c0 c1 c2 c3
  obtain ⟨c0, c1, c2, c3⟩ := HXC.out W2 hb2
  have HBE : Hid (∀ o, Below w.heap.size w (W2.alloc o)) := Lib.hid (fun o => (HB1.out.trans (hb2.mono HB1.out.size)).alloc (by have := HB1.out.size; have := hb2.size; omega) o)
  have hz2 : W0.heap.size < W2.heap.size := by have := HZ1.out; have := hb2.size; omega
  clear hb2
  have hq1 := HQ1.out
  have hq2 := HQ2.out
  have hq3 := HQ3.out
  cases q1
  · go_wp2_with fail
    go_ret
    exact ⟨rfl, HBE.out _⟩
  · cases q2
    · go_wp2_with fail
      go_ret
      exact ⟨rfl, HBE.out _⟩
    · go_wp2_with fail
      go_ret
      exact ⟨rfl, HBE.out _⟩
set_option maxHeartbeats 2000000 in
theorem current_any (W : World) (X Q : Nat) (M : List (List Int)) (I : List IV) (E : List EV) (bs : Nat → Nat) (R L : List Value) (h : KC W X M I E bs R L) (v : Value) (C : List CV) (hq : W.cell? ⟨Q, 0, none⟩ = some v) (hc : Cs W v C) (hok : cOk C = true) (hb : ∀ j, j < 3 → -1 ≤ (E.getD j ez).t ∧ (E.getD j ez).t ≤ 11) (i : Nat) (hi : i < C.length) :
    Calls Tryz.prog 178 #[.int .i64 i, .pointer (some ⟨X, 0, none⟩), .pointer (some ⟨Q, 0, none⟩)] W (BRes (cach1 M E (C.getD i c0)) W) := by
  have hcv := ((cOk_iff C).1 hok).1 (C.getD i c0) (by rw [getD_lt hi]; exact List.getElem_mem _)
  have HT := Lib.hid (translates_any W.drew M I E bs R L (h.l.below (Below.refl _ _).drew) (C.getD i c0) hcv hb)
  obtain ⟨a, cap, rfl, h1, h2, h3⟩ := hc
  unfold maxLen at h2
  obtain ⟨g, o, rfl, hf⟩ := h3 i hi
  obtain ⟨n, hn⟩ : ∃ n, n = C.length := ⟨_, rfl⟩
  rw [← hn] at h1 hi hq
  obtain ⟨x, hx⟩ : ∃ x, x = C.getD i c0 := ⟨_, rfl⟩
  rw [← hx] at HT hf ⊢
  have HLL := Lib.hid h.l.len
  have FS : Hid (∀ W', Below W.heap.size W W' → W'.rangeAt X 0 L ∧ W'.cell? ⟨Q, 0, none⟩ = some (.slice (some ⟨g, o, none⟩) n cap) ∧ W'.cell? ⟨g, o + i * 4, none⟩ = some (.int .i64 x.e) ∧ W'.cell? ⟨g, o + i * 4 + 1, none⟩ = some (.int .i64 x.p) ∧ W'.cell? ⟨g, o + i * 4 + 2, none⟩ = some (.int .i64 x.f) ∧ W'.cell? ⟨g, o + i * 4 + 3, none⟩ = some (.bool x.b)) := Lib.hid (fun W' hb => by
    have hf' := hf.below hb (cell_lt hf.c0)
    exact ⟨(h.below hb).at0, (hb.cell (p := ⟨Q, 0, none⟩) (cell_lt hq)).trans hq, hf'.c0, hf'.c1, hf'.c2, hf'.c3⟩)
  have HIX : Hid (∀ W' : World, W'.rangeAt X 0 L → (do let l ← Instr.loadAt 101 (.pointer (some ⟨X, 0, none⟩)); pure (Next.value l) : Sem Next).run Tryz.prog W' = .ok (.value (.agg L.toArray)) W') := Lib.hid (fun W' hh => load_run 101 X 0 L _ hh Tryz.underlying101 rfl (info_kernel HLL.out))
  have hi0 : (0 : Int) ≤ (i : Int) := by omega
  have hin : (i : Int) < (n : Int) := by omega
  generalize cach1 M E x = r at HT ⊢
  clear h hcv hf h3 hn hx hok hb hq
  go_enter Tryz.func178, Tryz.ntmps178
  go_wp2_with fail
  refine wp_region_held_drew (S := fun w' => w'.rangeAt X 0 L ∧ w'.cell? ⟨Q, 0, none⟩ = some (.slice (some ⟨g, o, none⟩) n cap) ∧ w'.cell? ⟨g, o + i * 4, none⟩ = some (.int .i64 x.e) ∧ w'.cell? ⟨g, o + i * 4 + 1, none⟩ = some (.int .i64 x.p) ∧ w'.cell? ⟨g, o + i * 4 + 2, none⟩ = some (.int .i64 x.f) ∧ w'.cell? ⟨g, o + i * 4 + 3, none⟩ = some (.bool x.b)) (by kernel_rfl) (FS.out _ (Below.refl _ _).drew) (fun hHeld => ?_)
  refine wpAnyH_take (i := 0) (oi := { dst := some 5, op := .load 101 (.tmp 1), type := _, pos := _, after := _, guard := none }) (v := .agg L.toArray) rfl (by kernel_rfl) (by kernel_rfl) (by kernel_rfl) (fun _ _ _ h => h) (Or.inl ⟨by rfl, fun wh hSw => ?_⟩) hHeld ?_
  · (simp only [execOp]; exact HIX.out _ hSw.1)
  try simp only [Act.put, List.setIfInBounds_toArray, List.set_cons_zero, List.set_cons_succ]
  refine wpAnyH_take (i := 1) (oi := { dst := some 6, op := .load 28 (.tmp 2), type := _, pos := _, after := _, guard := none }) (v := .slice (some ⟨g, o, none⟩) n cap) rfl (by kernel_rfl) (by kernel_rfl) (by kernel_rfl) (fun _ _ _ h => h) (Or.inl ⟨by rfl, fun wh hSw => ?_⟩) hHeld ?_
  · (obtain ⟨s0, s1, s2, s3, s4, s5⟩ := hSw; go_simp)
  try simp only [Act.put, List.setIfInBounds_toArray, List.set_cons_zero, List.set_cons_succ]
  refine wpAnyH_take (i := 2) (oi := { dst := some 7, op := .move (.tmp 0), type := _, pos := _, after := _, guard := none }) (v := .int .i64 (i : Int)) rfl (by kernel_rfl) (by kernel_rfl) (by kernel_rfl) (fun _ _ _ h => h) (Or.inl ⟨by rfl, fun wh hSw => ?_⟩) hHeld ?_
  · (obtain ⟨s0, s1, s2, s3, s4, s5⟩ := hSw; go_simp)
  try simp only [Act.put, List.setIfInBounds_toArray, List.set_cons_zero, List.set_cons_succ]
  refine wpAnyH_take (i := 3) (oi := { dst := some 8, op := .indexAddr 28 (.tmp 6) (.tmp 7), type := _, pos := _, after := _, guard := none }) (v := .pointer (some ⟨g, o + i * 4, none⟩)) rfl (by kernel_rfl) (by kernel_rfl) (by kernel_rfl) (fun _ _ _ h => h) (Or.inl ⟨by rfl, fun wh hSw => ?_⟩) hHeld ?_
  · (obtain ⟨s0, s1, s2, s3, s4, s5⟩ := hSw; go_simp)
  try simp only [Act.put, List.setIfInBounds_toArray, List.set_cons_zero, List.set_cons_succ]
  refine wpAnyH_take (i := 4) (oi := { dst := some 9, op := .load 55 (.tmp 8), type := _, pos := _, after := _, guard := none }) (v := cvV x) rfl (by kernel_rfl) (by kernel_rfl) (by kernel_rfl) (fun _ _ _ h => h) (Or.inl ⟨by rfl, fun wh hSw => ?_⟩) hHeld ?_
  · (obtain ⟨s0, s1, s2, s3, s4, s5⟩ := hSw; go_simp)
  try simp only [Act.put, List.setIfInBounds_toArray, List.set_cons_zero, List.set_cons_succ]
  refine wpAnyH_ready (rs := [5]) (by kernel_rfl) (by simp) ?_
  refine AllReadyH.cons (o := { dst := some 10, op := .call { callee := .value (.func 179), args := #[.tmp 5, .tmp 9], argTypes := #[101, 55] }, type := _, pos := _, after := _, guard := none }) rfl (fun K hK => ?_) AllReadyH.nil
  go_simp
  refine HT.out.mono ?_
  rintro _ w1 ⟨rfl, hb1⟩
  have HBE : Hid (Below W.heap.size W w1) := Lib.hid ((Below.refl W.heap.size W).drew.trans (hb1.mono (Nat.le_refl _)))
  clear hb1
  try go_simp
  refine hK.out _ _ ?_ (fun hHeld => ?_)
  · exact FS.out _ HBE.out
  clear hK K
  try simp only [Act.put, List.setIfInBounds_toArray, List.set_cons_zero, List.set_cons_succ]
  refine wpAnyH_take (i := 6) (oi := { dst := some 4, op := .assign (.tmp 10), type := _, pos := _, after := _, guard := none }) (v := .bool r) rfl (by kernel_rfl) (by kernel_rfl) (by kernel_rfl) (fun _ _ _ h => h) (Or.inl ⟨by rfl, fun wh hSw => ?_⟩) hHeld ?_
  · (obtain ⟨s0, s1, s2, s3, s4, s5⟩ := hSw; go_simp)
  try simp only [Act.put, List.setIfInBounds_toArray, List.set_cons_zero, List.set_cons_succ]
  refine wpAnyH_done (by kernel_rfl) ?_ _
  go_wp2_with fail
  go_ret
  exact ⟨rfl, HBE.out⟩
end Go.Proofs.YtcmmlgdfhkcmoaaGreat
namespace Go.Proofs.YtcmmlgdfhkcmoaaGreat
open Go.ChangeShapes Go.WideShapes Go.ChangeAt Go.RowKit Go.Maps
set_option linter.unusedVariables false
set_option linter.unusedSimpArgs false
set_option maxRecDepth 100000
theorem wp_alloc_mid {P : Program} {op : Oper} {a : Act} {w : World} {K : Act → World → Prop} {Q : Exit → Act → World → Prop} (t : TypeId) (ho : op.op = .alloc t)
    (z : Array Value) (hz : ∀ w, (zeroValue t).run P w = .ok (.agg z) w)
    (h : K (a.put op.dst (.pointer (some ⟨w.heap.size, 0, none⟩))) (w.alloc (.cells z t))) : op.wp P a w K Q := by
  unfold Oper.wp execOp
  simp only [ho, Instr.alloc, Sem.run_bind, Sem.run_pure, Result.andThen_ok, hz]
  exact h
theorem SetAt.ne_there {w : World} {b c n : Nat} {xs : List Bs} (h : SetAt w b xs) (ht : w.there c 0 n) (hn : 0 < n) : b ≠ c := by
  rintro rfl
  obtain ⟨m, D, hm, ho, hs⟩ := h
  obtain ⟨es, clock, hb, F, hz, hD⟩ := ho
  have h1 := (ht 0 hn).1
  unfold World.cell? at h1
  simp [hb] at h1
theorem SetAt.stored {w : World} {b c : Nat} {xs : List Bs} (h : SetAt w b xs) (hne : b ≠ c) (C : List Value) : SetAt (w.setCells c 0 C) b xs := by
  have hb := Below.setCells (Below.refl c w) c (Nat.le_refl _) C 0 w (Below.refl _ _)
  exact h.kept (row := some c) ⟨hb.os, hb.tape, hb.output, hb.size, fun i hi hne => (heap_setCells_other w c C 0 w i (fun e => hne (by rw [e])))⟩ (by intro e; injection e with e; exact hne e)
theorem KC.row {W : World} {X : Nat} {M : List (List Int)} {I : List IV} {E : List EV} {bs : Nat → Nat} {R L : List Value} (h : KC W X M I E bs R L) {f : Nat} (hf : f < 12) : W.rangeAt X (f * 4) ((M.getD f []).map (Value.int .i64)) := fun j v hv => by
  have hl := mem_row h.l.m hf
  have hj : j < 4 := by
    have := (List.getElem?_eq_some_iff.1 hv).1
    rw [List.length_map] at this
    omega
  rw [h.word hf hj, ← hv, List.getElem?_map, List.getElem?_eq_getElem (by omega)]
  unfold wd
  rw [getD_lt (l := M.getD f []) (by omega)]
  rfl
end Go.Proofs.YtcmmlgdfhkcmoaaGreat
