/- A list sorted and freed of repeats is the ascending list of its numbers; what slices.Sort and slices.Compact do to a slice of numbers in a block of its own. -/
import Derived.Test.YtdockkmodjbfpaaIntsW
import Derived.Test.YtdockkmodjbfpaaLay
import Derived.Shelf.Sort.Plain
import Derived.Shelf.Slices.CompactI
import Derived.Shelf.Slices.In.SortNone
import Derived.Lib.SortBridge
namespace Go.Proofs.Ytdockkmodjbfpaa
open Go.ChangeShapes Go.WideShapes Go.ChangeAt Go.RowKit Go.Shelf
set_option linter.unusedVariables false

theorem asc_same : ∀ {a b : List Int}, a.Pairwise (· < ·) → b.Pairwise (· < ·) → (∀ x, x ∈ a ↔ x ∈ b) → a = b
  | [], [], _, _, _ => rfl
  | [], y :: b, _, _, h => by have := (h y).2 (List.mem_cons_self ..); cases this
  | x :: a, [], _, _, h => by have := (h x).1 (List.mem_cons_self ..); cases this
  | x :: a, y :: b, ha, hb, h => by
    obtain ⟨ha1, ha2⟩ := List.pairwise_cons.1 ha
    obtain ⟨hb1, hb2⟩ := List.pairwise_cons.1 hb
    have e : x = y := by
      rcases List.mem_cons.1 ((h x).1 (List.mem_cons_self ..)) with e | e
      · exact e
      · rcases List.mem_cons.1 ((h y).2 (List.mem_cons_self ..)) with e' | e'
        · exact e'.symm
        · have := ha1 _ e'
          have := hb1 _ e
          omega
    subst e
    refine congrArg _ (asc_same ha2 hb2 (fun z => ?_))
    constructor
    · intro hz
      rcases List.mem_cons.1 ((h z).1 (List.mem_cons_of_mem _ hz)) with e | e
      · have := ha1 _ hz
        omega
      · exact e
    · intro hz
      rcases List.mem_cons.1 ((h z).2 (List.mem_cons_of_mem _ hz)) with e | e
      · have := hb1 _ hz
        omega
      · exact e
theorem srt_lt (l : List Int) (k : Nat) : (srt l k).Pairwise (· < ·) := by
  unfold srt
  rw [List.pairwise_map]
  exact (List.pairwise_lt_range.filter _).imp (fun h => by omega)
theorem upTo_asc (zs : List Int) (hs : zs.Pairwise (· ≤ ·)) : ∀ m, m ≤ zs.length → (Lib.compactUpTo zs.toArray m).Pairwise (· < ·) ∧ (∀ x, x ∈ Lib.compactUpTo zs.toArray m ↔ ∃ j, j < m ∧ zs.toArray[j]! = x) := by
  intro m
  induction m with
  | zero =>
    intro _
    refine ⟨by simp [Lib.compactUpTo], fun x => ?_⟩
    constructor
    · intro h
      simp [Lib.compactUpTo] at h
    · rintro ⟨j, hj, _⟩
      omega
  | succ m ih =>
    intro hm
    obtain ⟨h1, h2⟩ := ih (by omega)
    have hmono : ∀ i j, i < j → j < zs.length → zs.toArray[i]! ≤ zs.toArray[j]! := by
      intro i j hij hj
      have := List.pairwise_iff_getElem.1 hs i j (by omega) hj hij
      simpa [getElem!_pos, hj, show i < zs.length by omega] using this
    rw [Lib.compactUpTo_succ]
    by_cases hk : Lib.keeps zs.toArray m = true
    · rw [if_pos hk]
      refine ⟨?_, fun x => ?_⟩
      · rw [List.pairwise_append]
        refine ⟨h1, List.pairwise_singleton _ _, fun x hx y hy => ?_⟩
        rw [List.mem_singleton] at hy
        subst hy
        obtain ⟨j, hj, rfl⟩ := (h2 x).1 hx
        unfold Lib.keeps at hk
        have hk := of_decide_eq_true hk
        have h3 := hmono j m hj (by omega)
        have h4 : j ≤ m - 1 := by omega
        have h5 : zs.toArray[j]! ≤ zs.toArray[m - 1]! := by
          by_cases e : j = m - 1
          · rw [e]; exact Int.le_refl _
          · exact hmono j (m - 1) (by omega) (by omega)
        have h6 := hmono (m - 1) m (by omega) (by omega)
        rcases hk with hk | hk
        · omega
        · omega
      · rw [List.mem_append, List.mem_singleton, h2 x]
        constructor
        · rintro (⟨j, hj, e⟩ | e)
          · exact ⟨j, by omega, e⟩
          · exact ⟨m, by omega, e.symm⟩
        · rintro ⟨j, hj, e⟩
          by_cases hjm : j = m
          · exact .inr (by rw [← e, hjm])
          · exact .inl ⟨j, by omega, e⟩
    · rw [if_neg hk, List.append_nil]
      refine ⟨h1, fun x => ?_⟩
      rw [h2 x]
      constructor
      · rintro ⟨j, hj, e⟩
        exact ⟨j, by omega, e⟩
      · rintro ⟨j, hj, e⟩
        by_cases hjm : j = m
        · subst hjm
          have hk' : ¬ (j = 0 ∨ zs.toArray[j]! ≠ zs.toArray[j - 1]!) := fun hh => hk (by unfold Lib.keeps; exact decide_eq_true hh)
          have h0 : j ≠ 0 := fun e => hk' (.inl e)
          have h1 : zs.toArray[j]! = zs.toArray[j - 1]! := by
            by_cases e : zs.toArray[j]! = zs.toArray[j - 1]!
            · exact e
            · exact absurd (.inr e) hk'
          exact ⟨j - 1, by omega, by rw [← e, h1]⟩
        · exact ⟨j, by omega, e⟩
theorem arr_get (zs : List Int) {j : Nat} (hj : j < zs.length) : zs.toArray[j]! = zs[j] := by simp [hj]
theorem compact_srt (l : List Int) (h : ∀ x ∈ l, 0 ≤ x ∧ x < 12) : Lib.compact (l.mergeSort fun x y => decide (x ≤ y)) = srt l 12 := by
  have hs : (l.mergeSort fun x y => decide (x ≤ y)).Pairwise (· ≤ ·) := by
    have := List.pairwise_mergeSort (le := fun x y : Int => decide (x ≤ y)) (by intro a b c; simp; omega) (by intro a b; simp; omega) l
    exact this.imp (fun h => by simpa using h)
  obtain ⟨h1, h2⟩ := upTo_asc _ hs _ (Nat.le_refl _)
  refine asc_same h1 (srt_lt l 12) (fun x => ?_)
  unfold Lib.compact
  rw [h2 x]
  have hm : (∃ j, j < (l.mergeSort fun x y => decide (x ≤ y)).length ∧ (l.mergeSort fun x y => decide (x ≤ y)).toArray[j]! = x) ↔ x ∈ l := by
    rw [← List.mem_mergeSort (le := fun x y : Int => decide (x ≤ y)), List.mem_iff_getElem]
    constructor
    · rintro ⟨j, hj, e⟩
      exact ⟨j, hj, by rw [← e]; exact (arr_get _ hj).symm⟩
    · rintro ⟨j, hj, e⟩
      exact ⟨j, hj, by rw [← e]; exact arr_get _ hj⟩
  rw [hm]
  constructor
  · intro hx
    exact mem_srt (h x hx).1 (h x hx).2 hx
  · intro hx
    exact (srt_mem hx).2.2

theorem below_put {n0 b off q : Nat} {w : World} {d : Array Int} {os : Array Obj} (h : n0 ≤ b) (hb : b < w.heap.size) : Below n0 w (Sort.grow (Sort.putRow (Value.int .i64) (Sort.ahead w q) b off d) os) :=
  ⟨rfl, rfl, rfl, by simp [Sort.grow, Sort.putRow, Sort.mapBlock, Sort.ahead], fun k hk => by
    show ((w.heap.modify b _) ++ os)[k]? = _
    rw [Array.getElem?_append_left (by simp; omega), Array.getElem?_modify, if_neg (by omega)]⟩
theorem IntsW.holds {w : World} {B0 B1 g p cap n : Nat} {xs : List Int} (h : IntsW w B0 B1 (.slice (some ⟨g, p, none⟩) n cap) xs) : Sort.Holds (Value.int .i64) w g p xs.toArray := by
  obtain ⟨a, c, e, h1, h2, h3⟩ := h
  intro j hj
  have hj' : j < xs.length := by simpa using hj
  obtain ⟨g', p', e', _, _, hc, hf⟩ := h3 j hj'
  injection e with e1 _ _
  subst e1
  injection e' with e'
  injection e' with e1 e2
  subst e1
  subst e2
  refine ⟨?_, hf⟩
  rw [hc, getD_lt hj']
  simp [getElem!_pos, hj']
theorem intsW_put {w : World} {B0 B1 g p cap q n : Nat} {xs ys zs : List Int} {os : Array Obj} (h : IntsW w B0 B1 (.slice (some ⟨g, p, none⟩) n cap) xs) (hn : n = xs.length) (hg0 : B0 ≤ g) (hg1 : g < w.heap.size) (hy : (ys ++ zs).length = xs.length) :
    IntsW (Sort.grow (Sort.putRow (Value.int .i64) (Sort.ahead w q) g p (ys ++ zs).toArray) os) B0 (Sort.grow (Sort.putRow (Value.int .i64) (Sort.ahead w q) g p (ys ++ zs).toArray) os).heap.size (.slice (some ⟨g, p, none⟩) ys.length cap) ys := by
  have hH := h.holds
  obtain ⟨a, c, e, h1, h2, h3⟩ := h
  injection e with e1 e2 e3
  subst e3
  rw [List.length_append] at hy
  refine ⟨some ⟨g, p, none⟩, cap, rfl, by omega, h2, fun i hi => ⟨g, p, rfl, hg0, by simp; omega, ?_, ?_⟩⟩
  · have h4 := Sort.cell?_putRow (Value.int .i64) (Sort.ahead w q) g p xs.toArray (ys ++ zs).toArray (Sort.holds_ahead _ _ _ _ _ _ hH) (by simp; omega) i (by simp; omega)
    have h5 : (ys ++ zs).toArray[i]! = ys.getD i 0 := by
      rw [getD_lt hi]
      simp [getElem!_pos, hi, List.getElem_append_left, show i < ys.length + zs.length by omega]
    rw [h5] at h4
    rw [Sort.cell?_grow _ os _ (World.block_lt_of_cell? _ _ h4)]
    exact h4
  · have hb : (Sort.grow (Sort.putRow (Value.int .i64) (Sort.ahead w q) g p (ys ++ zs).toArray) os).heap[g]? = (Sort.putRow (Value.int .i64) (Sort.ahead w q) g p (ys ++ zs).toArray).heap[g]? := Sort.heap_grow_old _ os (by simp; omega)
    rw [World.frozen?_of_block hb, Sort.frozen?_putRow]
    exact (hH i (by simp; omega)).2

theorem sort_any (w : World) (B0 : Nat) (v : Value) (xs : List Int) (h : IntsW w B0 w.heap.size v xs) (hl : xs.length ≤ 1000) (hB : B0 ≤ w.heap.size) :
    Calls Try.prog 75 #[v] w fun e w' => e = .returned (.tuple #[]) ∧ IntsW w' B0 w'.heap.size v (xs.mergeSort fun x y => decide (x ≤ y)) ∧ Below B0 w w' := by
  have h0 := h
  obtain ⟨a, cap, rfl, h1, h2, h3⟩ := h
  by_cases hx : xs = []
  · subst hx
    refine (Any.slices_Sort_int_none laySort a cap w).mono ?_
    rintro e w' ⟨rfl, rfl⟩
    exact ⟨rfl, by simpa [List.mergeSort] using h0, Below.refl _ _⟩
  · have hx0 : 0 < xs.length := by
      cases xs with
      | nil => exact absurd rfl hx
      | cons x xs => simp
    obtain ⟨g, p, rfl, hg0, hg1, _⟩ := h3 0 hx0
    refine (Any.slices_Sort_int laySort g p cap xs w h0.holds hg1 (by omega)).mono ?_
    rintro e w' ⟨rfl, q, os, rfl⟩
    refine ⟨rfl, ?_, below_put hg0 hg1⟩
    have h4 := intsW_put (q := q) (ys := xs.mergeSort fun x y => decide (x ≤ y)) (zs := []) (os := os) h0 rfl hg0 hg1 (by simp)
    simpa using h4
theorem compact_any (w : World) (B0 : Nat) (v : Value) (xs : List Int) (h : IntsW w B0 w.heap.size v xs) (hl : xs.length ≤ 1000) (hB : B0 ≤ w.heap.size) :
    Calls Try.prog 66 #[v] w fun e w' => ∃ v', e = .returned v' ∧ IntsW w' B0 w'.heap.size v' (Lib.compact xs) ∧ Below B0 w w' := by
  have h0 := h
  obtain ⟨a, cap, rfl, h1, h2, h3⟩ := h
  by_cases hx : xs = []
  · subst hx
    refine (Any.slices_Compact_int_empty layCompact a cap w).mono ?_
    rintro e w' ⟨rfl, rfl⟩
    exact ⟨_, rfl, h0, Below.refl _ _⟩
  · have hx0 : 0 < xs.length := by
      cases xs with
      | nil => exact absurd rfl hx
      | cons x xs => simp
    obtain ⟨g, p, rfl, hg0, hg1, _⟩ := h3 0 hx0
    refine (Any.slices_Compact_int layCompact g p cap xs w h0.holds (by omega) h1).mono ?_
    rintro e w' ⟨rfl, q, rfl⟩
    have hlen : (Lib.compact xs).length ≤ xs.length := by
      unfold Lib.compact Lib.compactUpTo
      rw [List.length_map]
      exact Nat.le_trans (List.length_filter_le _ _) (by simp)
    refine ⟨_, rfl, ?_, ?_⟩
    · have h4 := intsW_put (q := q) (ys := Lib.compact xs) (zs := List.replicate (xs.length - (Lib.compact xs).length) 0) (os := #[]) h0 rfl hg0 hg1 (by simp; omega)
      rwa [Sort.grow_empty] at h4
    · have h5 := below_put (q := q) (off := p) (d := (Lib.compact xs ++ List.replicate (xs.length - (Lib.compact xs).length) 0).toArray) (os := #[]) hg0 hg1
      rwa [Sort.grow_empty] at h5
end Go.Proofs.Ytdockkmodjbfpaa
