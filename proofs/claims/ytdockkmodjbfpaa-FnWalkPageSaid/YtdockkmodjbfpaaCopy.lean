/- What the reference's copy of a memory returns: rows of their own with the same numbers, in new blocks; nothing that was there changes. -/
import Derived.Test.YtdockkmodjbfpaaHeld
import Derived.OwnWalk
import Derived.Laws.AppendOwn
import Derived.Maps.AppendAt
namespace Go.Proofs.Ytdockkmodjbfpaa
open Go.ChangeShapes Go.WideShapes Go.ChangeAt Go.RowKit
set_option linter.unusedVariables false

theorem add0 (g j : Nat) : (⟨g, 0, none⟩ : Addr).add j = ⟨g, j, none⟩ := by unfold Addr.add; split <;> simp_all
/-- a matrix of numbers in blocks from B0 to B1-1, its rows apart -/
def MatW (w : World) (B0 B1 : Nat) (v : Value) (xss : List (List Int)) : Prop :=
  ∃ (a : Option Addr) (cap : Nat) (A : Nat → Option Addr) (C : Nat → Nat), v = .slice a xss.length cap ∧ xss.length ≤ cap ∧ cap ≤ maxLen ∧
    MatAt w B0 B1 a xss.length A (fun j => (xss.getD j []).length) C (fun j i => (xss.getD j []).getD i 0)
theorem MatW.rows {w : World} {B0 B1 : Nat} {v : Value} {xss : List (List Int)} (h : MatW w B0 B1 v xss) : Rows2 w v xss := by
  obtain ⟨a, cap, A, C, rfl, h1, h2, h3⟩ := h
  exact h3.rows h1 h2 (fun _ _ => rfl) (fun _ _ _ _ => rfl)
theorem MatW.of_blocks {w w' : World} {B0 B1 : Nat} {v : Value} {xss : List (List Int)} (h : MatW w B0 B1 v xss) (e : ∀ b, B0 ≤ b → b < B1 → w'.heap[b]? = w.heap[b]?) : MatW w' B0 B1 v xss := by
  obtain ⟨a, cap, A, C, rfl, h1, h2, h3⟩ := h
  exact ⟨a, cap, A, C, rfl, h1, h2, h3.of_blocks e⟩

theorem own_apart {w : World} {B1 B2 : Nat} {e1 e2 : TypeId} {v1 v2 : Value} {n1 n2 : Nat} {x1 x2 : List Value} (h1 : w.ownsRow B1 e1 1 v1 n1 x1) (h2 : w.ownsRow B2 e2 1 v2 n2 x2) (he : e1 ≠ e2) {g : Nat}
    (hg : v2.ownBlock = some g) : v1.ownBlock ≠ some g := by
  intro hh
  rcases h1.2 with ⟨rfl, _⟩ | ⟨g1, c1, cur1, rfl, _, hb1, _⟩
  · simp [Value.ownBlock] at hh
  rcases h2.2 with ⟨rfl, _⟩ | ⟨g2, c2, cur2, rfl, _, hb2, _⟩
  · simp [Value.ownBlock] at hg
  simp [Value.ownBlock] at hh hg
  subst hh
  subst hg
  rw [hb1] at hb2
  simp at hb2
  exact he hb2.2

/-- a row of numbers in a block of its own -/
def RowG (w : World) (B g : Nat) (V : Value) (xs : List Int) : Prop := w.ownsRow B 3 1 V xs.length (xs.map (.int .i64)) ∧ V.ownBlock = some g
theorem RowG.mono {w : World} {B B' g : Nat} {V : Value} {xs : List Int} (h : RowG w B g V xs) (hB : B' ≤ B) : RowG w B' g V xs := by
  refine ⟨⟨h.1.1, ?_⟩, h.2⟩
  rcases h.1.2 with hn | ⟨g', cap, cur, e, hb, rest⟩
  · exact .inl hn
  · exact .inr ⟨g', cap, cur, e, by omega, rest⟩

theorem own_slice {w : World} {B : Nat} {e : TypeId} {v : Value} {n : Nat} {x : List Value} (h : w.ownsRow B e 1 v n x) (hn : 0 < n) : ∃ g c, v = .slice (some ⟨g, 0, none⟩) n c := by
  rcases h.2 with ⟨_, hz⟩ | ⟨g, c, _, rfl, _⟩
  · omega
  · exact ⟨g, c, rfl⟩
theorem ints_one (xs : List Int) : ∀ u ∈ xs.map (Value.int .i64), u.oneCell' = true := fun u hu => by
  obtain ⟨x, _, rfl⟩ := List.mem_map.1 hu
  rfl
structure CRel (w : World) (xss : List (List Int)) (k : Nat) (v : Value) (wr : World) (V : Nat → Value) (G : Nat → Nat) : Prop where
  own : wr.ownsRow w.heap.size 34 1 v k ((List.range k).map V)
  rows : ∀ j, j < k → RowG wr w.heap.size (G j) (V j) (xss.getD j [])
  inj : ∀ i, i < k → ∀ j, j < k → G i = G j → i = j
  bel : Below w.heap.size w wr

theorem CRel.start (w : World) (xss : List (List Int)) : CRel w xss 0 (.slice (some ⟨w.heap.size, 0, none⟩) 0 0) (w.alloc (.cells #[] 34)) (fun _ => undef) (fun _ => 0) :=
  ⟨World.ownsRow_made w #[] 0 (Nat.le_refl _) (Nat.zero_le _) rfl, fun j hj => by omega, fun i hi => by omega, (Below.refl _ _).alloc (Nat.le_refl _) _⟩

theorem CRel.step {w wr w1 w2 : World} {xss : List (List Int)} {k : Nat} {v v1 v2 : Value} {V : Nat → Value} {G : Nat → Nat} {xs : List Int} {o1 o2 : Obj} (h : CRel w xss k v wr V G)
    (hx : xss.getD k [] = xs) (hpos : 0 < xs.length)
    (ho1 : w1.ownsRow wr.heap.size 3 1 v1 xs.length (xs.map (.int .i64))) (hg1 : (wr.alloc o1).grownBy w1 (some wr.heap.size))
    (ho2 : w2.ownsRow w.heap.size 34 1 v2 (k + 1) ((List.range k).map V ++ [v1])) (hg2 : (w1.alloc o2).grownBy w2 v.ownBlock) :
    ∃ V' G', CRel w xss (k + 1) v2 w2 V' G' := by
  have hsz := h.bel.size
  have hs1 : wr.heap.size + 1 ≤ w1.heap.size := by have := hg1.size; simpa using this
  obtain ⟨g1, e1, hb1⟩ : ∃ g, v1.ownBlock = some g ∧ wr.heap.size ≤ g := by
    rcases ho1.2 with ⟨_, hn⟩ | ⟨g, cap, cur, rfl, hb, _⟩
    · omega
    · exact ⟨g, rfl, hb⟩
  have hg1lt := (ho1.lt g1 e1).2
  have hvlt : ∀ b, v.ownBlock = some b → w.heap.size ≤ b ∧ b < wr.heap.size := h.own.lt
  have hold : ∀ j, j < k → G j < wr.heap.size := fun j hj => ((h.rows j hj).1.lt _ (h.rows j hj).2).2
  have hrow2 : RowG w2 wr.heap.size g1 v1 xs := ⟨((ho1.alloc o2).kept hg2 (.inr (fun e => by have := hvlt g1 (e.symm.trans e1); omega))), e1⟩
  refine ⟨fun j => if j = k then v1 else V j, fun j => if j = k then g1 else G j, ⟨?_, fun j hj => ?_, fun i hi j hj hij => ?_, ?_⟩⟩
  · have : (List.range (k + 1)).map (fun j => if j = k then v1 else V j) = (List.range k).map V ++ [v1] := by
      rw [List.range_succ, List.map_append]
      congr 1
      · exact List.map_congr_left (fun j hj => by have := List.mem_range.1 hj; rw [if_neg (by omega)])
      · simp
    rw [this]; exact ho2
  · by_cases hjk : j = k
    · subst hjk
      simp only [if_true]
      rw [hx]
      exact hrow2.mono hsz
    · simp only [if_neg hjk]
      have hr := h.rows j (by omega)
      have hG := hold j (by omega)
      refine ⟨?_, hr.2⟩
      have a1 := (hr.1.alloc o1).kept hg1 (.inr (by rw [hr.2]; intro e; injection e with e; omega))
      have a0 : v.ownBlock ≠ some (G j) := own_apart h.own hr.1 (by decide) hr.2
      exact (a1.alloc o2).kept hg2 (.inr (by rw [hr.2]; exact fun e => a0 e.symm))
  · by_cases h1 : i = k <;> by_cases h2 : j = k
    · omega
    · simp only [h1, if_true, if_neg h2] at hij
      have := hold j (by omega); omega
    · simp only [h2, if_true, if_neg h1] at hij
      have := hold i (by omega); omega
    · simp only [if_neg h1, if_neg h2] at hij
      exact h.inj i (by omega) j (by omega) hij
  · have b1 := (h.bel.alloc hsz o1).grown hg1 (by simp; omega) (fun b hb => by injection hb with hb; omega)
    exact (b1.alloc (by omega) o2).grown hg2 (by simp; omega) (fun b hb => (hvlt b hb).1)

theorem CRel.own_mid {w wr w1 : World} {xss : List (List Int)} {k : Nat} {v : Value} {V : Nat → Value} {G : Nat → Nat} {o1 o2 : Obj} (h : CRel w xss k v wr V G) (hg1 : (wr.alloc o1).grownBy w1 (some wr.heap.size)) :
    (w1.alloc o2).ownsRow w.heap.size 34 1 v k ((List.range k).map V) :=
  ((h.own.alloc o1).kept hg1 (by
    cases hv : v.ownBlock with
    | none => exact .inl rfl
    | some b => exact .inr (fun e => by injection e with e; have := h.own.lt b hv; omega))).alloc o2
theorem CRel.mat {w wr : World} {xss : List (List Int)} {n : Nat} {v : Value} {V : Nat → Value} {G : Nat → Nat} (h : CRel w xss n v wr V G) (hn : n = xss.length) (h0 : 0 < n) (hne : ∀ j, j < n → 0 < (xss.getD j []).length) :
    MatW wr w.heap.size wr.heap.size v xss := by
  subst hn
  rcases h.own.2 with ⟨_, hz⟩ | ⟨g, cap, cur, rfl, hb, hbl, hnc, hcm, hcs, htk⟩
  · omega
  have hgl := (Array.getElem?_eq_some_iff.1 hbl).1
  have each : ∀ j, j < xss.length → ∃ c, V j = .slice (some ⟨G j, 0, none⟩) (xss.getD j []).length c ∧ (xss.getD j []).length ≤ c ∧ c ≤ maxLen := fun j hj => by
    rcases (h.rows j hj).1.2 with ⟨_, hz⟩ | ⟨g', c, cur', e, _, _, h1, h2, _⟩
    · have := hne j hj; omega
    · have h3 := (h.rows j hj).2
      rw [e] at h3 ⊢
      simp [Value.ownBlock] at h3
      subst h3
      exact ⟨c, rfl, h1, h2⟩
  have hcell : ∀ j, j < xss.length → wr.cell? ⟨g, j, none⟩ = some (V j) := fun j hj => by
    have := h.own.cells (g := g) rfl j (V j) (by simp [hj])
    rwa [add0] at this
  obtain ⟨C, hC⟩ : ∃ C : Nat → Nat, ∀ j, j < xss.length → V j = .slice (some ⟨G j, 0, none⟩) (xss.getD j []).length (C j) ∧ (xss.getD j []).length ≤ C j ∧ C j ≤ maxLen :=
    ⟨fun j => if hj : j < xss.length then (each j hj).choose else 0, fun j hj => by simp only [hj, dif_pos]; exact (each j hj).choose_spec⟩
  refine ⟨some ⟨g, 0, none⟩, cap, fun j => some ⟨G j, 0, none⟩, C, rfl, hnc, hcm, ⟨fun j hj => ?_, fun j hj i hi => ?_, fun j hj j' hj' hne' _ _ g1 p1 g2 p2 e1 e2 => ?_⟩⟩
  · have hc := hC j hj
    exact ⟨g, 0, rfl, hb, hgl, by rw [Nat.zero_add, hcell j hj, hc.1], hc.2.1, hc.2.2, by simp [World.frozen?, hbl]⟩
  · have hr := h.rows j hj
    have hlt := hr.1.lt _ hr.2
    have hcl := hr.1.cells (g := G j) hr.2 i (.int .i64 ((xss.getD j []).getD i 0)) (by rw [getD_lt hi]; simp)
    rw [add0] at hcl
    refine ⟨G j, 0, rfl, hlt.1, hlt.2, by rw [Nat.zero_add]; exact hcl, ?_, fun b o e => ?_⟩
    · rcases hr.1.2 with ⟨_, hz⟩ | ⟨g', c, cur', e, _, hbb, _⟩
      · omega
      · have h3 := hr.2
        rw [e] at h3
        simp [Value.ownBlock] at h3
        subst h3
        simp [World.frozen?, hbb]
    · injection e with e
      injection e with e e'
      subst e
      intro hh
      exact own_apart h.own hr.1 (by decide) hr.2 (by rw [hh]; rfl)
  · injection e1 with e1; injection e1 with e1 _
    injection e2 with e2; injection e2 with e2 _
    exact .inl (fun hh => hne' (h.inj j hj j' hj' (by omega)))

/-- a copy: a matrix in new blocks -/
def ToMat (xss : List (List Int)) (w : World) (e : Ending) (w' : World) : Prop := ∃ v, e = .returned v ∧ MatW w' w.heap.size w'.heap.size v xss ∧ Below w.heap.size w w'

end Go.Proofs.Ytdockkmodjbfpaa
