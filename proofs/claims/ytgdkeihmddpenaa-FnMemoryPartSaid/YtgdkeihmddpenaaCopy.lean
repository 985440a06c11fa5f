/- What the reference's copy of a memory returns: rows of their own with the same numbers, in new blocks; nothing that was there changes. -/
import Derived.Test.YtgdkeihmddpenaaHeld
import Derived.OwnWalk
import Derived.Laws.AppendOwn
import Derived.Maps.AppendAt
namespace Go.Proofs.Ytgdkeihmddpenaa
open Go.ChangeShapes Go.WideShapes Go.ChangeAt Go.RowKit
set_option linter.unusedVariables false

theorem add0 (g j : Nat) : (⟨g, 0, none⟩ : Addr).add j = ⟨g, j, none⟩ := by unfold Addr.add; split <;> simp_all
/-- a matrix of numbers in blocks from B0 to B1-1, its rows apart -/
def MatW (w : World) (B0 B1 : Nat) (v : Value) (xss : List (List Int)) : Prop :=
  ∃ (a : Option Addr) (cap : Nat) (A : Nat → Option Addr) (C : Nat → Nat), v = .slice a xss.length cap ∧ xss.length ≤ cap ∧ cap ≤ maxLen ∧
    MatAt w B0 B1 a xss.length A (fun j => (xss.getD j []).length) C (fun j i => (xss.getD j []).getD i 0)
theorem MatW.rows {w : World} {B0 B1 : Nat} {v : Value} {xss : List (List Int)} (h : MatW w B0 B1 v xss) : Rows2 w v xss := by
  obtain ⟨a, cap, A, C, rfl, h1, h2, h3⟩ := h
  exact h3.rows h1 h2 (fun _ _ => rfl) (fun _ _ _ _ => rfl)
theorem MatW.of_blocks {w w' : World} {B0 B1 : Nat} {v : Value} {xss : List (List Int)} (h : MatW w B0 B1 v xss) (e : ∀ b, B0 ≤ b → b < B1 → w'.heap[b]? = w.heap[b]?) : MatW w' B0 B1 v xss := by
  obtain ⟨a, cap, A, C, rfl, h1, h2, h3⟩ := h
  exact ⟨a, cap, A, C, rfl, h1, h2, h3.of_blocks e⟩

theorem own_apart {w : World} {B1 B2 : Nat} {e1 e2 : TypeId} {v1 v2 : Value} {n1 n2 : Nat} {x1 x2 : List Value} (h1 : w.ownsRow B1 e1 1 v1 n1 x1) (h2 : w.ownsRow B2 e2 1 v2 n2 x2) (he : e1 ≠ e2) {g : Nat}
    (hg : v2.ownBlock = some g) : v1.ownBlock ≠ some g := by
  intro hh
  rcases h1.2 with ⟨rfl, _⟩ | ⟨g1, c1, cur1, rfl, _, hb1, _⟩
  · simp [Value.ownBlock] at hh
  rcases h2.2 with ⟨rfl, _⟩ | ⟨g2, c2, cur2, rfl, _, hb2, _⟩
  · simp [Value.ownBlock] at hg
  simp [Value.ownBlock] at hh hg
  subst hh
  subst hg
  rw [hb1] at hb2
  simp at hb2
  exact he hb2.2

/-- a row of numbers in a block of its own -/
def RowG (w : World) (B g : Nat) (V : Value) (xs : List Int) : Prop := w.ownsRow B 3 1 V xs.length (xs.map (.int .i64)) ∧ V.ownBlock = some g
theorem RowG.mono {w : World} {B B' g : Nat} {V : Value} {xs : List Int} (h : RowG w B g V xs) (hB : B' ≤ B) : RowG w B' g V xs := by
  refine ⟨⟨h.1.1, ?_⟩, h.2⟩
  rcases h.1.2 with hn | ⟨g', cap, cur, e, hb, rest⟩
  · exact .inl hn
  · exact .inr ⟨g', cap, cur, e, by omega, rest⟩

theorem own_slice {w : World} {B : Nat} {e : TypeId} {v : Value} {n : Nat} {x : List Value} (h : w.ownsRow B e 1 v n x) (hn : 0 < n) : ∃ g c, v = .slice (some ⟨g, 0, none⟩) n c := by
  rcases h.2 with ⟨_, hz⟩ | ⟨g, c, _, rfl, _⟩
  · omega
  · exact ⟨g, c, rfl⟩
theorem ints_one (xs : List Int) : ∀ u ∈ xs.map (Value.int .i64), u.oneCell' = true := fun u hu => by
  obtain ⟨x, _, rfl⟩ := List.mem_map.1 hu
  rfl
structure CRel (w : World) (xss : List (List Int)) (k : Nat) (v : Value) (wr : World) (V : Nat → Value) (G : Nat → Nat) : Prop where
  own : wr.ownsRow w.heap.size 28 1 v k ((List.range k).map V)
  rows : ∀ j, j < k → RowG wr w.heap.size (G j) (V j) (xss.getD j [])
  inj : ∀ i, i < k → ∀ j, j < k → G i = G j → i = j
  bel : Below w.heap.size w wr

theorem CRel.start (w : World) (xss : List (List Int)) : CRel w xss 0 (.slice (some ⟨w.heap.size, 0, none⟩) 0 0) (w.alloc (.cells #[] 28)) (fun _ => undef) (fun _ => 0) :=
  ⟨World.ownsRow_made w #[] 0 (Nat.le_refl _) (Nat.zero_le _) rfl, fun j hj => by omega, fun i hi => by omega, (Below.refl _ _).alloc (Nat.le_refl _) _⟩

theorem CRel.step {w wr w1 w2 : World} {xss : List (List Int)} {k : Nat} {v v1 v2 : Value} {V : Nat → Value} {G : Nat → Nat} {xs : List Int} {o1 o2 : Obj} (h : CRel w xss k v wr V G)
    (hx : xss.getD k [] = xs) (hpos : 0 < xs.length)
    (ho1 : w1.ownsRow wr.heap.size 3 1 v1 xs.length (xs.map (.int .i64))) (hg1 : (wr.alloc o1).grownBy w1 (some wr.heap.size))
    (ho2 : w2.ownsRow w.heap.size 28 1 v2 (k + 1) ((List.range k).map V ++ [v1])) (hg2 : (w1.alloc o2).grownBy w2 v.ownBlock) :
    ∃ V' G', CRel w xss (k + 1) v2 w2 V' G' := by
  have hsz := h.bel.size
  have hs1 : wr.heap.size + 1 ≤ w1.heap.size := by have := hg1.size; simpa using this
  obtain ⟨g1, e1, hb1⟩ : ∃ g, v1.ownBlock = some g ∧ wr.heap.size ≤ g := by
    rcases ho1.2 with ⟨_, hn⟩ | ⟨g, cap, cur, rfl, hb, _⟩
    · omega
    · exact ⟨g, rfl, hb⟩
  have hg1lt := (ho1.lt g1 e1).2
  have hvlt : ∀ b, v.ownBlock = some b → w.heap.size ≤ b ∧ b < wr.heap.size := h.own.lt
  have hold : ∀ j, j < k → G j < wr.heap.size := fun j hj => ((h.rows j hj).1.lt _ (h.rows j hj).2).2
  have hrow2 : RowG w2 wr.heap.size g1 v1 xs := ⟨((ho1.alloc o2).kept hg2 (.inr (fun e => by have := hvlt g1 (e.symm.trans e1); omega))), e1⟩
  refine ⟨fun j => if j = k then v1 else V j, fun j => if j = k then g1 else G j, ⟨?_, fun j hj => ?_, fun i hi j hj hij => ?_, ?_⟩⟩
  · have : (List.range (k + 1)).map (fun j => if j = k then v1 else V j) = (List.range k).map V ++ [v1] := by
      rw [List.range_succ, List.map_append]
      congr 1
      · exact List.map_congr_left (fun j hj => by have := List.mem_range.1 hj; rw [if_neg (by omega)])
      · simp
    rw [this]; exact ho2
  · by_cases hjk : j = k
    · subst hjk
      simp only [if_true]
      rw [hx]
      exact hrow2.mono hsz
    · simp only [if_neg hjk]
      have hr := h.rows j (by omega)
      have hG := hold j (by omega)
      refine ⟨?_, hr.2⟩
      have a1 := (hr.1.alloc o1).kept hg1 (.inr (by rw [hr.2]; intro e; injection e with e; omega))
      have a0 : v.ownBlock ≠ some (G j) := own_apart h.own hr.1 (by decide) hr.2
      exact (a1.alloc o2).kept hg2 (.inr (by rw [hr.2]; exact fun e => a0 e.symm))
  · by_cases h1 : i = k <;> by_cases h2 : j = k
    · omega
    · simp only [h1, if_true, if_neg h2] at hij
      have := hold j (by omega); omega
    · simp only [h2, if_true, if_neg h1] at hij
      have := hold i (by omega); omega
    · simp only [if_neg h1, if_neg h2] at hij
      exact h.inj i (by omega) j (by omega) hij
  · have b1 := (h.bel.alloc hsz o1).grown hg1 (by simp; omega) (fun b hb => by injection hb with hb; omega)
    exact (b1.alloc (by omega) o2).grown hg2 (by simp; omega) (fun b hb => (hvlt b hb).1)

theorem CRel.own_mid {w wr w1 : World} {xss : List (List Int)} {k : Nat} {v : Value} {V : Nat → Value} {G : Nat → Nat} {o1 o2 : Obj} (h : CRel w xss k v wr V G) (hg1 : (wr.alloc o1).grownBy w1 (some wr.heap.size)) :
    (w1.alloc o2).ownsRow w.heap.size 28 1 v k ((List.range k).map V) :=
  ((h.own.alloc o1).kept hg1 (by
    cases hv : v.ownBlock with
    | none => exact .inl rfl
    | some b => exact .inr (fun e => by injection e with e; have := h.own.lt b hv; omega))).alloc o2
theorem CRel.mat {w wr : World} {xss : List (List Int)} {n : Nat} {v : Value} {V : Nat → Value} {G : Nat → Nat} (h : CRel w xss n v wr V G) (hn : n = xss.length) (h0 : 0 < n) (hne : ∀ j, j < n → 0 < (xss.getD j []).length) :
    MatW wr w.heap.size wr.heap.size v xss := by
  subst hn
  rcases h.own.2 with ⟨_, hz⟩ | ⟨g, cap, cur, rfl, hb, hbl, hnc, hcm, hcs, htk⟩
  · omega
  have hgl := (Array.getElem?_eq_some_iff.1 hbl).1
  have each : ∀ j, j < xss.length → ∃ c, V j = .slice (some ⟨G j, 0, none⟩) (xss.getD j []).length c ∧ (xss.getD j []).length ≤ c ∧ c ≤ maxLen := fun j hj => by
    rcases (h.rows j hj).1.2 with ⟨_, hz⟩ | ⟨g', c, cur', e, _, _, h1, h2, _⟩
    · have := hne j hj; omega
    · have h3 := (h.rows j hj).2
      rw [e] at h3 ⊢
      simp [Value.ownBlock] at h3
      subst h3
      exact ⟨c, rfl, h1, h2⟩
  have hcell : ∀ j, j < xss.length → wr.cell? ⟨g, j, none⟩ = some (V j) := fun j hj => by
    have := h.own.cells (g := g) rfl j (V j) (by simp [hj])
    rwa [add0] at this
  obtain ⟨C, hC⟩ : ∃ C : Nat → Nat, ∀ j, j < xss.length → V j = .slice (some ⟨G j, 0, none⟩) (xss.getD j []).length (C j) ∧ (xss.getD j []).length ≤ C j ∧ C j ≤ maxLen :=
    ⟨fun j => if hj : j < xss.length then (each j hj).choose else 0, fun j hj => by simp only [hj, dif_pos]; exact (each j hj).choose_spec⟩
  refine ⟨some ⟨g, 0, none⟩, cap, fun j => some ⟨G j, 0, none⟩, C, rfl, hnc, hcm, ⟨fun j hj => ?_, fun j hj i hi => ?_, fun j hj j' hj' hne' _ _ g1 p1 g2 p2 e1 e2 => ?_⟩⟩
  · have hc := hC j hj
    exact ⟨g, 0, rfl, hb, hgl, by rw [Nat.zero_add, hcell j hj, hc.1], hc.2.1, hc.2.2, by simp [World.frozen?, hbl]⟩
  · have hr := h.rows j hj
    have hlt := hr.1.lt _ hr.2
    have hcl := hr.1.cells (g := G j) hr.2 i (.int .i64 ((xss.getD j []).getD i 0)) (by rw [getD_lt hi]; simp)
    rw [add0] at hcl
    refine ⟨G j, 0, rfl, hlt.1, hlt.2, by rw [Nat.zero_add]; exact hcl, ?_, fun b o e => ?_⟩
    · rcases hr.1.2 with ⟨_, hz⟩ | ⟨g', c, cur', e, _, hbb, _⟩
      · omega
      · have h3 := hr.2
        rw [e] at h3
        simp [Value.ownBlock] at h3
        subst h3
        simp [World.frozen?, hbb]
    · injection e with e
      injection e with e e'
      subst e
      intro hh
      exact own_apart h.own hr.1 (by decide) hr.2 (by rw [hh]; rfl)
  · injection e1 with e1; injection e1 with e1 _
    injection e2 with e2; injection e2 with e2 _
    exact .inl (fun hh => hne' (h.inj j hj j' hj' (by omega)))

/-- a copy: a matrix in new blocks -/
def ToMat (xss : List (List Int)) (w : World) (e : Ending) (w' : World) : Prop := ∃ v, e = .returned v ∧ MatW w' w.heap.size w'.heap.size v xss ∧ Below w.heap.size w w'

theorem l2Copy_any (w : World) (v : Value) (xss : List (List Int)) (h : Rows2 w v xss) (hn : xss.length ≤ 100) (h0 : 0 < xss.length) (hlen : ∀ j, j < xss.length → 0 < (xss.getD j []).length ∧ (xss.getD j []).length ≤ 1000) :
    Calls Try.prog 47 #[v] w (ToMat xss w) := by
  obtain ⟨a, ca, rfl, hla, hma, hxa⟩ := h
  unfold maxLen at hma
  obtain ⟨n, hN⟩ : ∃ n, n = xss.length := ⟨_, rfl⟩
  rw [← hN] at hla hxa hn h0 hlen ⊢
  have HN := Lib.hid hN
  clear hN
  have HLEN := Lib.hid hlen
  clear hlen
  obtain ⟨i0, hi, hz0, hz1, hz2⟩ := info_parts intInfo
  obtain ⟨i1, hj, hy0, hy1, hy2⟩ := info_parts intsInfo
  have HI := Lib.hid hi
  have HJ := Lib.hid hj
  have HZ0 := Lib.hid hz0
  have HZ1 := Lib.hid hz1
  have HZ2 := Lib.hid hz2
  have HY0 := Lib.hid hy0
  have HY1 := Lib.hid hy1
  have HY2 := Lib.hid hy2
  clear hi hj hz0 hz1 hz2 hy0 hy1 hy2
  go_enter Try.func47, Try.ntmps47
  go_wp2
  go_loopw [3, 4] (fun u i wr => ∃ (k : Nat) (V : Nat → Value) (G : Nat → Nat), k ≤ n ∧ i = .int .i64 k ∧ CRel w xss k u wr V G) (fun _ i _ => n - (intOf i).toNat)
  case atStart => exact ⟨0, _, _, Nat.zero_le _, rfl, CRel.start w xss⟩
  case round =>
    obtain ⟨k, V, G, hk, rfl, hrel⟩ := hrel
    by_cases hlt : k < n
    · obtain ⟨b, o, u, rfl, hc, hu⟩ := hxa k hlt
      have hb := cell_lt hc
      have hcr := (hrel.bel.cell (p := ⟨b, o + k, none⟩) hb).trans hc
      have hur := Ints.below (B := 0) hu hrel.bel
      have hl := HLEN.out k hlt
      obtain ⟨xs, hxs⟩ : ∃ xs, xs = xss.getD k [] := ⟨_, rfl⟩
      rw [← hxs] at hur hl
      have HXS := Lib.hid hxs
      clear hxs hu hc hxa
      obtain ⟨ra, rc, rfl, hr1, hr2, hr3⟩ := hur
      obtain ⟨rb, ro, rfl, _⟩ := hr3 0 hl.1
      have hlt' : (k : Int) < (n : Int) := by omega
      have HR3 := Lib.hid hr3
      clear hr3
      have hcr' : (wr.alloc (.cells #[] 3)).cell? ⟨b, o + k, none⟩ = some (.slice (some ⟨rb, ro, none⟩) xs.length rc) := (World.cell?_alloc_past _ _ _ (cell_lt hcr)).trans hcr
      have HNEWS : Hid (∀ j y, (xs.map (Value.int .i64))[j]? = some y → (wr.alloc (.cells #[] 3)).cell? ((⟨rb, ro, none⟩ : Addr).add j) = some y) := Lib.hid (fun j y hy => by
        have hj : j < xs.length := by
          rcases Nat.lt_or_ge j xs.length with h' | h'
          · exact h'
          · simp [List.getElem?_eq_none h'] at hy
        obtain ⟨b', o', e', hcell⟩ := HR3.out j hj
        injection e' with e'
        injection e' with e1 e2
        subst e1
        subst e2
        have : (⟨rb, ro, none⟩ : Addr).add j = ⟨rb, ro + j, none⟩ := by unfold Addr.add; split <;> simp_all
        rw [this, World.cell?_alloc_past _ _ _ (by have := cell_lt hcell; exact this), hcell]
        simpa [List.getElem?_map, getD_lt hj, hj] using hy)
      go_wp2_with (first
        | (at_builtin; refine wpList_append_own _ rfl (.tmp 13) (.tmp 17) 28 rfl wr.heap.size 3 i0 (.int .i64 0) 1 8 Try.underlying28 HI.out HZ0.out HZ1.out HZ2.out rfl (by decide) _ _ _ rfl (World.ownsRow_made wr #[] 0 (Nat.le_refl _) (Nat.zero_le _) rfl) ⟨rb, ro, none⟩ xs.length rc (xs.map (.int .i64)) rfl (by simp) HNEWS.out (ints_one xs) (by unfold maxLen; omega) (by omega) (by simp) ?_; intro v1 w1 hown1 hgrow1 _; simp only [Nat.zero_add, List.nil_append] at hown1; obtain ⟨g1, c1, rfl⟩ := own_slice hown1 hl.1; replace hgrow1 : (wr.alloc (.cells #[] 3)).grownBy w1 (some wr.heap.size) := hgrow1; have hsz1 := hgrow1.size; simp at hsz1; have hszr := hrel.bel.size)
        | (at_builtin; refine wpList_append_own _ rfl (.tmp 12) (.tmp 19) 23 rfl w.heap.size 28 i1 (.slice none 0 0) 1 24 Try.underlying23 HJ.out HY0.out HY1.out HY2.out rfl (by decide) _ _ _ rfl (hrel.own_mid hgrow1) ⟨w1.heap.size, 0, none⟩ 1 1 [.slice (some ⟨g1, 0, none⟩) xs.length c1] rfl rfl (cell_one_new _ _ _) (by intro u hu; simp at hu; subst hu; rfl) (by unfold maxLen; omega) (by omega) (by simp; omega) ?_; intro v2 w2 hown2 hgrow2 _))
      have HREL : Hid (∃ V' G', CRel w xss (k + 1) v2 w2 V' G') := Lib.hid (hrel.step HXS.out.symm hl.1 hown1 hgrow1 hown2 hgrow2)
      clear hown1 hgrow1 hown2 hgrow2 hrel
      go_wp2
      go_roundw
      case rel =>
        obtain ⟨V', G', hR⟩ := HREL.out
        exact ⟨k + 1, V', G', by omega, by go_num, hR⟩
      case measure => simp [intOf]; omega
    · go_wp2
      go_ret
      have e : k = n := by omega
      subst e
      exact ⟨_, rfl, hrel.mat HN.out h0 (fun j hj => (HLEN.out j hj).1), hrel.bel⟩
end Go.Proofs.Ytgdkeihmddpenaa
