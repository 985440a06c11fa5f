/- What the proofs stand on, part 6. -/
import Derived.Test.YtaalnjinocicgaaRows
import Derived.Test.YtaalnjinocicgaaW1
import Derived.Test.YtaalnjinocicgaaW3
set_option linter.unusedSimpArgs false
set_option linter.unusedVariables false
namespace Go.Proofs.Ytaalnjinocicgaa
open Go.ChangeShapes Go.WideShapes Go.ChangeAt Go.RowKit
set_option linter.unusedVariables false
theorem own_apart {w : World} {B1 B2 : Nat} {e1 e2 : TypeId} {v1 v2 : Value} {n1 n2 : Nat} {x1 x2 : List Value} (h1 : w.ownsRow B1 e1 1 v1 n1 x1) (h2 : w.ownsRow B2 e2 1 v2 n2 x2) (he : e1 ≠ e2) {g : Nat}
    (hg : v2.ownBlock = some g) : v1.ownBlock ≠ some g := by
  intro hh
  rcases h1.2 with ⟨rfl, _⟩ | ⟨g1, c1, cur1, rfl, _, hb1, _⟩
  · simp [Value.ownBlock] at hh
  rcases h2.2 with ⟨rfl, _⟩ | ⟨g2, c2, cur2, rfl, _, hb2, _⟩
  · simp [Value.ownBlock] at hg
  simp [Value.ownBlock] at hh hg
  subst hh
  subst hg
  rw [hb1] at hb2
  simp at hb2
  exact he hb2.2
def RowG (w : World) (B g : Nat) (V : Value) (xs : List Int) : Prop := w.ownsRow B 3 1 V xs.length (xs.map (.int .i64)) ∧ V.ownBlock = some g
theorem RowG.mono {w : World} {B B' g : Nat} {V : Value} {xs : List Int} (h : RowG w B g V xs) (hB : B' ≤ B) : RowG w B' g V xs := by
  refine ⟨⟨h.1.1, ?_⟩, h.2⟩
  rcases h.1.2 with hn | ⟨g', cap, cur, e, hb, rest⟩
  · exact .inl hn
  · exact .inr ⟨g', cap, cur, e, by omega, rest⟩
theorem own_slice {w : World} {B : Nat} {e : TypeId} {v : Value} {n : Nat} {x : List Value} (h : w.ownsRow B e 1 v n x) (hn : 0 < n) : ∃ g c, v = .slice (some ⟨g, 0, none⟩) n c := by
  rcases h.2 with ⟨_, hz⟩ | ⟨g, c, _, rfl, _⟩
  · omega
  · exact ⟨g, c, rfl⟩
structure CRel (w : World) (xss : List (List Int)) (k : Nat) (v : Value) (wr : World) (V : Nat → Value) (G : Nat → Nat) : Prop where
  own : wr.ownsRow w.heap.size 24 1 v k ((List.range k).map V)
  rows : ∀ j, j < k → RowG wr w.heap.size (G j) (V j) (xss.getD j [])
  inj : ∀ i, i < k → ∀ j, j < k → G i = G j → i = j
  bel : Below w.heap.size w wr
theorem CRel.start (w : World) (xss : List (List Int)) : CRel w xss 0 (.slice (some ⟨w.heap.size, 0, none⟩) 0 0) (w.alloc (.cells #[] 24)) (fun _ => undef) (fun _ => 0) :=
  ⟨World.ownsRow_made w #[] 0 (Nat.le_refl _) (Nat.zero_le _) rfl, fun j hj => by omega, fun i hi => by omega, (Below.refl _ _).alloc (Nat.le_refl _) _⟩
theorem CRel.step {w wr w1 w2 : World} {xss : List (List Int)} {k : Nat} {v v1 v2 : Value} {V : Nat → Value} {G : Nat → Nat} {xs : List Int} {o1 o2 : Obj} (h : CRel w xss k v wr V G)
    (hx : xss.getD k [] = xs) (hsl : ∃ g c, v1 = .slice (some ⟨g, 0, none⟩) xs.length c)
    (ho1 : w1.ownsRow wr.heap.size 3 1 v1 xs.length (xs.map (.int .i64))) (hg1 : (wr.alloc o1).grownBy w1 (some wr.heap.size))
    (ho2 : w2.ownsRow w.heap.size 24 1 v2 (k + 1) ((List.range k).map V ++ [v1])) (hg2 : (w1.alloc o2).grownBy w2 v.ownBlock) :
    ∃ V' G', CRel w xss (k + 1) v2 w2 V' G' := by
  have hsz := h.bel.size
  have hs1 : wr.heap.size + 1 ≤ w1.heap.size := by have := hg1.size; simpa using this
  obtain ⟨g1, e1, hb1⟩ : ∃ g, v1.ownBlock = some g ∧ wr.heap.size ≤ g := by
    obtain ⟨g0, c0, e0⟩ := hsl
    rcases ho1.2 with ⟨e1, hn⟩ | ⟨g, cap, cur, rfl, hb, _⟩
    · rw [e0] at e1; cases e1
    · exact ⟨g, rfl, hb⟩
  have hg1lt := (ho1.lt g1 e1).2
  have hvlt : ∀ b, v.ownBlock = some b → w.heap.size ≤ b ∧ b < wr.heap.size := h.own.lt
  have hold : ∀ j, j < k → G j < wr.heap.size := fun j hj => ((h.rows j hj).1.lt _ (h.rows j hj).2).2
  have hrow2 : RowG w2 wr.heap.size g1 v1 xs := ⟨((ho1.alloc o2).kept hg2 (.inr (fun e => by have := hvlt g1 (e.symm.trans e1); omega))), e1⟩
  refine ⟨fun j => if j = k then v1 else V j, fun j => if j = k then g1 else G j, ⟨?_, fun j hj => ?_, fun i hi j hj hij => ?_, ?_⟩⟩
  · have : (List.range (k + 1)).map (fun j => if j = k then v1 else V j) = (List.range k).map V ++ [v1] := by
      rw [List.range_succ, List.map_append]
      congr 1
      · exact List.map_congr_left (fun j hj => by have := List.mem_range.1 hj; rw [if_neg (by omega)])
      · simp
    rw [this]; exact ho2
  · by_cases hjk : j = k
    · subst hjk
      simp only [if_true]
      rw [hx]
      exact hrow2.mono hsz
    · simp only [if_neg hjk]
      have hr := h.rows j (by omega)
      have hG := hold j (by omega)
      refine ⟨?_, hr.2⟩
      have a1 := (hr.1.alloc o1).kept hg1 (.inr (by rw [hr.2]; intro e; injection e with e; omega))
      have a0 : v.ownBlock ≠ some (G j) := own_apart h.own hr.1 (by decide) hr.2
      exact (a1.alloc o2).kept hg2 (.inr (by rw [hr.2]; exact fun e => a0 e.symm))
  · by_cases h1 : i = k <;> by_cases h2 : j = k
    · omega
    · simp only [h1, if_true, if_neg h2] at hij
      have := hold j (by omega); omega
    · simp only [h2, if_true, if_neg h1] at hij
      have := hold i (by omega); omega
    · simp only [if_neg h1, if_neg h2] at hij
      exact h.inj i (by omega) j (by omega) hij
  · have b1 := (h.bel.alloc hsz o1).grown hg1 (by simp; omega) (fun b hb => by injection hb with hb; omega)
    exact (b1.alloc (by omega) o2).grown hg2 (by simp; omega) (fun b hb => (hvlt b hb).1)
theorem CRel.own_mid {w wr w1 : World} {xss : List (List Int)} {k : Nat} {v : Value} {V : Nat → Value} {G : Nat → Nat} {o1 o2 : Obj} (h : CRel w xss k v wr V G) (hg1 : (wr.alloc o1).grownBy w1 (some wr.heap.size)) :
    (w1.alloc o2).ownsRow w.heap.size 24 1 v k ((List.range k).map V) :=
  ((h.own.alloc o1).kept hg1 (by
    cases hv : v.ownBlock with
    | none => exact .inl rfl
    | some b => exact .inr (fun e => by injection e with e; have := h.own.lt b hv; omega))).alloc o2
theorem CRel.mat {w wr : World} {xss : List (List Int)} {n : Nat} {v : Value} {V : Nat → Value} {G : Nat → Nat} (h : CRel w xss n v wr V G) (hn : n = xss.length) (hv : v ≠ .slice none 0 0) :
    MatW wr w.heap.size wr.heap.size v xss := by
  subst hn
  rcases h.own.2 with ⟨hz, _⟩ | ⟨g, cap, cur, rfl, hb, hbl, hnc, hcm, hcs, htk⟩
  · exact absurd hz hv
  have hgl := (Array.getElem?_eq_some_iff.1 hbl).1
  have each : ∀ j, j < xss.length → ∃ c, V j = .slice (some ⟨G j, 0, none⟩) (xss.getD j []).length c ∧ (xss.getD j []).length ≤ c ∧ c ≤ maxLen := fun j hj => by
    rcases (h.rows j hj).1.2 with ⟨hz, _⟩ | ⟨g', c, cur', e, _, _, h1, h2, _⟩
    · have := (h.rows j hj).2; rw [hz] at this; cases this
    · have h3 := (h.rows j hj).2
      rw [e] at h3 ⊢
      simp [Value.ownBlock] at h3
      subst h3
      exact ⟨c, rfl, h1, h2⟩
  have hcell : ∀ j, j < xss.length → wr.cell? ⟨g, j, none⟩ = some (V j) := fun j hj => by
    have := h.own.cells (g := g) rfl j (V j) (by simp [hj])
    rwa [add0] at this
  obtain ⟨C, hC⟩ : ∃ C : Nat → Nat, ∀ j, j < xss.length → V j = .slice (some ⟨G j, 0, none⟩) (xss.getD j []).length (C j) ∧ (xss.getD j []).length ≤ C j ∧ C j ≤ maxLen :=
    ⟨fun j => if hj : j < xss.length then (each j hj).choose else 0, fun j hj => by simp only [hj, dif_pos]; exact (each j hj).choose_spec⟩
  refine ⟨some ⟨g, 0, none⟩, cap, fun j => some ⟨G j, 0, none⟩, C, rfl, hnc, hcm, ⟨fun j hj => ?_, fun j hj i hi => ?_, fun j hj j' hj' hne' _ _ g1 p1 g2 p2 e1 e2 => ?_⟩⟩
  · have hc := hC j hj
    exact ⟨g, 0, rfl, hb, hgl, by rw [Nat.zero_add, hcell j hj, hc.1], hc.2.1, hc.2.2, by simp [World.frozen?, hbl]⟩
  · have hr := h.rows j hj
    have hlt := hr.1.lt _ hr.2
    have hcl := hr.1.cells (g := G j) hr.2 i (.int .i64 ((xss.getD j []).getD i 0)) (by rw [getD_lt hi]; simp)
    rw [add0] at hcl
    refine ⟨G j, 0, rfl, hlt.1, hlt.2, by rw [Nat.zero_add]; exact hcl, ?_, fun b o e => ?_⟩
    · rcases hr.1.2 with ⟨_, hz⟩ | ⟨g', c, cur', e, _, hbb, _⟩
      · omega
      · have h3 := hr.2
        rw [e] at h3
        simp [Value.ownBlock] at h3
        subst h3
        simp [World.frozen?, hbb]
    · injection e with e
      injection e with e e'
      subst e
      intro hh
      exact own_apart h.own hr.1 (by decide) hr.2 (by rw [hh]; rfl)
  · injection e1 with e1; injection e1 with e1 _
    injection e2 with e2; injection e2 with e2 _
    exact .inl (fun hh => hne' (h.inj j hj j' hj' (by omega)))
theorem wpList_append_zero {ops : Array Oper} {rest : List Oper} {a : Act} {w : World} {Q : Exit → Act → World → Prop} {dst : Option Nat} {tt : TypeId} {pos : String} {after : Array Edge} (s x : Operand) (t : TypeId) {e : TypeId} (i : TypeInfo) (ht : Try.prog.underlying t = some (.slice e)) (hi : Try.prog.info? e = some i)
    (g n cap : Nat) (hs : a.eval s = .slice (some ⟨g, 0, none⟩) n cap) (ao : Option Addr) (c : Nat) (hx : a.eval x = .slice ao 0 c) (h : wpList Try.prog ops Q rest (a.put dst (.slice (some ⟨g, 0, none⟩) n cap)) w) (hn : n ≤ cap := by omega) :
    wpList Try.prog ops Q ({ dst := dst, op := .call { callee := .builtin .append, args := #[s, x], argTypes := #[t, t] }, type := tt, pos := pos, after := after, guard := none } :: rest) a w :=
  wpList_plain rfl fun K hK => wp_append_zero s x t i ht hi g n cap hs ao c hx hn (hK _ _ h)
def ToMat (xss : List (List Int)) (w : World) (e : Ending) (w' : World) : Prop := ∃ v, e = .returned v ∧ MatW w' w.heap.size w'.heap.size v xss ∧ Below w.heap.size w w'
theorem l2Copy_any (w : World) (v : Value) (xss : List (List Int)) (h : Rows2 w v xss) (hn : xss.length ≤ 100) (hlen : ∀ j, j < xss.length → (xss.getD j []).length ≤ 1000) :
    Calls Try.prog 44 #[v] w (ToMat xss w) := by
  obtain ⟨a, ca, rfl, hla, hma, hxa⟩ := h
  unfold maxLen at hma
  obtain ⟨n, hN⟩ : ∃ n, n = xss.length := ⟨_, rfl⟩
  rw [← hN] at hla hxa hn hlen ⊢
  have HN := Lib.hid hN
  clear hN
  have HLEN := Lib.hid hlen
  clear hlen
  obtain ⟨i0, hi, hz0, hz1, hz2⟩ := info_parts intInfo
  obtain ⟨i1, hj, hy0, hy1, hy2⟩ := info_parts intsInfo
  have HI := Lib.hid hi
  have HJ := Lib.hid hj
  have HZ0 := Lib.hid hz0
  have HZ1 := Lib.hid hz1
  have HZ2 := Lib.hid hz2
  have HY0 := Lib.hid hy0
  have HY1 := Lib.hid hy1
  have HY2 := Lib.hid hy2
  clear hi hj hz0 hz1 hz2 hy0 hy1 hy2
  go_enter Try.func44, Try.ntmps44
  go_wp2
  go_loopw [3, 4] (fun u i wr => ∃ (k : Nat) (V : Nat → Value) (G : Nat → Nat), k ≤ n ∧ i = .int .i64 k ∧ u ≠ .slice none 0 0 ∧ CRel w xss k u wr V G) (fun _ i _ => n - (intOf i).toNat)
  case atStart => exact ⟨0, _, _, Nat.zero_le _, rfl, (fun h => by cases h), CRel.start w xss⟩
  case round =>
    obtain ⟨k, V, G, hk, rfl, hun, hrel⟩ := hrel
    by_cases hlt : k < n
    · obtain ⟨b, o, u, rfl, hc, hu⟩ := hxa k hlt
      have hb := cell_lt hc
      have hcr := (hrel.bel.cell (p := ⟨b, o + k, none⟩) hb).trans hc
      have hur := Ints.below (B := 0) hu hrel.bel
      have hl := HLEN.out k hlt
      obtain ⟨xs, hxs⟩ : ∃ xs, xs = xss.getD k [] := ⟨_, rfl⟩
      rw [← hxs] at hur hl
      have HXS := Lib.hid hxs
      clear hxs hu hc hxa
      obtain ⟨ra, rc, rfl, hr1, hr2, hr3⟩ := hur
      by_cases hpos : 0 < xs.length
      · skip
        obtain ⟨rb, ro, rfl, _⟩ := hr3 0 hpos
        have hlt' : (k : Int) < (n : Int) := by omega
        have HR3 := Lib.hid hr3
        clear hr3
        have hcr' : (wr.alloc (.cells #[] 3)).cell? ⟨b, o + k, none⟩ = some (.slice (some ⟨rb, ro, none⟩) xs.length rc) := (World.cell?_alloc_past _ _ _ (cell_lt hcr)).trans hcr
        have HNEWS : Hid (∀ j y, (xs.map (Value.int .i64))[j]? = some y → (wr.alloc (.cells #[] 3)).cell? ((⟨rb, ro, none⟩ : Addr).add j) = some y) := Lib.hid (fun j y hy => by
          have hj : j < xs.length := by
            rcases Nat.lt_or_ge j xs.length with h' | h'
            · exact h'
            · simp [List.getElem?_eq_none h'] at hy
          obtain ⟨b', o', e', hcell⟩ := HR3.out j hj
          injection e' with e'
          injection e' with e1 e2
          subst e1
          subst e2
          have : (⟨rb, ro, none⟩ : Addr).add j = ⟨rb, ro + j, none⟩ := by unfold Addr.add; split <;> simp_all
          rw [this, World.cell?_alloc_past _ _ _ (by have := cell_lt hcell; exact this), hcell]
          simpa [List.getElem?_map, getD_lt hj, hj] using hy)
        go_wp2_with (first
          | (at_builtin; refine wpList_append_own _ rfl (.tmp 13) (.tmp 17) 24 rfl wr.heap.size 3 i0 (.int .i64 0) 1 8 Try.underlying24 HI.out HZ0.out HZ1.out HZ2.out rfl (by decide) _ _ _ rfl (World.ownsRow_made wr #[] 0 (Nat.le_refl _) (Nat.zero_le _) rfl) ⟨rb, ro, none⟩ xs.length rc (xs.map (.int .i64)) rfl (by simp) HNEWS.out (ints_one xs) (by unfold maxLen; omega) (by omega) (by simp) ?_; intro v1 w1 hown1 hgrow1 _; simp only [Nat.zero_add, List.nil_append] at hown1; obtain ⟨g1, c1, rfl⟩ := own_slice hown1 hpos; replace hgrow1 : (wr.alloc (.cells #[] 3)).grownBy w1 (some wr.heap.size) := hgrow1; have hsz1 := hgrow1.size; simp at hsz1; have hszr := hrel.bel.size)
          | (at_builtin; refine wpList_append_own _ rfl (.tmp 12) (.tmp 19) 23 rfl w.heap.size 24 i1 (.slice none 0 0) 1 24 Try.underlying23 HJ.out HY0.out HY1.out HY2.out rfl (by decide) _ _ _ rfl (hrel.own_mid hgrow1) ⟨w1.heap.size, 0, none⟩ 1 1 [.slice (some ⟨g1, 0, none⟩) xs.length c1] rfl rfl (cell_one_new _ _ _) (by intro u hu; simp at hu; subst hu; rfl) (by unfold maxLen; omega) (by omega) (by simp; omega) ?_; intro v2 w2 hown2 hgrow2 hnn2))
        have HREL : Hid (∃ V' G', CRel w xss (k + 1) v2 w2 V' G') := Lib.hid (hrel.step HXS.out.symm ⟨_, _, rfl⟩ hown1 hgrow1 hown2 hgrow2)
        have hn2 : v2 ≠ .slice none 0 0 := fun e => hun (hnn2.1 e).1
        clear hown1 hgrow1 hown2 hgrow2 hrel hnn2
        go_wp2
        go_roundw
        case rel =>
          obtain ⟨V', G', hR⟩ := HREL.out
          exact ⟨k + 1, V', G', by omega, by go_num, hn2, hR⟩
        case measure => simp [intOf]; omega
      · have hx0 : xs = [] := List.eq_nil_of_length_eq_zero (by omega)
        subst hx0
        have hlt' : (k : Int) < (n : Int) := by omega
        have hcr' : (wr.alloc (.cells #[] 3)).cell? ⟨b, o + k, none⟩ = some (.slice ra ([] : List Int).length rc) := (World.cell?_alloc_past _ _ _ (cell_lt hcr)).trans hcr
        have hown1 : (wr.alloc (.cells #[] 3)).ownsRow wr.heap.size 3 1 (.slice (some ⟨wr.heap.size, 0, none⟩) ([] : List Int).length 0) ([] : List Int).length (([] : List Int).map (.int .i64)) := World.ownsRow_made wr #[] 0 (Nat.le_refl _) (Nat.zero_le _) rfl
        have hgrow1 : (wr.alloc (.cells #[] 3)).grownBy (wr.alloc (.cells #[] 3)) (some wr.heap.size) := ⟨rfl, rfl, rfl, Nat.le_refl _, fun _ _ _ => rfl⟩
        have hszr := hrel.bel.size
        simp only [List.length_nil] at hcr' hr1
        go_wp2_with (first
          | (at_builtin; refine wpList_append_zero (.tmp 13) (.tmp 17) 24 i0 Try.underlying24 HI.out wr.heap.size 0 0 rfl ra rc rfl ?_)
          | (at_builtin; refine wpList_append_own _ rfl (.tmp 12) (.tmp 19) 23 rfl w.heap.size 24 i1 (.slice none 0 0) 1 24 Try.underlying23 HJ.out HY0.out HY1.out HY2.out rfl (by decide) _ _ _ rfl (hrel.own_mid hgrow1) ⟨wr.heap.size + 1, 0, none⟩ 1 1 [.slice (some ⟨wr.heap.size, 0, none⟩) 0 0] rfl rfl (by have := cell_one_new (wr.alloc (.cells #[] 3)) (.slice (some ⟨wr.heap.size, 0, none⟩) 0 0) 24; simpa using this) (by intro u hu; simp at hu; subst hu; rfl) (by unfold maxLen; omega) (by omega) (by simp; omega) ?_; intro v2 w2 hown2 hgrow2 hnn2))
        have HREL : Hid (∃ V' G', CRel w xss (k + 1) v2 w2 V' G') := Lib.hid (hrel.step HXS.out.symm ⟨_, _, rfl⟩ hown1 hgrow1 hown2 hgrow2)
        have hn2 : v2 ≠ .slice none 0 0 := fun e => hun (hnn2.1 e).1
        clear hown1 hgrow1 hown2 hgrow2 hrel hnn2
        go_wp2
        go_roundw
        case rel =>
          obtain ⟨V', G', hR⟩ := HREL.out
          exact ⟨k + 1, V', G', by omega, by go_num, hn2, hR⟩
        case measure => simp [intOf]; omega
    · go_wp2
      go_ret
      have e : k = n := by omega
      subst e
      exact ⟨_, rfl, hrel.mat HN.out hun, hrel.bel⟩
end Go.Proofs.Ytaalnjinocicgaa
namespace Go.Proofs.Ytaalnjinocicgaa
open Go.ChangeShapes Go.WideShapes Go.ChangeAt Go.RowKit
set_option linter.unusedVariables false
theorem MatAt.setrow {w w1 : World} {B0 B1 B2 : Nat} {a : Option Addr} {n : Nat} {A : Nat → Option Addr} {L C : Nat → Nat} {X : Nat → Nat → Int} (h : MatAt w B0 B1 a n A L C X) (e1 : ∀ b, B0 ≤ b → b < B1 → w1.heap[b]? = w.heap[b]?)
    {i b o g len c : Nat} {Y : Nat → Int} (hi : i < n) (ha : a = some ⟨b, o, none⟩) (hg1 : B1 ≤ g) (hg2 : g < B2) (hlc : len ≤ c) (hcm : c ≤ maxLen)
    (hY : ∀ m, m < len → w1.cell? ⟨g, m, none⟩ = some (.int .i64 (Y m)) ∧ w1.frozen? ⟨g, m, none⟩ = false) :
    MatAt (w1.setCell ⟨b, o + i, none⟩ (.slice (some ⟨g, 0, none⟩) len c)) B0 B2 a n (fun k => if k = i then some ⟨g, 0, none⟩ else A k) (fun k => if k = i then len else L k) (fun k => if k = i then c else C k)
      (fun k m => if k = i then Y m else X k m) := by
  have h' := h.of_blocks e1
  subst ha
  obtain ⟨b', o', eb, hb1, hb2, hbc, _⟩ := h'.top i hi
  injection eb with eb
  injection eb with eb eo
  subst eb
  subst eo
  refine ⟨fun k hk => ?_, fun k hk m hm => ?_, fun j hj j' hj' hne h0 h0' g1 p1 g2 p2 ee ee' => ?_⟩
  · obtain ⟨b', o', ek, h1, h2, h3, h4⟩ := h'.top k hk
    injection ek with ek
    injection ek with ek eo
    subst ek
    subst eo
    by_cases hki : k = i
    · subst hki
      simp only [if_true]
      exact ⟨b, o, rfl, hb1, by omega, cell_set_same hbc, hlc, hcm, (frozen_set _).trans h4.2.2⟩
    · simp only [if_neg hki]
      exact ⟨b, o, rfl, hb1, by omega, (cell_set_other (.inr (by omega))).trans h3, h4.1, h4.2.1, (frozen_set _).trans h4.2.2⟩
  · by_cases hki : k = i
    · subst hki
      simp only [if_true] at hm ⊢
      refine ⟨g, 0, rfl, by omega, hg2, ?_, ?_, fun b' o' e => ?_⟩
      · rw [Nat.zero_add]; exact (cell_set_other (.inl (by omega))).trans (hY m hm).1
      · rw [Nat.zero_add]; exact (frozen_set _).trans (hY m hm).2
      · injection e with e; injection e with e _; omega
    · simp only [if_neg hki] at hm ⊢
      obtain ⟨g', p', e, h1, h2, h3, h4, h5⟩ := h'.row k hk m hm
      exact ⟨g', p', e, h1, by omega, (cell_set_other (.inl (h5 b o rfl).symm)).trans h3, (frozen_set _).trans h4, h5⟩
  · by_cases hji : j = i <;> by_cases hji' : j' = i
    · omega
    · subst hji
      simp only [if_true, if_neg hji'] at *
      obtain ⟨g', p', e, h1, h2, _⟩ := h'.row j' hj' 0 h0'
      rw [e] at ee'
      injection ee' with ee'; injection ee' with ee' _
      injection ee with ee; injection ee with ee _
      exact .inl (by omega)
    · subst hji'
      simp only [if_true, if_neg hji] at *
      obtain ⟨g', p', e, h1, h2, _⟩ := h'.row j hj 0 h0
      rw [e] at ee
      injection ee' with ee'; injection ee' with ee' _
      injection ee with ee; injection ee with ee _
      exact .inl (by omega)
    · simp only [if_neg hji, if_neg hji'] at *
      exact h'.apart j hj j' hj' hne h0 h0' g1 p1 g2 p2 ee ee'
end Go.Proofs.Ytaalnjinocicgaa
namespace Go.Proofs.Ytaalnjinocicgaa
open Go.ChangeShapes Go.WideShapes Go.ChangeAt Go.RowKit
set_option linter.unusedVariables false
theorem mat_set {w1 w2 : World} {B0 B1 n cap b o i g c : Nat} {xss : List (List Int)} {ys : List Int} (h : MatW w1 B0 B1 (.slice (some ⟨b, o, none⟩) n cap) xss) (e1 : ∀ k, B0 ≤ k → k < B1 → w2.heap[k]? = w1.heap[k]?) (hi : i < n)
    (hg1 : B1 ≤ g) (hg2 : g < w2.heap.size) (hlc : ys.length ≤ c) (hcm : c ≤ maxLen) (hY : ∀ m, m < ys.length → w2.cell? ⟨g, m, none⟩ = some (.int .i64 (ys.getD m 0)) ∧ w2.frozen? ⟨g, m, none⟩ = false) :
    MatW (w2.setCell ⟨b, o + i, none⟩ (.slice (some ⟨g, 0, none⟩) ys.length c)) B0 w2.heap.size (.slice (some ⟨b, o, none⟩) n cap) (xss.set i ys) := by
  obtain ⟨a, cap', A, C, e, h1, h2, h3⟩ := h
  injection e with e2 e3 e4
  subst e2
  subst e4
  subst e3
  have hmat := (h3.setrow e1 (B2 := w2.heap.size) (Y := fun m => ys.getD m 0) hi rfl hg1 hg2 hlc hcm hY).congr (n' := (xss.set i ys).length) (L' := fun k => ((xss.set i ys).getD k []).length) (X' := fun k m => ((xss.set i ys).getD k []).getD m 0)
    List.length_set (fun k hk => by
      simp only [getD_set]
      by_cases h' : k = i
      · subst h'; simp [hk]
      · rw [if_neg (fun hh => h' hh.1.symm), if_neg h']) (fun k hk m _ => by
      simp only [getD_set]
      by_cases h' : k = i
      · subst h'; simp [hk]
      · rw [if_neg (fun hh => h' hh.1.symm), if_neg h'])
  exact ⟨_, cap, _, _, by rw [List.length_set], by rw [List.length_set]; exact h1, h2, hmat⟩
end Go.Proofs.Ytaalnjinocicgaa
namespace Go.Proofs.Ytaalnjinocicgaa
open Go.ChangeShapes Go.WideShapes Go.ChangeAt Go.RowKit
set_option linter.unusedVariables false
section
variable {P : Program}
theorem run_index_arr (t : TypeId) (n : Nat) (e : TypeId) (s : Nat) (hu : P.underlying t = some (.array n e)) (ha : ∀ w, (isAgg e).run P w = .ok true w) (hs : ∀ w, (sizeOf e).run P w = .ok s w)
    (cs : Array Value) (k : Nat) (hk : k < n) (W : World) : (Instr.index t (.agg cs) (.int .i64 k)).run P W = .ok (.agg (cs.extract (k * s) (k * s + s))) W := by
  have h1 : (0 : Int) ≤ (k : Int) ∧ (k : Int) < (n : Int) := by omega
  unfold Instr.index
  simp only [asIntOf, Sem.run_bind, Sem.run_pure, Result.andThen_ok, run_underlying hu, hs, part, ha, if_pos h1, Int.toNat_natCast, if_true]
end
end Go.Proofs.Ytaalnjinocicgaa
namespace Go.Proofs.Ytaalnjinocicgaa
open Go.ChangeShapes Go.WideShapes Go.ChangeAt Go.RowKit
set_option linter.unusedVariables false
set_option linter.unusedSimpArgs false
theorem mat_nil (w : World) (B0 B1 : Nat) (a : Option Addr) : MatW w B0 B1 (.slice a 0 0) [] :=
  ⟨a, 0, fun _ => none, fun _ => 0, rfl, Nat.le_refl _, Nat.zero_le _, ⟨fun j hj => by simp at hj, fun j hj => by simp at hj, fun j hj => by simp at hj⟩⟩
theorem copy_sw (w : World) (v : Value) (xss : Rs) (h : Rows2 w v xss) (hm : swOk xss = true) : Calls Try.prog 44 #[v] w (ToMat xss w) :=
  l2Copy_any w v xss h (by rw [sw_len hm]; omega) (fun j hj => by have := row_len4 (sw_row hm hj); omega)
end Go.Proofs.Ytaalnjinocicgaa
namespace Go.Proofs.Ytaalnjinocicgaa
set_option linter.unusedVariables false
set_option linter.unusedSimpArgs false
theorem swOk_set {xss : Rs} (h : swOk xss = true) {ys : List Int} (hr : rowOk ys = true) (i : Nat) : swOk (xss.set i ys) = true := by
  rw [swOk_iff]
  refine ⟨fun xs hx => ?_, by rw [List.length_set]; exact sw_len h⟩
  rcases List.mem_or_eq_of_mem_set hx with h' | rfl
  · exact (swOk_iff.1 h).1 xs h'
  · exact hr
end Go.Proofs.Ytaalnjinocicgaa
namespace Go.Proofs.Ytaalnjinocicgaa
open Go.ChangeShapes Go.WideShapes Go.ChangeAt Go.RowKit
set_option linter.unusedVariables false
set_option linter.unusedSimpArgs false
def SetR (w : World) (b : Nat) (C : Nat → Value) (k : Nat) (vs : List Value) (v : Value) (e : Ending) (w' : World) : Prop :=
  e = .returned v ∧ ∃ C', Blk w' b C' ∧ One C' ∧ (∀ j, j < 80 → C' j = putC C (k * 5) vs j) ∧ Chg b (b + 1) w w'
end Go.Proofs.Ytaalnjinocicgaa
namespace Go.Proofs.Ytaalnjinocicgaa
open Go.ChangeShapes Go.WideShapes Go.ChangeAt Go.RowKit
set_option linter.unusedVariables false
set_option linter.unusedSimpArgs false
theorem MatW.high {w : World} {B0 B1 B2 : Nat} {v : Value} {xss : Rs} (h : MatW w B0 B1 v xss) (hB : B1 ≤ B2) : MatW w B0 B2 v xss := by
  obtain ⟨a, cap, A, C, rfl, h1, h2, h3⟩ := h
  exact ⟨a, cap, A, C, rfl, h1, h2, h3.mono hB⟩
def partR (xss : Rs) (k : Nat) : Rs := xss.take k ++ List.replicate (16 - k) []
theorem partR_len {xss : Rs} (h : xss.length = 16) {k : Nat} (hk : k ≤ 16) : (partR xss k).length = 16 := by simp [partR, h]; omega
theorem partR_all {xss : Rs} (h : xss.length = 16) : partR xss 16 = xss := by
  unfold partR
  rw [← h, List.take_length, Nat.sub_self]
  simp
theorem partR_set {xss : Rs} (h : xss.length = 16) {k : Nat} (hk : k < 16) : (partR xss k).set k (xss.getD k []) = partR xss (k + 1) := by
  unfold partR
  rw [List.set_append_right _ _ (by simp; omega), List.length_take, Nat.min_eq_left (by omega), Nat.sub_self, show 16 - k = (16 - (k + 1)) + 1 by omega, List.replicate_succ, List.set_cons_zero, take_snoc_getD xss k [] (by omega), List.append_assoc]
  rfl
theorem partR_skip {xss : Rs} (h : xss.length = 16) {k : Nat} (hk : k < 16) (hx : xss.getD k [] = []) : partR xss (k + 1) = partR xss k := by
  unfold partR
  rw [take_snoc_getD xss k [] (by omega), hx, List.append_assoc, show 16 - k = (16 - (k + 1)) + 1 by omega, List.replicate_succ]
  rfl
theorem nil_rows (w : World) : MatW (w.alloc (.cells (Array.replicate 16 (.slice none 0 0)) 24)) w.heap.size (w.heap.size + 1) (.slice (some ⟨w.heap.size, 0, none⟩) 16 16) (List.replicate 16 []) := by
  have e : ∀ j, j < 16 → ((List.replicate 16 ([] : List Int)).getD j []).length = 0 := fun j hj => by
    rw [getD_lt (by simpa using hj), List.getElem_replicate]; rfl
  refine ⟨some ⟨w.heap.size, 0, none⟩, 16, fun _ => none, fun _ => 0, by simp, by simp, by unfold maxLen; omega, ?_, ?_, ?_⟩
  · intro j hj
    have hj' : j < 16 := by simpa using hj
    refine ⟨w.heap.size, 0, rfl, Nat.le_refl _, Nat.lt_succ_self _, ?_, by rw [e j hj']; omega, Nat.zero_le _, ?_⟩
    · rw [Nat.zero_add, cell_of_row _ _ j _ _ _ (heap_alloc_new w _), e j hj']
      simp [hj']
    · rw [Nat.zero_add, frozen_of_row _ _ j _ _ (heap_alloc_new w _)]
  · intro j hj i hi
    have hj' : j < 16 := by simpa using hj
    simp only [e j hj'] at hi
    omega
  · intro j hj j' hj' _ h0
    have hj'' : j < 16 := by simpa using hj
    simp only [e j hj''] at h0
    omega
theorem arr_info {L : List Value} (h : L.length = 80) : (Try.prog.info? 55).map (·.size) = some L.length := by rw [h]; kernel_rfl
theorem slot_agg (w : World) : (isAgg 54).run Try.prog w = .ok true w := Try.isAgg54 w
theorem five_of (C : Nat → Value) {k : Nat} (hk : k < 16) : (((List.range 80).map C).toArray).extract (k * 5) (k * 5 + 5) = #[C (k * 5), C (k * 5 + 1), C (k * 5 + 2), C (k * 5 + 3), C (k * 5 + 4)] := by
  apply Array.ext
  · simp; omega
  · intro j h1 h2
    have hj : j < 5 := by simpa using h2
    simp only [Array.getElem_extract, List.getElem_toArray, List.getElem_map, List.getElem_range]
    obtain rfl | rfl | rfl | rfl | rfl : j = 0 ∨ j = 1 ∨ j = 2 ∨ j = 3 ∨ j = 4 := by omega
    all_goals rfl
set_option maxRecDepth 100000 in
set_option maxHeartbeats 1000000 in
theorem lists_any (w : World) (C : Nat → Value) (xss : Rs) (ho : One C) (hs : Sw C xss) (hl : xss.length = 16) (hok : swOk xss = true) :
    Calls Try.prog 41 #[.agg (cells C).toArray] w (ToMat xss w) := by
  have HK := Lib.hid (Blk.boxed w C 60)
  have HB0 := Lib.hid ((Below.refl w.heap.size w).alloc (Nat.le_refl _) (.cells (cells C).toArray 60))
  obtain ⟨L, hL⟩ : ∃ L, L = cells C := ⟨_, rfl⟩
  rw [← hL] at HK HB0 ⊢
  clear hL
  have HO := Lib.hid ho
  have HS := Lib.hid hs
  have HL := Lib.hid hl
  have HOK := Lib.hid hok
  have hmk : ∀ W : World, (Instr.makeSlice 23 (.int .i64 16) (.int .i64 16)).run Try.prog W = .ok (.slice (some ⟨W.heap.size, 0, none⟩) 16 16) (W.alloc (.cells (Array.replicate 16 (.slice none 0 0)) 24)) := fun W => by
    have h := run_make_row' (P := Try.prog) 23 24 (.slice none 0 0) 24 Try.underlying23 intsInfo rfl .i64 .i64 16 (by omega) (by omega) W
    rw [show madeCells #[.slice none 0 0] 16 = Array.replicate 16 (.slice none 0 0) by kernel_rfl] at h
    exact h
  clear ho hs hl hok
  have HK2 := Lib.hid (HK.out.of_block (heap_alloc_old _ (.cells (Array.replicate 16 (.slice none 0 0)) 24) HK.out.lt))
  have HM2 := Lib.hid (nil_rows (w.alloc (.cells L.toArray 60)))
  have HB2 := Lib.hid (HB0.out.alloc (o := .cells (Array.replicate 16 (.slice none 0 0)) 24) (by simp))
  obtain ⟨L8, hL8⟩ : ∃ L8, L8 = (List.range 80).map C := ⟨_, rfl⟩
  have HL8 : Hid (L8.length = 80) := Lib.hid (by rw [hL8]; simp)
  have HR8 : Hid (((w.alloc (.cells L.toArray 60)).alloc (.cells (Array.replicate 16 (.slice none 0 0)) 24)).rangeAt w.heap.size 0 L8) := Lib.hid (fun j v hv => by
    have hj : j < 80 := by have := (List.getElem?_eq_some_iff.1 hv).1; rwa [HL8.out] at this
    rw [hL8] at hv
    simp [hj] at hv
    rw [Nat.zero_add, ← hv]
    exact HK2.out.cell j (by omega))
  have HIX : Hid (∀ k : Nat, k < 16 → ∀ W : World, (Instr.index 55 (.agg L8.toArray) (.int .i64 k)).run Try.prog W = .ok (.agg #[C (k * 5), C (k * 5 + 1), C (k * 5 + 2), C (k * 5 + 3), C (k * 5 + 4)]) W) := Lib.hid (fun k hk W => by
    have h := run_index_arr (P := Try.prog) 55 16 54 5 Try.underlying55 slot_agg slot_size L8.toArray k hk W
    rw [hL8, five_of C hk] at h
    rw [hL8]
    exact h)
  clear hL8
  go_enter Try.func41, Try.ntmps41
  go_wp2_with (first | ((with_reducible refine box_is 60 (.tmp 0) ?_); refine box_arr 60 (.tmp 0) L.toArray rfl ?_) | ((with_reducible refine load_is 55 (.tmp 7) ?_); refine load_arr 55 (.tmp 7) w.heap.size 0 L8 _ rfl HR8.out Try.underlying55 rfl (arr_info HL8.out) ?_) | fail)
  obtain ⟨X, hX⟩ : ∃ X, w.heap.size = X := ⟨_, rfl⟩
  obtain ⟨w2, hw2⟩ : ∃ w2, (w.alloc (.cells L.toArray 60)).alloc (.cells (Array.replicate 16 (.slice none 0 0)) 24) = w2 := ⟨_, rfl⟩
  have HMW : Hid (MatW w2 X w2.heap.size (.slice (some ⟨X + 1, 0, none⟩) 16 16) (partR xss 0)) := Lib.hid (by
    have h := HM2.out
    rw [World.size_alloc, hw2, hX] at h
    have e : partR xss 0 = List.replicate 16 [] := by simp [partR]
    rw [e]
    refine (h.low (Nat.le_succ X)).high ?_
    rw [← hw2, ← hX]; simp)
  have HBW : Hid (Below X w w2) := Lib.hid (by rw [← hw2, ← hX]; exact HB2.out)
  have HXS : Hid (X + 1 < w2.heap.size) := Lib.hid (by rw [← hw2, ← hX]; simp)
  have HXW := Lib.hid hX
  simp only [hX, hw2]
  clear hX hw2 HR8 HB0 HB2 HM2 HK HK2
  go_loopw [9] (fun i wr => ∃ k : Nat, k ≤ 16 ∧ i = .int .i64 k ∧ Hid (MatW wr X wr.heap.size (.slice (some ⟨X + 1, 0, none⟩) 16 16) (partR xss k)) ∧ Hid (Below X w wr) ∧ Hid (X + 1 < wr.heap.size)) (fun i _ => 16 - (intOf i).toNat)
  case atStart => exact ⟨0, Nat.zero_le _, rfl, HMW, HBW, HXS⟩
  case round =>
    obtain ⟨k, hk, rfl, HMW, HBW, HXS⟩ := hrel
    by_cases hlt : k < 16
    · have hlt' : (k : Int) < 16 := by omega
      have HI := HIX.out k hlt
      have hp := HS.out k hlt
      have h0 := HO.out (k * 5) (by omega)
      have h1 := HO.out (k * 5 + 1) (by omega)
      have h2 := HO.out (k * 5 + 2) (by omega)
      have h3 := HO.out (k * 5 + 3) (by omega)
      obtain ⟨Y, hY⟩ : ∃ Y, wr.heap.size = Y := ⟨_, rfl⟩
      by_cases hx : xss.getD k [] = []
      · have hp4 := hp.1
        rw [decide_eq_false (fun hh => hh hx)] at hp4
        rw [hp4] at HI
        generalize C (k * 5) = q0 at HI h0
        generalize C (k * 5 + 1) = q1 at HI h1
        generalize C (k * 5 + 2) = q2 at HI h2
        generalize C (k * 5 + 3) = q3 at HI h3
        obtain ⟨w5, hw5⟩ : ∃ w5, (wr.alloc (.cells #[.int .i64 0, .int .i64 0, .int .i64 0, .int .i64 0, .bool false] 54)).setCells Y 0 [q0, q1, q2, q3, .bool false] = w5 := ⟨_, rfl⟩
        have HT : Hid ((wr.alloc (.cells #[.int .i64 0, .int .i64 0, .int .i64 0, .int .i64 0, .bool false] 54)).there Y 0 5) := Lib.hid (by rw [← hY]; exact there_row (heap_alloc_new wr _) (by simp))
        have hcell : w5.cell? ⟨Y, 4, none⟩ = some (.bool false) := by rw [← hw5]; exact World.rangeAt_setCells_same _ Y 0 [q0, q1, q2, q3, .bool false] HT.out 4 _ rfl
        have HB5 : Hid (Below Y wr w5) := Lib.hid (by rw [← hw5]; exact Below.setCells (Below.refl _ _) _ (Nat.le_refl _) _ _ _ ((Below.refl _ _).alloc (by omega) _))
        have HM5 : Hid (MatW w5 X w5.heap.size (.slice (some ⟨X + 1, 0, none⟩) 16 16) (partR xss (k + 1))) := Lib.hid (by
          rw [partR_skip HL.out hlt hx]
          exact (HMW.out.of_blocks (fun b _ hb => HB5.out.block b (by omega))).high HB5.out.size)
        have HBX5 : Hid (Below X w w5) := Lib.hid (HBW.out.trans (HB5.out.mono (by have := HXS.out; omega)))
        have HXS5 : Hid (X + 1 < w5.heap.size) := Lib.hid (by have := HXS.out; have := HB5.out.size; omega)
        have h5 : (#[q0, q1, q2, q3, .bool false] : Array Value).all (·.oneCell') = true := all_oneCell_toArray (fun v hv => by
          simp only [List.mem_cons, List.not_mem_nil, or_false] at hv
          rcases hv with rfl | rfl | rfl | rfl | rfl
          · exact h0
          · exact h1
          · exact h2
          · exact h3
          · rfl)
        have HW5 := Lib.hid hw5
        clear hp hp4 h0 h1 h2 h3 hx hw5 HIX
        go_wp2_with (first | ((with_reducible refine store_is 54 (.tmp 5) (.tmp 12) ?_); refine store_arr 54 (.tmp 5) (.tmp 12) Y 0 #[q0, q1, q2, q3, .bool false] rfl rfl HT.out slot_info h5 ?_; rw [show (#[q0, q1, q2, q3, .bool false] : Array Value).toList = [q0, q1, q2, q3, .bool false] from rfl, HW5.out]) | fail)
        exact ⟨⟨k + 1, by omega, by go_num, HM5, HBX5, HXS5⟩, by simp [intOf]; omega⟩
      · have hp4 := hp.1
        rw [decide_eq_true hx] at hp4
        have hrow : wordsOk (xss.getD k []) = true := row_some (sw_row HOK.out (by rw [HL.out]; exact hlt)) (List.length_pos_iff.2 hx)
        obtain ⟨x0, x1, x2, x3, hxs⟩ := row4 hrow
        have e0 := hp.2 hx 0 (by omega)
        have e1 := hp.2 hx 1 (by omega)
        have e2 := hp.2 hx 2 (by omega)
        have e3 := hp.2 hx 3 (by omega)
        rw [Nat.add_zero] at e0
        rw [hxs] at e0 e1 e2 e3
        rw [hp4, e0, e1, e2, e3] at HI
        replace HI : ∀ W : World, (Instr.index 55 (.agg L8.toArray) (.int .i64 (k : Int))).run Try.prog W = .ok (.agg #[.int .i64 x0, .int .i64 x1, .int .i64 x2, .int .i64 x3, .bool true]) W := HI
        obtain ⟨w5, hw5⟩ : ∃ w5, (wr.alloc (.cells #[.int .i64 0, .int .i64 0, .int .i64 0, .int .i64 0, .bool false] 54)).setCells Y 0 [.int .i64 x0, .int .i64 x1, .int .i64 x2, .int .i64 x3, .bool true] = w5 := ⟨_, rfl⟩
        have HT : Hid ((wr.alloc (.cells #[.int .i64 0, .int .i64 0, .int .i64 0, .int .i64 0, .bool false] 54)).there Y 0 5) := Lib.hid (by rw [← hY]; exact there_row (heap_alloc_new wr _) (by simp))
        have hst := fun j v hv => World.rangeAt_setCells_same _ Y 0 [.int .i64 x0, .int .i64 x1, .int .i64 x2, .int .i64 x3, .bool true] HT.out j v hv
        rw [hw5] at hst
        have hcell : w5.cell? ⟨Y, 4, none⟩ = some (.bool true) := hst 4 _ rfl
        have HI5 : Hid (Ints w5 (.slice (some ⟨Y, 0, none⟩) 4 4) [x0, x1, x2, x3]) := Lib.hid (by
          refine ⟨some ⟨Y, 0, none⟩, 4, rfl, by simp, by unfold maxLen; omega, fun j hj => ⟨Y, 0, rfl, ?_⟩⟩
          have hj4 : j < 4 := hj
          obtain rfl | rfl | rfl | rfl : j = 0 ∨ j = 1 ∨ j = 2 ∨ j = 3 := by omega
          · exact hst 0 _ rfl
          · exact hst 1 _ rfl
          · exact hst 2 _ rfl
          · exact hst 3 _ rfl)
        have HCL := Lib.hid (clone_at (b := Y) (o := 0) rfl HI5.out)
        have HB5 : Hid (Below Y wr w5) := Lib.hid (by rw [← hw5]; exact Below.setCells (Below.refl _ _) _ (Nat.le_refl _) _ _ _ ((Below.refl _ _).alloc (by omega) _))
        have HW5 := Lib.hid hw5
        have HXK := Lib.hid hxs
        have HY := Lib.hid hY
        clear hp hp4 h0 h1 h2 h3 e0 e1 e2 e3 hx hw5 HIX hst hrow hxs
        go_wp2_with (first | ((with_reducible refine store_is 54 (.tmp 5) (.tmp 12) ?_); refine store_arr 54 (.tmp 5) (.tmp 12) Y 0 #[.int .i64 x0, .int .i64 x1, .int .i64 x2, .int .i64 x3, .bool true] rfl rfl HT.out slot_info (by kernel_rfl) ?_; rw [show (#[.int .i64 x0, .int .i64 x1, .int .i64 x2, .int .i64 x3, .bool true] : Array Value).toList = [.int .i64 x0, .int .i64 x1, .int .i64 x2, .int .i64 x3, .bool true] from rfl, HW5.out]) | fail)
        refine HCL.out.mono ?_
        rintro e w6 ⟨v6, rfl, ho6⟩
        have HO6 := Lib.hid ho6
        have HW6 := Lib.hid (IntsW.of_own ho6)
        obtain ⟨g, c6, hv6⟩ := own_slice ho6.own (by simp)
        have hv6' : v6 = .slice (some ⟨g, 0, none⟩) 4 c6 := hv6
        subst hv6'
        clear hv6 ho6
        obtain ⟨b1, o1, cap1, A1, C1, hv1, hq1, hq2, hq3, hq4, hq5, hq6⟩ := HMW.out.top (i := k) (by rw [partR_len HL.out hk]; exact hlt)
        rw [partR_len HL.out hk] at hv1 hq1
        injection hv1 with hv1 _ hv2
        injection hv1 with hv1
        injection hv1 with hv3 hv4
        subst hv3
        subst hv4
        subst hv2
        have HBD : Hid (Below wr.heap.size wr w6) := Lib.hid (by rw [HY.out]; exact HB5.out.trans (HO6.out.bel.mono (by have := HB5.out.size; have := HY.out; omega)))
        have hc6 := (World.cell?_of_block (a := ⟨X + 1, 0 + k, none⟩) (HBD.out.block _ HXS.out)).trans hq5
        have hf6 := (World.frozen?_of_block (a := ⟨X + 1, 0 + k, none⟩) (HBD.out.block _ HXS.out)).trans hq6
        rw [Nat.zero_add] at hc6 hf6
        have HME : Hid (MatW (w6.setCell ⟨X + 1, k, none⟩ (.slice (some ⟨g, 0, none⟩) 4 c6)) X (w6.setCell ⟨X + 1, k, none⟩ (.slice (some ⟨g, 0, none⟩) 4 c6)).heap.size (.slice (some ⟨X + 1, 0, none⟩) 16 16) (partR xss (k + 1))) := Lib.hid (by
          obtain ⟨a', c', e, r1, r2, r3⟩ := HW6.out
          injection e with e1 e2 e3
          subst e1
          subst e3
          have h := mat_set (g := g) (ys := [x0, x1, x2, x3]) HMW.out (fun b _ hb => HBD.out.block b hb) hlt (by
            obtain ⟨g', p', e, h0, h1', _⟩ := r3 0 (by simp)
            cases e; have := HB5.out.size; have := HY.out; omega) (by
            obtain ⟨g', p', e, h0, h1', _⟩ := r3 0 (by simp)
            cases e; exact h1') r1 r2 (fun m hm => by
            obtain ⟨g', p', e, _, _, h2, h3⟩ := r3 m hm
            cases e
            rw [Nat.zero_add] at h2 h3
            exact ⟨h2, h3⟩)
          rw [← HXK.out, partR_set HL.out hlt, HXK.out, Nat.zero_add] at h
          have hsz : (w6.setCell ⟨X + 1, k, none⟩ (.slice (some ⟨g, 0, none⟩) 4 c6)).heap.size = w6.heap.size := by simp [World.setCell]
          rw [hsz]
          exact h)
        have HBE : Hid (Below X w (w6.setCell ⟨X + 1, k, none⟩ (.slice (some ⟨g, 0, none⟩) 4 c6))) := Lib.hid ((HBW.out.trans (HBD.out.mono (by have := HXS.out; omega))).setCell (p := ⟨X + 1, k, none⟩) (by show X ≤ X + 1; omega) _)
        have HXE : Hid (X + 1 < (w6.setCell ⟨X + 1, k, none⟩ (.slice (some ⟨g, 0, none⟩) 4 c6)).heap.size) := Lib.hid (by
          have hsz : (w6.setCell ⟨X + 1, k, none⟩ (.slice (some ⟨g, 0, none⟩) 4 c6)).heap.size = w6.heap.size := by simp [World.setCell]
          rw [hsz]; have := HXS.out; have := HBD.out.size; omega)
        clear hq1 hq2 hq3 hq4 hq5 hq6 hY
        go_wp2_with fail
        exact ⟨⟨k + 1, by omega, by go_num, HME, HBE, HXE⟩, by simp [intOf]; omega⟩
    · obtain rfl : k = 16 := by omega
      go_wp2_with fail
      go_ret
      exact ⟨_, rfl, by rw [HXW.out, ← partR_all HL.out]; exact HMW.out, by rw [HXW.out]; exact HBW.out⟩
end Go.Proofs.Ytaalnjinocicgaa
namespace Go.Proofs.Ytaalnjinocicgaa
open Go.ChangeShapes Go.WideShapes Go.ChangeAt Go.RowKit
set_option linter.unusedVariables false
set_option linter.unusedSimpArgs false
theorem ToMat.bel {xss : Rs} {w w1 : World} (hb : Below w.heap.size w w1) {e : Ending} {w' : World} (h : ToMat xss w1 e w') : ∃ v, e = .returned v ∧ MatW w' w.heap.size w'.heap.size v xss ∧ Below w.heap.size w w' := by
  obtain ⟨v, rfl, h1, h2⟩ := h
  exact ⟨v, rfl, h1.low hb.size, hb.trans (h2.mono hb.size)⟩
end Go.Proofs.Ytaalnjinocicgaa
