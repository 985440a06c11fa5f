/- New slices of translations: how they grow, and what they read as. -/
import Derived.Test.YtklclcbhghjjfaaCFind
import Derived.OwnWalk
import Derived.Maps.AppendAt
namespace Go.Proofs.Ytklclcbhghjjfaa
open Go.ChangeShapes Go.WideShapes Go.ChangeAt Go.RowKit
set_option linter.unusedVariables false

theorem cvInfo : (Try.prog.info? 25).map (fun i => (i.zero, i.size, i.bytes)) = some (some (.agg #[.int .i64 0, .int .i64 0, .int .i64 0, .bool false]), 4, 32) := by kernel_rfl
/-- the cells of translations, one behind the other -/
def csC (xs : List CV) : List Value := xs.flatMap cvC
theorem csC_snoc (xs : List CV) (x : CV) : csC (xs ++ [x]) = csC xs ++ cvC x := by simp [csC]
theorem csC_len (xs : List CV) : (csC xs).length = xs.length * 4 := by
  induction xs with
  | nil => rfl
  | cons x xs ih => simp only [csC, List.flatMap_cons, List.length_append] at ih ⊢; rw [ih]; simp [cvC]; omega
theorem csC_get (xs : List CV) {i j : Nat} (hi : i < xs.length) (hj : j < 4) : (csC xs)[i * 4 + j]? = (cvC (xs.getD i c0))[j]? := by
  have e : xs = xs.take i ++ ([xs.getD i c0] ++ xs.drop (i + 1)) := by
    rw [← List.append_assoc, ← take_snoc_getD xs i c0 hi, List.take_append_drop]
  have h1 : (csC (xs.take i)).length = i * 4 := by rw [csC_len, List.length_take]; omega
  have h2 : csC xs = csC (xs.take i) ++ (cvC (xs.getD i c0) ++ csC (xs.drop (i + 1))) := by
    conv => lhs; rw [e]
    simp [csC]
  rw [h2, List.getElem?_append_right (by omega), h1, Nat.add_sub_cancel_left, List.getElem?_append_left (by simp [cvC]; omega)]

/-- a new slice of translations; nothing that was there changes -/
structure OwnC (w : World) (v : Value) (ys : List CV) (w' : World) : Prop where
  own : w'.ownsRow w.heap.size 25 4 v ys.length (csC ys)
  bel : Below w.heap.size w w'
  nn : v ≠ .slice none 0 0
def NewC (ys : List CV) (w : World) (e : Ending) (w' : World) : Prop := ∃ v, e = .returned v ∧ OwnC w v ys w'
theorem cs_of_own {w : World} {B : Nat} {v : Value} {ys : List CV} (h : w.ownsRow B 25 4 v ys.length (csC ys)) : Cs w v ys := by
  rcases h.2 with ⟨rfl, hz⟩ | ⟨g, cap, cur, rfl, hb, hbl, hnc, hcm, hcs, htk⟩
  · exact ⟨none, 0, by rw [hz], by omega, Nat.zero_le _, fun i hi => by omega⟩
  · refine ⟨some ⟨g, 0, none⟩, cap, rfl, hnc, hcm, fun i hi => ⟨g, 0, rfl, ?_⟩⟩
    have hc : ∀ j v, j < 4 → (cvC (ys.getD i c0))[j]? = some v → w.cell? ⟨g, 0 + i * 4 + j, none⟩ = some v := fun j v hj hv => by
      have := h.cells (g := g) rfl (i * 4 + j) v (by rw [csC_get ys hi hj]; exact hv)
      rw [add0] at this
      rwa [Nat.zero_add]
    exact ⟨hc 0 _ (by omega) rfl, hc 1 _ (by omega) rfl, hc 2 _ (by omega) rfl, hc 3 _ (by omega) rfl⟩
theorem OwnC.form {w w' : World} {v : Value} {ys : List CV} (h : OwnC w v ys w') : ∃ g cap, v = .slice (some ⟨g, 0, none⟩) ys.length cap ∧ ys.length ≤ cap ∧ cap ≤ maxLen ∧ w.heap.size ≤ g := by
  rcases h.own.2 with ⟨e, _⟩ | ⟨g, cap, cur, e, hb, _, hnc, hcm, _⟩
  · exact absurd e h.nn
  · exact ⟨g, cap, e, hnc, hcm, hb⟩
theorem OwnC.drew {w w' : World} {v : Value} {ys : List CV} (h : OwnC w v ys w') : OwnC w v ys w'.drew := ⟨h.own, h.bel.drew, h.nn⟩
theorem OwnC.cs {w w' : World} {v : Value} {ys : List CV} (h : OwnC w v ys w') : Cs w' v ys := cs_of_own h.own
theorem own_lowerC {w : World} {B B' : Nat} {e : TypeId} {s : Nat} {v : Value} {n : Nat} {x : List Value} (h : w.ownsRow B e s v n x) (hB : B' ≤ B) : w.ownsRow B' e s v n x := by
  refine ⟨h.1, ?_⟩
  rcases h.2 with hn | ⟨g, cap, cur, e, hb, rest⟩
  · exact .inl hn
  · exact .inr ⟨g, cap, cur, e, by omega, rest⟩
theorem OwnC.from {w w1 w2 : World} {v : Value} {ys : List CV} (h : OwnC w1 v ys w2) (hb : Below w.heap.size w w1) : OwnC w v ys w2 :=
  ⟨own_lowerC h.own hb.size, hb.trans (h.bel.mono hb.size), h.nn⟩
theorem OwnC.start (w : World) : OwnC w (.slice (some ⟨w.heap.size, 0, none⟩) 0 0) [] (w.alloc (.cells #[] 25)) :=
  ⟨World.ownsRow_made w #[] 0 (Nat.le_refl _) (Nat.zero_le _) rfl, (Below.refl _ _).alloc (Nat.le_refl _) _, fun h => by cases h⟩
theorem OwnC.grow {w wr w2 : World} {v v2 : Value} {ys zs : List CV} {o : Obj} {n : Nat} (h : OwnC w v ys wr) (hn : n = ys.length + zs.length) (h2 : w2.ownsRow w.heap.size 25 4 v2 n (csC ys ++ csC zs)) (hg : (wr.alloc o).grownBy w2 v.ownBlock) (hnn : v2 = .slice none 0 0 → v = .slice none 0 0) :
    OwnC w v2 (ys ++ zs) w2 := by
  subst hn
  refine ⟨by rw [List.length_append, show csC (ys ++ zs) = csC ys ++ csC zs from by simp [csC]]; exact h2, (h.bel.alloc h.bel.size o).grown hg (by have := h.bel.size; simp; omega) (fun b hb => (h.own.lt b hb).1), fun e => h.nn (hnn e)⟩
theorem cell_four_new (w : World) (x : CV) (t : TypeId) : ∀ j u, (cvC x)[j]? = some u → (w.alloc (.cells #[.int .i64 x.e, .int .i64 x.p, .int .i64 x.f, .bool x.b] t)).cell? ((⟨w.heap.size, 0, none⟩ : Addr).add j) = some u := by
  intro j u hj
  rw [add0]
  have := cell_of_row (w.alloc (.cells #[.int .i64 x.e, .int .i64 x.p, .int .i64 x.f, .bool x.b] t)) w.heap.size j _ t (0, 0) (heap_alloc_new w _)
  rw [this]
  simpa [cvC] using hj

/-- the translations of other environments, in order -/
def drp (xs : List CV) (e : Int) : List CV := xs.filter (fun x => decide (x.e ≠ e))
theorem drp_snoc (xs : List CV) (e : Int) (k : Nat) (hk : k < xs.length) : drp (xs.take (k + 1)) e = drp (xs.take k) e ++ (if (xs.getD k c0).e = e then [] else [xs.getD k c0]) := by
  rw [take_snoc_getD xs k c0 hk]
  unfold drp
  by_cases h : (xs.getD k c0).e = e
  · rw [if_pos h]; simp only [List.filter_append, List.filter_cons, List.filter_nil]; rw [if_neg (by simpa using h)]
  · rw [if_neg h]; simp only [List.filter_append, List.filter_cons, List.filter_nil]; rw [if_pos (by simpa using h)]
theorem drp_len (xs : List CV) (e : Int) : (drp xs e).length ≤ xs.length := List.length_filter_le _ _
set_option maxRecDepth 100000 in
set_option maxHeartbeats 1000000 in
theorem l4Drop_any (w : World) (v : Value) (xs : List CV) (e : Int) (h : Cs w v xs) (hl : xs.length ≤ 1000000) :
    Calls Try.prog 49 #[v, .int .i64 e] w (NewC (drp xs e) w) := by
  obtain ⟨i0, hi, hz0, hz1, hz2⟩ := info_parts cvInfo
  have HI := Lib.hid hi
  have HZ0 := Lib.hid hz0
  have HZ1 := Lib.hid hz1
  have HZ2 := Lib.hid hz2
  clear hi hz0 hz1 hz2
  obtain ⟨a, cap, rfl, h1, h2, h3⟩ := h
  unfold maxLen at h2
  have H3 := Lib.hid h3
  obtain ⟨m, hm⟩ : ∃ m, m = xs.length := ⟨_, rfl⟩
  have HM := Lib.hid hm
  rw [← hm] at h1 hl ⊢
  clear hm h3
  go_enter Try.func49, Try.ntmps49
  go_wp2
  go_loopw [5, 6] (fun u i wr => ∃ k : Nat, k ≤ m ∧ i = .int .i64 k ∧ OwnC w u (drp (xs.take k) e) wr) (fun _ i _ => m - (intOf i).toNat)
  case atStart => exact ⟨0, Nat.zero_le _, rfl, OwnC.start w⟩
  case round =>
    obtain ⟨k, hk, rfl, hrel⟩ := hrel
    by_cases hlt : k < m
    · obtain ⟨b, o, rfl, hf0⟩ := H3.out k (by have := HM.out; omega)
      have hsn := drp_snoc xs e k (by have := HM.out; omega)
      obtain ⟨x, hx⟩ : ∃ x, x = xs.getD k c0 := ⟨_, rfl⟩
      rw [← hx] at hf0 hsn
      obtain ⟨g0, g1, g2, g3⟩ := hf0.below hrel.bel (block_lt_of_cell hf0.c0)
      have HNL : Hid ((drp (xs.take k) e).length ≤ k) := Lib.hid (by
        have := drp_len (xs.take k) e
        rw [List.length_take] at this
        omega)
      have HSN := Lib.hid hsn
      have HREL := Lib.hid hrel
      clear hsn hrel hx hf0
      by_cases he : x.e = e
      · rw [if_pos he, List.append_nil] at HSN
        have he' : (x.e != e) = false := by simpa using he
        have HR2 : Hid (OwnC w u5 (drp (xs.take (k + 1)) e) wr) := Lib.hid (by rw [HSN.out]; exact HREL.out)
        clear he
        go_wp2
        go_roundw
        case rel => exact ⟨k + 1, by omega, by go_num, HR2.out⟩
        case measure => simp [intOf]; omega
      · rw [if_neg he] at HSN
        have he' : (x.e != e) = true := by simpa using he
        clear he
        go_wp2_with (at_builtin; refine wpList_append_own _ rfl (.tmp 21) (.tmp 26) 23 rfl w.heap.size 25 i0 (.agg #[.int .i64 0, .int .i64 0, .int .i64 0, .bool false]) 4 32 Try.underlying23 HI.out HZ0.out HZ1.out HZ2.out rfl (by decide) _ _ _ rfl (HREL.out.own.alloc _) ⟨wr.heap.size, 0, none⟩ 1 1 (cvC x) rfl rfl (cell_four_new _ _ _) (by intro u hu; simp [cvC] at hu; rcases hu with rfl | rfl | rfl | rfl <;> rfl) (by have := HNL.out; unfold maxLen; omega) (by have := HNL.out; omega) (by have := HREL.out.bel.size; simp; omega) ?_; intro v2 w2 hown2 hgrow2 hnn2)
        have HR2 : Hid (OwnC w v2 (drp (xs.take (k + 1)) e) w2) := Lib.hid (by
          rw [HSN.out]
          exact HREL.out.grow (zs := [x]) rfl (by rw [show csC [x] = cvC x from by simp [csC]]; exact hown2) hgrow2 (fun e => (hnn2.1 e).1))
        clear hown2 hgrow2 hnn2
        go_wp2
        go_roundw
        case rel => exact ⟨k + 1, by omega, by go_num, HR2.out⟩
        case measure => simp [intOf]; omega
    · have ek : k = m := by omega
      subst ek
      rw [take_all HM.out] at hrel
      have HREL := Lib.hid hrel
      clear hrel
      go_wp2
      go_ret
      exact ⟨_, rfl, HREL.out⟩
end Go.Proofs.Ytklclcbhghjjfaa
