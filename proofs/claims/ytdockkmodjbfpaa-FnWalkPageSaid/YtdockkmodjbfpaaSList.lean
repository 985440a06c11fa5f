/- What the reference's lists of named frames are: those that words name, in order; and sorted, each once. -/
import Derived.Test.YtdockkmodjbfpaaWBase
import Derived.Test.YtdockkmodjbfpaaNew
namespace Go.Proofs.Ytdockkmodjbfpaa
open Go.ChangeShapes Go.WideShapes Go.ChangeAt Go.RowKit
set_option linter.unusedVariables false

/-- a new slice of numbers; nothing that was there changes -/
structure OwnI (w : World) (v : Value) (ys : List Int) (w' : World) : Prop where
  own : w'.ownsRow w.heap.size 3 1 v ys.length (ys.map (.int .i64))
  bel : Below w.heap.size w w'
  nn : v ≠ .slice none 0 0
def NewI (ys : List Int) (w : World) (e : Ending) (w' : World) : Prop := ∃ v, e = .returned v ∧ OwnI w v ys w'
theorem ints_of_own {w : World} {B : Nat} {v : Value} {ys : List Int} (h : w.ownsRow B 3 1 v ys.length (ys.map (.int .i64))) : Ints w v ys := by
  rcases h.2 with ⟨rfl, hz⟩ | ⟨g, cap, cur, rfl, hb, hbl, hnc, hcm, hcs, htk⟩
  · exact ⟨none, 0, by rw [hz], by omega, Nat.zero_le _, fun i hi => by omega⟩
  · refine ⟨some ⟨g, 0, none⟩, cap, rfl, hnc, hcm, fun i hi => ⟨g, 0, rfl, ?_⟩⟩
    have := h.cells (g := g) rfl i (.int .i64 (ys.getD i 0)) (by rw [getD_lt hi]; simp)
    rw [add0] at this
    rw [Nat.zero_add]; exact this
theorem OwnI.ints {w w' : World} {v : Value} {ys : List Int} (h : OwnI w v ys w') : Ints w' v ys := ints_of_own h.own
theorem own_lower {w : World} {B B' : Nat} {e : TypeId} {v : Value} {n : Nat} {x : List Value} (h : w.ownsRow B e 1 v n x) (hB : B' ≤ B) : w.ownsRow B' e 1 v n x := by
  refine ⟨h.1, ?_⟩
  rcases h.2 with hn | ⟨g, cap, cur, e, hb, rest⟩
  · exact .inl hn
  · exact .inr ⟨g, cap, cur, e, by omega, rest⟩
theorem OwnI.from {w w1 w2 : World} {v : Value} {ys : List Int} (h : OwnI w1 v ys w2) (hb : Below w.heap.size w w1) : OwnI w v ys w2 :=
  ⟨own_lower h.own hb.size, hb.trans (h.bel.mono hb.size), h.nn⟩
theorem OwnI.start (w : World) : OwnI w (.slice (some ⟨w.heap.size, 0, none⟩) 0 0) [] (w.alloc (.cells #[] 3)) :=
  ⟨World.ownsRow_made w #[] 0 (Nat.le_refl _) (Nat.zero_le _) rfl, (Below.refl _ _).alloc (Nat.le_refl _) _, fun h => by cases h⟩
theorem OwnI.grow {w wr w2 : World} {v v2 : Value} {ys zs : List Int} {o : Obj} {n : Nat} (h : OwnI w v ys wr) (hn : n = ys.length + zs.length) (h2 : w2.ownsRow w.heap.size 3 1 v2 n (ys.map (.int .i64) ++ zs.map (.int .i64))) (hg : (wr.alloc o).grownBy w2 v.ownBlock) (hnn : v2 = .slice none 0 0 → v = .slice none 0 0) :
    OwnI w v2 (ys ++ zs) w2 := by
  subst hn
  refine ⟨by rw [List.length_append, List.map_append]; exact h2, (h.bel.alloc h.bel.size o).grown hg (by have := h.bel.size; simp; omega) (fun b hb => (h.own.lt b hb).1), fun e => h.nn (hnn e)⟩

theorem l3Has_any (w : World) (v : Value) (xs : List Int) (n : Int) (h : Ints w v xs) :
    Calls Try.prog 76 #[v, .int .i64 n] w fun e w' => e = .returned (.bool (decide (n ∈ xs))) ∧ w = w' := by
  obtain ⟨a, ca, rfl, hla, hma, hxa⟩ := h
  unfold maxLen at hma
  obtain ⟨m, hm⟩ : ∃ m, m = xs.length := ⟨_, rfl⟩
  rw [← hm] at hla hxa ⊢
  have HM := Lib.hid hm
  clear hm
  go_enter Try.func76, Try.ntmps76
  go_wp2
  go_loop [5] (fun i => ∃ k : Nat, k ≤ m ∧ i = .int .i64 k ∧ Hid (∀ j, j < k → xs.getD j 0 ≠ n)) (fun i => m - (intOf i).toNat)
  case atStart => exact ⟨0, Nat.zero_le _, rfl, Lib.hid (fun j hj => by omega)⟩
  case round =>
    obtain ⟨k, hk, rfl, HB⟩ := hrel
    by_cases hlt : k < m
    · obtain ⟨ba, oa, rfl, hca⟩ := hxa k hlt
      obtain ⟨x, hx⟩ : ∃ x, x = xs.getD k 0 := ⟨_, rfl⟩
      rw [← hx] at hca
      have HX := Lib.hid hx
      clear hx hxa
      have hlt' : (k : Int) < (m : Int) := by omega
      by_cases he : x = n
      · have HE : Hid (decide (n ∈ xs) = true) := Lib.hid (decide_eq_true (by
          rw [← he, HX.out, getD_lt (by have := HM.out; omega)]
          exact List.getElem_mem _))
        have he' : (x == n) = true := by simpa using he
        clear he
        go_wp2
        go_ret
        exact ret_bool HE.out.symm
      · have he' : (x == n) = false := by simpa using he
        have HE := Lib.hid he
        clear he
        go_wp2
        go_round
        case rel => exact ⟨k + 1, by omega, by go_num, Lib.hid (fun j hj => by
          by_cases hjk : j = k
          · rw [hjk, ← HX.out]; exact HE.out
          · exact HB.out j (by omega))⟩
        case measure => simp [intOf]; omega
    · have HE : Hid (decide (n ∈ xs) = false) := Lib.hid (decide_eq_false (fun hh => by
        obtain ⟨j, hj, e⟩ := List.getElem_of_mem hh
        have := HB.out j (by have := HM.out; omega)
        rw [getD_lt hj] at this
        exact this e))
      go_wp2
      go_ret
      exact ret_bool HE.out.symm

def named (xs : List Int) : List Int := (xs.filter (fun x => decide (goodB x))).map (fun x => x / 4)
theorem named_snoc (xs : List Int) (k : Nat) (hk : k < xs.length) : named (xs.take (k + 1)) = named (xs.take k) ++ (if goodB (xs.getD k 0) then [xs.getD k 0 / 4] else []) := by
  rw [take_snoc_getD xs k 0 hk]
  unfold named
  by_cases h : goodB (xs.getD k 0)
  · rw [if_pos h]
    simp only [List.filter_append, List.map_append, List.filter_cons, h, decide_true, if_true, List.filter_nil, List.map_cons, List.map_nil]
  · rw [if_neg h]
    simp only [List.filter_append, List.map_append, List.filter_cons, h, decide_false, List.filter_nil]
    simp
theorem named_len (xs : List Int) : (named xs).length ≤ xs.length := by
  unfold named
  rw [List.length_map]
  exact List.length_filter_le _ _

theorem l3Named_any (w : World) (v : Value) (xs : List Int) (h : Ints w v xs) (hn : xs.length ≤ 1000) (hb : ∀ i, i < xs.length → 0 ≤ xs.getD i 0 ∧ xs.getD i 0 ≤ 9999) :
    Calls Try.prog 70 #[v] w (NewI (named xs) w) := by
  obtain ⟨a, ca, rfl, hla, hma, hxa⟩ := h
  unfold maxLen at hma
  obtain ⟨m, hm⟩ : ∃ m, m = xs.length := ⟨_, rfl⟩
  rw [← hm] at hla hxa hn hb ⊢
  have HM := Lib.hid hm
  have HB := Lib.hid hb
  clear hm hb
  obtain ⟨i0, hi, hz0, hz1, hz2⟩ := info_parts intInfo
  have HI := Lib.hid hi
  have HZ0 := Lib.hid hz0
  have HZ1 := Lib.hid hz1
  have HZ2 := Lib.hid hz2
  clear hi hz0 hz1 hz2
  go_enter Try.func70, Try.ntmps70
  go_wp2
  go_loopw [3, 4] (fun u i wr => ∃ k : Nat, k ≤ m ∧ i = .int .i64 k ∧ OwnI w u (named (xs.take k)) wr) (fun _ i _ => m - (intOf i).toNat)
  case atStart => exact ⟨0, Nat.zero_le _, rfl, OwnI.start w⟩
  case round =>
    obtain ⟨k, hk, rfl, hrel⟩ := hrel
    by_cases hlt : k < m
    · obtain ⟨ba, oa, rfl, hca⟩ := hxa k hlt
      obtain ⟨x, hx⟩ : ∃ x, x = xs.getD k 0 := ⟨_, rfl⟩
      have hxb := HB.out k hlt
      have hsn := named_snoc xs k (by have := HM.out; omega)
      have hnl := named_len (xs.take k)
      rw [← hx] at hca hsn hxb
      have hcr := (hrel.bel.cell (p := ⟨ba, oa + k, none⟩) (cell_lt hca)).trans hca
      have hlt' : (k : Int) < (m : Int) := by omega
      have HSN := Lib.hid hsn
      have hnl' : (named (xs.take k)).length ≤ 1000 := by rw [List.length_take] at hnl; omega
      have HNL := Lib.hid hnl'
      clear hsn hnl hnl' hx hxa hca
      by_cases hg : goodB x
      · rw [if_pos hg] at HSN
        have HC := Lib.hid (fun w => eS_yes x w hg)
        obtain ⟨z, hz⟩ : ∃ z, z = x / 4 := ⟨_, rfl⟩
        rw [← hz] at HC HSN
        obtain ⟨b2, hb2⟩ : ∃ b2, b2 = decide (x % 4 = 3) := ⟨_, rfl⟩
        rw [← hb2] at HC
        clear hz hb2 hg
        have HREL := Lib.hid hrel
        clear hrel
        go_wp2_with fail
        refine (HC.out _).mono ?_
        rintro e w' ⟨rfl, rfl⟩
        go_wp2_with (at_builtin; refine wpList_append_own _ rfl (.tmp 25) (.tmp 27) 34 rfl w.heap.size 3 i0 (.int .i64 0) 1 8 Try.underlying34 HI.out HZ0.out HZ1.out HZ2.out rfl (by decide) _ _ _ rfl (HREL.out.own.alloc _) ⟨wr.heap.size, 0, none⟩ 1 1 [.int .i64 z] rfl rfl (cell_one_new _ _ _) (by intro u hu; simp at hu; subst hu; rfl) (by have := HNL.out; unfold maxLen; omega) (by have := HNL.out; omega) (by have := HREL.out.bel.size; simp; omega) ?_; intro v2 w2 hown2 hgrow2 hnn2)
        have HR2 : Hid (OwnI w v2 (named (xs.take (k + 1))) w2) := Lib.hid (by
          rw [HSN.out]
          exact HREL.out.grow (zs := [z]) rfl hown2 hgrow2 (fun e => (hnn2.1 e).1))
        clear hown2 hgrow2 hnn2
        go_wp2
        go_roundw
        case rel => exact ⟨k + 1, by omega, by go_num, HR2.out⟩
        case measure => simp [intOf]; omega
      · rw [if_neg hg, List.append_nil] at HSN
        have HC := Lib.hid (fun w => eS_no x w hg (by omega) (by omega))
        have HR2 : Hid (OwnI w u3 (named (xs.take (k + 1))) wr) := Lib.hid (by rw [HSN.out]; exact hrel)
        clear hg hrel
        go_wp2_with fail
        refine (HC.out _).mono ?_
        rintro e w' ⟨rfl, rfl⟩
        go_wp2_with fail
        go_roundw
        case rel => exact ⟨k + 1, by omega, by go_num, HR2.out⟩
        case measure => simp [intOf]; omega
    · have e : k = m := by omega
      subst e
      rw [take_all HM.out] at hrel
      have HREL := Lib.hid hrel
      clear hrel
      go_wp2
      go_ret
      exact ⟨_, rfl, HREL.out⟩
end Go.Proofs.Ytdockkmodjbfpaa
