/- What the proofs stand on, part 4: RSpec2 ExRights RSet RSetAt RImpl IMath ISpec ISpec2 ITo IMk. -/
import Derived.Test.YticnfekjbknomaaMg3
import Derived.Test.YticnfekjbknomaaMg2
import Derived.Maps.Ext
import Derived.Maps.OwnSet
import Derived.Sort.Walk0
import Derived.Sort.KeysCollected
import Derived.Lib.SlMapFilter
import Derived.Laws.IdiomStrings
/- What the reference's functions of lists of rights return. -/
namespace Go.Proofs.Yticnfekjbknomaa
open Go.ChangeShapes Go.WideShapes Go.ChangeAt Go.RowKit
set_option linter.unusedVariables false

theorem any_take_all {xs : List Bs} {f : Bs → Bool} {k : Nat} (h : (xs.take k).any f = false) (hk : k = xs.length) : xs.any f = false := by rw [take_all hk] at h; exact h
theorem any_take_succ {xs : List Bs} {f : Bs → Bool} {k : Nat} (h : (xs.take k).any f = false) (hk : k < xs.length) (hf : f (xs.getD k []) = false) : (xs.take (k + 1)).any f = false := by
  rw [take_snoc_getD xs k [] hk, List.any_append, h]; simpa using hf
theorem any_at {xs : List Bs} {f : Bs → Bool} {k : Nat} (hk : k < xs.length) (hf : f (xs.getD k []) = true) : xs.any f = true := by
  rw [List.any_eq_true]
  exact ⟨_, by rw [getD_lt hk]; exact List.getElem_mem hk, hf⟩

theorem sMay0_any (w : World) (v : Value) (xs : List Bs) (g : Bs) (h : Strs w v xs) (hs : Short xs) (hg : g.length ≤ 2000000) :
    Calls Try.prog 125 #[v, .string ⟨g.toArray⟩] w (Says (may0 xs g) w) := by
  obtain ⟨a, ca, rfl, hla, hma, hxa⟩ := h
  unfold maxLen at hma
  obtain ⟨n, hN⟩ : ∃ n, n = xs.length := ⟨_, rfl⟩
  rw [← hN] at hla hxa ⊢
  have HN := Lib.hid hN
  have HS := Lib.hid hs
  have HX := Lib.hid hxa
  clear hN hs hxa
  go_enter Try.func125, Try.ntmps125
  go_wp2
  go_loop [5] (fun i => ∃ k : Nat, k ≤ n ∧ i = .int .i64 k ∧ Hid ((xs.take k).any (fun x => cov x g) = false)) (fun i => n - (intOf i).toNat)
  case atStart => exact ⟨0, Nat.zero_le _, rfl, Lib.hid (by simp)⟩
  case round =>
    obtain ⟨k, hk, rfl, HT⟩ := hrel
    by_cases hlt : k < n
    · have hlt' : (k : Int) < (n : Int) := by omega
      have hkx : k < xs.length := by rw [← HN.out]; exact hlt
      obtain ⟨b, o, rfl, hc⟩ := HX.out k hlt
      have HC := Lib.hid (sCovers_any w (xs.getD k []) g (HS.out.at k) hg)
      have HY := Lib.hid (fun h => any_at (f := fun x => cov x g) hkx h)
      have HO := Lib.hid (fun h => any_take_succ (f := fun x => cov x g) HT.out hkx h)
      generalize xs.getD k [] = x at hc HC HY HO
      clear hkx
      cases hv : cov x g with
      | true =>
        have HR := Lib.hid (HY.out hv)
        rw [hv] at HC
        clear hv
        go_wp2_with fail
        refine HC.out.mono ?_
        rintro e w1 ⟨rfl, rfl⟩
        go_wp2_with fail
        go_ret
        exact says_mk HR.out.symm
      | false =>
        have HR := Lib.hid (HO.out hv)
        rw [hv] at HC
        clear hv
        go_wp2_with fail
        refine HC.out.mono ?_
        rintro e w1 ⟨rfl, rfl⟩
        go_wp2_with fail
        go_round
        case rel => exact ⟨k + 1, by omega, by go_num, HR⟩
        case measure => simp [intOf]; omega
    · go_wp2
      go_ret
      have e : k = n := by omega
      exact says_mk (any_take_all HT.out (by rw [e]; exact HN.out)).symm

theorem drop_take_succ {xs : List Bs} {s : Bs} {k : Nat} (hk : k < xs.length) : drop0 (xs.take (k + 1)) s = drop0 (xs.take k) s ++ (if cov s (xs.getD k []) = true then [] else [xs.getD k []]) := by
  rw [take_snoc_getD xs k [] hk]
  simp only [drop0, List.filter_append]
  congr 1
  generalize xs.getD k [] = y
  by_cases h : cov s y = true
  · rw [if_pos h]; simp [h]
  · rw [if_neg h]; simp [h]
theorem drop_len (xs : List Bs) (s : Bs) : (drop0 xs s).length ≤ xs.length := by
  unfold drop0; exact List.length_filter_le ..
theorem OwnS.alloc {w w' : World} {v : Value} {ys : List Bs} (h : OwnS w v ys w') (o : Obj) : OwnS w v ys (w'.alloc o) := ⟨h.own.alloc _, h.bel.alloc h.bel.size o⟩
theorem strs_one (w : World) (x : Bs) : Strs (w.alloc (.cells #[.string ⟨x.toArray⟩] 9)) (.slice (some ⟨w.heap.size, 0, none⟩) 1 1) [x] :=
  ⟨_, 1, rfl, Nat.le_refl _, by decide, fun i hi => ⟨w.heap.size, 0, rfl, by
    have e : i = 0 := by simpa using hi
    subst e
    exact new_cell rfl⟩⟩

theorem Strs.grown {w w' : World} {v : Value} {xs : List Bs} {row : Option Nat} (h : Strs w v xs) (hg : w.grownBy w' row) (hne : ∀ b o n c, v = .slice (some ⟨b, o, none⟩) n c → row ≠ some b) : Strs w' v xs := by
  obtain ⟨a, cap, rfl, h1, h2, h3⟩ := h
  refine ⟨a, cap, rfl, h1, h2, fun i hi => ?_⟩
  obtain ⟨b, o, rfl, hc⟩ := h3 i hi
  exact ⟨b, o, rfl, (World.cell?_of_block (hg.block b (cell_lt hc) (fun e => hne b o _ _ rfl e.symm))).trans hc⟩
theorem Strs.take {w : World} {b o n c : Nat} {xs : List Bs} (h : Strs w (.slice (some ⟨b, o, none⟩) n c) xs) {k : Nat} (hk : k ≤ xs.length) : Strs w (.slice (some ⟨b, o, none⟩) k c) (xs.take k) := by
  obtain ⟨a', cap, e, h1, h2, h3⟩ := h
  injection e with e1 e2 e3
  subst e1; subst e3
  refine ⟨_, c, by rw [List.length_take, Nat.min_eq_left hk], by rw [List.length_take]; omega, h2, fun i hi => ?_⟩
  rw [List.length_take] at hi
  obtain ⟨b', o', e, hc⟩ := h3 i (by omega)
  cases e
  refine ⟨b, o, rfl, ?_⟩
  rw [hc, getD_lt (show i < xs.length by omega), getD_lt (show i < (xs.take k).length by rw [List.length_take]; omega), List.getElem_take]
theorem Strs.drop {w : World} {b o n c : Nat} {xs : List Bs} (h : Strs w (.slice (some ⟨b, o, none⟩) n c) xs) {k : Nat} (hk : k ≤ xs.length) : Strs w (.slice (some ⟨b, o + k, none⟩) (n - k) (c - k)) (xs.drop k) := by
  obtain ⟨a', cap, e, h1, h2, h3⟩ := h
  injection e with e1 e2 e3
  subst e1; subst e3
  refine ⟨_, c - k, by rw [List.length_drop, e2], by rw [List.length_drop]; omega, by omega, fun i hi => ?_⟩
  rw [List.length_drop] at hi
  obtain ⟨b', o', e, hc⟩ := h3 (k + i) (by omega)
  cases e
  refine ⟨b, o + k, rfl, ?_⟩
  rw [Nat.add_assoc, hc, getD_lt (show k + i < xs.length by omega), getD_lt (show i < (xs.drop k).length by rw [List.length_drop]; omega), List.getElem_drop]

theorem below_drew_n (w : World) (d : Nat) : Below w.heap.size w (w.drewN d).drew := ⟨rfl, rfl, rfl, Nat.le_refl _, fun _ _ => rfl⟩
theorem strs_none {W : World} {b q n c : Nat} {xs : List Bs} (h : n = xs.length) (h0 : n = 0) (h1 : c ≤ 9223372036854775807) : Strs W (.slice (some ⟨b, q, none⟩) n c) xs :=
  ⟨_, c, by rw [h], by omega, by unfold maxLen; omega, fun i hi => by omega⟩
theorem strs_one_lt {w : World} {q : Nat} {s : Bs} (h : Strs w (.slice (some ⟨q, 0, none⟩) 1 1) [s]) : q < w.heap.size := by
  obtain ⟨a, c, e, _, _, h3⟩ := h
  obtain ⟨b, o, e2, hc⟩ := h3 0 (by simp)
  injection e with e1 _ _
  rw [← e1] at e2
  cases e2
  exact cell_lt hc
theorem own_start_drew (w : World) (d : Nat) : OwnS w (.slice (some ⟨w.heap.size, 0, none⟩) 0 0) [] ((w.drewN d).alloc (.cells #[] 9)) :=
  ⟨World.ownsRow_made (w.drewN d) #[] 0 (Nat.le_refl _) (Nat.zero_le _) rfl, by have := (Below.refl (w.drewN d).heap.size (w.drewN d)).alloc (Nat.le_refl _) (.cells #[] 9); exact ⟨this.os, this.tape, this.output, this.size, this.block⟩⟩
/-- a new slice of texts that is not nil, and a bool -/
def NewSO (ys : List Bs) (b : Bool) (w : World) (e : Ending) (w' : World) : Prop := ∃ v, e = .returned (.tuple #[v, .bool b]) ∧ OwnS w v ys w' ∧ v ≠ .slice none 0 0
theorem NewSO.newSB {ys : List Bs} {b : Bool} {w : World} {e : Ending} {w' : World} (h : NewSO ys b w e w') : NewSB ys b w e w' := by
  obtain ⟨v, rfl, ho, _⟩ := h
  exact ⟨v, rfl, ho.row, ho.bel⟩
theorem sRightsAdd_any (w : World) (b o ca n : Nat) (xs : List Bs) (s : Bs) (h : Strs w (.slice (some ⟨b, o, none⟩) n ca) xs) (hN : n = xs.length) (hs : Short xs) (hg : s.length ≤ 2000000) :
    Calls Try.prog 104 #[.slice (some ⟨b, o, none⟩) n ca, .string ⟨s.toArray⟩] w (NewSO (radd xs s).1 (radd xs s).2 w) := by
  have HA := Lib.hid (sRightsValid_any w _ xs h hs)
  have HB := Lib.hid (fun w => sRightValid_any w s hg)
  obtain ⟨r, hr⟩ : ∃ r, r = radd xs s := ⟨_, rfl⟩
  rw [← hr]
  have HR := Lib.hid hr
  have H := Lib.hid h
  have HN := Lib.hid hN
  have hcap : n ≤ ca ∧ ca ≤ maxLen := by
    obtain ⟨a', cap, e, h1, h2, h3⟩ := h
    injection e with e1 e2 e3
    subst e3
    exact ⟨by omega, h2⟩
  obtain ⟨hla, hma⟩ := hcap
  unfold maxLen at hma
  have HX : Hid (∀ i, i < n → w.cell? ⟨b, o + i, none⟩ = some (.string ⟨(xs.getD i []).toArray⟩)) := Lib.hid (fun i hi => by
    obtain ⟨a', cap, e, h1, h2, h3⟩ := h
    obtain ⟨b', o', e', hc⟩ := h3 i (by omega)
    injection e with e1 e2 e3
    subst e1
    cases e'
    exact hc)
  have new0 : Hid (∀ d, r = ([], false) → NewSO r.1 r.2 w (.returned (.tuple #[.slice (some ⟨w.heap.size, 0, none⟩) 0 0, .bool false])) ((w.drewN d).alloc (.cells #[] 9))) := Lib.hid (fun d e => by
    rw [e]
    exact ⟨_, rfl, own_start_drew w d, fun e => by cases e⟩)
  clear hr h hs hg hN
  go_enter Try.func104, Try.ntmps104
  go_wp2_with fail
  refine HA.out.mono ?_
  rintro e w1 ⟨rfl, d, rfl⟩
  cases hva : rvs xs with
  | false =>
    have e0 : r = ([], false) := by rw [HR.out]; exact radd_bad (by rw [hva]; simp)
    have NW := Lib.hid (new0.out d e0)
    clear hva e0
    go_wp2_with fail
    go_ret2
    exact NW.out
  | true =>
    have HLN := Lib.hid (rvs_len hva)
    have HV := Lib.hid hva
    clear hva
    go_wp2_with fail
    refine (HB.out _).mono ?_
    rintro e w1 ⟨rfl, rfl⟩
    cases hvb : rv s with
    | false =>
      have e0 : r = ([], false) := by rw [HR.out]; exact radd_bad (by rw [hvb]; simp)
      have NW := Lib.hid (new0.out d e0)
      clear hvb e0
      go_wp2_with fail
      go_ret2
      exact NW.out
    | true =>
      have HVS : Hid ((rvs xs && rv s) = true) := Lib.hid (by rw [HV.out, hvb]; rfl)
      clear hvb
      go_wp2_with fail
      go_loop [6] (fun i => ∃ k : Nat, k ≤ n ∧ i = .int .i64 k ∧ Hid (∀ j, j < k → bl (xs.getD j []) s = true)) (fun i => n - (intOf i).toNat)
      case atStart => exact ⟨0, Nat.zero_le _, rfl, Lib.hid (fun j hj => by omega)⟩
      case round =>
        obtain ⟨k, hk, rfl, HT⟩ := hrel
        by_cases hlt : k < n
        · have hlt' : (k : Int) < (n : Int) := by omega
          have hkx : k < xs.length := by rw [← HN.out]; exact hlt
          have hc := HX.out k hlt
          have HCUT := Lib.hid (fun h => cut_eq (xs := xs) (s := s) (by omega) HT.out (fun _ => h))
          have HMC := Lib.hid (@mem_cut xs s (rvs_asc HV.out))
          have HST := Lib.hid (fun (h : bl (xs.getD k []) s = true) j (hj : j < k + 1) => (show bl (xs.getD j []) s = true from by
            by_cases e : j = k
            · rw [e]; exact h
            · exact HT.out j (by omega)))
          obtain ⟨x, hx⟩ : ∃ x, x = xs.getD k [] := ⟨_, rfl⟩
          rw [← hx] at hc HCUT HST
          have HXX := Lib.hid hx
          clear hkx hx
          cases hv : bl x s with
          | true =>
            have HS2 := Lib.hid (HST.out hv)
            have hle : (Op.bytesLess x s) = true := hv
            clear hv
            go_wp2_with fail
            go_round
            case rel => exact ⟨k + 1, by omega, by go_num, HS2⟩
            case measure => simp [intOf]; omega
          | false =>
            have HK := Lib.hid (HCUT.out hv)
            have hle : (Op.bytesLess x s) = false := hv
            clear hv
            by_cases he : x = s
            · have e0 : r = (xs, true) := by rw [HR.out]; exact radd_there HVS.out (HMC.out.2 ⟨by rw [← HK.out, ← HN.out]; exact hlt, by rw [← HK.out, ← HXX.out]; exact he⟩)
              have E0 := Lib.hid e0
              have heq : (x == s) = true := by simpa using he
              have H0 : Hid (OwnS w (.slice (some ⟨w.heap.size, 0, none⟩) 0 0) [] ((w.drewN d).alloc (.cells #[] 9))) := Lib.hid (own_start_drew w d)
              clear e0 he
              go_wp2_with (at_builtin; refine wpList_append_strs (.tmp 42) (.tmp 43) w _ [] rfl H0.out _ xs rfl (H.out.below H0.out.bel) nilOk_some (by have := HLN.out; simp; omega) ?_; intro v2 w2 hown2 hnn2 hgrow2)
              have NW : Hid (NewSO r.1 r.2 w (.returned (.tuple #[v2, .bool true])) w2) := Lib.hid (by rw [E0.out]; exact ⟨_, rfl, hown2, fun e => by have := (hnn2.1 e).1; cases this⟩)
              clear hown2 hnn2 hgrow2
              go_wp2
              go_ret2
              exact NW.out
            · have HNM : Hid (s ∉ xs) := Lib.hid (fun hm => he (by have := (HMC.out.1 hm).2; rw [← HK.out, ← HXX.out] at this; exact this))
              have heq : (x == s) = false := by simpa using he
              clear he
              by_cases h6 : 6 ≤ n
              · have h6' : (6 : Int) ≤ (n : Int) := by omega
                have e0 : r = (xs, false) := by rw [HR.out]; exact radd_full HVS.out HNM.out (by rw [← HN.out]; exact h6)
                have E0 := Lib.hid e0
                clear e0
                have H0 : Hid (OwnS w (.slice (some ⟨w.heap.size, 0, none⟩) 0 0) [] ((w.drewN d).alloc (.cells #[] 9))) := Lib.hid (own_start_drew w d)
                go_wp2_with (at_builtin; refine wpList_append_strs (.tmp 48) (.tmp 49) w _ [] rfl H0.out _ xs rfl (H.out.below H0.out.bel) nilOk_some (by have := HLN.out; simp; omega) ?_; intro v2 w2 hown2 hnn2 hgrow2)
                have NW : Hid (NewSO r.1 r.2 w (.returned (.tuple #[v2, .bool false])) w2) := Lib.hid (by rw [E0.out]; exact ⟨_, rfl, hown2, fun e => by have := (hnn2.1 e).1; cases this⟩)
                clear hown2 hnn2 hgrow2
                go_wp2
                go_ret2
                exact NW.out
              · have h6' : ¬ (6 : Int) ≤ (n : Int) := by omega
                have e0 : r = (ins xs s, true) := by rw [HR.out]; exact radd_ins HVS.out HNM.out (by rw [← HN.out]; exact h6)
                have E0 := Lib.hid e0
                clear e0
                go_wp2_with fail
                refine wp_region_held_drew (S := fun _ => True) (by kernel_rfl) trivial (fun hHeld => ?_)
                refine wpAnyH_take (i := 1) (oi := { dst := some 52, op := .move (.tmp 0), type := _, pos := _, after := _, guard := none }) (v := .slice (some ⟨b, o, none⟩) n ca) rfl (by kernel_rfl) (by kernel_rfl) (by kernel_rfl) (fun _ _ _ h => h) (Or.inl ⟨by rfl, fun wh hSw => ?_⟩) hHeld ?_
                · (go_simp)
                try simp only [Act.put, List.setIfInBounds_toArray, List.set_cons_zero, List.set_cons_succ]
                refine wpAnyH_take (i := 2) (oi := { dst := some 53, op := .move (.tmp 6), type := _, pos := _, after := _, guard := none }) (v := .int .i64 (k : Int)) rfl (by kernel_rfl) (by kernel_rfl) (by kernel_rfl) (fun _ _ _ h => h) (Or.inl ⟨by rfl, fun wh hSw => ?_⟩) hHeld ?_
                · (go_simp)
                try simp only [Act.put, List.setIfInBounds_toArray, List.set_cons_zero, List.set_cons_succ]
                refine wpAnyH_take (i := 3) (oi := { dst := some 54, op := .slice 28 (.tmp 52) none (some (.tmp 53)) none, type := _, pos := _, after := _, guard := none }) (v := .slice (some ⟨b, o, none⟩) k ca) rfl (by kernel_rfl) (by kernel_rfl) (by kernel_rfl) (fun _ _ _ h => h) (Or.inl ⟨by rfl, fun wh hSw => ?_⟩) hHeld ?_
                · (go_simp; intro hh; omega)
                try simp only [Act.put, List.setIfInBounds_toArray, List.set_cons_zero, List.set_cons_succ]
                refine wpAnyH_take (i := 5) (oi := { dst := some 56, op := .move (.tmp 1), type := _, pos := _, after := _, guard := none }) (v := .string ⟨s.toArray⟩) rfl (by kernel_rfl) (by kernel_rfl) (by kernel_rfl) (fun _ _ _ h => h) (Or.inl ⟨by rfl, fun wh hSw => ?_⟩) hHeld ?_
                · (go_simp)
                try simp only [Act.put, List.setIfInBounds_toArray, List.set_cons_zero, List.set_cons_succ]
                refine wpAnyH_take (i := 8) (oi := { dst := some 59, op := .move (.tmp 0), type := _, pos := _, after := _, guard := none }) (v := .slice (some ⟨b, o, none⟩) n ca) rfl (by kernel_rfl) (by kernel_rfl) (by kernel_rfl) (fun _ _ _ h => h) (Or.inl ⟨by rfl, fun wh hSw => ?_⟩) hHeld ?_
                · (go_simp)
                try simp only [Act.put, List.setIfInBounds_toArray, List.set_cons_zero, List.set_cons_succ]
                refine wpAnyH_take (i := 9) (oi := { dst := some 60, op := .move (.tmp 6), type := _, pos := _, after := _, guard := none }) (v := .int .i64 (k : Int)) rfl (by kernel_rfl) (by kernel_rfl) (by kernel_rfl) (fun _ _ _ h => h) (Or.inl ⟨by rfl, fun wh hSw => ?_⟩) hHeld ?_
                · (go_simp)
                try simp only [Act.put, List.setIfInBounds_toArray, List.set_cons_zero, List.set_cons_succ]
                refine wpAnyH_take (i := 10) (oi := { dst := some 61, op := .slice 28 (.tmp 59) (some (.tmp 60)) none none, type := _, pos := _, after := _, guard := none }) (v := .slice (some ⟨b, o + k, none⟩) (n - k) (ca - k)) rfl (by kernel_rfl) (by kernel_rfl) (by kernel_rfl) (fun _ _ _ h => h) (Or.inl ⟨by rfl, fun wh hSw => ?_⟩) hHeld ?_
                · (go_simp; intro hh; omega)
                try simp only [Act.put, List.setIfInBounds_toArray, List.set_cons_zero, List.set_cons_succ]
                refine anyH_gen _ (fun W0 hW0 => ?_)
                have HBW0 : Hid (Below w.heap.size w W0) := Lib.hid (by rw [hW0]; exact (below_drew_n w d))
                clear hW0
                refine wpAnyH_ready (rs := [0, 6]) (by kernel_rfl) (by simp) ?_
                refine AllReadyH.cons (o := { dst := some 51, op := .buildSlice 28 0 #[], type := _, pos := _, after := _, guard := none }) rfl (fun K hK => ?_) (AllReadyH.cons (o := { dst := some 57, op := .buildSlice 28 1 #[(0, .tmp 56)], type := _, pos := _, after := _, guard := none }) rfl (fun K hK => ?_) AllReadyH.nil)
                · skip
                  go_simp
                  refine hK.out _ _ trivial (fun hHeld => ?_)
                  clear hK K
                  try simp only [Act.put, List.setIfInBounds_toArray, List.set_cons_zero, List.set_cons_succ]
                  refine anyH_gen _ (fun W1 hW1 => ?_)
                  have HBW1 : Hid (Below w.heap.size w W1) := Lib.hid (by rw [hW1]; exact (HBW0.out).alloc (HBW0.out).size _)
                  have HOW1 : Hid (OwnS w (.slice (some ⟨W0.heap.size, 0, none⟩) 0 0) [] W1) := Lib.hid (by rw [hW1]; exact (OwnS.start W0).from HBW0.out)
                  clear hW1
                  refine wpAnyH_ready (rs := [4, 6]) (by kernel_rfl) (by simp) ?_
                  refine AllReadyH.cons (o := { dst := some 55, op := .call { callee := .builtin .append, args := #[.tmp 51, .tmp 54], argTypes := #[28, 28] }, type := _, pos := _, after := _, guard := none }) rfl (fun K hK => ?_) (AllReadyH.cons (o := { dst := some 57, op := .buildSlice 28 1 #[(0, .tmp 56)], type := _, pos := _, after := _, guard := none }) rfl (fun K hK => ?_) AllReadyH.nil)
                  · skip
                    rw [if_pos (by rfl)]
                    refine wp_append_strs (.tmp 51) (.tmp 54) w (.slice (some ⟨W0.heap.size, 0, none⟩) 0 0) [] rfl HOW1.out _ (xs.take k) rfl ((H.out.take (k := k) (by rw [← HN.out]; omega)).below HBW1.out) nilOk_some (by have := HLN.out; rw [List.length_take]; simp; omega) ?_
                    intro vW2 W2 hown hnn hg
                    have HOW2 : Hid (OwnS w vW2 ([] ++ (xs.take k)) W2) := Lib.hid hown
                    have HBW2 : Hid (Below w.heap.size w W2) := Lib.hid hown.bel
                    have HNNW2 : Hid (vW2 ≠ .slice none 0 0) := Lib.hid (fun e => by have := (hnn.1 e).1; cases this)
                    clear hown hnn hg
                    refine hK.out _ _ trivial (fun hHeld => ?_)
                    clear hK K
                    try simp only [Act.put, List.setIfInBounds_toArray, List.set_cons_zero, List.set_cons_succ]
                    refine wpAnyH_ready (rs := [6]) (by kernel_rfl) (by simp) ?_
                    refine AllReadyH.cons (o := { dst := some 57, op := .buildSlice 28 1 #[(0, .tmp 56)], type := _, pos := _, after := _, guard := none }) rfl (fun K hK => ?_) AllReadyH.nil
                    go_simp
                    refine hK.out _ _ trivial (fun hHeld => ?_)
                    clear hK K
                    try simp only [Act.put, List.setIfInBounds_toArray, List.set_cons_zero, List.set_cons_succ]
                    refine anyH_gen _ (fun W3 hW3 => ?_)
                    have HBW3 : Hid (Below w.heap.size w W3) := Lib.hid (by rw [hW3]; exact (HBW2.out).alloc (HBW2.out).size _)
                    have HQW3 : Hid (Strs W3 (.slice (some ⟨W2.heap.size, 0, none⟩) 1 1) [s]) := Lib.hid (by rw [hW3]; exact strs_one W2 s)
                    have HOW3 : Hid (OwnS w vW2 ([] ++ (xs.take k)) W3) := Lib.hid (by rw [hW3]; exact HOW2.out.alloc _)
                    clear hW3
                    refine wpAnyH_ready (rs := [7]) (by kernel_rfl) (by simp) ?_
                    refine AllReadyH.cons (o := { dst := some 58, op := .call { callee := .builtin .append, args := #[.tmp 55, .tmp 57], argTypes := #[28, 28] }, type := _, pos := _, after := _, guard := none }) rfl (fun K hK => ?_) AllReadyH.nil
                    rw [if_pos (by rfl)]
                    refine wp_append_strs (.tmp 55) (.tmp 57) w vW2 ([] ++ (xs.take k)) rfl HOW3.out _ [s] rfl HQW3.out nilOk_some (by have := HLN.out; simp; omega) ?_
                    intro vW4 W4 hown hnn hg
                    have HOW4 : Hid (OwnS w vW4 (([] ++ (xs.take k)) ++ [s]) W4) := Lib.hid hown
                    have HBW4 : Hid (Below w.heap.size w W4) := Lib.hid hown.bel
                    have HNNW4 : Hid (vW4 ≠ .slice none 0 0) := Lib.hid (fun e => HNNW2.out (hnn.1 e).1)
                    clear hown hnn hg
                    refine hK.out _ _ trivial (fun hHeld => ?_)
                    clear hK K
                    try simp only [Act.put, List.setIfInBounds_toArray, List.set_cons_zero, List.set_cons_succ]
                    refine wpAnyH_ready (rs := [11]) (by kernel_rfl) (by simp) ?_
                    refine AllReadyH.cons (o := { dst := some 62, op := .call { callee := .builtin .append, args := #[.tmp 58, .tmp 61], argTypes := #[28, 28] }, type := _, pos := _, after := _, guard := none }) rfl (fun K hK => ?_) AllReadyH.nil
                    rw [if_pos (by rfl)]
                    refine wp_append_strs (.tmp 58) (.tmp 61) w vW4 (([] ++ (xs.take k)) ++ [s]) rfl HOW4.out _ (xs.drop k) rfl ((H.out.drop (k := k) (by rw [← HN.out]; omega)).below HBW4.out) nilOk_some (by have := HLN.out; simp; omega) ?_
                    intro vW5 W5 hown hnn hg
                    have HOW5 : Hid (OwnS w vW5 ((([] ++ (xs.take k)) ++ [s]) ++ (xs.drop k)) W5) := Lib.hid hown
                    have HBW5 : Hid (Below w.heap.size w W5) := Lib.hid hown.bel
                    have HNNW5 : Hid (vW5 ≠ .slice none 0 0) := Lib.hid (fun e => HNNW4.out (hnn.1 e).1)
                    clear hown hnn hg
                    refine hK.out _ _ trivial (fun hHeld => ?_)
                    clear hK K
                    try simp only [Act.put, List.setIfInBounds_toArray, List.set_cons_zero, List.set_cons_succ]
                    refine wpAnyH_take (i := 12) (oi := { dst := some 4, op := .assign (.tmp 62), type := _, pos := _, after := _, guard := none }) (v := vW5) rfl (by kernel_rfl) (by kernel_rfl) (by kernel_rfl) (fun _ _ _ h => h) (Or.inl ⟨by rfl, fun wh hSw => ?_⟩) hHeld ?_
                    · (go_simp)
                    try simp only [Act.put, List.setIfInBounds_toArray, List.set_cons_zero, List.set_cons_succ]
                    refine wpAnyH_take (i := 13) (oi := { dst := some 5, op := .assign (.const (.bool true)), type := _, pos := _, after := _, guard := none }) (v := .bool true) rfl (by kernel_rfl) (by kernel_rfl) (by kernel_rfl) (fun _ _ _ h => h) (Or.inl ⟨by rfl, fun wh hSw => ?_⟩) hHeld ?_
                    · (go_simp)
                    try simp only [Act.put, List.setIfInBounds_toArray, List.set_cons_zero, List.set_cons_succ]
                    refine wpAnyH_done (by kernel_rfl) ?_ _
                    have NW : Hid (NewSO r.1 r.2 w (.returned (.tuple #[vW5, .bool true])) W5) := Lib.hid (by rw [E0.out]; refine ⟨_, rfl, ?_, HNNW5.out⟩; have := HOW5.out; rw [List.nil_append, List.append_assoc] at this; rw [ins, ← HK.out]; exact this)
                    go_wp2
                    go_ret2
                    exact NW.out
                  · skip
                    go_simp
                    refine hK.out _ _ trivial (fun hHeld => ?_)
                    clear hK K
                    try simp only [Act.put, List.setIfInBounds_toArray, List.set_cons_zero, List.set_cons_succ]
                    refine anyH_gen _ (fun W6 hW6 => ?_)
                    have HBW6 : Hid (Below w.heap.size w W6) := Lib.hid (by rw [hW6]; exact (HBW1.out).alloc (HBW1.out).size _)
                    have HQW6 : Hid (Strs W6 (.slice (some ⟨W1.heap.size, 0, none⟩) 1 1) [s]) := Lib.hid (by rw [hW6]; exact strs_one W1 s)
                    have HOW6 : Hid (OwnS w (.slice (some ⟨W0.heap.size, 0, none⟩) 0 0) [] W6) := Lib.hid (by rw [hW6]; exact HOW1.out.alloc _)
                    have HNW6 : Hid (W0.heap.size ≠ W1.heap.size) := Lib.hid (by have := (HOW1.out.own.lt W0.heap.size rfl).2; omega)
                    clear hW6
                    refine wpAnyH_ready (rs := [4]) (by kernel_rfl) (by simp) ?_
                    refine AllReadyH.cons (o := { dst := some 55, op := .call { callee := .builtin .append, args := #[.tmp 51, .tmp 54], argTypes := #[28, 28] }, type := _, pos := _, after := _, guard := none }) rfl (fun K hK => ?_) AllReadyH.nil
                    rw [if_pos (by rfl)]
                    refine wp_append_strs (.tmp 51) (.tmp 54) w (.slice (some ⟨W0.heap.size, 0, none⟩) 0 0) [] rfl HOW6.out _ (xs.take k) rfl ((H.out.take (k := k) (by rw [← HN.out]; omega)).below HBW6.out) nilOk_some (by have := HLN.out; rw [List.length_take]; simp; omega) ?_
                    intro vW7 W7 hown hnn hg
                    have HOW7 : Hid (OwnS w vW7 ([] ++ (xs.take k)) W7) := Lib.hid hown
                    have HBW7 : Hid (Below w.heap.size w W7) := Lib.hid hown.bel
                    have HQW7 : Hid (Strs W7 (.slice (some ⟨W1.heap.size, 0, none⟩) 1 1) [s]) := Lib.hid (HQW6.out.grown hg (fun b o n c e => by cases e; intro e2; injection e2 with e2; exact HNW6.out e2))
                    have HNNW7 : Hid (vW7 ≠ .slice none 0 0) := Lib.hid (fun e => by have := (hnn.1 e).1; cases this)
                    clear hown hnn hg
                    refine hK.out _ _ trivial (fun hHeld => ?_)
                    clear hK K
                    try simp only [Act.put, List.setIfInBounds_toArray, List.set_cons_zero, List.set_cons_succ]
                    refine wpAnyH_ready (rs := [7]) (by kernel_rfl) (by simp) ?_
                    refine AllReadyH.cons (o := { dst := some 58, op := .call { callee := .builtin .append, args := #[.tmp 55, .tmp 57], argTypes := #[28, 28] }, type := _, pos := _, after := _, guard := none }) rfl (fun K hK => ?_) AllReadyH.nil
                    rw [if_pos (by rfl)]
                    refine wp_append_strs (.tmp 55) (.tmp 57) w vW7 ([] ++ (xs.take k)) rfl HOW7.out _ [s] rfl HQW7.out nilOk_some (by have := HLN.out; simp; omega) ?_
                    intro vW8 W8 hown hnn hg
                    have HOW8 : Hid (OwnS w vW8 (([] ++ (xs.take k)) ++ [s]) W8) := Lib.hid hown
                    have HBW8 : Hid (Below w.heap.size w W8) := Lib.hid hown.bel
                    have HNNW8 : Hid (vW8 ≠ .slice none 0 0) := Lib.hid (fun e => HNNW7.out (hnn.1 e).1)
                    clear hown hnn hg
                    refine hK.out _ _ trivial (fun hHeld => ?_)
                    clear hK K
                    try simp only [Act.put, List.setIfInBounds_toArray, List.set_cons_zero, List.set_cons_succ]
                    refine wpAnyH_ready (rs := [11]) (by kernel_rfl) (by simp) ?_
                    refine AllReadyH.cons (o := { dst := some 62, op := .call { callee := .builtin .append, args := #[.tmp 58, .tmp 61], argTypes := #[28, 28] }, type := _, pos := _, after := _, guard := none }) rfl (fun K hK => ?_) AllReadyH.nil
                    rw [if_pos (by rfl)]
                    refine wp_append_strs (.tmp 58) (.tmp 61) w vW8 (([] ++ (xs.take k)) ++ [s]) rfl HOW8.out _ (xs.drop k) rfl ((H.out.drop (k := k) (by rw [← HN.out]; omega)).below HBW8.out) nilOk_some (by have := HLN.out; simp; omega) ?_
                    intro vW9 W9 hown hnn hg
                    have HOW9 : Hid (OwnS w vW9 ((([] ++ (xs.take k)) ++ [s]) ++ (xs.drop k)) W9) := Lib.hid hown
                    have HBW9 : Hid (Below w.heap.size w W9) := Lib.hid hown.bel
                    have HNNW9 : Hid (vW9 ≠ .slice none 0 0) := Lib.hid (fun e => HNNW8.out (hnn.1 e).1)
                    clear hown hnn hg
                    refine hK.out _ _ trivial (fun hHeld => ?_)
                    clear hK K
                    try simp only [Act.put, List.setIfInBounds_toArray, List.set_cons_zero, List.set_cons_succ]
                    refine wpAnyH_take (i := 12) (oi := { dst := some 4, op := .assign (.tmp 62), type := _, pos := _, after := _, guard := none }) (v := vW9) rfl (by kernel_rfl) (by kernel_rfl) (by kernel_rfl) (fun _ _ _ h => h) (Or.inl ⟨by rfl, fun wh hSw => ?_⟩) hHeld ?_
                    · (go_simp)
                    try simp only [Act.put, List.setIfInBounds_toArray, List.set_cons_zero, List.set_cons_succ]
                    refine wpAnyH_take (i := 13) (oi := { dst := some 5, op := .assign (.const (.bool true)), type := _, pos := _, after := _, guard := none }) (v := .bool true) rfl (by kernel_rfl) (by kernel_rfl) (by kernel_rfl) (fun _ _ _ h => h) (Or.inl ⟨by rfl, fun wh hSw => ?_⟩) hHeld ?_
                    · (go_simp)
                    try simp only [Act.put, List.setIfInBounds_toArray, List.set_cons_zero, List.set_cons_succ]
                    refine wpAnyH_done (by kernel_rfl) ?_ _
                    have NW : Hid (NewSO r.1 r.2 w (.returned (.tuple #[vW9, .bool true])) W9) := Lib.hid (by rw [E0.out]; refine ⟨_, rfl, ?_, HNNW9.out⟩; have := HOW9.out; rw [List.nil_append, List.append_assoc] at this; rw [ins, ← HK.out]; exact this)
                    go_wp2
                    go_ret2
                    exact NW.out
                · skip
                  go_simp
                  refine hK.out _ _ trivial (fun hHeld => ?_)
                  clear hK K
                  try simp only [Act.put, List.setIfInBounds_toArray, List.set_cons_zero, List.set_cons_succ]
                  refine anyH_gen _ (fun W10 hW10 => ?_)
                  have HBW10 : Hid (Below w.heap.size w W10) := Lib.hid (by rw [hW10]; exact (HBW0.out).alloc (HBW0.out).size _)
                  have HQW10 : Hid (Strs W10 (.slice (some ⟨W0.heap.size, 0, none⟩) 1 1) [s]) := Lib.hid (by rw [hW10]; exact strs_one W0 s)
                  clear hW10
                  refine wpAnyH_ready (rs := [0]) (by kernel_rfl) (by simp) ?_
                  refine AllReadyH.cons (o := { dst := some 51, op := .buildSlice 28 0 #[], type := _, pos := _, after := _, guard := none }) rfl (fun K hK => ?_) AllReadyH.nil
                  go_simp
                  refine hK.out _ _ trivial (fun hHeld => ?_)
                  clear hK K
                  try simp only [Act.put, List.setIfInBounds_toArray, List.set_cons_zero, List.set_cons_succ]
                  refine anyH_gen _ (fun W11 hW11 => ?_)
                  have HBW11 : Hid (Below w.heap.size w W11) := Lib.hid (by rw [hW11]; exact (HBW10.out).alloc (HBW10.out).size _)
                  have HOW11 : Hid (OwnS w (.slice (some ⟨W10.heap.size, 0, none⟩) 0 0) [] W11) := Lib.hid (by rw [hW11]; exact (OwnS.start W10).from HBW10.out)
                  have HQW11 : Hid (Strs W11 (.slice (some ⟨W0.heap.size, 0, none⟩) 1 1) [s]) := Lib.hid (by rw [hW11]; exact HQW10.out.below ((Below.refl _ _).alloc (Nat.le_refl _) _))
                  have HNW11 : Hid (W10.heap.size ≠ W0.heap.size) := Lib.hid (by have := strs_one_lt HQW10.out; omega)
                  clear hW11
                  refine wpAnyH_ready (rs := [4]) (by kernel_rfl) (by simp) ?_
                  refine AllReadyH.cons (o := { dst := some 55, op := .call { callee := .builtin .append, args := #[.tmp 51, .tmp 54], argTypes := #[28, 28] }, type := _, pos := _, after := _, guard := none }) rfl (fun K hK => ?_) AllReadyH.nil
                  rw [if_pos (by rfl)]
                  refine wp_append_strs (.tmp 51) (.tmp 54) w (.slice (some ⟨W10.heap.size, 0, none⟩) 0 0) [] rfl HOW11.out _ (xs.take k) rfl ((H.out.take (k := k) (by rw [← HN.out]; omega)).below HBW11.out) nilOk_some (by have := HLN.out; rw [List.length_take]; simp; omega) ?_
                  intro vW12 W12 hown hnn hg
                  have HOW12 : Hid (OwnS w vW12 ([] ++ (xs.take k)) W12) := Lib.hid hown
                  have HBW12 : Hid (Below w.heap.size w W12) := Lib.hid hown.bel
                  have HQW12 : Hid (Strs W12 (.slice (some ⟨W0.heap.size, 0, none⟩) 1 1) [s]) := Lib.hid (HQW11.out.grown hg (fun b o n c e => by cases e; intro e2; injection e2 with e2; exact HNW11.out e2))
                  have HNNW12 : Hid (vW12 ≠ .slice none 0 0) := Lib.hid (fun e => by have := (hnn.1 e).1; cases this)
                  clear hown hnn hg
                  refine hK.out _ _ trivial (fun hHeld => ?_)
                  clear hK K
                  try simp only [Act.put, List.setIfInBounds_toArray, List.set_cons_zero, List.set_cons_succ]
                  refine wpAnyH_ready (rs := [7]) (by kernel_rfl) (by simp) ?_
                  refine AllReadyH.cons (o := { dst := some 58, op := .call { callee := .builtin .append, args := #[.tmp 55, .tmp 57], argTypes := #[28, 28] }, type := _, pos := _, after := _, guard := none }) rfl (fun K hK => ?_) AllReadyH.nil
                  rw [if_pos (by rfl)]
                  refine wp_append_strs (.tmp 55) (.tmp 57) w vW12 ([] ++ (xs.take k)) rfl HOW12.out _ [s] rfl HQW12.out nilOk_some (by have := HLN.out; simp; omega) ?_
                  intro vW13 W13 hown hnn hg
                  have HOW13 : Hid (OwnS w vW13 (([] ++ (xs.take k)) ++ [s]) W13) := Lib.hid hown
                  have HBW13 : Hid (Below w.heap.size w W13) := Lib.hid hown.bel
                  have HNNW13 : Hid (vW13 ≠ .slice none 0 0) := Lib.hid (fun e => HNNW12.out (hnn.1 e).1)
                  clear hown hnn hg
                  refine hK.out _ _ trivial (fun hHeld => ?_)
                  clear hK K
                  try simp only [Act.put, List.setIfInBounds_toArray, List.set_cons_zero, List.set_cons_succ]
                  refine wpAnyH_ready (rs := [11]) (by kernel_rfl) (by simp) ?_
                  refine AllReadyH.cons (o := { dst := some 62, op := .call { callee := .builtin .append, args := #[.tmp 58, .tmp 61], argTypes := #[28, 28] }, type := _, pos := _, after := _, guard := none }) rfl (fun K hK => ?_) AllReadyH.nil
                  rw [if_pos (by rfl)]
                  refine wp_append_strs (.tmp 58) (.tmp 61) w vW13 (([] ++ (xs.take k)) ++ [s]) rfl HOW13.out _ (xs.drop k) rfl ((H.out.drop (k := k) (by rw [← HN.out]; omega)).below HBW13.out) nilOk_some (by have := HLN.out; simp; omega) ?_
                  intro vW14 W14 hown hnn hg
                  have HOW14 : Hid (OwnS w vW14 ((([] ++ (xs.take k)) ++ [s]) ++ (xs.drop k)) W14) := Lib.hid hown
                  have HBW14 : Hid (Below w.heap.size w W14) := Lib.hid hown.bel
                  have HNNW14 : Hid (vW14 ≠ .slice none 0 0) := Lib.hid (fun e => HNNW13.out (hnn.1 e).1)
                  clear hown hnn hg
                  refine hK.out _ _ trivial (fun hHeld => ?_)
                  clear hK K
                  try simp only [Act.put, List.setIfInBounds_toArray, List.set_cons_zero, List.set_cons_succ]
                  refine wpAnyH_take (i := 12) (oi := { dst := some 4, op := .assign (.tmp 62), type := _, pos := _, after := _, guard := none }) (v := vW14) rfl (by kernel_rfl) (by kernel_rfl) (by kernel_rfl) (fun _ _ _ h => h) (Or.inl ⟨by rfl, fun wh hSw => ?_⟩) hHeld ?_
                  · (go_simp)
                  try simp only [Act.put, List.setIfInBounds_toArray, List.set_cons_zero, List.set_cons_succ]
                  refine wpAnyH_take (i := 13) (oi := { dst := some 5, op := .assign (.const (.bool true)), type := _, pos := _, after := _, guard := none }) (v := .bool true) rfl (by kernel_rfl) (by kernel_rfl) (by kernel_rfl) (fun _ _ _ h => h) (Or.inl ⟨by rfl, fun wh hSw => ?_⟩) hHeld ?_
                  · (go_simp)
                  try simp only [Act.put, List.setIfInBounds_toArray, List.set_cons_zero, List.set_cons_succ]
                  refine wpAnyH_done (by kernel_rfl) ?_ _
                  have NW : Hid (NewSO r.1 r.2 w (.returned (.tuple #[vW14, .bool true])) W14) := Lib.hid (by rw [E0.out]; refine ⟨_, rfl, ?_, HNNW14.out⟩; have := HOW14.out; rw [List.nil_append, List.append_assoc] at this; rw [ins, ← HK.out]; exact this)
                  go_wp2
                  go_ret2
                  exact NW.out
        · have hkn : k = n := by omega
          have HKN := Lib.hid hkn
          have HK := Lib.hid (cut_eq (xs := xs) (s := s) (k := k) (by rw [← HN.out]; omega) HT.out (fun h => absurd h (by rw [← HN.out]; exact hlt)))
          have HNM : Hid (s ∉ xs) := Lib.hid (fun hm => hlt (by have := ((mem_cut (rvs_asc HV.out)).1 hm).1; rw [← HK.out, ← HN.out] at this; exact this))
          have hlt' : ¬ (k : Int) < (n : Int) := by omega
          clear hkn
          by_cases h6 : 6 ≤ n
          · have h6' : (6 : Int) ≤ (n : Int) := by omega
            have e0 : r = (xs, false) := by rw [HR.out]; exact radd_full HVS.out HNM.out (by rw [← HN.out]; exact h6)
            have E0 := Lib.hid e0
            clear e0
            have H0 : Hid (OwnS w (.slice (some ⟨w.heap.size, 0, none⟩) 0 0) [] ((w.drewN d).alloc (.cells #[] 9))) := Lib.hid (own_start_drew w d)
            go_wp2_with (at_builtin; refine wpList_append_strs (.tmp 48) (.tmp 49) w _ [] rfl H0.out _ xs rfl (H.out.below H0.out.bel) nilOk_some (by have := HLN.out; simp; omega) ?_; intro v2 w2 hown2 hnn2 hgrow2)
            have NW : Hid (NewSO r.1 r.2 w (.returned (.tuple #[v2, .bool false])) w2) := Lib.hid (by rw [E0.out]; exact ⟨_, rfl, hown2, fun e => by have := (hnn2.1 e).1; cases this⟩)
            clear hown2 hnn2 hgrow2
            go_wp2
            go_ret2
            exact NW.out
          · have h6' : ¬ (6 : Int) ≤ (n : Int) := by omega
            have e0 : r = (ins xs s, true) := by rw [HR.out]; exact radd_ins HVS.out HNM.out (by rw [← HN.out]; exact h6)
            have E0 := Lib.hid e0
            clear e0
            go_wp2_with fail
            obtain ⟨q0, hq0⟩ : ∃ q0, q0 = if ca = k then o else o + k := ⟨_, rfl⟩
            have HQ0 := Lib.hid hq0
            have H61 : Hid (∀ W, Strs W (.slice (some ⟨b, q0, none⟩) (n - k) (ca - k)) (xs.drop k)) := Lib.hid (fun W => strs_none (by rw [List.length_drop, ← HN.out]) (by have := HKN.out; omega) (by omega))
            clear hq0
            refine wp_region_held_drew (S := fun _ => True) (by kernel_rfl) trivial (fun hHeld => ?_)
            refine wpAnyH_take (i := 1) (oi := { dst := some 52, op := .move (.tmp 0), type := _, pos := _, after := _, guard := none }) (v := .slice (some ⟨b, o, none⟩) n ca) rfl (by kernel_rfl) (by kernel_rfl) (by kernel_rfl) (fun _ _ _ h => h) (Or.inl ⟨by rfl, fun wh hSw => ?_⟩) hHeld ?_
            · (go_simp)
            try simp only [Act.put, List.setIfInBounds_toArray, List.set_cons_zero, List.set_cons_succ]
            refine wpAnyH_take (i := 2) (oi := { dst := some 53, op := .move (.tmp 6), type := _, pos := _, after := _, guard := none }) (v := .int .i64 (k : Int)) rfl (by kernel_rfl) (by kernel_rfl) (by kernel_rfl) (fun _ _ _ h => h) (Or.inl ⟨by rfl, fun wh hSw => ?_⟩) hHeld ?_
            · (go_simp)
            try simp only [Act.put, List.setIfInBounds_toArray, List.set_cons_zero, List.set_cons_succ]
            refine wpAnyH_take (i := 3) (oi := { dst := some 54, op := .slice 28 (.tmp 52) none (some (.tmp 53)) none, type := _, pos := _, after := _, guard := none }) (v := .slice (some ⟨b, o, none⟩) k ca) rfl (by kernel_rfl) (by kernel_rfl) (by kernel_rfl) (fun _ _ _ h => h) (Or.inl ⟨by rfl, fun wh hSw => ?_⟩) hHeld ?_
            · (go_simp; intro hh; omega)
            try simp only [Act.put, List.setIfInBounds_toArray, List.set_cons_zero, List.set_cons_succ]
            refine wpAnyH_take (i := 5) (oi := { dst := some 56, op := .move (.tmp 1), type := _, pos := _, after := _, guard := none }) (v := .string ⟨s.toArray⟩) rfl (by kernel_rfl) (by kernel_rfl) (by kernel_rfl) (fun _ _ _ h => h) (Or.inl ⟨by rfl, fun wh hSw => ?_⟩) hHeld ?_
            · (go_simp)
            try simp only [Act.put, List.setIfInBounds_toArray, List.set_cons_zero, List.set_cons_succ]
            refine wpAnyH_take (i := 8) (oi := { dst := some 59, op := .move (.tmp 0), type := _, pos := _, after := _, guard := none }) (v := .slice (some ⟨b, o, none⟩) n ca) rfl (by kernel_rfl) (by kernel_rfl) (by kernel_rfl) (fun _ _ _ h => h) (Or.inl ⟨by rfl, fun wh hSw => ?_⟩) hHeld ?_
            · (go_simp)
            try simp only [Act.put, List.setIfInBounds_toArray, List.set_cons_zero, List.set_cons_succ]
            refine wpAnyH_take (i := 9) (oi := { dst := some 60, op := .move (.tmp 6), type := _, pos := _, after := _, guard := none }) (v := .int .i64 (k : Int)) rfl (by kernel_rfl) (by kernel_rfl) (by kernel_rfl) (fun _ _ _ h => h) (Or.inl ⟨by rfl, fun wh hSw => ?_⟩) hHeld ?_
            · (go_simp)
            try simp only [Act.put, List.setIfInBounds_toArray, List.set_cons_zero, List.set_cons_succ]
            refine wpAnyH_take (i := 10) (oi := { dst := some 61, op := .slice 28 (.tmp 59) (some (.tmp 60)) none none, type := _, pos := _, after := _, guard := none }) (v := .slice (some ⟨b, q0, none⟩) (n - k) (ca - k)) rfl (by kernel_rfl) (by kernel_rfl) (by kernel_rfl) (fun _ _ _ h => h) (Or.inl ⟨by rfl, fun wh hSw => ?_⟩) hHeld ?_
            · (go_simp; rw [HQ0.out]; split <;> simp_all)
            try simp only [Act.put, List.setIfInBounds_toArray, List.set_cons_zero, List.set_cons_succ]
            refine anyH_gen _ (fun W0 hW0 => ?_)
            have HBW0 : Hid (Below w.heap.size w W0) := Lib.hid (by rw [hW0]; exact (below_drew_n w d))
            clear hW0
            refine wpAnyH_ready (rs := [0, 6]) (by kernel_rfl) (by simp) ?_
            refine AllReadyH.cons (o := { dst := some 51, op := .buildSlice 28 0 #[], type := _, pos := _, after := _, guard := none }) rfl (fun K hK => ?_) (AllReadyH.cons (o := { dst := some 57, op := .buildSlice 28 1 #[(0, .tmp 56)], type := _, pos := _, after := _, guard := none }) rfl (fun K hK => ?_) AllReadyH.nil)
            · skip
              go_simp
              refine hK.out _ _ trivial (fun hHeld => ?_)
              clear hK K
              try simp only [Act.put, List.setIfInBounds_toArray, List.set_cons_zero, List.set_cons_succ]
              refine anyH_gen _ (fun W1 hW1 => ?_)
              have HBW1 : Hid (Below w.heap.size w W1) := Lib.hid (by rw [hW1]; exact (HBW0.out).alloc (HBW0.out).size _)
              have HOW1 : Hid (OwnS w (.slice (some ⟨W0.heap.size, 0, none⟩) 0 0) [] W1) := Lib.hid (by rw [hW1]; exact (OwnS.start W0).from HBW0.out)
              clear hW1
              refine wpAnyH_ready (rs := [4, 6]) (by kernel_rfl) (by simp) ?_
              refine AllReadyH.cons (o := { dst := some 55, op := .call { callee := .builtin .append, args := #[.tmp 51, .tmp 54], argTypes := #[28, 28] }, type := _, pos := _, after := _, guard := none }) rfl (fun K hK => ?_) (AllReadyH.cons (o := { dst := some 57, op := .buildSlice 28 1 #[(0, .tmp 56)], type := _, pos := _, after := _, guard := none }) rfl (fun K hK => ?_) AllReadyH.nil)
              · skip
                rw [if_pos (by rfl)]
                refine wp_append_strs (.tmp 51) (.tmp 54) w (.slice (some ⟨W0.heap.size, 0, none⟩) 0 0) [] rfl HOW1.out _ (xs.take k) rfl ((H.out.take (k := k) (by rw [← HN.out]; omega)).below HBW1.out) nilOk_some (by have := HLN.out; rw [List.length_take]; simp; omega) ?_
                intro vW2 W2 hown hnn hg
                have HOW2 : Hid (OwnS w vW2 ([] ++ (xs.take k)) W2) := Lib.hid hown
                have HBW2 : Hid (Below w.heap.size w W2) := Lib.hid hown.bel
                have HNNW2 : Hid (vW2 ≠ .slice none 0 0) := Lib.hid (fun e => by have := (hnn.1 e).1; cases this)
                clear hown hnn hg
                refine hK.out _ _ trivial (fun hHeld => ?_)
                clear hK K
                try simp only [Act.put, List.setIfInBounds_toArray, List.set_cons_zero, List.set_cons_succ]
                refine wpAnyH_ready (rs := [6]) (by kernel_rfl) (by simp) ?_
                refine AllReadyH.cons (o := { dst := some 57, op := .buildSlice 28 1 #[(0, .tmp 56)], type := _, pos := _, after := _, guard := none }) rfl (fun K hK => ?_) AllReadyH.nil
                go_simp
                refine hK.out _ _ trivial (fun hHeld => ?_)
                clear hK K
                try simp only [Act.put, List.setIfInBounds_toArray, List.set_cons_zero, List.set_cons_succ]
                refine anyH_gen _ (fun W3 hW3 => ?_)
                have HBW3 : Hid (Below w.heap.size w W3) := Lib.hid (by rw [hW3]; exact (HBW2.out).alloc (HBW2.out).size _)
                have HQW3 : Hid (Strs W3 (.slice (some ⟨W2.heap.size, 0, none⟩) 1 1) [s]) := Lib.hid (by rw [hW3]; exact strs_one W2 s)
                have HOW3 : Hid (OwnS w vW2 ([] ++ (xs.take k)) W3) := Lib.hid (by rw [hW3]; exact HOW2.out.alloc _)
                clear hW3
                refine wpAnyH_ready (rs := [7]) (by kernel_rfl) (by simp) ?_
                refine AllReadyH.cons (o := { dst := some 58, op := .call { callee := .builtin .append, args := #[.tmp 55, .tmp 57], argTypes := #[28, 28] }, type := _, pos := _, after := _, guard := none }) rfl (fun K hK => ?_) AllReadyH.nil
                rw [if_pos (by rfl)]
                refine wp_append_strs (.tmp 55) (.tmp 57) w vW2 ([] ++ (xs.take k)) rfl HOW3.out _ [s] rfl HQW3.out nilOk_some (by have := HLN.out; simp; omega) ?_
                intro vW4 W4 hown hnn hg
                have HOW4 : Hid (OwnS w vW4 (([] ++ (xs.take k)) ++ [s]) W4) := Lib.hid hown
                have HBW4 : Hid (Below w.heap.size w W4) := Lib.hid hown.bel
                have HNNW4 : Hid (vW4 ≠ .slice none 0 0) := Lib.hid (fun e => HNNW2.out (hnn.1 e).1)
                clear hown hnn hg
                refine hK.out _ _ trivial (fun hHeld => ?_)
                clear hK K
                try simp only [Act.put, List.setIfInBounds_toArray, List.set_cons_zero, List.set_cons_succ]
                refine wpAnyH_ready (rs := [11]) (by kernel_rfl) (by simp) ?_
                refine AllReadyH.cons (o := { dst := some 62, op := .call { callee := .builtin .append, args := #[.tmp 58, .tmp 61], argTypes := #[28, 28] }, type := _, pos := _, after := _, guard := none }) rfl (fun K hK => ?_) AllReadyH.nil
                rw [if_pos (by rfl)]
                refine wp_append_strs (.tmp 58) (.tmp 61) w vW4 (([] ++ (xs.take k)) ++ [s]) rfl HOW4.out _ (xs.drop k) rfl (H61.out _) nilOk_some (by have := HLN.out; simp; omega) ?_
                intro vW5 W5 hown hnn hg
                have HOW5 : Hid (OwnS w vW5 ((([] ++ (xs.take k)) ++ [s]) ++ (xs.drop k)) W5) := Lib.hid hown
                have HBW5 : Hid (Below w.heap.size w W5) := Lib.hid hown.bel
                have HNNW5 : Hid (vW5 ≠ .slice none 0 0) := Lib.hid (fun e => HNNW4.out (hnn.1 e).1)
                clear hown hnn hg
                refine hK.out _ _ trivial (fun hHeld => ?_)
                clear hK K
                try simp only [Act.put, List.setIfInBounds_toArray, List.set_cons_zero, List.set_cons_succ]
                refine wpAnyH_take (i := 12) (oi := { dst := some 4, op := .assign (.tmp 62), type := _, pos := _, after := _, guard := none }) (v := vW5) rfl (by kernel_rfl) (by kernel_rfl) (by kernel_rfl) (fun _ _ _ h => h) (Or.inl ⟨by rfl, fun wh hSw => ?_⟩) hHeld ?_
                · (go_simp)
                try simp only [Act.put, List.setIfInBounds_toArray, List.set_cons_zero, List.set_cons_succ]
                refine wpAnyH_take (i := 13) (oi := { dst := some 5, op := .assign (.const (.bool true)), type := _, pos := _, after := _, guard := none }) (v := .bool true) rfl (by kernel_rfl) (by kernel_rfl) (by kernel_rfl) (fun _ _ _ h => h) (Or.inl ⟨by rfl, fun wh hSw => ?_⟩) hHeld ?_
                · (go_simp)
                try simp only [Act.put, List.setIfInBounds_toArray, List.set_cons_zero, List.set_cons_succ]
                refine wpAnyH_done (by kernel_rfl) ?_ _
                have NW : Hid (NewSO r.1 r.2 w (.returned (.tuple #[vW5, .bool true])) W5) := Lib.hid (by rw [E0.out]; refine ⟨_, rfl, ?_, HNNW5.out⟩; have := HOW5.out; rw [List.nil_append, List.append_assoc] at this; rw [ins, ← HK.out]; exact this)
                go_wp2
                go_ret2
                exact NW.out
              · skip
                go_simp
                refine hK.out _ _ trivial (fun hHeld => ?_)
                clear hK K
                try simp only [Act.put, List.setIfInBounds_toArray, List.set_cons_zero, List.set_cons_succ]
                refine anyH_gen _ (fun W6 hW6 => ?_)
                have HBW6 : Hid (Below w.heap.size w W6) := Lib.hid (by rw [hW6]; exact (HBW1.out).alloc (HBW1.out).size _)
                have HQW6 : Hid (Strs W6 (.slice (some ⟨W1.heap.size, 0, none⟩) 1 1) [s]) := Lib.hid (by rw [hW6]; exact strs_one W1 s)
                have HOW6 : Hid (OwnS w (.slice (some ⟨W0.heap.size, 0, none⟩) 0 0) [] W6) := Lib.hid (by rw [hW6]; exact HOW1.out.alloc _)
                have HNW6 : Hid (W0.heap.size ≠ W1.heap.size) := Lib.hid (by have := (HOW1.out.own.lt W0.heap.size rfl).2; omega)
                clear hW6
                refine wpAnyH_ready (rs := [4]) (by kernel_rfl) (by simp) ?_
                refine AllReadyH.cons (o := { dst := some 55, op := .call { callee := .builtin .append, args := #[.tmp 51, .tmp 54], argTypes := #[28, 28] }, type := _, pos := _, after := _, guard := none }) rfl (fun K hK => ?_) AllReadyH.nil
                rw [if_pos (by rfl)]
                refine wp_append_strs (.tmp 51) (.tmp 54) w (.slice (some ⟨W0.heap.size, 0, none⟩) 0 0) [] rfl HOW6.out _ (xs.take k) rfl ((H.out.take (k := k) (by rw [← HN.out]; omega)).below HBW6.out) nilOk_some (by have := HLN.out; rw [List.length_take]; simp; omega) ?_
                intro vW7 W7 hown hnn hg
                have HOW7 : Hid (OwnS w vW7 ([] ++ (xs.take k)) W7) := Lib.hid hown
                have HBW7 : Hid (Below w.heap.size w W7) := Lib.hid hown.bel
                have HQW7 : Hid (Strs W7 (.slice (some ⟨W1.heap.size, 0, none⟩) 1 1) [s]) := Lib.hid (HQW6.out.grown hg (fun b o n c e => by cases e; intro e2; injection e2 with e2; exact HNW6.out e2))
                have HNNW7 : Hid (vW7 ≠ .slice none 0 0) := Lib.hid (fun e => by have := (hnn.1 e).1; cases this)
                clear hown hnn hg
                refine hK.out _ _ trivial (fun hHeld => ?_)
                clear hK K
                try simp only [Act.put, List.setIfInBounds_toArray, List.set_cons_zero, List.set_cons_succ]
                refine wpAnyH_ready (rs := [7]) (by kernel_rfl) (by simp) ?_
                refine AllReadyH.cons (o := { dst := some 58, op := .call { callee := .builtin .append, args := #[.tmp 55, .tmp 57], argTypes := #[28, 28] }, type := _, pos := _, after := _, guard := none }) rfl (fun K hK => ?_) AllReadyH.nil
                rw [if_pos (by rfl)]
                refine wp_append_strs (.tmp 55) (.tmp 57) w vW7 ([] ++ (xs.take k)) rfl HOW7.out _ [s] rfl HQW7.out nilOk_some (by have := HLN.out; simp; omega) ?_
                intro vW8 W8 hown hnn hg
                have HOW8 : Hid (OwnS w vW8 (([] ++ (xs.take k)) ++ [s]) W8) := Lib.hid hown
                have HBW8 : Hid (Below w.heap.size w W8) := Lib.hid hown.bel
                have HNNW8 : Hid (vW8 ≠ .slice none 0 0) := Lib.hid (fun e => HNNW7.out (hnn.1 e).1)
                clear hown hnn hg
                refine hK.out _ _ trivial (fun hHeld => ?_)
                clear hK K
                try simp only [Act.put, List.setIfInBounds_toArray, List.set_cons_zero, List.set_cons_succ]
                refine wpAnyH_ready (rs := [11]) (by kernel_rfl) (by simp) ?_
                refine AllReadyH.cons (o := { dst := some 62, op := .call { callee := .builtin .append, args := #[.tmp 58, .tmp 61], argTypes := #[28, 28] }, type := _, pos := _, after := _, guard := none }) rfl (fun K hK => ?_) AllReadyH.nil
                rw [if_pos (by rfl)]
                refine wp_append_strs (.tmp 58) (.tmp 61) w vW8 (([] ++ (xs.take k)) ++ [s]) rfl HOW8.out _ (xs.drop k) rfl (H61.out _) nilOk_some (by have := HLN.out; simp; omega) ?_
                intro vW9 W9 hown hnn hg
                have HOW9 : Hid (OwnS w vW9 ((([] ++ (xs.take k)) ++ [s]) ++ (xs.drop k)) W9) := Lib.hid hown
                have HBW9 : Hid (Below w.heap.size w W9) := Lib.hid hown.bel
                have HNNW9 : Hid (vW9 ≠ .slice none 0 0) := Lib.hid (fun e => HNNW8.out (hnn.1 e).1)
                clear hown hnn hg
                refine hK.out _ _ trivial (fun hHeld => ?_)
                clear hK K
                try simp only [Act.put, List.setIfInBounds_toArray, List.set_cons_zero, List.set_cons_succ]
                refine wpAnyH_take (i := 12) (oi := { dst := some 4, op := .assign (.tmp 62), type := _, pos := _, after := _, guard := none }) (v := vW9) rfl (by kernel_rfl) (by kernel_rfl) (by kernel_rfl) (fun _ _ _ h => h) (Or.inl ⟨by rfl, fun wh hSw => ?_⟩) hHeld ?_
                · (go_simp)
                try simp only [Act.put, List.setIfInBounds_toArray, List.set_cons_zero, List.set_cons_succ]
                refine wpAnyH_take (i := 13) (oi := { dst := some 5, op := .assign (.const (.bool true)), type := _, pos := _, after := _, guard := none }) (v := .bool true) rfl (by kernel_rfl) (by kernel_rfl) (by kernel_rfl) (fun _ _ _ h => h) (Or.inl ⟨by rfl, fun wh hSw => ?_⟩) hHeld ?_
                · (go_simp)
                try simp only [Act.put, List.setIfInBounds_toArray, List.set_cons_zero, List.set_cons_succ]
                refine wpAnyH_done (by kernel_rfl) ?_ _
                have NW : Hid (NewSO r.1 r.2 w (.returned (.tuple #[vW9, .bool true])) W9) := Lib.hid (by rw [E0.out]; refine ⟨_, rfl, ?_, HNNW9.out⟩; have := HOW9.out; rw [List.nil_append, List.append_assoc] at this; rw [ins, ← HK.out]; exact this)
                go_wp2
                go_ret2
                exact NW.out
            · skip
              go_simp
              refine hK.out _ _ trivial (fun hHeld => ?_)
              clear hK K
              try simp only [Act.put, List.setIfInBounds_toArray, List.set_cons_zero, List.set_cons_succ]
              refine anyH_gen _ (fun W10 hW10 => ?_)
              have HBW10 : Hid (Below w.heap.size w W10) := Lib.hid (by rw [hW10]; exact (HBW0.out).alloc (HBW0.out).size _)
              have HQW10 : Hid (Strs W10 (.slice (some ⟨W0.heap.size, 0, none⟩) 1 1) [s]) := Lib.hid (by rw [hW10]; exact strs_one W0 s)
              clear hW10
              refine wpAnyH_ready (rs := [0]) (by kernel_rfl) (by simp) ?_
              refine AllReadyH.cons (o := { dst := some 51, op := .buildSlice 28 0 #[], type := _, pos := _, after := _, guard := none }) rfl (fun K hK => ?_) AllReadyH.nil
              go_simp
              refine hK.out _ _ trivial (fun hHeld => ?_)
              clear hK K
              try simp only [Act.put, List.setIfInBounds_toArray, List.set_cons_zero, List.set_cons_succ]
              refine anyH_gen _ (fun W11 hW11 => ?_)
              have HBW11 : Hid (Below w.heap.size w W11) := Lib.hid (by rw [hW11]; exact (HBW10.out).alloc (HBW10.out).size _)
              have HOW11 : Hid (OwnS w (.slice (some ⟨W10.heap.size, 0, none⟩) 0 0) [] W11) := Lib.hid (by rw [hW11]; exact (OwnS.start W10).from HBW10.out)
              have HQW11 : Hid (Strs W11 (.slice (some ⟨W0.heap.size, 0, none⟩) 1 1) [s]) := Lib.hid (by rw [hW11]; exact HQW10.out.below ((Below.refl _ _).alloc (Nat.le_refl _) _))
              have HNW11 : Hid (W10.heap.size ≠ W0.heap.size) := Lib.hid (by have := strs_one_lt HQW10.out; omega)
              clear hW11
              refine wpAnyH_ready (rs := [4]) (by kernel_rfl) (by simp) ?_
              refine AllReadyH.cons (o := { dst := some 55, op := .call { callee := .builtin .append, args := #[.tmp 51, .tmp 54], argTypes := #[28, 28] }, type := _, pos := _, after := _, guard := none }) rfl (fun K hK => ?_) AllReadyH.nil
              rw [if_pos (by rfl)]
              refine wp_append_strs (.tmp 51) (.tmp 54) w (.slice (some ⟨W10.heap.size, 0, none⟩) 0 0) [] rfl HOW11.out _ (xs.take k) rfl ((H.out.take (k := k) (by rw [← HN.out]; omega)).below HBW11.out) nilOk_some (by have := HLN.out; rw [List.length_take]; simp; omega) ?_
              intro vW12 W12 hown hnn hg
              have HOW12 : Hid (OwnS w vW12 ([] ++ (xs.take k)) W12) := Lib.hid hown
              have HBW12 : Hid (Below w.heap.size w W12) := Lib.hid hown.bel
              have HQW12 : Hid (Strs W12 (.slice (some ⟨W0.heap.size, 0, none⟩) 1 1) [s]) := Lib.hid (HQW11.out.grown hg (fun b o n c e => by cases e; intro e2; injection e2 with e2; exact HNW11.out e2))
              have HNNW12 : Hid (vW12 ≠ .slice none 0 0) := Lib.hid (fun e => by have := (hnn.1 e).1; cases this)
              clear hown hnn hg
              refine hK.out _ _ trivial (fun hHeld => ?_)
              clear hK K
              try simp only [Act.put, List.setIfInBounds_toArray, List.set_cons_zero, List.set_cons_succ]
              refine wpAnyH_ready (rs := [7]) (by kernel_rfl) (by simp) ?_
              refine AllReadyH.cons (o := { dst := some 58, op := .call { callee := .builtin .append, args := #[.tmp 55, .tmp 57], argTypes := #[28, 28] }, type := _, pos := _, after := _, guard := none }) rfl (fun K hK => ?_) AllReadyH.nil
              rw [if_pos (by rfl)]
              refine wp_append_strs (.tmp 55) (.tmp 57) w vW12 ([] ++ (xs.take k)) rfl HOW12.out _ [s] rfl HQW12.out nilOk_some (by have := HLN.out; simp; omega) ?_
              intro vW13 W13 hown hnn hg
              have HOW13 : Hid (OwnS w vW13 (([] ++ (xs.take k)) ++ [s]) W13) := Lib.hid hown
              have HBW13 : Hid (Below w.heap.size w W13) := Lib.hid hown.bel
              have HNNW13 : Hid (vW13 ≠ .slice none 0 0) := Lib.hid (fun e => HNNW12.out (hnn.1 e).1)
              clear hown hnn hg
              refine hK.out _ _ trivial (fun hHeld => ?_)
              clear hK K
              try simp only [Act.put, List.setIfInBounds_toArray, List.set_cons_zero, List.set_cons_succ]
              refine wpAnyH_ready (rs := [11]) (by kernel_rfl) (by simp) ?_
              refine AllReadyH.cons (o := { dst := some 62, op := .call { callee := .builtin .append, args := #[.tmp 58, .tmp 61], argTypes := #[28, 28] }, type := _, pos := _, after := _, guard := none }) rfl (fun K hK => ?_) AllReadyH.nil
              rw [if_pos (by rfl)]
              refine wp_append_strs (.tmp 58) (.tmp 61) w vW13 (([] ++ (xs.take k)) ++ [s]) rfl HOW13.out _ (xs.drop k) rfl (H61.out _) nilOk_some (by have := HLN.out; simp; omega) ?_
              intro vW14 W14 hown hnn hg
              have HOW14 : Hid (OwnS w vW14 ((([] ++ (xs.take k)) ++ [s]) ++ (xs.drop k)) W14) := Lib.hid hown
              have HBW14 : Hid (Below w.heap.size w W14) := Lib.hid hown.bel
              have HNNW14 : Hid (vW14 ≠ .slice none 0 0) := Lib.hid (fun e => HNNW13.out (hnn.1 e).1)
              clear hown hnn hg
              refine hK.out _ _ trivial (fun hHeld => ?_)
              clear hK K
              try simp only [Act.put, List.setIfInBounds_toArray, List.set_cons_zero, List.set_cons_succ]
              refine wpAnyH_take (i := 12) (oi := { dst := some 4, op := .assign (.tmp 62), type := _, pos := _, after := _, guard := none }) (v := vW14) rfl (by kernel_rfl) (by kernel_rfl) (by kernel_rfl) (fun _ _ _ h => h) (Or.inl ⟨by rfl, fun wh hSw => ?_⟩) hHeld ?_
              · (go_simp)
              try simp only [Act.put, List.setIfInBounds_toArray, List.set_cons_zero, List.set_cons_succ]
              refine wpAnyH_take (i := 13) (oi := { dst := some 5, op := .assign (.const (.bool true)), type := _, pos := _, after := _, guard := none }) (v := .bool true) rfl (by kernel_rfl) (by kernel_rfl) (by kernel_rfl) (fun _ _ _ h => h) (Or.inl ⟨by rfl, fun wh hSw => ?_⟩) hHeld ?_
              · (go_simp)
              try simp only [Act.put, List.setIfInBounds_toArray, List.set_cons_zero, List.set_cons_succ]
              refine wpAnyH_done (by kernel_rfl) ?_ _
              have NW : Hid (NewSO r.1 r.2 w (.returned (.tuple #[vW14, .bool true])) W14) := Lib.hid (by rw [E0.out]; refine ⟨_, rfl, ?_, HNNW14.out⟩; have := HOW14.out; rw [List.nil_append, List.append_assoc] at this; rw [ins, ← HK.out]; exact this)
              go_wp2
              go_ret2
              exact NW.out
end Go.Proofs.Yticnfekjbknomaa
/- The walks of the exact statements of rights, out of contracts of the program. -/
namespace Go.Proofs.Yticnfekjbknomaa
open Go.ChangeShapes Go.WideShapes Go.ChangeAt Go.RowKit
set_option linter.unusedVariables false

/-- the program's functions answer as these do -/
abbrev IRV : Prop := ∀ (w : World) (s : Bs), s.length ≤ 2000000 → Calls Try.prog 77 #[.string ⟨s.toArray⟩] w (BRes (rv s) w)
abbrev IRMay : Prop := ∀ (w : World) (v : Value) (xs : List Bs) (g : Bs), Strs w v xs → Short xs → g.length ≤ 2000000 → Calls Try.prog 27 #[v, .string ⟨g.toArray⟩] w (BRes (rmay xs g) w)
theorem rdrop_len (xs : List Bs) (s : Bs) : (rdrop xs s).length ≤ 6 := by
  unfold rdrop
  split
  · rename_i h
    rw [Bool.and_eq_true] at h
    have := rvs_len h.1
    have := drop_len xs s
    omega
  · exact Nat.zero_le _
theorem eqS_same (w : World) (va vb : Value) (xs : List Bs) (ha : Strs w va xs) (hb : Strs w vb xs) :
    Calls Try.prog 54 #[va, vb] w fun e w' => e = .returned (.bool true) ∧ Chg 0 0 w w' := by
  refine (eqStringS_any w va vb xs xs ha hb).mono ?_
  rintro e w' ⟨rfl, n, rfl⟩
  rw [decide_eq_true (rfl : xs = xs)]
  exact ⟨rfl, Chg.of_drewN w n⟩
theorem Strs.chg0 {w w' : World} {v : Value} {xs : List Bs} (h : Strs w v xs) (c : Chg 0 0 w w') : Strs w' v xs :=
  h.below ⟨c.os, c.tape, c.output, c.size, fun b hb => c.block b hb (.inr (Nat.zero_le _))⟩
theorem neB (b : Bool) : (b != b) = false := by simp

end Go.Proofs.Yticnfekjbknomaa
/- A set of texts that is kept in a map of bools: what the map reads as. -/
namespace Go.Proofs.Yticnfekjbknomaa
open Go.ChangeShapes Go.WideShapes Go.ChangeAt Go.RowKit Go.Maps
set_option linter.unusedVariables false

def pairT {H : Type} (s : Bs) : Lit × DataW H := (.string s, .lit (.bool true))
/-- the map reads as the set of the texts xs, none of them twice: each with true -/
def SetIs {H : Type} (D : DataW H) (xs : List Bs) : Prop := ∃ es, D = .map es ∧ es.Perm (xs.map pairT) ∧ xs.Nodup
variable {H : Type} {D : DataW H} {xs ys : List Bs}

theorem SetIs.none : SetIs (.map [] : DataW H) [] := ⟨[], rfl, List.Perm.nil, List.nodup_nil⟩
theorem SetIs.size (h : SetIs D xs) : Maps.size D = xs.length := by
  obtain ⟨es, rfl, hp, _⟩ := h
  rw [Maps.size_eq, hp.length_eq, List.length_map]
theorem same_str (s t : Bs) : (Lit.string s).sameKey (.string t) = (s == t) := rfl
theorem pairs_any (xs : List Bs) (s : Bs) : (xs.map (pairT (H := H))).any (fun p => p.1.sameKey (.string s)) = decide (s ∈ xs) := by
  rw [Bool.eq_iff_iff, List.any_eq_true, decide_eq_true_eq]
  constructor
  · rintro ⟨p, hp, hk⟩
    obtain ⟨t, ht, rfl⟩ := List.mem_map.1 hp
    have : (t == s) = true := hk
    rw [← eq_of_beq this]; exact ht
  · intro hs
    exact ⟨pairT s, List.mem_map.2 ⟨s, hs, rfl⟩, by show (s == s) = true; exact beq_self_eq_true s⟩
theorem perm_any {α : Type} {l l' : List α} (h : l.Perm l') (f : α → Bool) : l.any f = l'.any f := by
  rw [Bool.eq_iff_iff, List.any_eq_true, List.any_eq_true]
  exact ⟨fun ⟨x, hx, hf⟩ => ⟨x, h.mem_iff.1 hx, hf⟩, fun ⟨x, hx, hf⟩ => ⟨x, h.mem_iff.2 hx, hf⟩⟩
theorem SetIs.has (h : SetIs D xs) (s : Bs) : Maps.has D (.string s) = decide (s ∈ xs) := by
  obtain ⟨es, rfl, hp, _⟩ := h
  rw [Maps.has_eq, perm_any hp, pairs_any]
theorem SetIs.entry {es : List (Lit × DataW H)} (hp : es.Perm (xs.map pairT)) {p : Lit × DataW H} (hm : p ∈ es) : ∃ t ∈ xs, p = pairT t := by
  obtain ⟨t, ht, e⟩ := List.mem_map.1 (hp.mem_iff.1 hm)
  exact ⟨t, ht, e.symm⟩
theorem SetIs.atKey (h : SetIs D xs) (s : Bs) : D.atKey (.string s) (.lit (.bool false)) = .lit (.bool (decide (s ∈ xs))) := by
  have hh := h.has s
  obtain ⟨es, rfl, hp, _⟩ := h
  rw [Maps.has_eq] at hh
  unfold DataW.atKey
  cases hf : es.find? (fun p => p.1.sameKey (.string s)) with
  | none =>
    have : es.any (fun p => p.1.sameKey (.string s)) = false := by
      rw [Bool.eq_false_iff]
      intro ha
      obtain ⟨p, hp', hk⟩ := List.any_eq_true.1 ha
      exact (List.find?_eq_none.1 hf) p hp' hk
    rw [← hh, this]
    show (match es.find? (fun p => p.1.sameKey (.string s)) with | some p => p.2 | Option.none => DataW.lit (.bool false)) = _
    rw [hf]
  | some p =>
    have h1 := List.find?_some hf
    have h2 := List.mem_of_find?_eq_some hf
    obtain ⟨t, ht, rfl⟩ := SetIs.entry hp h2
    have : es.any (fun p => p.1.sameKey (.string s)) = true := List.any_eq_true.2 ⟨_, h2, h1⟩
    rw [← hh, this]
    show (match es.find? (fun p => p.1.sameKey (.string s)) with | some p => p.2 | Option.none => DataW.lit (.bool false)) = _
    rw [hf]
    rfl
theorem perm_str (h : SetIs D xs) : (strKeys D).Perm xs := by
  obtain ⟨es, rfl, hp, _⟩ := h
  have := hp.map (fun p => strOf p.1)
  rw [List.map_map] at this
  refine this.trans ?_
  rw [show ((fun p : Lit × DataW H => strOf p.1) ∘ pairT) = id from rfl, List.map_id]
/-- one more text is put into the set -/
theorem SetIs.put (h : SetIs D xs) {s : Bs} (hn : s ∉ xs) : SetIs (D.put (.string s) (.lit (.bool true))) (s :: xs) := by
  obtain ⟨es, rfl, hp, hd⟩ := h
  refine ⟨_, rfl, ?_, List.nodup_cons.2 ⟨hn, hd⟩⟩
  have hf : es.filter (fun p => !p.1.sameKey (.string s)) = es := by
    refine List.filter_eq_self.2 (fun p hm => ?_)
    obtain ⟨t, ht, rfl⟩ := SetIs.entry hp hm
    show (!(t == s)) = true
    have : t ≠ s := fun e => hn (e ▸ ht)
    simpa using this
  rw [hf, List.map_cons]
  exact (insert_perm _ _).trans (hp.cons _)
/-- a text that is there is put into the set again -/
theorem SetIs.again (h : SetIs D xs) {s : Bs} (hn : s ∈ xs) : SetIs (D.put (.string s) (.lit (.bool true))) xs := by
  obtain ⟨es, rfl, hp, hd⟩ := h
  refine ⟨_, rfl, ?_, hd⟩
  have h1 : (es.filter (fun p => !p.1.sameKey (.string s))).Perm ((xs.map pairT).filter (fun p => !p.1.sameKey (.string s))) := hp.filter _
  have h2 : (xs.map (pairT (H := H))).filter (fun p => !p.1.sameKey (.string s)) = (xs.erase s).map pairT := by
    rw [List.filter_map, hd.erase_eq_filter]
    rfl
  rw [h2] at h1
  refine ((insert_perm _ _).trans (h1.cons _)).trans ?_
  have h3 := ((List.perm_cons_erase hn).map (pairT (H := H))).symm
  rw [List.map_cons] at h3
  exact h3
theorem SetIs.perm (h : SetIs D xs) (hp : xs.Perm ys) : SetIs D ys := by
  obtain ⟨es, rfl, h1, h2⟩ := h
  exact ⟨es, rfl, h1.trans (hp.map _), hp.nodup_iff.1 h2⟩
/-- texts are deleted from the set -/
theorem SetIs.del (h : SetIs D xs) (pd : Lit → DataW H → Bool) (f : Bs → Bool) (hf : ∀ s, pd (.string s) (.lit (.bool true)) = f s) : SetIs (Lib.deleteFuncD pd D) (xs.filter (fun s => !f s)) := by
  obtain ⟨es, rfl, hp, hd⟩ := h
  refine ⟨_, rfl, ?_, hd.filter _⟩
  refine (hp.filter _).trans ?_
  rw [List.filter_map]
  refine List.Perm.of_eq ?_
  congr 1
  refine List.filter_congr (fun t _ => ?_)
  show (!pd (.string t) (.lit (.bool true))) = (!f t)
  rw [hf]

theorem le_iff_bl {a b : Bs} : a ≤ b ↔ bl b a = false := by
  unfold bl
  rw [bytesLess_eq, decide_eq_false_iff_not]
  exact (List.not_lt).symm
/-- the keys of the set, sorted, are the texts that ascend -/
theorem SetIs.sorted (h : SetIs D xs) (ha : Asc xs) {ss : List Bs} (hp : ss.Perm (strKeys D)) : ss.mergeSort (fun x y => decide (x ≤ y)) = xs := by
  have hp2 : (ss.mergeSort (fun x y => decide (x ≤ y))).Perm xs := (List.mergeSort_perm ss _).trans (hp.trans (perm_str h))
  have hs : (ss.mergeSort (fun x y => decide (x ≤ y))).Pairwise (fun a b => decide (a ≤ b) = true) := by
    refine List.pairwise_mergeSort (fun a b c h1 h2 => ?_) (fun a b => ?_) ss
    · simp only [decide_eq_true_eq] at h1 h2 ⊢
      exact List.le_trans h1 h2
    · rcases List.le_total a b with h | h
      · simp [h]
      · simp [h]
  refine asc_ext ?_ ha (fun z => hp2.mem_iff)
  have hnd : (ss.mergeSort (fun x y => decide (x ≤ y))).Nodup := hp2.nodup_iff.2 (asc_nodup ha)
  unfold Asc
  refine (List.Pairwise.and hs hnd).imp (fun {a b} hab => ?_)
  obtain ⟨h1, h2⟩ := hab
  have h1 : bl b a = false := le_iff_bl.1 (of_decide_eq_true h1)
  cases hb : bl a b with
  | true => rfl
  | false => exact absurd (bl_tri hb h1) h2
end Go.Proofs.Yticnfekjbknomaa
/- A map in a block that is a set of texts. -/
namespace Go.Proofs.Yticnfekjbknomaa
open Go.ChangeShapes Go.WideShapes Go.ChangeAt Go.RowKit Go.Maps
set_option linter.unusedVariables false

/-- the key's law of texts -/
theorem keyS : Keyed Try.prog 9 := string_keyed Try.underlying9
/-- the map in block b is the set of the texts xs -/
def SetAt (w : World) (b : Nat) (xs : List Bs) : Prop := ∃ n D, n ≤ 1000 ∧ w.ownsMap (H := Unit) Try.prog 9 (plainElem Try.prog 4) b n D ∧ SetIs D xs
theorem SetAt.kept {w w' : World} {b : Nat} {xs : List Bs} {row : Option Nat} (h : SetAt w b xs) (hg : w.grownBy w' row) (hne : some b ≠ row) : SetAt w' b xs := by
  obtain ⟨n, D, hn, ho, hs⟩ := h
  exact ⟨n, D, hn, ho.kept hg hne, hs⟩
theorem SetAt.below {w w' : World} {b : Nat} {xs : List Bs} (h : SetAt w b xs) (hb : Below w.heap.size w w') : SetAt w' b xs :=
  h.kept (row := none) ⟨hb.os, hb.tape, hb.output, hb.size, fun i hi _ => hb.block i hi⟩ (by simp)
theorem SetAt.lt {w : World} {b : Nat} {xs : List Bs} (h : SetAt w b xs) : b < w.heap.size := by
  obtain ⟨n, D, hn, ho, hs⟩ := h
  exact ho.lt
theorem SetAt.perm {w : World} {b : Nat} {xs ys : List Bs} (h : SetAt w b xs) (hp : xs.Perm ys) : SetAt w b ys := by
  obtain ⟨n, D, hn, ho, hs⟩ := h
  exact ⟨n, D, hn, ho, hs.perm hp⟩

end Go.Proofs.Yticnfekjbknomaa
/- What the program's functions on rights answer. -/
namespace Go.Proofs.Yticnfekjbknomaa
open Go.ChangeShapes Go.WideShapes Go.ChangeAt Go.RowKit Go.Maps
set_option linter.unusedVariables false

theorem conv_bytes (w : World) (s : Bs) : ∃ cap wA, (convert 9 22 (.string ⟨s.toArray⟩)).run Try.prog w = .ok (.slice (some ⟨w.heap.size, 0, none⟩) s.length cap) wA ∧
    Below w.heap.size w wA ∧ ∀ j (hj : j < s.length), wA.cell? ⟨w.heap.size, j, none⟩ = some (.int .u8 (s[j].toNat : Int)) := by
  refine ⟨_, _, run_bytes_of_string w _ _ _ _ Try.underlying9 Try.underlying22 Try.underlying5, ?_, fun j hj => ?_⟩
  · have := (Below.refl w.heap.size w).drew.alloc (Nat.le_refl _) (.cells (bytesRow ⟨s.toArray⟩ (grownCap w s.length 0 5)) 5 ((bytesRow ⟨s.toArray⟩ (grownCap w s.length 0 5)).size, (bytesRow ⟨s.toArray⟩ (grownCap w s.length 0 5)).size + 1))
    exact this
  · have h1 := World.cell?_alloc_mark w.drew (bytesRow ⟨s.toArray⟩ (grownCap w s.length 0 5)) 5 ((bytesRow ⟨s.toArray⟩ (grownCap w s.length 0 5)).size, (bytesRow ⟨s.toArray⟩ (grownCap w s.length 0 5)).size + 1) j
    refine h1.trans ?_
    rw [bytesRow_at ⟨s.toArray⟩ _ j (by simpa using hj)]
    rfl
theorem irv_any : IRV := by
  intro w s hs
  have hsl : (s.length : Int) ≤ 2000000 := by omega
  by_cases h4 : 4 < s.length
  · have h4' : (4 : Int) < (s.length : Int) := by omega
    have HR : Hid (rv s = false) := Lib.hid (by rw [Bool.eq_false_iff]; intro h; have := rv_len h; omega)
    rw [HR.out]
    go_enter Try.func77, Try.ntmps77
    go_wp2_with fail
    go_ret
    exact ⟨rfl, Below.refl _ _⟩
  have h4' : ¬ (4 : Int) < (s.length : Int) := by omega
  obtain ⟨cap, wA, hcv, hbA, hcA⟩ := conv_bytes w s
  have HRV := Lib.hid (fun h => okTo_all (s := s) (k := s.length) h rfl)
  have HCA := Lib.hid hcA
  have HBA := Lib.hid hbA
  clear hcA hbA
  go_enter Try.func77, Try.ntmps77
  go_wp2
  go_loop [11] (fun i => ∃ k : Nat, k ≤ s.length ∧ i = .int .i64 k ∧ Hid (okTo s k)) (fun i => s.length - (intOf i).toNat)
  case atStart => exact ⟨0, Nat.zero_le _, rfl, Lib.hid (fun b hb => by simp at hb)⟩
  case round =>
    obtain ⟨k, hk, rfl, HT⟩ := hrel
    by_cases hks : k < s.length
    · have hlt' : (k : Int) < (s.length : Int) := by omega
      have HB := Lib.hid (@lok_iff s[k])
      have hcell := HCA.out k hks
      obtain ⟨x, hx⟩ : ∃ x, x = s[k].toNat := ⟨_, rfl⟩
      rw [← hx] at hcell HB
      clear hx
      have HR := Lib.hid (fun h => rv_bad hks h)
      have HO := Lib.hid (fun h => okTo_succ HT.out hks h)
      by_cases h1 : x < 97
      · have h1' : (x : Int) < 97 := by omega
        go_wp2
        go_ret
        exact ⟨by rw [HR.out (by rw [Bool.eq_false_iff]; intro h; have := HB.out.1 h; omega)]; rfl, HBA.out⟩
      · by_cases h2 : 99 < x
        · have h1' : ¬ (x : Int) < 97 := by omega
          have h2' : (99 : Int) < (x : Int) := by omega
          go_wp2
          go_ret
          exact ⟨by rw [HR.out (by rw [Bool.eq_false_iff]; intro h; have := HB.out.1 h; omega)]; rfl, HBA.out⟩
        · have h1' : ¬ (x : Int) < 97 := by omega
          have h2' : ¬ (99 : Int) < (x : Int) := by omega
          go_wp2
          go_round
          case rel => exact ⟨k + 1, by omega, by go_num, Lib.hid (HO.out (HB.out.2 ⟨by omega, by omega⟩))⟩
          case measure => simp [intOf]; omega
    · go_wp2
      go_ret
      have e : k = s.length := by omega
      refine ⟨?_, HBA.out⟩
      rw [HRV.out (by rw [← e]; exact HT.out), decide_eq_true (by omega)]
      rfl
theorem short_max {x : Bs} (h : x.length ≤ 2000000) : x.length ≤ maxLen := by unfold maxLen; omega
end Go.Proofs.Yticnfekjbknomaa
/- What is known of frames, as lists: what is valid, which are free, and what the functions of chapter 12 answer. -/
namespace Go.Proofs.Yticnfekjbknomaa
set_option linter.unusedVariables false

def inR (x lo hi : Int) : Bool := decide (lo ≤ x ∧ x ≤ hi)
def iok (x : IV) : Bool := if x.k = 0 then decide (x = iz) else inR x.k 1 3 && (rv x.g && inR x.r 0 50)
def isok (xs : List IV) : Bool := decide (∀ i, i < xs.length → iok (xs.getD i iz) = true) && decide (xs.length = 12)
def isFree (x : IV) : Bool := decide (x.k = 0)
def fidx (xs : List IV) : Nat := xs.findIdx isFree
def cnt (xs : List IV) : Nat := xs.countP isFree
def ifree (xs : List IV) : Int := if isok xs = true then (cnt xs : Int) else -1
def tok (xs : List IV) (g : Bs) : Bool := isok xs && (rv g && decide (fidx xs < xs.length))
def itake (xs : List IV) (g : Bs) : List IV := if tok xs g = true then xs.set (fidx xs) ⟨1, g, 0⟩ else []
def itakeN (xs : List IV) (g : Bs) : Int := if tok xs g = true then (fidx xs : Int) else 0
def gok (xs : List IV) (f : Int) : Bool := isok xs && (inR f 0 11 && (decide ((xs.getD f.toNat iz).k = 1) && decide ((xs.getD f.toNat iz).r ≤ 0)))
def igive (xs : List IV) (f : Int) : List IV := if gok xs f = true then xs.set f.toNat iz else []

theorem inR_iff {x lo hi : Int} : inR x lo hi = true ↔ lo ≤ x ∧ x ≤ hi := by unfold inR; rw [decide_eq_true_eq]
theorem isok_iff {xs : List IV} : isok xs = true ↔ (∀ i, i < xs.length → iok (xs.getD i iz) = true) ∧ xs.length = 12 := by
  unfold isok
  rw [Bool.and_eq_true, decide_eq_true_eq, decide_eq_true_eq]
theorem isok_len {xs : List IV} (h : isok xs = true) : xs.length = 12 := (isok_iff.1 h).2
theorem isok_at {xs : List IV} (h : isok xs = true) {i : Nat} (hi : i < xs.length) : iok (xs.getD i iz) = true := (isok_iff.1 h).1 i hi
theorem iok_free {x : IV} (h : iok x = true) (hk : x.k = 0) : x = iz := by
  unfold iok at h
  rw [if_pos hk] at h
  exact of_decide_eq_true h
theorem iok_used {x : IV} (h : iok x = true) (hk : x.k ≠ 0) : (1 ≤ x.k ∧ x.k ≤ 3) ∧ rv x.g = true ∧ 0 ≤ x.r ∧ x.r ≤ 50 := by
  unfold iok at h
  rw [if_neg hk, Bool.and_eq_true, Bool.and_eq_true, inR_iff, inR_iff] at h
  exact h
theorem iok_iz : iok iz = true := by decide
theorem iok_data {g : Bs} (h : rv g = true) : iok ⟨1, g, 0⟩ = true := by
  unfold iok
  rw [if_neg (by show ¬ (1 : Int) = 0; decide), h]
  show (inR 1 1 3 && (true && inR 0 0 50)) = true
  decide
theorem set_getD_eq {xs : List IV} {k i : Nat} {x : IV} (hk : k < xs.length) : (xs.set k x).getD i iz = if i = k then x else xs.getD i iz := by
  by_cases h : i = k
  · subst h
    rw [if_pos rfl, getD_lt (by rw [List.length_set]; exact hk), List.getElem_set_self]
  · rw [if_neg h]
    by_cases hi : i < xs.length
    · rw [getD_lt (by rw [List.length_set]; exact hi), getD_lt hi, List.getElem_set_ne (by omega)]
    · simp [List.getD, List.getElem?_eq_none (Nat.le_of_not_lt hi), List.getElem?_eq_none (show (xs.set k x).length ≤ i by rw [List.length_set]; omega)]
theorem isok_set {xs : List IV} {k : Nat} {x : IV} (h : isok xs = true) (hx : iok x = true) (hk : k < xs.length) : isok (xs.set k x) = true := by
  rw [isok_iff] at h ⊢
  rw [List.length_set]
  refine ⟨fun i hi => ?_, h.2⟩
  rw [set_getD_eq hk]
  split
  · exact hx
  · exact h.1 i hi
theorem fidx_le (xs : List IV) : fidx xs ≤ xs.length := List.findIdx_le_length
theorem fidx_free {xs : List IV} (h : fidx xs < xs.length) : (xs.getD (fidx xs) iz).k = 0 := by
  have := List.findIdx_getElem (xs := xs) (p := isFree) (w := h)
  rw [getD_lt h]
  exact of_decide_eq_true this
theorem fidx_before {xs : List IV} {i : Nat} (h : i < fidx xs) : (xs.getD i iz).k ≠ 0 := by
  have := List.not_of_lt_findIdx (p := isFree) (xs := xs) (i := i) h
  rw [getD_lt (Nat.lt_of_lt_of_le h (fidx_le xs))]
  intro hk
  unfold isFree at this
  simp [hk] at this
theorem fidx_eq {xs : List IV} {k : Nat} (hk : k < xs.length) (hf : (xs.getD k iz).k = 0) (hb : ∀ i, i < k → (xs.getD i iz).k ≠ 0) : fidx xs = k := by
  rcases Nat.lt_trichotomy (fidx xs) k with h | h | h
  · exact absurd (fidx_free (by omega)) (hb _ h)
  · exact h
  · exact absurd hf (fidx_before h)
theorem fidx_none {xs : List IV} (hb : ∀ i, i < xs.length → (xs.getD i iz).k ≠ 0) : fidx xs = xs.length := by
  have h1 := fidx_le xs
  by_cases h : fidx xs < xs.length
  · exact absurd (fidx_free h) (hb _ h)
  · omega
theorem cnt_take_succ {xs : List IV} {k : Nat} (hk : k < xs.length) : cnt (xs.take (k + 1)) = cnt (xs.take k) + (if (xs.getD k iz).k = 0 then 1 else 0) := by
  rw [take_snoc_getD xs k iz hk]
  unfold cnt
  rw [List.countP_append, List.countP_cons, List.countP_nil, Nat.zero_add]
  unfold isFree
  simp only [decide_eq_true_eq]
theorem cnt_le (xs : List IV) : cnt xs ≤ xs.length := List.countP_le_length
theorem cnt_pos {xs : List IV} : 0 < cnt xs ↔ fidx xs < xs.length := by
  constructor
  · intro h
    obtain ⟨x, hx, hf⟩ := List.countP_pos_iff.1 h
    obtain ⟨i, hi, rfl⟩ := List.getElem_of_mem hx
    by_cases hn : fidx xs < xs.length
    · exact hn
    · have h1 := fidx_le xs
      have := fidx_before (xs := xs) (i := i) (by omega)
      rw [getD_lt hi] at this
      exact absurd (of_decide_eq_true hf) this
  · intro h
    refine List.countP_pos_iff.2 ⟨xs[fidx xs], List.getElem_mem h, ?_⟩
    have := fidx_free h
    rw [getD_lt h] at this
    exact decide_eq_true this
theorem cnt_set {xs : List IV} {k : Nat} {x : IV} (hk : k < xs.length) : cnt (xs.set k x) + (if (xs.getD k iz).k = 0 then 1 else 0) = cnt xs + (if x.k = 0 then 1 else 0) := by
  have e : xs = xs.take k ++ ([xs.getD k iz] ++ xs.drop (k + 1)) := by
    rw [← List.append_assoc, ← take_snoc_getD xs k iz hk, List.take_append_drop]
  have e2 : xs.set k x = xs.take k ++ ([x] ++ xs.drop (k + 1)) := by
    rw [List.set_eq_take_append_cons_drop, if_pos hk]; rfl
  rw [e2]
  conv => rhs; rw [e]
  unfold cnt isFree
  simp only [List.countP_append, List.countP_cons, List.countP_nil, decide_eq_true_eq]
  omega
theorem tok_iff {xs : List IV} {g : Bs} : tok xs g = true ↔ isok xs = true ∧ rv g = true ∧ fidx xs < xs.length := by
  unfold tok
  rw [Bool.and_eq_true, Bool.and_eq_true, decide_eq_true_eq]
theorem gok_iff {xs : List IV} {f : Int} : gok xs f = true ↔ isok xs = true ∧ (0 ≤ f ∧ f ≤ 11) ∧ (xs.getD f.toNat iz).k = 1 ∧ (xs.getD f.toNat iz).r ≤ 0 := by
  unfold gok
  rw [Bool.and_eq_true, Bool.and_eq_true, Bool.and_eq_true, inR_iff, decide_eq_true_eq, decide_eq_true_eq]
/-- what was taken can be given back -/
theorem take_give {xs : List IV} {g : Bs} (h : tok xs g = true) : gok (itake xs g) (itakeN xs g) = true ∧ igive (itake xs g) (itakeN xs g) = xs := by
  have ht := tok_iff.1 h
  have hl := isok_len ht.1
  have hg : gok (itake xs g) (itakeN xs g) = true := by
    unfold itake itakeN
    rw [if_pos h, if_pos h, gok_iff, Int.toNat_natCast, set_getD_eq ht.2.2, if_pos rfl]
    exact ⟨isok_set ht.1 (iok_data ht.2.1) ht.2.2, ⟨by omega, by omega⟩, rfl, Int.le_refl 0⟩
  refine ⟨hg, ?_⟩
  unfold igive
  rw [if_pos hg]
  unfold itake itakeN
  rw [if_pos h, if_pos h, Int.toNat_natCast, List.set_set]
  have hz := iok_free (isok_at ht.1 ht.2.2) (fidx_free ht.2.2)
  rw [getD_lt ht.2.2] at hz
  rw [← hz, List.set_getElem_self]
theorem free_take {xs : List IV} {g : Bs} (h : tok xs g = true) : ifree (itake xs g) = ifree xs - 1 := by
  have ht := tok_iff.1 h
  have h2 := cnt_set (x := ⟨1, g, 0⟩) ht.2.2
  rw [if_pos (fidx_free ht.2.2), if_neg (by show ¬ (1 : Int) = 0; decide)] at h2
  unfold ifree itake
  rw [if_pos h, if_pos ht.1, if_pos (isok_set ht.1 (iok_data ht.2.1) ht.2.2)]
  omega
theorem free_give {xs : List IV} {f : Int} (h : gok xs f = true) : ifree (igive xs f) = ifree xs + 1 := by
  have ht := gok_iff.1 h
  have hl := isok_len ht.1
  have hk : f.toNat < xs.length := by omega
  have h2 := cnt_set (x := iz) hk
  rw [if_neg (by rw [ht.2.2.1]; decide), if_pos (show iz.k = 0 from rfl)] at h2
  unfold ifree igive
  rw [if_pos h, if_pos ht.1, if_pos (isok_set ht.1 iok_iz hk)]
  omega
/-- a frame is taken exactly if one is free and the right is one -/
theorem take_none (xs : List IV) (g : Bs) : tok xs g = (decide (0 < ifree xs) && rv g) := by
  rw [Bool.eq_iff_iff, tok_iff, Bool.and_eq_true, decide_eq_true_eq]
  unfold ifree
  constructor
  · rintro ⟨h1, h2, h3⟩
    rw [if_pos h1]
    have := cnt_pos.2 h3
    exact ⟨by omega, h2⟩
  · rintro ⟨h1, h2⟩
    by_cases hk : isok xs = true
    · rw [if_pos hk] at h1
      exact ⟨hk, h2, cnt_pos.1 (by omega)⟩
    · rw [if_neg hk] at h1
      omega
/-- lists without one, and with an invalid one -/
theorem isok_erase {xs : List IV} {k : Nat} (h : isok xs = true) (hk : k < xs.length) : isok (xs.take k ++ xs.drop (k + 1)) = false := by
  rw [Bool.eq_false_iff]
  intro h2
  have h3 := isok_len h2
  have h4 := isok_len h
  rw [List.length_append, List.length_take, List.length_drop] at h3
  omega
theorem isok_bad {xs : List IV} {k : Nat} (hk : k < xs.length) {x : IV} (hx : iok x = false) : isok (xs.set k x) = false := by
  rw [Bool.eq_false_iff]
  intro h2
  have h3 := isok_at h2 (i := k) (by rw [List.length_set]; exact hk)
  rw [set_getD_eq hk, if_pos rfl, hx] at h3
  cases h3
end Go.Proofs.Yticnfekjbknomaa
/- What the reference's functions on what is known of frames return. -/
namespace Go.Proofs.Yticnfekjbknomaa
open Go.ChangeShapes Go.WideShapes Go.ChangeAt Go.RowKit
set_option linter.unusedVariables false

theorem l6In_any (w : World) (x lo hi : Int) : Calls Try.prog 111 #[.int .i64 x, .int .i64 lo, .int .i64 hi] w (Says (inR x lo hi) w) := by
  unfold inR
  by_cases h : lo ≤ x ∧ x ≤ hi
  · rw [decide_eq_true h]
    obtain ⟨h1, h2⟩ := h
    go_enter Try.func111, Try.ntmps111
    go_wp2
    go_ret
    exact says_mk rfl
  · rw [decide_eq_false h]
    by_cases h1 : lo ≤ x
    · have h2 : decide (x ≤ hi) = false := by simp; omega
      clear h
      go_enter Try.func111, Try.ntmps111
      go_wp2
      go_ret
      exact says_mk rfl
    · have h2 : decide (lo ≤ x) = false := by simpa using h1
      clear h
      go_enter Try.func111, Try.ntmps111
      go_wp2
      go_ret
      exact says_mk rfl
theorem l1Frame_any (w : World) (x : Int) : Calls Try.prog 102 #[.int .i64 x] w (Says (inR x 0 11) w) := by
  go_enter Try.func102, Try.ntmps102
  go_wp2_with (go_at_call 111; refine (l6In_any _ _ _ _).mono ?_; rintro e w' ⟨rfl, rfl⟩)
  go_ret
  exact says_mk rfl
set_option maxRecDepth 100000 in
theorem l12Info_any (w : World) (x : IV) (hx : x.g.length ≤ 2000000) : Calls Try.prog 79 #[ivV x] w (BRes (iok x) w) := by
  obtain ⟨xk, xg, xr⟩ := x
  have HB : Hid (Below w.heap.size w (w.alloc (.cells #[.int .i64 xk, .string ⟨xg.toArray⟩, .int .i64 xr] 36))) := Lib.hid ((Below.refl _ _).alloc (Nat.le_refl _) _)
  obtain ⟨r, hr⟩ : ∃ r, r = iok ⟨xk, xg, xr⟩ := ⟨_, rfl⟩
  rw [← hr]
  by_cases hk : xk = 0
  · subst hk
    have HR : Hid (r = decide ((⟨0, xg, xr⟩ : IV) = iz)) := Lib.hid (by rw [hr]; unfold iok; rw [if_pos rfl])
    clear hr
    by_cases hg : xg = []
    · subst hg
      by_cases hz : xr = 0
      · subst hz
        have HR2 : Hid (r = true) := Lib.hid (by rw [HR.out]; exact decide_eq_true rfl)
        clear HR
        go_enter Try.func79, Try.ntmps79
        go_wp2_with fail
        go_ret
        exact ⟨by rw [HR2.out]; rfl, HB.out⟩
      · have HR2 : Hid (r = false) := Lib.hid (by rw [HR.out]; exact decide_eq_false (fun hh => hz (iv_ext.1 hh).2.2))
        have e1 : (xr == 0) = false := by simpa using hz
        clear HR
        go_enter Try.func79, Try.ntmps79
        go_wp2_with fail
        go_ret
        exact ⟨by rw [HR2.out]; rfl, HB.out⟩
    · have HR2 : Hid (r = false) := Lib.hid (by rw [HR.out]; exact decide_eq_false (fun hh => hg (iv_ext.1 hh).2.1))
      have e1 : (xg == []) = false := by simpa using hg
      clear HR
      go_enter Try.func79, Try.ntmps79
      go_wp2_with fail
      go_ret
      exact ⟨by rw [HR2.out]; rfl, HB.out⟩
  · have hk' : (xk == 0) = false := by simpa using hk
    have HR : Hid (r = (inR xk 1 3 && (rv xg && inR xr 0 50))) := Lib.hid (by rw [hr]; unfold iok; rw [if_neg hk])
    have HI1 := Lib.hid (fun w => l6In_any w xk 1 3)
    have HI2 := Lib.hid (fun w => l6In_any w xr 0 50)
    have HV := Lib.hid (fun w => sRightValid_any w xg hx)
    clear hr hk
    go_enter Try.func79, Try.ntmps79
    go_wp2_with fail
    refine (HI1.out _).mono ?_
    rintro e w' ⟨rfl, rfl⟩
    cases h1 : inR xk 1 3 with
    | false =>
      rw [h1] at HR
      clear h1
      go_wp2_with fail
      go_ret
      exact ⟨by rw [HR.out]; rfl, HB.out⟩
    | true =>
      rw [h1] at HR
      clear h1
      go_wp2_with fail
      refine (HV.out _).mono ?_
      rintro e w' ⟨rfl, rfl⟩
      cases h2 : rv xg with
      | false =>
        rw [h2] at HR
        clear h2
        go_wp2_with fail
        go_ret
        exact ⟨by rw [HR.out]; rfl, HB.out⟩
      | true =>
        rw [h2] at HR
        clear h2
        go_wp2_with fail
        refine (HI2.out _).mono ?_
        rintro e w' ⟨rfl, rfl⟩
        go_wp2_with fail
        go_ret
        exact ⟨by rw [HR.out]; rfl, HB.out⟩
def ShortI (xs : List IV) : Prop := ∀ x ∈ xs, x.g.length ≤ 2000000
theorem ShortI.at {xs : List IV} (h : ShortI xs) (i : Nat) : (xs.getD i iz).g.length ≤ 2000000 := by
  by_cases hi : i < xs.length
  · rw [getD_lt hi]; exact h _ (List.getElem_mem hi)
  · rw [List.getD, List.getElem?_eq_none (Nat.le_of_not_lt hi)]; exact Nat.zero_le _
set_option maxRecDepth 100000 in
theorem infosValid_any (w : World) (v : Value) (xs : List IV) (h : Is w v xs) (hs : ShortI xs) : Calls Try.prog 28 #[v] w (BRes (isok xs) w) := by
  obtain ⟨a, ca, rfl, hla, hma, hxa⟩ := h
  unfold maxLen at hma
  obtain ⟨n, hN⟩ : ∃ n, n = xs.length := ⟨_, rfl⟩
  rw [← hN] at hla ⊢
  have HN := Lib.hid hN
  have HX := Lib.hid hxa
  have HS := Lib.hid hs
  clear hN hxa hs
  obtain ⟨r, hr⟩ : ∃ r, r = isok xs := ⟨_, rfl⟩
  rw [← hr]
  have HR := Lib.hid hr
  clear hr
  go_enter Try.func28, Try.ntmps28
  go_wp2
  go_loopw [3] (fun i wr => ∃ k : Nat, k ≤ n ∧ i = .int .i64 k ∧ Hid (Below w.heap.size w wr) ∧ Hid (∀ i, i < k → iok (xs.getD i iz) = true)) (fun i _ => n - (intOf i).toNat)
  case atStart => exact ⟨0, Nat.zero_le _, rfl, Lib.hid (Below.refl _ _), Lib.hid (fun i hi => by omega)⟩
  case round =>
    obtain ⟨k, hk, rfl, HB, HT⟩ := hrel
    by_cases hlt : k < n
    · have hlt' : (k : Int) < (n : Int) := by omega
      have hkx : k < xs.length := by have := HN.out; omega
      obtain ⟨b, o, rfl, hc⟩ := HX.out k hkx
      have HC := Lib.hid (hc.below HB.out hc.lt)
      have HCD := Lib.hid (hc.below HB.out.drew hc.lt)
      have HV := Lib.hid (fun w => l12Info_any w (xs.getD k iz) (HS.out.at k))
      have HBAD : Hid (iok (xs.getD k iz) = false → r = false) := Lib.hid (fun hb => by
        rw [HR.out, Bool.eq_false_iff]
        intro hh
        rw [isok_at hh hkx] at hb
        cases hb)
      have HGOOD : Hid (iok (xs.getD k iz) = true → ∀ i, i < k + 1 → iok (xs.getD i iz) = true) := Lib.hid (fun hb i hi => by
        by_cases hik : i < k
        · exact HT.out i hik
        · obtain rfl : i = k := by omega
          exact hb)
      generalize xs.getD k iz = x at HC HCD HV HBAD HGOOD hc
      obtain ⟨c0, c1, c2⟩ := HC.out
      clear hc hkx
      cases hv : iok x with
      | false =>
        rw [hv] at HV
        have HF := Lib.hid (HBAD.out hv)
        clear hv
        go_wp2_with fail
        refine (HV.out wr).mono ?_
        rintro e w1 ⟨rfl, hb1⟩
        have B1 := Lib.hid (HB.out.trans (hb1.mono HB.out.size))
        clear hb1
        go_wp2_with fail
        go_ret
        exact ⟨by rw [HF.out]; rfl, B1.out⟩
      | true =>
        rw [hv] at HV
        have HG := Lib.hid (HGOOD.out hv)
        clear hv
        go_wp2_with fail
        refine (HV.out wr).mono ?_
        rintro e w1 ⟨rfl, hb1⟩
        have B1 := Lib.hid (HB.out.trans (hb1.mono HB.out.size))
        clear hb1
        go_wp2
        go_roundw
        case rel => exact ⟨k + 1, by omega, by go_num, B1, HG⟩
        case measure => simp [intOf]; omega
    · have e : k = n := by omega
      have HF : Hid (r = ((n : Int) == 12)) := Lib.hid (by
        rw [HR.out, isok, decide_eq_true (fun i hi => HT.out i (by have := HN.out; omega)), Bool.true_and]
        have := HN.out
        rw [Bool.eq_iff_iff, decide_eq_true_eq, beq_iff_eq]
        omega)
      go_wp2
      go_ret
      exact ⟨by rw [HF.out]; rfl, HB.out⟩
end Go.Proofs.Yticnfekjbknomaa
/- What the reference's InfosTake and InfosGive return. -/
namespace Go.Proofs.Yticnfekjbknomaa
open Go.ChangeShapes Go.WideShapes Go.ChangeAt Go.RowKit
set_option linter.unusedVariables false

theorem OwnV.drew {w w' : World} {v : Value} {ys : List IV} (h : OwnV w v ys w') : OwnV w v ys w'.drew := ⟨h.own, h.bel.drew⟩
/-- a slice that is not empty, in own blocks, has a place -/
theorem IsW.place {w : World} {B0 B1 : Nat} {v : Value} {xs : List IV} {k : Nat} (h : IsW w B0 B1 v xs) (hk : k < xs.length) : ∃ g p cap, v = .slice (some ⟨g, p, none⟩) xs.length cap ∧ B0 ≤ g ∧ g < B1 ∧ TriW w g (p + k * 3) (xs.getD k iz) := by
  obtain ⟨a, cap, rfl, h1, h2, h3⟩ := h
  obtain ⟨g, p, rfl, hg0, hg1, ht⟩ := h3 k hk
  exact ⟨g, p, cap, rfl, hg0, hg1, ht⟩
/-- one of a new slice is replaced -/
theorem stored_any {w w2 : World} {g p k cap n : Nat} {xs : List IV} {x : IV} (h : IsW w2 w.heap.size w2.heap.size (.slice (some ⟨g, p, none⟩) n cap) xs) (hk : k < n) (hg : w.heap.size ≤ g) (ht : w2.there g (p + k * 3) 3) (hb : Below w.heap.size w w2) :
    IsW (w2.setCells g (p + k * 3) (ivC x)) w.heap.size (w2.setCells g (p + k * 3) (ivC x)).heap.size (.slice (some ⟨g, p, none⟩) n cap) (xs.set k x) ∧ Below w.heap.size w (w2.setCells g (p + k * 3) (ivC x)) := by
  refine ⟨?_, Below.setCells hb _ hg _ _ _ hb⟩
  rw [size_setCells]
  exact h.upd rfl hk (TriW.stored ht) (fun i y hi hy => hy.apart (.inr (by show p + i * 3 + 3 ≤ p + k * 3 ∨ p + k * 3 + 3 ≤ p + i * 3; omega)))
end Go.Proofs.Yticnfekjbknomaa
/- How the laws copy what is known of frames. -/
namespace Go.Proofs.Yticnfekjbknomaa
open Go.ChangeShapes Go.WideShapes Go.ChangeAt Go.RowKit
set_option linter.unusedVariables false

/-- a new slice in a block of its own; nothing that was there changes -/
def ToIs (xs : List IV) (w : World) (e : Ending) (w' : World) : Prop :=
  ∃ v, e = .returned v ∧ IsW w' w.heap.size w'.heap.size v xs ∧ Below w.heap.size w w' ∧ v = .slice (some ⟨w.heap.size, 0, none⟩) xs.length xs.length
set_option maxRecDepth 100000 in
theorem toInfo_any (w : World) (x : IV) : Calls Try.prog 97 #[ivV x] w fun e w' => e = .returned (ivV x) ∧ Below w.heap.size w w' := by
  obtain ⟨xk, xg, xr⟩ := x
  go_enter Try.func97, Try.ntmps97
  go_wp2
  refine bodyPost_ret (results_cell_row rfl _ _ (w.heap.size + 1) 36 #[.int .i64 xk, .string ⟨xg.toArray⟩, .int .i64 xr] (0, 0) _ rfl (by
    have h := heap_alloc_new (w.alloc (.cells #[.int .i64 xk, .string ⟨xg.toArray⟩, .int .i64 xr] 116)) (.cells #[.int .i64 xk, .string ⟨xg.toArray⟩, .int .i64 xr] 36)
    rw [World.size_alloc] at h
    exact (Below.heap_alloc _ _ _ (by simp)).trans h) Try.underlying36 rfl (by kernel_rfl)) rfl ?_
  exact ⟨rfl, (((Below.refl _ _).alloc (Nat.le_refl _) _).alloc (by simp) _).alloc (by simp; omega) _⟩
/-- translations copied so far, the rest zero -/
def part3 (xs : List IV) (k i : Nat) : IV := if i < k then xs.getD i iz else iz
set_option maxRecDepth 100000 in
set_option maxHeartbeats 1000000 in
theorem toInfoS_any (w : World) (v : Value) (xs : List IV) (h : Is w v xs) (hn : xs.length ≤ 1048576) :
    Calls Try.prog 50 #[v] w (ToIs xs w) := by
  obtain ⟨i0, hi, hz0, hz1, hz2⟩ := info_parts ivInfo
  have HI := Lib.hid hi
  have HZ0 := Lib.hid hz0
  have HZ1 := Lib.hid hz1
  have HZ2 := Lib.hid hz2
  clear hi hz0 hz1 hz2
  obtain ⟨a, ca, rfl, hla, hma, hxa⟩ := h
  unfold maxLen at hma
  obtain ⟨n, hN⟩ : ∃ n, n = xs.length := ⟨_, rfl⟩
  have HXA := Lib.hid hxa
  rw [← hN] at hla hn ⊢
  have HN := Lib.hid hN
  clear hN hxa
  go_enter Try.func50, Try.ntmps50
  go_wp2_with (at_make; refine wpList_make_full _ rfl (.tmp 6) (.tmp 6) 27 rfl w.heap.size 36 i0 (.agg #[.int .i64 0, .string ⟨#[]⟩, .int .i64 0]) 3 Try.underlying27 HI.out HZ0.out HZ1.out .i64 .i64 _ _ n rfl rfl rfl rfl (by rw [HZ2.out]; omega) (by unfold maxLen; omega) (Nat.le_refl _) ?_; intro w1 hown hg)
  have HST : Hid (∀ i, i < n → TriW w1 w.heap.size (0 + i * 3) (part3 xs 0 i)) := Lib.hid (fun i hi => by
    have hc : ∀ j v, j < 3 → (#[Value.int .i64 0, .string ⟨#[]⟩, .int .i64 0] : Array Value)[j]? = some v → w1.cell? ⟨w.heap.size, 0 + i * 3 + j, none⟩ = some v := fun j v hj hv => by
      have := hown.cells (g := w.heap.size) rfl (i * 3 + j) v (by
        rw [Array.getElem?_toList]
        unfold madeCells
        rw [Array.getElem?_map, Array.getElem?_range, if_pos (by omega)]
        simp only [Option.map_some, Value.cells]
        rw [← hv]
        have e : (i * 3 + j) % 3 = j := by omega
        simp only [List.size_toArray, List.length_cons, List.length_nil, e]
        obtain rfl | rfl | rfl : j = 0 ∨ j = 1 ∨ j = 2 := by omega
        all_goals simp)
      rw [add0] at this
      rw [Nat.zero_add]
      exact this
    exact ⟨⟨hc 0 _ (by omega) rfl, hc 1 _ (by omega) rfl, hc 2 _ (by omega) rfl⟩, fun j _ => hown.frozenAt _⟩)
  have HB1 : Hid (Below w.heap.size w w1) := Lib.hid ((Below.refl _ _).grown hg (Nat.le_refl _) (fun k e => by cases e))
  have HS1 : Hid (w.heap.size < w1.heap.size) := Lib.hid (hown.lt _ rfl).2
  clear hown hg
  go_loopw [4] (fun i wr => ∃ k : Nat, k ≤ n ∧ i = .int .i64 k ∧ Hid (Below w.heap.size w wr) ∧ Hid (w.heap.size < wr.heap.size) ∧ Hid (∀ i, i < n → TriW wr w.heap.size (0 + i * 3) (part3 xs k i))) (fun i _ => n - (intOf i).toNat)
  case atStart => exact ⟨0, Nat.zero_le _, rfl, HB1, HS1, HST⟩
  case round =>
    obtain ⟨k, hk, rfl, HBW, HSW, HFW⟩ := hrel
    by_cases hlt : k < n
    · obtain ⟨b, o, rfl, hf0⟩ := HXA.out k (by have := HN.out; omega)
      obtain ⟨x, hx⟩ : ∃ x, x = xs.getD k iz := ⟨_, rfl⟩
      rw [← hx] at hf0
      have hbl := block_lt_of_cell hf0.c0
      obtain ⟨g0, g1, g2⟩ := hf0.below HBW.out hbl
      have HX := Lib.hid hx
      have HC := Lib.hid (toInfo_any wr x)
      have hlt' : (k : Int) < (n : Int) := by omega
      clear hx hf0
      go_wp2_with fail
      refine HC.out.mono ?_
      rintro e w2 ⟨rfl, hb2⟩
      have HB2 := Lib.hid (HBW.out.trans (hb2.mono HBW.out.size))
      have HS2 : Hid (w.heap.size < w2.heap.size) := Lib.hid (Nat.lt_of_lt_of_le HSW.out hb2.size)
      have HF2 : Hid (∀ i, i < n → TriW w2 w.heap.size (0 + i * 3) (part3 xs k i)) := Lib.hid (fun i hi => (HFW.out i hi).block (hb2.block _ HSW.out))
      have HT : Hid (w2.there w.heap.size (k * 3) 3) := Lib.hid (by
        have h := HF2.out k hlt
        rw [Nat.zero_add] at h
        exact h.there)
      clear hb2
      go_wp2_with ((with_reducible refine store_is 36 (.tmp 21) (.tmp 20) ?_); refine store_arr 36 (.tmp 21) (.tmp 20) w.heap.size (k * 3) #[.int .i64 x.k, .string ⟨x.g.toArray⟩, .int .i64 x.r] rfl rfl HT.out (by kernel_rfl) (by simp [Value.oneCell']) ?_)
      go_roundw
      case rel =>
        refine ⟨k + 1, by omega, by go_num, Lib.hid (Below.setCells HB2.out _ (Nat.le_refl _) _ _ _ HB2.out), Lib.hid (by rw [size_setCells]; exact HS2.out), Lib.hid (fun i hi => ?_)⟩
        by_cases hik : i = k
        · subst hik
          have e : part3 xs (i + 1) i = x := by unfold part3; rw [if_pos (by omega), HX.out]
          rw [e, Nat.zero_add]
          exact TriW.stored HT.out
        · have e : part3 xs (k + 1) i = part3 xs k i := by
            unfold part3
            by_cases h : i < k
            · rw [if_pos h, if_pos (by omega)]
            · rw [if_neg h, if_neg (by omega)]
          rw [e]
          exact (HF2.out i hi).apart (.inr (by show 0 + i * 3 + 3 ≤ k * 3 ∨ k * 3 + 3 ≤ 0 + i * 3; omega))
      case measure => simp [intOf]; omega
    · have ek : k = n := by omega
      subst ek
      go_wp2
      go_ret
      refine ⟨_, rfl, ⟨some ⟨w.heap.size, 0, none⟩, k, by rw [← HN.out]; rfl, by rw [← HN.out]; exact Nat.le_refl _, by unfold maxLen; omega, fun i hi => ⟨w.heap.size, 0, rfl, Nat.le_refl _, HSW.out, ?_⟩⟩, HBW.out, congrArg (fun q => Value.slice (some ⟨w.heap.size, 0, none⟩) q q) HN.out⟩
      have h := HFW.out i (by have := HN.out; omega)
      have e : part3 xs k i = xs.getD i iz := by unfold part3; rw [if_pos (by have := HN.out; omega)]
      rwa [e] at h
end Go.Proofs.Yticnfekjbknomaa
/- How the laws mark what is known of frames, and look whether the marks are held. -/
namespace Go.Proofs.Yticnfekjbknomaa
open Go.ChangeShapes Go.WideShapes Go.ChangeAt Go.RowKit
set_option linter.unusedVariables false

/-- the mark of place i -/
def mkI (i : Nat) : IV := ⟨((1 + 3 * i : Nat) : Int), mtext (2 + 3 * i), ((3 + 3 * i : Nat) : Int)⟩
def mkIs (n : Nat) : List IV := (List.range n).map mkI
theorem mkIs_len (n : Nat) : (mkIs n).length = n := by simp [mkIs]
theorem mkIs_get {n i : Nat} (h : i < n) : (mkIs n).getD i iz = mkI i := by
  rw [getD_lt (by rw [mkIs_len]; exact h)]
  simp [mkIs]
theorem iv_list_ext {xs ys : List IV} (hl : xs.length = ys.length) (h : ∀ i, i < xs.length → xs.getD i iz = ys.getD i iz) : xs = ys := by
  refine List.ext_getElem hl (fun i h1 h2 => ?_)
  have := h i h1
  rwa [getD_lt h1, getD_lt h2] at this
theorem set_getD_iv {xs : List IV} {k i : Nat} {x : IV} (hk : k < xs.length) : (xs.set k x).getD i iz = if i = k then x else xs.getD i iz := by
  by_cases h : i = k
  · subst h
    rw [if_pos rfl, getD_lt (by rw [List.length_set]; exact hk), List.getElem_set_self]
  · rw [if_neg h]
    by_cases hi : i < xs.length
    · rw [getD_lt (by rw [List.length_set]; exact hi), getD_lt hi, List.getElem_set_ne (by omega)]
    · simp [List.getD, List.getElem?_eq_none (Nat.le_of_not_lt hi), List.getElem?_eq_none (show (xs.set k x).length ≤ i by rw [List.length_set]; omega)]
set_option maxHeartbeats 1000000 in
theorem markInfoS_any (w : World) (B0 B1 : Nat) (a : Option Addr) (n cap : Nat) (xs : List IV) (h : IsW w B0 B1 (.slice a n cap) xs) (hB : B1 ≤ w.heap.size) (hN : n = xs.length) (hn : n ≤ 1048576) :
    Calls Try.prog 57 #[.slice a n cap, .int .i64 1] w fun e w' => e = .returned (.int .i64 ((1 + 3 * n : Nat) : Int)) ∧ IsW w' B0 B1 (.slice a n cap) (mkIs n) ∧ Chg B0 B1 w w' := by
  have H := Lib.hid h
  have HN := Lib.hid hN
  have HB := Lib.hid hB
  clear h hN hB
  go_enter Try.func57, Try.ntmps57
  go_wp2
  go_loopw [1, 5] (fun l i wr => ∃ (j : Nat) (ys : List IV), j ≤ n ∧ i = .int .i64 j ∧ l = .int .i64 ((1 + 3 * j : Nat) : Int) ∧ Hid (ys.length = n) ∧ Hid (∀ q, q < j → ys.getD q iz = mkI q) ∧ Hid (IsW wr B0 B1 (.slice a n cap) ys) ∧ Hid (Chg B0 B1 w wr)) (fun _ i _ => n - (intOf i).toNat)
  case atStart => exact ⟨0, xs, Nat.zero_le _, rfl, rfl, Lib.hid HN.out.symm, Lib.hid (fun q hq => by omega), H, Lib.hid ⟨rfl, rfl, rfl, Nat.le_refl _, fun _ _ _ => rfl⟩⟩
  case round =>
    obtain ⟨j, ys, hj, rfl, rfl, HL, HY, HS, HC⟩ := hrel
    by_cases hlt : j < n
    · have hlt' : (j : Int) < (n : Int) := by omega
      obtain ⟨a', cap', e, q1, q2, q3⟩ := HS.out
      injection e with e1 e2 e3
      subst e1
      obtain ⟨g, p, rfl, hg0, hg1, ht⟩ := q3 j (by omega)
      clear q1 q2 q3 e2 e3
      generalize ys.getD j iz = x at ht
      have HT := Lib.hid ht
      have HG := Lib.hid (And.intro hg0 hg1)
      have hc0 := ht.at3.c0
      have hf0 := ht.fr 0 (by omega)
      rw [Nat.add_zero] at hf0
      clear hg0 hg1 ht
      go_wp2_with fail
      have z1 : (1 + 3 * (j : Int) + 1) = ((2 + 3 * j : Nat) : Int) := by omega
      obtain ⟨wa, hwa⟩ : ∃ wa, wa = wr.setCell ⟨g, p + j * 3, none⟩ (.int .i64 (1 + 3 * (j : Int))) := ⟨_, rfl⟩
      have TA : Hid (TriW wa g (p + j * 3) ⟨1 + 3 * (j : Int), x.g, x.r⟩) := Lib.hid (by rw [hwa]; exact HT.out.set0 _)
      have SA : Hid (IsW wa B0 B1 (.slice (some ⟨g, p, none⟩) n cap) (ys.set j ⟨1 + 3 * (j : Int), x.g, x.r⟩)) := Lib.hid (HS.out.upd rfl hlt TA.out (fun i y hi hy => by rw [hwa]; exact hy.off (by omega) _))
      have CA : Hid (Chg B0 B1 w wa) := Lib.hid (by rw [hwa]; exact chg_set HC.out HG.out.1 HG.out.2)
      rw [z1, ← hwa]
      clear hwa
      refine (markText_any wa (2 + 3 * j) (by omega) (by omega)).mono ?_
      rintro e wb ⟨rfl, hbb⟩
      have TB := Lib.hid (TA.out.block (hbb.block g TA.out.at3.lt))
      have SB := Lib.hid (SA.out.below hbb (Nat.le_trans HB.out CA.out.size))
      have CB := Lib.hid (chg_below CA.out hbb)
      have hc1 := TB.out.at3.c1
      have hf1 := TB.out.fr 1 (by omega)
      have hc2 := TB.out.at3.c2
      have hf2 := TB.out.fr 2 (by omega)
      clear hbb TA SA CA
      go_wp2_with fail
      have z2 : (2 + 3 * (j : Int) + 1) = ((3 + 3 * j : Nat) : Int) := by omega
      obtain ⟨wc, hwc⟩ : ∃ wc, wc = wb.setCell ⟨g, p + j * 3 + 1, none⟩ (.string ⟨(mtext (2 + 3 * j)).toArray⟩) := ⟨_, rfl⟩
      have TC : Hid (TriW wc g (p + j * 3) ⟨1 + 3 * (j : Int), mtext (2 + 3 * j), x.r⟩) := Lib.hid (by rw [hwc]; exact TB.out.set1 _)
      have SC : Hid (IsW wc B0 B1 (.slice (some ⟨g, p, none⟩) n cap) ((ys.set j ⟨1 + 3 * (j : Int), x.g, x.r⟩).set j ⟨1 + 3 * (j : Int), mtext (2 + 3 * j), x.r⟩)) := Lib.hid (SB.out.upd rfl hlt TC.out (fun i y hi hy => by rw [hwc]; exact hy.off (by omega) _))
      have CC : Hid (Chg B0 B1 w wc) := Lib.hid (by rw [hwc]; exact chg_set CB.out HG.out.1 HG.out.2)
      rw [← hwc]
      clear hwc
      have TD := Lib.hid (TC.out.set2 (2 + 3 * (j : Int) + 1))
      have SD := Lib.hid (SC.out.upd rfl hlt TD.out (fun i y hi hy => hy.off (by omega) _))
      have CD := Lib.hid (chg_set (v := .int .i64 (2 + 3 * (j : Int) + 1)) CC.out HG.out.1 HG.out.2 (p := p + j * 3 + 2))
      have e1 : (⟨1 + 3 * (j : Int), mtext (2 + 3 * j), 2 + 3 * (j : Int) + 1⟩ : IV) = mkI j := by unfold mkI; congr 1 <;> omega
      dsimp only at SD
      rw [List.set_set, List.set_set, e1] at SD
      refine ⟨⟨j + 1, ys.set j (mkI j), by omega, by go_num, by congr 1; omega, Lib.hid (by rw [List.length_set]; exact HL.out), Lib.hid (fun q hq => ?_), SD, CD⟩, by simp [intOf]; omega⟩
      rw [set_getD_iv (by rw [HL.out]; exact hlt)]
      by_cases hqj : q = j
      · rw [if_pos hqj, hqj]
      · rw [if_neg hqj]; exact HY.out q (by omega)
    · go_wp2
      go_ret
      have e : j = n := by omega
      subst e
      have hys : ys = mkIs j := iv_list_ext (by rw [mkIs_len, HL.out]) (fun i hi => by rw [HL.out] at hi; rw [HY.out i hi, mkIs_get hi])
      rw [← hys]
      exact ⟨rfl, HS.out, HC.out⟩
end Go.Proofs.Yticnfekjbknomaa
