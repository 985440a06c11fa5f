/- What the reference's functions of lists of rights return. -/
import Derived.Test.YtjakelpdnmnofaaRSpec
import Derived.Test.YtjakelpdnmnofaaRApp
namespace Go.Proofs.Ytjakelpdnmnofaa
open Go.ChangeShapes Go.WideShapes Go.ChangeAt Go.RowKit
set_option linter.unusedVariables false

theorem any_take_all {xs : List Bs} {f : Bs → Bool} {k : Nat} (h : (xs.take k).any f = false) (hk : k = xs.length) : xs.any f = false := by rw [take_all hk] at h; exact h
theorem any_take_succ {xs : List Bs} {f : Bs → Bool} {k : Nat} (h : (xs.take k).any f = false) (hk : k < xs.length) (hf : f (xs.getD k []) = false) : (xs.take (k + 1)).any f = false := by
  rw [take_snoc_getD xs k [] hk, List.any_append, h]; simpa using hf
theorem any_at {xs : List Bs} {f : Bs → Bool} {k : Nat} (hk : k < xs.length) (hf : f (xs.getD k []) = true) : xs.any f = true := by
  rw [List.any_eq_true]
  exact ⟨_, by rw [getD_lt hk]; exact List.getElem_mem hk, hf⟩

theorem sMay0_any (w : World) (v : Value) (xs : List Bs) (g : Bs) (h : Strs w v xs) (hs : Short xs) (hg : g.length ≤ 2000000) :
    Calls Try.prog 49 #[v, .string ⟨g.toArray⟩] w (Says (may0 xs g) w) := by
  obtain ⟨a, ca, rfl, hla, hma, hxa⟩ := h
  unfold maxLen at hma
  obtain ⟨n, hN⟩ : ∃ n, n = xs.length := ⟨_, rfl⟩
  rw [← hN] at hla hxa ⊢
  have HN := Lib.hid hN
  have HS := Lib.hid hs
  have HX := Lib.hid hxa
  clear hN hs hxa
  go_enter Try.func49, Try.ntmps49
  go_wp2
  go_loop [5] (fun i => ∃ k : Nat, k ≤ n ∧ i = .int .i64 k ∧ Hid ((xs.take k).any (fun x => cov x g) = false)) (fun i => n - (intOf i).toNat)
  case atStart => exact ⟨0, Nat.zero_le _, rfl, Lib.hid (by simp)⟩
  case round =>
    obtain ⟨k, hk, rfl, HT⟩ := hrel
    by_cases hlt : k < n
    · have hlt' : (k : Int) < (n : Int) := by omega
      have hkx : k < xs.length := by rw [← HN.out]; exact hlt
      obtain ⟨b, o, rfl, hc⟩ := HX.out k hlt
      have HC := Lib.hid (sCovers_any w (xs.getD k []) g (HS.out.at k) hg)
      have HY := Lib.hid (fun h => any_at (f := fun x => cov x g) hkx h)
      have HO := Lib.hid (fun h => any_take_succ (f := fun x => cov x g) HT.out hkx h)
      generalize xs.getD k [] = x at hc HC HY HO
      clear hkx
      cases hv : cov x g with
      | true =>
        have HR := Lib.hid (HY.out hv)
        rw [hv] at HC
        clear hv
        go_wp2_with fail
        refine HC.out.mono ?_
        rintro e w1 ⟨rfl, rfl⟩
        go_wp2_with fail
        go_ret
        exact says_mk HR.out.symm
      | false =>
        have HR := Lib.hid (HO.out hv)
        rw [hv] at HC
        clear hv
        go_wp2_with fail
        refine HC.out.mono ?_
        rintro e w1 ⟨rfl, rfl⟩
        go_wp2_with fail
        go_round
        case rel => exact ⟨k + 1, by omega, by go_num, HR⟩
        case measure => simp [intOf]; omega
    · go_wp2
      go_ret
      have e : k = n := by omega
      exact says_mk (any_take_all HT.out (by rw [e]; exact HN.out)).symm

theorem sRightsMay_any (w : World) (v : Value) (xs : List Bs) (g : Bs) (h : Strs w v xs) (hs : Short xs) (hg : g.length ≤ 2000000) :
    Calls Try.prog 26 #[v, .string ⟨g.toArray⟩] w (Reads (.bool (rmay xs g)) w) := by
  have HA := Lib.hid (sRightsValid_any w v xs h hs)
  have HB := Lib.hid (fun w => sRightValid_any w g hg)
  have HC := Lib.hid (fun n => sMay0_any (w.drewN n) v xs g (h.drewN n) hs hg)
  obtain ⟨r, hr⟩ : ∃ r, r = rmay xs g := ⟨_, rfl⟩
  rw [← hr]
  rw [rmay] at hr
  have HR := Lib.hid hr
  clear hr h hs hg
  go_enter Try.func26, Try.ntmps26
  go_wp2_with fail
  refine HA.out.mono ?_
  rintro e w1 ⟨rfl, d, rfl⟩
  cases hva : rvs xs with
  | false =>
    have HV := Lib.hid hva
    clear hva
    go_wp2_with fail
    go_ret
    exact reads_mk (by rw [HR.out, HV.out]; rfl)
  | true =>
    have HV := Lib.hid hva
    clear hva
    go_wp2_with fail
    refine (HB.out _).mono ?_
    rintro e w1 ⟨rfl, rfl⟩
    cases hvb : rv g with
    | false =>
      have HVB := Lib.hid hvb
      clear hvb
      go_wp2_with fail
      go_ret
      exact reads_mk (by rw [HR.out, HV.out, HVB.out]; rfl)
    | true =>
      have HVB := Lib.hid hvb
      clear hvb
      go_wp2_with fail
      refine (HC.out d).mono ?_
      rintro e w1 ⟨rfl, rfl⟩
      go_wp2_with fail
      go_ret
      exact reads_mk (by rw [HR.out, HV.out, HVB.out]; rfl)

theorem drop_take_succ {xs : List Bs} {s : Bs} {k : Nat} (hk : k < xs.length) : drop0 (xs.take (k + 1)) s = drop0 (xs.take k) s ++ (if cov s (xs.getD k []) = true then [] else [xs.getD k []]) := by
  rw [take_snoc_getD xs k [] hk]
  simp only [drop0, List.filter_append]
  congr 1
  generalize xs.getD k [] = y
  by_cases h : cov s y = true
  · rw [if_pos h]; simp [h]
  · rw [if_neg h]; simp [h]
theorem drop_len (xs : List Bs) (s : Bs) : (drop0 xs s).length ≤ xs.length := by
  unfold drop0; exact List.length_filter_le ..
theorem OwnS.alloc {w w' : World} {v : Value} {ys : List Bs} (h : OwnS w v ys w') (o : Obj) : OwnS w v ys (w'.alloc o) := ⟨h.own.alloc _, h.bel.alloc h.bel.size o⟩
theorem strs_one (w : World) (x : Bs) : Strs (w.alloc (.cells #[.string ⟨x.toArray⟩] 9)) (.slice (some ⟨w.heap.size, 0, none⟩) 1 1) [x] :=
  ⟨_, 1, rfl, Nat.le_refl _, by decide, fun i hi => ⟨w.heap.size, 0, rfl, by
    have e : i = 0 := by simpa using hi
    subst e
    exact new_cell rfl⟩⟩

theorem sDrop0_any (w : World) (v : Value) (xs : List Bs) (g : Bs) (h : Strs w v xs) (hs : Short xs) (hg : g.length ≤ 2000000) (hl : xs.length ≤ 900000) :
    Calls Try.prog 54 #[v, .string ⟨g.toArray⟩] w (NewS (drop0 xs g) w) := by
  obtain ⟨a, ca, rfl, hla, hma, hxa⟩ := h
  unfold maxLen at hma
  obtain ⟨n, hN⟩ : ∃ n, n = xs.length := ⟨_, rfl⟩
  rw [← hN] at hla hxa hl ⊢
  have HN := Lib.hid hN
  have HS := Lib.hid hs
  have HX := Lib.hid hxa
  have HL := Lib.hid hl
  clear hN hs hxa hl
  go_enter Try.func54, Try.ntmps54
  go_wp2
  go_loopw [5, 6] (fun l i wr => ∃ k : Nat, k ≤ n ∧ i = .int .i64 k ∧ Hid (OwnS w l (drop0 (xs.take k) g) wr)) (fun _ i _ => n - (intOf i).toNat)
  case atStart => exact ⟨0, Nat.zero_le _, rfl, Lib.hid (OwnS.start w)⟩
  case round =>
    obtain ⟨k, hk, rfl, HO⟩ := hrel
    by_cases hlt : k < n
    · have hlt' : (k : Int) < (n : Int) := by omega
      have hkx : k < xs.length := by rw [← HN.out]; exact hlt
      obtain ⟨b, o, rfl, hc⟩ := HX.out k hlt
      have hcr := (HO.out.bel.cell (p := ⟨b, o + k, none⟩) (cell_lt hc)).trans hc
      have HC := Lib.hid (fun w => sCovers_any w g (xs.getD k []) hg (HS.out.at k))
      have HD := Lib.hid (drop_take_succ (s := g) hkx)
      have HLD := Lib.hid (drop_len (xs.take k) g)
      generalize xs.getD k [] = x at hcr HC HD
      clear hkx hc
      cases hv : cov g x with
      | true =>
        rw [hv] at HC HD
        rw [if_pos rfl, List.append_nil] at HD
        have HO2 : Hid (OwnS w u5 (drop0 (xs.take (k + 1)) g) wr) := Lib.hid (by rw [HD.out]; exact HO.out)
        clear hv
        go_wp2_with fail
        refine (HC.out _).mono ?_
        rintro e w1 ⟨rfl, rfl⟩
        go_wp2_with fail
        go_roundw
        case rel => exact ⟨k + 1, by omega, by go_num, HO2⟩
        case measure => simp [intOf]; omega
      | false =>
        rw [hv] at HC HD
        rw [if_neg (by simp)] at HD
        clear hv
        go_wp2_with fail
        refine (HC.out _).mono ?_
        rintro e w1 ⟨rfl, rfl⟩
        go_wp2_with (at_builtin; refine wpList_append_strs (.tmp 21) (.tmp 26) w u5 (drop0 (xs.take k) g) rfl (HO.out.alloc _) _ [x] rfl (strs_one _ x) nilOk_some (by have h1 := HLD.out; rw [List.length_take] at h1; have := HL.out; simp only [List.length_singleton]; omega) ?_; intro v2 w2 hown2 hnn2 hgrow2)
        have HO2 : Hid (OwnS w v2 (drop0 (xs.take (k + 1)) g) w2) := Lib.hid (by rw [HD.out]; exact hown2)
        clear hown2 hnn2 hgrow2
        go_wp2
        go_roundw
        case rel => exact ⟨k + 1, by omega, by go_num, HO2⟩
        case measure => simp [intOf]; omega
    · go_wp2
      go_ret
      have e : k = n := by omega
      have HO2 := HO.out
      rw [take_all (by rw [e]; exact HN.out)] at HO2
      exact NewS.of_own HO2

theorem sRightsDrop_any (w : World) (v : Value) (xs : List Bs) (g : Bs) (h : Strs w v xs) (hs : Short xs) (hg : g.length ≤ 2000000) :
    Calls Try.prog 35 #[v, .string ⟨g.toArray⟩] w (NewS (rdrop xs g) w) := by
  have HA := Lib.hid (sRightsValid_any w v xs h hs)
  have HB := Lib.hid (fun w => sRightValid_any w g hg)
  have HC := Lib.hid (fun n hl => sDrop0_any (w.drewN n) v xs g (h.drewN n) hs hg hl)
  obtain ⟨r, hr⟩ : ∃ r, r = rdrop xs g := ⟨_, rfl⟩
  rw [← hr]
  rw [rdrop] at hr
  have HR := Lib.hid hr
  have new0 : Hid (∀ d, r = [] → NewS r w (.returned (.slice (some ⟨w.heap.size, 0, none⟩) 0 0)) ((w.drewN d).alloc (.cells #[] 9))) := Lib.hid (fun d e => by
    rw [e]
    have := NewS.of_own (OwnS.start (w.drewN d))
    obtain ⟨v, e, h1, h2⟩ := this
    exact ⟨v, e, h1, ⟨h2.os, h2.tape, h2.output, h2.size, h2.block⟩⟩)
  clear hr h hs hg
  go_enter Try.func35, Try.ntmps35
  go_wp2_with fail
  refine HA.out.mono ?_
  rintro e w1 ⟨rfl, d, rfl⟩
  cases hva : rvs xs with
  | false =>
    have e0 : r = [] := by rw [HR.out, hva, Bool.false_and]; rfl
    have NW := Lib.hid (new0.out d e0)
    clear hva e0
    go_wp2_with fail
    go_ret
    exact NW.out
  | true =>
    have HLN := Lib.hid (rvs_len hva)
    have HV := Lib.hid hva
    clear hva
    go_wp2_with fail
    refine (HB.out _).mono ?_
    rintro e w1 ⟨rfl, rfl⟩
    cases hvb : rv g with
    | false =>
      have e0 : r = [] := by rw [HR.out, HV.out, hvb]; rfl
      have NW := Lib.hid (new0.out d e0)
      clear hvb e0
      go_wp2_with fail
      go_ret
      exact NW.out
    | true =>
      have e0 : r = drop0 xs g := by rw [HR.out, HV.out, hvb]; rfl
      have E0 := Lib.hid e0
      clear hvb e0
      go_wp2_with fail
      refine (HC.out d (by have := HLN.out; omega)).mono ?_
      rintro e w1 ⟨v1, rfl, hr1, hb1⟩
      have NW : Hid (NewS r w (.returned v1) w1) := Lib.hid (by rw [E0.out]; exact ⟨v1, rfl, hr1, ⟨hb1.os, hb1.tape, hb1.output, hb1.size, hb1.block⟩⟩)
      clear hr1 hb1
      go_wp2_with fail
      go_ret
      exact NW.out

theorem Strs.grown {w w' : World} {v : Value} {xs : List Bs} {row : Option Nat} (h : Strs w v xs) (hg : w.grownBy w' row) (hne : ∀ b o n c, v = .slice (some ⟨b, o, none⟩) n c → row ≠ some b) : Strs w' v xs := by
  obtain ⟨a, cap, rfl, h1, h2, h3⟩ := h
  refine ⟨a, cap, rfl, h1, h2, fun i hi => ?_⟩
  obtain ⟨b, o, rfl, hc⟩ := h3 i hi
  exact ⟨b, o, rfl, (World.cell?_of_block (hg.block b (cell_lt hc) (fun e => hne b o _ _ rfl e.symm))).trans hc⟩
theorem Strs.take {w : World} {b o n c : Nat} {xs : List Bs} (h : Strs w (.slice (some ⟨b, o, none⟩) n c) xs) {k : Nat} (hk : k ≤ xs.length) : Strs w (.slice (some ⟨b, o, none⟩) k c) (xs.take k) := by
  obtain ⟨a', cap, e, h1, h2, h3⟩ := h
  injection e with e1 e2 e3
  subst e1; subst e3
  refine ⟨_, c, by rw [List.length_take, Nat.min_eq_left hk], by rw [List.length_take]; omega, h2, fun i hi => ?_⟩
  rw [List.length_take] at hi
  obtain ⟨b', o', e, hc⟩ := h3 i (by omega)
  cases e
  refine ⟨b, o, rfl, ?_⟩
  rw [hc, getD_lt (show i < xs.length by omega), getD_lt (show i < (xs.take k).length by rw [List.length_take]; omega), List.getElem_take]
theorem Strs.drop {w : World} {b o n c : Nat} {xs : List Bs} (h : Strs w (.slice (some ⟨b, o, none⟩) n c) xs) {k : Nat} (hk : k ≤ xs.length) : Strs w (.slice (some ⟨b, o + k, none⟩) (n - k) (c - k)) (xs.drop k) := by
  obtain ⟨a', cap, e, h1, h2, h3⟩ := h
  injection e with e1 e2 e3
  subst e1; subst e3
  refine ⟨_, c - k, by rw [List.length_drop, e2], by rw [List.length_drop]; omega, by omega, fun i hi => ?_⟩
  rw [List.length_drop] at hi
  obtain ⟨b', o', e, hc⟩ := h3 (k + i) (by omega)
  cases e
  refine ⟨b, o + k, rfl, ?_⟩
  rw [Nat.add_assoc, hc, getD_lt (show k + i < xs.length by omega), getD_lt (show i < (xs.drop k).length by rw [List.length_drop]; omega), List.getElem_drop]

theorem below_drew_n (w : World) (d : Nat) : Below w.heap.size w (w.drewN d).drew := ⟨rfl, rfl, rfl, Nat.le_refl _, fun _ _ => rfl⟩
theorem strs_none {W : World} {b q n c : Nat} {xs : List Bs} (h : n = xs.length) (h0 : n = 0) (h1 : c ≤ 9223372036854775807) : Strs W (.slice (some ⟨b, q, none⟩) n c) xs :=
  ⟨_, c, by rw [h], by omega, by unfold maxLen; omega, fun i hi => by omega⟩
theorem strs_one_lt {w : World} {q : Nat} {s : Bs} (h : Strs w (.slice (some ⟨q, 0, none⟩) 1 1) [s]) : q < w.heap.size := by
  obtain ⟨a, c, e, _, _, h3⟩ := h
  obtain ⟨b, o, e2, hc⟩ := h3 0 (by simp)
  injection e with e1 _ _
  rw [← e1] at e2
  cases e2
  exact cell_lt hc
theorem own_start_drew (w : World) (d : Nat) : OwnS w (.slice (some ⟨w.heap.size, 0, none⟩) 0 0) [] ((w.drewN d).alloc (.cells #[] 9)) :=
  ⟨World.ownsRow_made (w.drewN d) #[] 0 (Nat.le_refl _) (Nat.zero_le _) rfl, by have := (Below.refl (w.drewN d).heap.size (w.drewN d)).alloc (Nat.le_refl _) (.cells #[] 9); exact ⟨this.os, this.tape, this.output, this.size, this.block⟩⟩
/-- a new slice of texts that is not nil, and a bool -/
def NewSO (ys : List Bs) (b : Bool) (w : World) (e : Ending) (w' : World) : Prop := ∃ v, e = .returned (.tuple #[v, .bool b]) ∧ OwnS w v ys w' ∧ v ≠ .slice none 0 0
theorem NewSO.newSB {ys : List Bs} {b : Bool} {w : World} {e : Ending} {w' : World} (h : NewSO ys b w e w') : NewSB ys b w e w' := by
  obtain ⟨v, rfl, ho, _⟩ := h
  exact ⟨v, rfl, ho.row, ho.bel⟩
theorem sRightsAdd_any (w : World) (b o ca n : Nat) (xs : List Bs) (s : Bs) (h : Strs w (.slice (some ⟨b, o, none⟩) n ca) xs) (hN : n = xs.length) (hs : Short xs) (hg : s.length ≤ 2000000) :
    Calls Try.prog 30 #[.slice (some ⟨b, o, none⟩) n ca, .string ⟨s.toArray⟩] w (NewSO (radd xs s).1 (radd xs s).2 w) := by
  have HA := Lib.hid (sRightsValid_any w _ xs h hs)
  have HB := Lib.hid (fun w => sRightValid_any w s hg)
  obtain ⟨r, hr⟩ : ∃ r, r = radd xs s := ⟨_, rfl⟩
  rw [← hr]
  have HR := Lib.hid hr
  have H := Lib.hid h
  have HN := Lib.hid hN
  have hcap : n ≤ ca ∧ ca ≤ maxLen := by
    obtain ⟨a', cap, e, h1, h2, h3⟩ := h
    injection e with e1 e2 e3
    subst e3
    exact ⟨by omega, h2⟩
  obtain ⟨hla, hma⟩ := hcap
  unfold maxLen at hma
  have HX : Hid (∀ i, i < n → w.cell? ⟨b, o + i, none⟩ = some (.string ⟨(xs.getD i []).toArray⟩)) := Lib.hid (fun i hi => by
    obtain ⟨a', cap, e, h1, h2, h3⟩ := h
    obtain ⟨b', o', e', hc⟩ := h3 i (by omega)
    injection e with e1 e2 e3
    subst e1
    cases e'
    exact hc)
  have new0 : Hid (∀ d, r = ([], false) → NewSO r.1 r.2 w (.returned (.tuple #[.slice (some ⟨w.heap.size, 0, none⟩) 0 0, .bool false])) ((w.drewN d).alloc (.cells #[] 9))) := Lib.hid (fun d e => by
    rw [e]
    exact ⟨_, rfl, own_start_drew w d, fun e => by cases e⟩)
  clear hr h hs hg hN
  go_enter Try.func30, Try.ntmps30
  go_wp2_with fail
  refine HA.out.mono ?_
  rintro e w1 ⟨rfl, d, rfl⟩
  cases hva : rvs xs with
  | false =>
    have e0 : r = ([], false) := by rw [HR.out]; exact radd_bad (by rw [hva]; simp)
    have NW := Lib.hid (new0.out d e0)
    clear hva e0
    go_wp2_with fail
    go_ret2
    exact NW.out
  | true =>
    have HLN := Lib.hid (rvs_len hva)
    have HV := Lib.hid hva
    clear hva
    go_wp2_with fail
    refine (HB.out _).mono ?_
    rintro e w1 ⟨rfl, rfl⟩
    cases hvb : rv s with
    | false =>
      have e0 : r = ([], false) := by rw [HR.out]; exact radd_bad (by rw [hvb]; simp)
      have NW := Lib.hid (new0.out d e0)
      clear hvb e0
      go_wp2_with fail
      go_ret2
      exact NW.out
    | true =>
      have HVS : Hid ((rvs xs && rv s) = true) := Lib.hid (by rw [HV.out, hvb]; rfl)
      clear hvb
      go_wp2_with fail
      go_loop [6] (fun i => ∃ k : Nat, k ≤ n ∧ i = .int .i64 k ∧ Hid (∀ j, j < k → bl (xs.getD j []) s = true)) (fun i => n - (intOf i).toNat)
      case atStart => exact ⟨0, Nat.zero_le _, rfl, Lib.hid (fun j hj => by omega)⟩
      case round =>
        obtain ⟨k, hk, rfl, HT⟩ := hrel
        by_cases hlt : k < n
        · have hlt' : (k : Int) < (n : Int) := by omega
          have hkx : k < xs.length := by rw [← HN.out]; exact hlt
          have hc := HX.out k hlt
          have HCUT := Lib.hid (fun h => cut_eq (xs := xs) (s := s) (by omega) HT.out (fun _ => h))
          have HMC := Lib.hid (@mem_cut xs s (rvs_asc HV.out))
          have HST := Lib.hid (fun (h : bl (xs.getD k []) s = true) j (hj : j < k + 1) => (show bl (xs.getD j []) s = true from by
            by_cases e : j = k
            · rw [e]; exact h
            · exact HT.out j (by omega)))
          obtain ⟨x, hx⟩ : ∃ x, x = xs.getD k [] := ⟨_, rfl⟩
          rw [← hx] at hc HCUT HST
          have HXX := Lib.hid hx
          clear hkx hx
          cases hv : bl x s with
          | true =>
            have HS2 := Lib.hid (HST.out hv)
            have hle : (Op.bytesLess x s) = true := hv
            clear hv
            go_wp2_with fail
            go_round
            case rel => exact ⟨k + 1, by omega, by go_num, HS2⟩
            case measure => simp [intOf]; omega
          | false =>
            have HK := Lib.hid (HCUT.out hv)
            have hle : (Op.bytesLess x s) = false := hv
            clear hv
            by_cases he : x = s
            · have e0 : r = (xs, true) := by rw [HR.out]; exact radd_there HVS.out (HMC.out.2 ⟨by rw [← HK.out, ← HN.out]; exact hlt, by rw [← HK.out, ← HXX.out]; exact he⟩)
              have E0 := Lib.hid e0
              have heq : (x == s) = true := by simpa using he
              have H0 : Hid (OwnS w (.slice (some ⟨w.heap.size, 0, none⟩) 0 0) [] ((w.drewN d).alloc (.cells #[] 9))) := Lib.hid (own_start_drew w d)
              clear e0 he
              go_wp2_with (at_builtin; refine wpList_append_strs (.tmp 42) (.tmp 43) w _ [] rfl H0.out _ xs rfl (H.out.below H0.out.bel) nilOk_some (by have := HLN.out; simp; omega) ?_; intro v2 w2 hown2 hnn2 hgrow2)
              have NW : Hid (NewSO r.1 r.2 w (.returned (.tuple #[v2, .bool true])) w2) := Lib.hid (by rw [E0.out]; exact ⟨_, rfl, hown2, fun e => by have := (hnn2.1 e).1; cases this⟩)
              clear hown2 hnn2 hgrow2
              go_wp2
              go_ret2
              exact NW.out
            · have HNM : Hid (s ∉ xs) := Lib.hid (fun hm => he (by have := (HMC.out.1 hm).2; rw [← HK.out, ← HXX.out] at this; exact this))
              have heq : (x == s) = false := by simpa using he
              clear he
              by_cases h6 : 6 ≤ n
              · have h6' : (6 : Int) ≤ (n : Int) := by omega
                have e0 : r = (xs, false) := by rw [HR.out]; exact radd_full HVS.out HNM.out (by rw [← HN.out]; exact h6)
                have E0 := Lib.hid e0
                clear e0
                have H0 : Hid (OwnS w (.slice (some ⟨w.heap.size, 0, none⟩) 0 0) [] ((w.drewN d).alloc (.cells #[] 9))) := Lib.hid (own_start_drew w d)
                go_wp2_with (at_builtin; refine wpList_append_strs (.tmp 48) (.tmp 49) w _ [] rfl H0.out _ xs rfl (H.out.below H0.out.bel) nilOk_some (by have := HLN.out; simp; omega) ?_; intro v2 w2 hown2 hnn2 hgrow2)
                have NW : Hid (NewSO r.1 r.2 w (.returned (.tuple #[v2, .bool false])) w2) := Lib.hid (by rw [E0.out]; exact ⟨_, rfl, hown2, fun e => by have := (hnn2.1 e).1; cases this⟩)
                clear hown2 hnn2 hgrow2
                go_wp2
                go_ret2
                exact NW.out
              · have h6' : ¬ (6 : Int) ≤ (n : Int) := by omega
                have e0 : r = (ins xs s, true) := by rw [HR.out]; exact radd_ins HVS.out HNM.out (by rw [← HN.out]; exact h6)
                have E0 := Lib.hid e0
                clear e0
                go_wp2_with fail
                refine wp_region_held_drew (S := fun _ => True) (by kernel_rfl) trivial (fun hHeld => ?_)
                refine wpAnyH_take (i := 1) (oi := { dst := some 52, op := .move (.tmp 0), type := _, pos := _, after := _, guard := none }) (v := .slice (some ⟨b, o, none⟩) n ca) rfl (by kernel_rfl) (by kernel_rfl) (by kernel_rfl) (fun _ _ _ h => h) (Or.inl ⟨by rfl, fun wh hSw => ?_⟩) hHeld ?_
                · (go_simp)
                try simp only [Act.put, List.setIfInBounds_toArray, List.set_cons_zero, List.set_cons_succ]
                refine wpAnyH_take (i := 2) (oi := { dst := some 53, op := .move (.tmp 6), type := _, pos := _, after := _, guard := none }) (v := .int .i64 (k : Int)) rfl (by kernel_rfl) (by kernel_rfl) (by kernel_rfl) (fun _ _ _ h => h) (Or.inl ⟨by rfl, fun wh hSw => ?_⟩) hHeld ?_
                · (go_simp)
                try simp only [Act.put, List.setIfInBounds_toArray, List.set_cons_zero, List.set_cons_succ]
                refine wpAnyH_take (i := 3) (oi := { dst := some 54, op := .slice 29 (.tmp 52) none (some (.tmp 53)) none, type := _, pos := _, after := _, guard := none }) (v := .slice (some ⟨b, o, none⟩) k ca) rfl (by kernel_rfl) (by kernel_rfl) (by kernel_rfl) (fun _ _ _ h => h) (Or.inl ⟨by rfl, fun wh hSw => ?_⟩) hHeld ?_
                · (go_simp; intro hh; omega)
                try simp only [Act.put, List.setIfInBounds_toArray, List.set_cons_zero, List.set_cons_succ]
                refine wpAnyH_take (i := 5) (oi := { dst := some 56, op := .move (.tmp 1), type := _, pos := _, after := _, guard := none }) (v := .string ⟨s.toArray⟩) rfl (by kernel_rfl) (by kernel_rfl) (by kernel_rfl) (fun _ _ _ h => h) (Or.inl ⟨by rfl, fun wh hSw => ?_⟩) hHeld ?_
                · (go_simp)
                try simp only [Act.put, List.setIfInBounds_toArray, List.set_cons_zero, List.set_cons_succ]
                refine wpAnyH_take (i := 8) (oi := { dst := some 59, op := .move (.tmp 0), type := _, pos := _, after := _, guard := none }) (v := .slice (some ⟨b, o, none⟩) n ca) rfl (by kernel_rfl) (by kernel_rfl) (by kernel_rfl) (fun _ _ _ h => h) (Or.inl ⟨by rfl, fun wh hSw => ?_⟩) hHeld ?_
                · (go_simp)
                try simp only [Act.put, List.setIfInBounds_toArray, List.set_cons_zero, List.set_cons_succ]
                refine wpAnyH_take (i := 9) (oi := { dst := some 60, op := .move (.tmp 6), type := _, pos := _, after := _, guard := none }) (v := .int .i64 (k : Int)) rfl (by kernel_rfl) (by kernel_rfl) (by kernel_rfl) (fun _ _ _ h => h) (Or.inl ⟨by rfl, fun wh hSw => ?_⟩) hHeld ?_
                · (go_simp)
                try simp only [Act.put, List.setIfInBounds_toArray, List.set_cons_zero, List.set_cons_succ]
                refine wpAnyH_take (i := 10) (oi := { dst := some 61, op := .slice 29 (.tmp 59) (some (.tmp 60)) none none, type := _, pos := _, after := _, guard := none }) (v := .slice (some ⟨b, o + k, none⟩) (n - k) (ca - k)) rfl (by kernel_rfl) (by kernel_rfl) (by kernel_rfl) (fun _ _ _ h => h) (Or.inl ⟨by rfl, fun wh hSw => ?_⟩) hHeld ?_
                · (go_simp; intro hh; omega)
                try simp only [Act.put, List.setIfInBounds_toArray, List.set_cons_zero, List.set_cons_succ]
                refine anyH_gen _ (fun W0 hW0 => ?_)
                have HBW0 : Hid (Below w.heap.size w W0) := Lib.hid (by rw [hW0]; exact (below_drew_n w d))
                clear hW0
                refine wpAnyH_ready (rs := [0, 6]) (by kernel_rfl) (by simp) ?_
                refine AllReadyH.cons (o := { dst := some 51, op := .buildSlice 29 0 #[], type := _, pos := _, after := _, guard := none }) rfl (fun K hK => ?_) (AllReadyH.cons (o := { dst := some 57, op := .buildSlice 29 1 #[(0, .tmp 56)], type := _, pos := _, after := _, guard := none }) rfl (fun K hK => ?_) AllReadyH.nil)
                · skip
                  go_simp
                  refine hK.out _ _ trivial (fun hHeld => ?_)
                  clear hK K
                  try simp only [Act.put, List.setIfInBounds_toArray, List.set_cons_zero, List.set_cons_succ]
                  refine anyH_gen _ (fun W1 hW1 => ?_)
                  have HBW1 : Hid (Below w.heap.size w W1) := Lib.hid (by rw [hW1]; exact (HBW0.out).alloc (HBW0.out).size _)
                  have HOW1 : Hid (OwnS w (.slice (some ⟨W0.heap.size, 0, none⟩) 0 0) [] W1) := Lib.hid (by rw [hW1]; exact (OwnS.start W0).from HBW0.out)
                  clear hW1
                  refine wpAnyH_ready (rs := [4, 6]) (by kernel_rfl) (by simp) ?_
                  refine AllReadyH.cons (o := { dst := some 55, op := .call { callee := .builtin .append, args := #[.tmp 51, .tmp 54], argTypes := #[29, 29] }, type := _, pos := _, after := _, guard := none }) rfl (fun K hK => ?_) (AllReadyH.cons (o := { dst := some 57, op := .buildSlice 29 1 #[(0, .tmp 56)], type := _, pos := _, after := _, guard := none }) rfl (fun K hK => ?_) AllReadyH.nil)
                  · skip
                    rw [if_pos (by rfl)]
                    refine wp_append_strs (.tmp 51) (.tmp 54) w (.slice (some ⟨W0.heap.size, 0, none⟩) 0 0) [] rfl HOW1.out _ (xs.take k) rfl ((H.out.take (k := k) (by rw [← HN.out]; omega)).below HBW1.out) nilOk_some (by have := HLN.out; rw [List.length_take]; simp; omega) ?_
                    intro vW2 W2 hown hnn hg
                    have HOW2 : Hid (OwnS w vW2 ([] ++ (xs.take k)) W2) := Lib.hid hown
                    have HBW2 : Hid (Below w.heap.size w W2) := Lib.hid hown.bel
                    have HNNW2 : Hid (vW2 ≠ .slice none 0 0) := Lib.hid (fun e => by have := (hnn.1 e).1; cases this)
                    clear hown hnn hg
                    refine hK.out _ _ trivial (fun hHeld => ?_)
                    clear hK K
                    try simp only [Act.put, List.setIfInBounds_toArray, List.set_cons_zero, List.set_cons_succ]
                    refine wpAnyH_ready (rs := [6]) (by kernel_rfl) (by simp) ?_
                    refine AllReadyH.cons (o := { dst := some 57, op := .buildSlice 29 1 #[(0, .tmp 56)], type := _, pos := _, after := _, guard := none }) rfl (fun K hK => ?_) AllReadyH.nil
                    go_simp
                    refine hK.out _ _ trivial (fun hHeld => ?_)
                    clear hK K
                    try simp only [Act.put, List.setIfInBounds_toArray, List.set_cons_zero, List.set_cons_succ]
                    refine anyH_gen _ (fun W3 hW3 => ?_)
                    have HBW3 : Hid (Below w.heap.size w W3) := Lib.hid (by rw [hW3]; exact (HBW2.out).alloc (HBW2.out).size _)
                    have HQW3 : Hid (Strs W3 (.slice (some ⟨W2.heap.size, 0, none⟩) 1 1) [s]) := Lib.hid (by rw [hW3]; exact strs_one W2 s)
                    have HOW3 : Hid (OwnS w vW2 ([] ++ (xs.take k)) W3) := Lib.hid (by rw [hW3]; exact HOW2.out.alloc _)
                    clear hW3
                    refine wpAnyH_ready (rs := [7]) (by kernel_rfl) (by simp) ?_
                    refine AllReadyH.cons (o := { dst := some 58, op := .call { callee := .builtin .append, args := #[.tmp 55, .tmp 57], argTypes := #[29, 29] }, type := _, pos := _, after := _, guard := none }) rfl (fun K hK => ?_) AllReadyH.nil
                    rw [if_pos (by rfl)]
                    refine wp_append_strs (.tmp 55) (.tmp 57) w vW2 ([] ++ (xs.take k)) rfl HOW3.out _ [s] rfl HQW3.out nilOk_some (by have := HLN.out; simp; omega) ?_
                    intro vW4 W4 hown hnn hg
                    have HOW4 : Hid (OwnS w vW4 (([] ++ (xs.take k)) ++ [s]) W4) := Lib.hid hown
                    have HBW4 : Hid (Below w.heap.size w W4) := Lib.hid hown.bel
                    have HNNW4 : Hid (vW4 ≠ .slice none 0 0) := Lib.hid (fun e => HNNW2.out (hnn.1 e).1)
                    clear hown hnn hg
                    refine hK.out _ _ trivial (fun hHeld => ?_)
                    clear hK K
                    try simp only [Act.put, List.setIfInBounds_toArray, List.set_cons_zero, List.set_cons_succ]
                    refine wpAnyH_ready (rs := [11]) (by kernel_rfl) (by simp) ?_
                    refine AllReadyH.cons (o := { dst := some 62, op := .call { callee := .builtin .append, args := #[.tmp 58, .tmp 61], argTypes := #[29, 29] }, type := _, pos := _, after := _, guard := none }) rfl (fun K hK => ?_) AllReadyH.nil
                    rw [if_pos (by rfl)]
                    refine wp_append_strs (.tmp 58) (.tmp 61) w vW4 (([] ++ (xs.take k)) ++ [s]) rfl HOW4.out _ (xs.drop k) rfl ((H.out.drop (k := k) (by rw [← HN.out]; omega)).below HBW4.out) nilOk_some (by have := HLN.out; simp; omega) ?_
                    intro vW5 W5 hown hnn hg
                    have HOW5 : Hid (OwnS w vW5 ((([] ++ (xs.take k)) ++ [s]) ++ (xs.drop k)) W5) := Lib.hid hown
                    have HBW5 : Hid (Below w.heap.size w W5) := Lib.hid hown.bel
                    have HNNW5 : Hid (vW5 ≠ .slice none 0 0) := Lib.hid (fun e => HNNW4.out (hnn.1 e).1)
                    clear hown hnn hg
                    refine hK.out _ _ trivial (fun hHeld => ?_)
                    clear hK K
                    try simp only [Act.put, List.setIfInBounds_toArray, List.set_cons_zero, List.set_cons_succ]
                    refine wpAnyH_take (i := 12) (oi := { dst := some 4, op := .assign (.tmp 62), type := _, pos := _, after := _, guard := none }) (v := vW5) rfl (by kernel_rfl) (by kernel_rfl) (by kernel_rfl) (fun _ _ _ h => h) (Or.inl ⟨by rfl, fun wh hSw => ?_⟩) hHeld ?_
                    · (go_simp)
                    try simp only [Act.put, List.setIfInBounds_toArray, List.set_cons_zero, List.set_cons_succ]
                    refine wpAnyH_take (i := 13) (oi := { dst := some 5, op := .assign (.const (.bool true)), type := _, pos := _, after := _, guard := none }) (v := .bool true) rfl (by kernel_rfl) (by kernel_rfl) (by kernel_rfl) (fun _ _ _ h => h) (Or.inl ⟨by rfl, fun wh hSw => ?_⟩) hHeld ?_
                    · (go_simp)
                    try simp only [Act.put, List.setIfInBounds_toArray, List.set_cons_zero, List.set_cons_succ]
                    refine wpAnyH_done (by kernel_rfl) ?_ _
                    have NW : Hid (NewSO r.1 r.2 w (.returned (.tuple #[vW5, .bool true])) W5) := Lib.hid (by rw [E0.out]; refine ⟨_, rfl, ?_, HNNW5.out⟩; have := HOW5.out; rw [List.nil_append, List.append_assoc] at this; rw [ins, ← HK.out]; exact this)
                    go_wp2
                    go_ret2
                    exact NW.out
                  · skip
                    go_simp
                    refine hK.out _ _ trivial (fun hHeld => ?_)
                    clear hK K
                    try simp only [Act.put, List.setIfInBounds_toArray, List.set_cons_zero, List.set_cons_succ]
                    refine anyH_gen _ (fun W6 hW6 => ?_)
                    have HBW6 : Hid (Below w.heap.size w W6) := Lib.hid (by rw [hW6]; exact (HBW1.out).alloc (HBW1.out).size _)
                    have HQW6 : Hid (Strs W6 (.slice (some ⟨W1.heap.size, 0, none⟩) 1 1) [s]) := Lib.hid (by rw [hW6]; exact strs_one W1 s)
                    have HOW6 : Hid (OwnS w (.slice (some ⟨W0.heap.size, 0, none⟩) 0 0) [] W6) := Lib.hid (by rw [hW6]; exact HOW1.out.alloc _)
                    have HNW6 : Hid (W0.heap.size ≠ W1.heap.size) := Lib.hid (by have := (HOW1.out.own.lt W0.heap.size rfl).2; omega)
                    clear hW6
                    refine wpAnyH_ready (rs := [4]) (by kernel_rfl) (by simp) ?_
                    refine AllReadyH.cons (o := { dst := some 55, op := .call { callee := .builtin .append, args := #[.tmp 51, .tmp 54], argTypes := #[29, 29] }, type := _, pos := _, after := _, guard := none }) rfl (fun K hK => ?_) AllReadyH.nil
                    rw [if_pos (by rfl)]
                    refine wp_append_strs (.tmp 51) (.tmp 54) w (.slice (some ⟨W0.heap.size, 0, none⟩) 0 0) [] rfl HOW6.out _ (xs.take k) rfl ((H.out.take (k := k) (by rw [← HN.out]; omega)).below HBW6.out) nilOk_some (by have := HLN.out; rw [List.length_take]; simp; omega) ?_
                    intro vW7 W7 hown hnn hg
                    have HOW7 : Hid (OwnS w vW7 ([] ++ (xs.take k)) W7) := Lib.hid hown
                    have HBW7 : Hid (Below w.heap.size w W7) := Lib.hid hown.bel
                    have HQW7 : Hid (Strs W7 (.slice (some ⟨W1.heap.size, 0, none⟩) 1 1) [s]) := Lib.hid (HQW6.out.grown hg (fun b o n c e => by cases e; intro e2; injection e2 with e2; exact HNW6.out e2))
                    have HNNW7 : Hid (vW7 ≠ .slice none 0 0) := Lib.hid (fun e => by have := (hnn.1 e).1; cases this)
                    clear hown hnn hg
                    refine hK.out _ _ trivial (fun hHeld => ?_)
                    clear hK K
                    try simp only [Act.put, List.setIfInBounds_toArray, List.set_cons_zero, List.set_cons_succ]
                    refine wpAnyH_ready (rs := [7]) (by kernel_rfl) (by simp) ?_
                    refine AllReadyH.cons (o := { dst := some 58, op := .call { callee := .builtin .append, args := #[.tmp 55, .tmp 57], argTypes := #[29, 29] }, type := _, pos := _, after := _, guard := none }) rfl (fun K hK => ?_) AllReadyH.nil
                    rw [if_pos (by rfl)]
                    refine wp_append_strs (.tmp 55) (.tmp 57) w vW7 ([] ++ (xs.take k)) rfl HOW7.out _ [s] rfl HQW7.out nilOk_some (by have := HLN.out; simp; omega) ?_
                    intro vW8 W8 hown hnn hg
                    have HOW8 : Hid (OwnS w vW8 (([] ++ (xs.take k)) ++ [s]) W8) := Lib.hid hown
                    have HBW8 : Hid (Below w.heap.size w W8) := Lib.hid hown.bel
                    have HNNW8 : Hid (vW8 ≠ .slice none 0 0) := Lib.hid (fun e => HNNW7.out (hnn.1 e).1)
                    clear hown hnn hg
                    refine hK.out _ _ trivial (fun hHeld => ?_)
                    clear hK K
                    try simp only [Act.put, List.setIfInBounds_toArray, List.set_cons_zero, List.set_cons_succ]
                    refine wpAnyH_ready (rs := [11]) (by kernel_rfl) (by simp) ?_
                    refine AllReadyH.cons (o := { dst := some 62, op := .call { callee := .builtin .append, args := #[.tmp 58, .tmp 61], argTypes := #[29, 29] }, type := _, pos := _, after := _, guard := none }) rfl (fun K hK => ?_) AllReadyH.nil
                    rw [if_pos (by rfl)]
                    refine wp_append_strs (.tmp 58) (.tmp 61) w vW8 (([] ++ (xs.take k)) ++ [s]) rfl HOW8.out _ (xs.drop k) rfl ((H.out.drop (k := k) (by rw [← HN.out]; omega)).below HBW8.out) nilOk_some (by have := HLN.out; simp; omega) ?_
                    intro vW9 W9 hown hnn hg
                    have HOW9 : Hid (OwnS w vW9 ((([] ++ (xs.take k)) ++ [s]) ++ (xs.drop k)) W9) := Lib.hid hown
                    have HBW9 : Hid (Below w.heap.size w W9) := Lib.hid hown.bel
                    have HNNW9 : Hid (vW9 ≠ .slice none 0 0) := Lib.hid (fun e => HNNW8.out (hnn.1 e).1)
                    clear hown hnn hg
                    refine hK.out _ _ trivial (fun hHeld => ?_)
                    clear hK K
                    try simp only [Act.put, List.setIfInBounds_toArray, List.set_cons_zero, List.set_cons_succ]
                    refine wpAnyH_take (i := 12) (oi := { dst := some 4, op := .assign (.tmp 62), type := _, pos := _, after := _, guard := none }) (v := vW9) rfl (by kernel_rfl) (by kernel_rfl) (by kernel_rfl) (fun _ _ _ h => h) (Or.inl ⟨by rfl, fun wh hSw => ?_⟩) hHeld ?_
                    · (go_simp)
                    try simp only [Act.put, List.setIfInBounds_toArray, List.set_cons_zero, List.set_cons_succ]
                    refine wpAnyH_take (i := 13) (oi := { dst := some 5, op := .assign (.const (.bool true)), type := _, pos := _, after := _, guard := none }) (v := .bool true) rfl (by kernel_rfl) (by kernel_rfl) (by kernel_rfl) (fun _ _ _ h => h) (Or.inl ⟨by rfl, fun wh hSw => ?_⟩) hHeld ?_
                    · (go_simp)
                    try simp only [Act.put, List.setIfInBounds_toArray, List.set_cons_zero, List.set_cons_succ]
                    refine wpAnyH_done (by kernel_rfl) ?_ _
                    have NW : Hid (NewSO r.1 r.2 w (.returned (.tuple #[vW9, .bool true])) W9) := Lib.hid (by rw [E0.out]; refine ⟨_, rfl, ?_, HNNW9.out⟩; have := HOW9.out; rw [List.nil_append, List.append_assoc] at this; rw [ins, ← HK.out]; exact this)
                    go_wp2
                    go_ret2
                    exact NW.out
                · skip
                  go_simp
                  refine hK.out _ _ trivial (fun hHeld => ?_)
                  clear hK K
                  try simp only [Act.put, List.setIfInBounds_toArray, List.set_cons_zero, List.set_cons_succ]
                  refine anyH_gen _ (fun W10 hW10 => ?_)
                  have HBW10 : Hid (Below w.heap.size w W10) := Lib.hid (by rw [hW10]; exact (HBW0.out).alloc (HBW0.out).size _)
                  have HQW10 : Hid (Strs W10 (.slice (some ⟨W0.heap.size, 0, none⟩) 1 1) [s]) := Lib.hid (by rw [hW10]; exact strs_one W0 s)
                  clear hW10
                  refine wpAnyH_ready (rs := [0]) (by kernel_rfl) (by simp) ?_
                  refine AllReadyH.cons (o := { dst := some 51, op := .buildSlice 29 0 #[], type := _, pos := _, after := _, guard := none }) rfl (fun K hK => ?_) AllReadyH.nil
                  go_simp
                  refine hK.out _ _ trivial (fun hHeld => ?_)
                  clear hK K
                  try simp only [Act.put, List.setIfInBounds_toArray, List.set_cons_zero, List.set_cons_succ]
                  refine anyH_gen _ (fun W11 hW11 => ?_)
                  have HBW11 : Hid (Below w.heap.size w W11) := Lib.hid (by rw [hW11]; exact (HBW10.out).alloc (HBW10.out).size _)
                  have HOW11 : Hid (OwnS w (.slice (some ⟨W10.heap.size, 0, none⟩) 0 0) [] W11) := Lib.hid (by rw [hW11]; exact (OwnS.start W10).from HBW10.out)
                  have HQW11 : Hid (Strs W11 (.slice (some ⟨W0.heap.size, 0, none⟩) 1 1) [s]) := Lib.hid (by rw [hW11]; exact HQW10.out.below ((Below.refl _ _).alloc (Nat.le_refl _) _))
                  have HNW11 : Hid (W10.heap.size ≠ W0.heap.size) := Lib.hid (by have := strs_one_lt HQW10.out; omega)
                  clear hW11
                  refine wpAnyH_ready (rs := [4]) (by kernel_rfl) (by simp) ?_
                  refine AllReadyH.cons (o := { dst := some 55, op := .call { callee := .builtin .append, args := #[.tmp 51, .tmp 54], argTypes := #[29, 29] }, type := _, pos := _, after := _, guard := none }) rfl (fun K hK => ?_) AllReadyH.nil
                  rw [if_pos (by rfl)]
                  refine wp_append_strs (.tmp 51) (.tmp 54) w (.slice (some ⟨W10.heap.size, 0, none⟩) 0 0) [] rfl HOW11.out _ (xs.take k) rfl ((H.out.take (k := k) (by rw [← HN.out]; omega)).below HBW11.out) nilOk_some (by have := HLN.out; rw [List.length_take]; simp; omega) ?_
                  intro vW12 W12 hown hnn hg
                  have HOW12 : Hid (OwnS w vW12 ([] ++ (xs.take k)) W12) := Lib.hid hown
                  have HBW12 : Hid (Below w.heap.size w W12) := Lib.hid hown.bel
                  have HQW12 : Hid (Strs W12 (.slice (some ⟨W0.heap.size, 0, none⟩) 1 1) [s]) := Lib.hid (HQW11.out.grown hg (fun b o n c e => by cases e; intro e2; injection e2 with e2; exact HNW11.out e2))
                  have HNNW12 : Hid (vW12 ≠ .slice none 0 0) := Lib.hid (fun e => by have := (hnn.1 e).1; cases this)
                  clear hown hnn hg
                  refine hK.out _ _ trivial (fun hHeld => ?_)
                  clear hK K
                  try simp only [Act.put, List.setIfInBounds_toArray, List.set_cons_zero, List.set_cons_succ]
                  refine wpAnyH_ready (rs := [7]) (by kernel_rfl) (by simp) ?_
                  refine AllReadyH.cons (o := { dst := some 58, op := .call { callee := .builtin .append, args := #[.tmp 55, .tmp 57], argTypes := #[29, 29] }, type := _, pos := _, after := _, guard := none }) rfl (fun K hK => ?_) AllReadyH.nil
                  rw [if_pos (by rfl)]
                  refine wp_append_strs (.tmp 55) (.tmp 57) w vW12 ([] ++ (xs.take k)) rfl HOW12.out _ [s] rfl HQW12.out nilOk_some (by have := HLN.out; simp; omega) ?_
                  intro vW13 W13 hown hnn hg
                  have HOW13 : Hid (OwnS w vW13 (([] ++ (xs.take k)) ++ [s]) W13) := Lib.hid hown
                  have HBW13 : Hid (Below w.heap.size w W13) := Lib.hid hown.bel
                  have HNNW13 : Hid (vW13 ≠ .slice none 0 0) := Lib.hid (fun e => HNNW12.out (hnn.1 e).1)
                  clear hown hnn hg
                  refine hK.out _ _ trivial (fun hHeld => ?_)
                  clear hK K
                  try simp only [Act.put, List.setIfInBounds_toArray, List.set_cons_zero, List.set_cons_succ]
                  refine wpAnyH_ready (rs := [11]) (by kernel_rfl) (by simp) ?_
                  refine AllReadyH.cons (o := { dst := some 62, op := .call { callee := .builtin .append, args := #[.tmp 58, .tmp 61], argTypes := #[29, 29] }, type := _, pos := _, after := _, guard := none }) rfl (fun K hK => ?_) AllReadyH.nil
                  rw [if_pos (by rfl)]
                  refine wp_append_strs (.tmp 58) (.tmp 61) w vW13 (([] ++ (xs.take k)) ++ [s]) rfl HOW13.out _ (xs.drop k) rfl ((H.out.drop (k := k) (by rw [← HN.out]; omega)).below HBW13.out) nilOk_some (by have := HLN.out; simp; omega) ?_
                  intro vW14 W14 hown hnn hg
                  have HOW14 : Hid (OwnS w vW14 ((([] ++ (xs.take k)) ++ [s]) ++ (xs.drop k)) W14) := Lib.hid hown
                  have HBW14 : Hid (Below w.heap.size w W14) := Lib.hid hown.bel
                  have HNNW14 : Hid (vW14 ≠ .slice none 0 0) := Lib.hid (fun e => HNNW13.out (hnn.1 e).1)
                  clear hown hnn hg
                  refine hK.out _ _ trivial (fun hHeld => ?_)
                  clear hK K
                  try simp only [Act.put, List.setIfInBounds_toArray, List.set_cons_zero, List.set_cons_succ]
                  refine wpAnyH_take (i := 12) (oi := { dst := some 4, op := .assign (.tmp 62), type := _, pos := _, after := _, guard := none }) (v := vW14) rfl (by kernel_rfl) (by kernel_rfl) (by kernel_rfl) (fun _ _ _ h => h) (Or.inl ⟨by rfl, fun wh hSw => ?_⟩) hHeld ?_
                  · (go_simp)
                  try simp only [Act.put, List.setIfInBounds_toArray, List.set_cons_zero, List.set_cons_succ]
                  refine wpAnyH_take (i := 13) (oi := { dst := some 5, op := .assign (.const (.bool true)), type := _, pos := _, after := _, guard := none }) (v := .bool true) rfl (by kernel_rfl) (by kernel_rfl) (by kernel_rfl) (fun _ _ _ h => h) (Or.inl ⟨by rfl, fun wh hSw => ?_⟩) hHeld ?_
                  · (go_simp)
                  try simp only [Act.put, List.setIfInBounds_toArray, List.set_cons_zero, List.set_cons_succ]
                  refine wpAnyH_done (by kernel_rfl) ?_ _
                  have NW : Hid (NewSO r.1 r.2 w (.returned (.tuple #[vW14, .bool true])) W14) := Lib.hid (by rw [E0.out]; refine ⟨_, rfl, ?_, HNNW14.out⟩; have := HOW14.out; rw [List.nil_append, List.append_assoc] at this; rw [ins, ← HK.out]; exact this)
                  go_wp2
                  go_ret2
                  exact NW.out
        · have hkn : k = n := by omega
          have HKN := Lib.hid hkn
          have HK := Lib.hid (cut_eq (xs := xs) (s := s) (k := k) (by rw [← HN.out]; omega) HT.out (fun h => absurd h (by rw [← HN.out]; exact hlt)))
          have HNM : Hid (s ∉ xs) := Lib.hid (fun hm => hlt (by have := ((mem_cut (rvs_asc HV.out)).1 hm).1; rw [← HK.out, ← HN.out] at this; exact this))
          have hlt' : ¬ (k : Int) < (n : Int) := by omega
          clear hkn
          by_cases h6 : 6 ≤ n
          · have h6' : (6 : Int) ≤ (n : Int) := by omega
            have e0 : r = (xs, false) := by rw [HR.out]; exact radd_full HVS.out HNM.out (by rw [← HN.out]; exact h6)
            have E0 := Lib.hid e0
            clear e0
            have H0 : Hid (OwnS w (.slice (some ⟨w.heap.size, 0, none⟩) 0 0) [] ((w.drewN d).alloc (.cells #[] 9))) := Lib.hid (own_start_drew w d)
            go_wp2_with (at_builtin; refine wpList_append_strs (.tmp 48) (.tmp 49) w _ [] rfl H0.out _ xs rfl (H.out.below H0.out.bel) nilOk_some (by have := HLN.out; simp; omega) ?_; intro v2 w2 hown2 hnn2 hgrow2)
            have NW : Hid (NewSO r.1 r.2 w (.returned (.tuple #[v2, .bool false])) w2) := Lib.hid (by rw [E0.out]; exact ⟨_, rfl, hown2, fun e => by have := (hnn2.1 e).1; cases this⟩)
            clear hown2 hnn2 hgrow2
            go_wp2
            go_ret2
            exact NW.out
          · have h6' : ¬ (6 : Int) ≤ (n : Int) := by omega
            have e0 : r = (ins xs s, true) := by rw [HR.out]; exact radd_ins HVS.out HNM.out (by rw [← HN.out]; exact h6)
            have E0 := Lib.hid e0
            clear e0
            go_wp2_with fail
            obtain ⟨q0, hq0⟩ : ∃ q0, q0 = if ca = k then o else o + k := ⟨_, rfl⟩
            have HQ0 := Lib.hid hq0
            have H61 : Hid (∀ W, Strs W (.slice (some ⟨b, q0, none⟩) (n - k) (ca - k)) (xs.drop k)) := Lib.hid (fun W => strs_none (by rw [List.length_drop, ← HN.out]) (by have := HKN.out; omega) (by omega))
            clear hq0
            refine wp_region_held_drew (S := fun _ => True) (by kernel_rfl) trivial (fun hHeld => ?_)
            refine wpAnyH_take (i := 1) (oi := { dst := some 52, op := .move (.tmp 0), type := _, pos := _, after := _, guard := none }) (v := .slice (some ⟨b, o, none⟩) n ca) rfl (by kernel_rfl) (by kernel_rfl) (by kernel_rfl) (fun _ _ _ h => h) (Or.inl ⟨by rfl, fun wh hSw => ?_⟩) hHeld ?_
            · (go_simp)
            try simp only [Act.put, List.setIfInBounds_toArray, List.set_cons_zero, List.set_cons_succ]
            refine wpAnyH_take (i := 2) (oi := { dst := some 53, op := .move (.tmp 6), type := _, pos := _, after := _, guard := none }) (v := .int .i64 (k : Int)) rfl (by kernel_rfl) (by kernel_rfl) (by kernel_rfl) (fun _ _ _ h => h) (Or.inl ⟨by rfl, fun wh hSw => ?_⟩) hHeld ?_
            · (go_simp)
            try simp only [Act.put, List.setIfInBounds_toArray, List.set_cons_zero, List.set_cons_succ]
            refine wpAnyH_take (i := 3) (oi := { dst := some 54, op := .slice 29 (.tmp 52) none (some (.tmp 53)) none, type := _, pos := _, after := _, guard := none }) (v := .slice (some ⟨b, o, none⟩) k ca) rfl (by kernel_rfl) (by kernel_rfl) (by kernel_rfl) (fun _ _ _ h => h) (Or.inl ⟨by rfl, fun wh hSw => ?_⟩) hHeld ?_
            · (go_simp; intro hh; omega)
            try simp only [Act.put, List.setIfInBounds_toArray, List.set_cons_zero, List.set_cons_succ]
            refine wpAnyH_take (i := 5) (oi := { dst := some 56, op := .move (.tmp 1), type := _, pos := _, after := _, guard := none }) (v := .string ⟨s.toArray⟩) rfl (by kernel_rfl) (by kernel_rfl) (by kernel_rfl) (fun _ _ _ h => h) (Or.inl ⟨by rfl, fun wh hSw => ?_⟩) hHeld ?_
            · (go_simp)
            try simp only [Act.put, List.setIfInBounds_toArray, List.set_cons_zero, List.set_cons_succ]
            refine wpAnyH_take (i := 8) (oi := { dst := some 59, op := .move (.tmp 0), type := _, pos := _, after := _, guard := none }) (v := .slice (some ⟨b, o, none⟩) n ca) rfl (by kernel_rfl) (by kernel_rfl) (by kernel_rfl) (fun _ _ _ h => h) (Or.inl ⟨by rfl, fun wh hSw => ?_⟩) hHeld ?_
            · (go_simp)
            try simp only [Act.put, List.setIfInBounds_toArray, List.set_cons_zero, List.set_cons_succ]
            refine wpAnyH_take (i := 9) (oi := { dst := some 60, op := .move (.tmp 6), type := _, pos := _, after := _, guard := none }) (v := .int .i64 (k : Int)) rfl (by kernel_rfl) (by kernel_rfl) (by kernel_rfl) (fun _ _ _ h => h) (Or.inl ⟨by rfl, fun wh hSw => ?_⟩) hHeld ?_
            · (go_simp)
            try simp only [Act.put, List.setIfInBounds_toArray, List.set_cons_zero, List.set_cons_succ]
            refine wpAnyH_take (i := 10) (oi := { dst := some 61, op := .slice 29 (.tmp 59) (some (.tmp 60)) none none, type := _, pos := _, after := _, guard := none }) (v := .slice (some ⟨b, q0, none⟩) (n - k) (ca - k)) rfl (by kernel_rfl) (by kernel_rfl) (by kernel_rfl) (fun _ _ _ h => h) (Or.inl ⟨by rfl, fun wh hSw => ?_⟩) hHeld ?_
            · (go_simp; rw [HQ0.out]; split <;> simp_all)
            try simp only [Act.put, List.setIfInBounds_toArray, List.set_cons_zero, List.set_cons_succ]
            refine anyH_gen _ (fun W0 hW0 => ?_)
            have HBW0 : Hid (Below w.heap.size w W0) := Lib.hid (by rw [hW0]; exact (below_drew_n w d))
            clear hW0
            refine wpAnyH_ready (rs := [0, 6]) (by kernel_rfl) (by simp) ?_
            refine AllReadyH.cons (o := { dst := some 51, op := .buildSlice 29 0 #[], type := _, pos := _, after := _, guard := none }) rfl (fun K hK => ?_) (AllReadyH.cons (o := { dst := some 57, op := .buildSlice 29 1 #[(0, .tmp 56)], type := _, pos := _, after := _, guard := none }) rfl (fun K hK => ?_) AllReadyH.nil)
            · skip
              go_simp
              refine hK.out _ _ trivial (fun hHeld => ?_)
              clear hK K
              try simp only [Act.put, List.setIfInBounds_toArray, List.set_cons_zero, List.set_cons_succ]
              refine anyH_gen _ (fun W1 hW1 => ?_)
              have HBW1 : Hid (Below w.heap.size w W1) := Lib.hid (by rw [hW1]; exact (HBW0.out).alloc (HBW0.out).size _)
              have HOW1 : Hid (OwnS w (.slice (some ⟨W0.heap.size, 0, none⟩) 0 0) [] W1) := Lib.hid (by rw [hW1]; exact (OwnS.start W0).from HBW0.out)
              clear hW1
              refine wpAnyH_ready (rs := [4, 6]) (by kernel_rfl) (by simp) ?_
              refine AllReadyH.cons (o := { dst := some 55, op := .call { callee := .builtin .append, args := #[.tmp 51, .tmp 54], argTypes := #[29, 29] }, type := _, pos := _, after := _, guard := none }) rfl (fun K hK => ?_) (AllReadyH.cons (o := { dst := some 57, op := .buildSlice 29 1 #[(0, .tmp 56)], type := _, pos := _, after := _, guard := none }) rfl (fun K hK => ?_) AllReadyH.nil)
              · skip
                rw [if_pos (by rfl)]
                refine wp_append_strs (.tmp 51) (.tmp 54) w (.slice (some ⟨W0.heap.size, 0, none⟩) 0 0) [] rfl HOW1.out _ (xs.take k) rfl ((H.out.take (k := k) (by rw [← HN.out]; omega)).below HBW1.out) nilOk_some (by have := HLN.out; rw [List.length_take]; simp; omega) ?_
                intro vW2 W2 hown hnn hg
                have HOW2 : Hid (OwnS w vW2 ([] ++ (xs.take k)) W2) := Lib.hid hown
                have HBW2 : Hid (Below w.heap.size w W2) := Lib.hid hown.bel
                have HNNW2 : Hid (vW2 ≠ .slice none 0 0) := Lib.hid (fun e => by have := (hnn.1 e).1; cases this)
                clear hown hnn hg
                refine hK.out _ _ trivial (fun hHeld => ?_)
                clear hK K
                try simp only [Act.put, List.setIfInBounds_toArray, List.set_cons_zero, List.set_cons_succ]
                refine wpAnyH_ready (rs := [6]) (by kernel_rfl) (by simp) ?_
                refine AllReadyH.cons (o := { dst := some 57, op := .buildSlice 29 1 #[(0, .tmp 56)], type := _, pos := _, after := _, guard := none }) rfl (fun K hK => ?_) AllReadyH.nil
                go_simp
                refine hK.out _ _ trivial (fun hHeld => ?_)
                clear hK K
                try simp only [Act.put, List.setIfInBounds_toArray, List.set_cons_zero, List.set_cons_succ]
                refine anyH_gen _ (fun W3 hW3 => ?_)
                have HBW3 : Hid (Below w.heap.size w W3) := Lib.hid (by rw [hW3]; exact (HBW2.out).alloc (HBW2.out).size _)
                have HQW3 : Hid (Strs W3 (.slice (some ⟨W2.heap.size, 0, none⟩) 1 1) [s]) := Lib.hid (by rw [hW3]; exact strs_one W2 s)
                have HOW3 : Hid (OwnS w vW2 ([] ++ (xs.take k)) W3) := Lib.hid (by rw [hW3]; exact HOW2.out.alloc _)
                clear hW3
                refine wpAnyH_ready (rs := [7]) (by kernel_rfl) (by simp) ?_
                refine AllReadyH.cons (o := { dst := some 58, op := .call { callee := .builtin .append, args := #[.tmp 55, .tmp 57], argTypes := #[29, 29] }, type := _, pos := _, after := _, guard := none }) rfl (fun K hK => ?_) AllReadyH.nil
                rw [if_pos (by rfl)]
                refine wp_append_strs (.tmp 55) (.tmp 57) w vW2 ([] ++ (xs.take k)) rfl HOW3.out _ [s] rfl HQW3.out nilOk_some (by have := HLN.out; simp; omega) ?_
                intro vW4 W4 hown hnn hg
                have HOW4 : Hid (OwnS w vW4 (([] ++ (xs.take k)) ++ [s]) W4) := Lib.hid hown
                have HBW4 : Hid (Below w.heap.size w W4) := Lib.hid hown.bel
                have HNNW4 : Hid (vW4 ≠ .slice none 0 0) := Lib.hid (fun e => HNNW2.out (hnn.1 e).1)
                clear hown hnn hg
                refine hK.out _ _ trivial (fun hHeld => ?_)
                clear hK K
                try simp only [Act.put, List.setIfInBounds_toArray, List.set_cons_zero, List.set_cons_succ]
                refine wpAnyH_ready (rs := [11]) (by kernel_rfl) (by simp) ?_
                refine AllReadyH.cons (o := { dst := some 62, op := .call { callee := .builtin .append, args := #[.tmp 58, .tmp 61], argTypes := #[29, 29] }, type := _, pos := _, after := _, guard := none }) rfl (fun K hK => ?_) AllReadyH.nil
                rw [if_pos (by rfl)]
                refine wp_append_strs (.tmp 58) (.tmp 61) w vW4 (([] ++ (xs.take k)) ++ [s]) rfl HOW4.out _ (xs.drop k) rfl (H61.out _) nilOk_some (by have := HLN.out; simp; omega) ?_
                intro vW5 W5 hown hnn hg
                have HOW5 : Hid (OwnS w vW5 ((([] ++ (xs.take k)) ++ [s]) ++ (xs.drop k)) W5) := Lib.hid hown
                have HBW5 : Hid (Below w.heap.size w W5) := Lib.hid hown.bel
                have HNNW5 : Hid (vW5 ≠ .slice none 0 0) := Lib.hid (fun e => HNNW4.out (hnn.1 e).1)
                clear hown hnn hg
                refine hK.out _ _ trivial (fun hHeld => ?_)
                clear hK K
                try simp only [Act.put, List.setIfInBounds_toArray, List.set_cons_zero, List.set_cons_succ]
                refine wpAnyH_take (i := 12) (oi := { dst := some 4, op := .assign (.tmp 62), type := _, pos := _, after := _, guard := none }) (v := vW5) rfl (by kernel_rfl) (by kernel_rfl) (by kernel_rfl) (fun _ _ _ h => h) (Or.inl ⟨by rfl, fun wh hSw => ?_⟩) hHeld ?_
                · (go_simp)
                try simp only [Act.put, List.setIfInBounds_toArray, List.set_cons_zero, List.set_cons_succ]
                refine wpAnyH_take (i := 13) (oi := { dst := some 5, op := .assign (.const (.bool true)), type := _, pos := _, after := _, guard := none }) (v := .bool true) rfl (by kernel_rfl) (by kernel_rfl) (by kernel_rfl) (fun _ _ _ h => h) (Or.inl ⟨by rfl, fun wh hSw => ?_⟩) hHeld ?_
                · (go_simp)
                try simp only [Act.put, List.setIfInBounds_toArray, List.set_cons_zero, List.set_cons_succ]
                refine wpAnyH_done (by kernel_rfl) ?_ _
                have NW : Hid (NewSO r.1 r.2 w (.returned (.tuple #[vW5, .bool true])) W5) := Lib.hid (by rw [E0.out]; refine ⟨_, rfl, ?_, HNNW5.out⟩; have := HOW5.out; rw [List.nil_append, List.append_assoc] at this; rw [ins, ← HK.out]; exact this)
                go_wp2
                go_ret2
                exact NW.out
              · skip
                go_simp
                refine hK.out _ _ trivial (fun hHeld => ?_)
                clear hK K
                try simp only [Act.put, List.setIfInBounds_toArray, List.set_cons_zero, List.set_cons_succ]
                refine anyH_gen _ (fun W6 hW6 => ?_)
                have HBW6 : Hid (Below w.heap.size w W6) := Lib.hid (by rw [hW6]; exact (HBW1.out).alloc (HBW1.out).size _)
                have HQW6 : Hid (Strs W6 (.slice (some ⟨W1.heap.size, 0, none⟩) 1 1) [s]) := Lib.hid (by rw [hW6]; exact strs_one W1 s)
                have HOW6 : Hid (OwnS w (.slice (some ⟨W0.heap.size, 0, none⟩) 0 0) [] W6) := Lib.hid (by rw [hW6]; exact HOW1.out.alloc _)
                have HNW6 : Hid (W0.heap.size ≠ W1.heap.size) := Lib.hid (by have := (HOW1.out.own.lt W0.heap.size rfl).2; omega)
                clear hW6
                refine wpAnyH_ready (rs := [4]) (by kernel_rfl) (by simp) ?_
                refine AllReadyH.cons (o := { dst := some 55, op := .call { callee := .builtin .append, args := #[.tmp 51, .tmp 54], argTypes := #[29, 29] }, type := _, pos := _, after := _, guard := none }) rfl (fun K hK => ?_) AllReadyH.nil
                rw [if_pos (by rfl)]
                refine wp_append_strs (.tmp 51) (.tmp 54) w (.slice (some ⟨W0.heap.size, 0, none⟩) 0 0) [] rfl HOW6.out _ (xs.take k) rfl ((H.out.take (k := k) (by rw [← HN.out]; omega)).below HBW6.out) nilOk_some (by have := HLN.out; rw [List.length_take]; simp; omega) ?_
                intro vW7 W7 hown hnn hg
                have HOW7 : Hid (OwnS w vW7 ([] ++ (xs.take k)) W7) := Lib.hid hown
                have HBW7 : Hid (Below w.heap.size w W7) := Lib.hid hown.bel
                have HQW7 : Hid (Strs W7 (.slice (some ⟨W1.heap.size, 0, none⟩) 1 1) [s]) := Lib.hid (HQW6.out.grown hg (fun b o n c e => by cases e; intro e2; injection e2 with e2; exact HNW6.out e2))
                have HNNW7 : Hid (vW7 ≠ .slice none 0 0) := Lib.hid (fun e => by have := (hnn.1 e).1; cases this)
                clear hown hnn hg
                refine hK.out _ _ trivial (fun hHeld => ?_)
                clear hK K
                try simp only [Act.put, List.setIfInBounds_toArray, List.set_cons_zero, List.set_cons_succ]
                refine wpAnyH_ready (rs := [7]) (by kernel_rfl) (by simp) ?_
                refine AllReadyH.cons (o := { dst := some 58, op := .call { callee := .builtin .append, args := #[.tmp 55, .tmp 57], argTypes := #[29, 29] }, type := _, pos := _, after := _, guard := none }) rfl (fun K hK => ?_) AllReadyH.nil
                rw [if_pos (by rfl)]
                refine wp_append_strs (.tmp 55) (.tmp 57) w vW7 ([] ++ (xs.take k)) rfl HOW7.out _ [s] rfl HQW7.out nilOk_some (by have := HLN.out; simp; omega) ?_
                intro vW8 W8 hown hnn hg
                have HOW8 : Hid (OwnS w vW8 (([] ++ (xs.take k)) ++ [s]) W8) := Lib.hid hown
                have HBW8 : Hid (Below w.heap.size w W8) := Lib.hid hown.bel
                have HNNW8 : Hid (vW8 ≠ .slice none 0 0) := Lib.hid (fun e => HNNW7.out (hnn.1 e).1)
                clear hown hnn hg
                refine hK.out _ _ trivial (fun hHeld => ?_)
                clear hK K
                try simp only [Act.put, List.setIfInBounds_toArray, List.set_cons_zero, List.set_cons_succ]
                refine wpAnyH_ready (rs := [11]) (by kernel_rfl) (by simp) ?_
                refine AllReadyH.cons (o := { dst := some 62, op := .call { callee := .builtin .append, args := #[.tmp 58, .tmp 61], argTypes := #[29, 29] }, type := _, pos := _, after := _, guard := none }) rfl (fun K hK => ?_) AllReadyH.nil
                rw [if_pos (by rfl)]
                refine wp_append_strs (.tmp 58) (.tmp 61) w vW8 (([] ++ (xs.take k)) ++ [s]) rfl HOW8.out _ (xs.drop k) rfl (H61.out _) nilOk_some (by have := HLN.out; simp; omega) ?_
                intro vW9 W9 hown hnn hg
                have HOW9 : Hid (OwnS w vW9 ((([] ++ (xs.take k)) ++ [s]) ++ (xs.drop k)) W9) := Lib.hid hown
                have HBW9 : Hid (Below w.heap.size w W9) := Lib.hid hown.bel
                have HNNW9 : Hid (vW9 ≠ .slice none 0 0) := Lib.hid (fun e => HNNW8.out (hnn.1 e).1)
                clear hown hnn hg
                refine hK.out _ _ trivial (fun hHeld => ?_)
                clear hK K
                try simp only [Act.put, List.setIfInBounds_toArray, List.set_cons_zero, List.set_cons_succ]
                refine wpAnyH_take (i := 12) (oi := { dst := some 4, op := .assign (.tmp 62), type := _, pos := _, after := _, guard := none }) (v := vW9) rfl (by kernel_rfl) (by kernel_rfl) (by kernel_rfl) (fun _ _ _ h => h) (Or.inl ⟨by rfl, fun wh hSw => ?_⟩) hHeld ?_
                · (go_simp)
                try simp only [Act.put, List.setIfInBounds_toArray, List.set_cons_zero, List.set_cons_succ]
                refine wpAnyH_take (i := 13) (oi := { dst := some 5, op := .assign (.const (.bool true)), type := _, pos := _, after := _, guard := none }) (v := .bool true) rfl (by kernel_rfl) (by kernel_rfl) (by kernel_rfl) (fun _ _ _ h => h) (Or.inl ⟨by rfl, fun wh hSw => ?_⟩) hHeld ?_
                · (go_simp)
                try simp only [Act.put, List.setIfInBounds_toArray, List.set_cons_zero, List.set_cons_succ]
                refine wpAnyH_done (by kernel_rfl) ?_ _
                have NW : Hid (NewSO r.1 r.2 w (.returned (.tuple #[vW9, .bool true])) W9) := Lib.hid (by rw [E0.out]; refine ⟨_, rfl, ?_, HNNW9.out⟩; have := HOW9.out; rw [List.nil_append, List.append_assoc] at this; rw [ins, ← HK.out]; exact this)
                go_wp2
                go_ret2
                exact NW.out
            · skip
              go_simp
              refine hK.out _ _ trivial (fun hHeld => ?_)
              clear hK K
              try simp only [Act.put, List.setIfInBounds_toArray, List.set_cons_zero, List.set_cons_succ]
              refine anyH_gen _ (fun W10 hW10 => ?_)
              have HBW10 : Hid (Below w.heap.size w W10) := Lib.hid (by rw [hW10]; exact (HBW0.out).alloc (HBW0.out).size _)
              have HQW10 : Hid (Strs W10 (.slice (some ⟨W0.heap.size, 0, none⟩) 1 1) [s]) := Lib.hid (by rw [hW10]; exact strs_one W0 s)
              clear hW10
              refine wpAnyH_ready (rs := [0]) (by kernel_rfl) (by simp) ?_
              refine AllReadyH.cons (o := { dst := some 51, op := .buildSlice 29 0 #[], type := _, pos := _, after := _, guard := none }) rfl (fun K hK => ?_) AllReadyH.nil
              go_simp
              refine hK.out _ _ trivial (fun hHeld => ?_)
              clear hK K
              try simp only [Act.put, List.setIfInBounds_toArray, List.set_cons_zero, List.set_cons_succ]
              refine anyH_gen _ (fun W11 hW11 => ?_)
              have HBW11 : Hid (Below w.heap.size w W11) := Lib.hid (by rw [hW11]; exact (HBW10.out).alloc (HBW10.out).size _)
              have HOW11 : Hid (OwnS w (.slice (some ⟨W10.heap.size, 0, none⟩) 0 0) [] W11) := Lib.hid (by rw [hW11]; exact (OwnS.start W10).from HBW10.out)
              have HQW11 : Hid (Strs W11 (.slice (some ⟨W0.heap.size, 0, none⟩) 1 1) [s]) := Lib.hid (by rw [hW11]; exact HQW10.out.below ((Below.refl _ _).alloc (Nat.le_refl _) _))
              have HNW11 : Hid (W10.heap.size ≠ W0.heap.size) := Lib.hid (by have := strs_one_lt HQW10.out; omega)
              clear hW11
              refine wpAnyH_ready (rs := [4]) (by kernel_rfl) (by simp) ?_
              refine AllReadyH.cons (o := { dst := some 55, op := .call { callee := .builtin .append, args := #[.tmp 51, .tmp 54], argTypes := #[29, 29] }, type := _, pos := _, after := _, guard := none }) rfl (fun K hK => ?_) AllReadyH.nil
              rw [if_pos (by rfl)]
              refine wp_append_strs (.tmp 51) (.tmp 54) w (.slice (some ⟨W10.heap.size, 0, none⟩) 0 0) [] rfl HOW11.out _ (xs.take k) rfl ((H.out.take (k := k) (by rw [← HN.out]; omega)).below HBW11.out) nilOk_some (by have := HLN.out; rw [List.length_take]; simp; omega) ?_
              intro vW12 W12 hown hnn hg
              have HOW12 : Hid (OwnS w vW12 ([] ++ (xs.take k)) W12) := Lib.hid hown
              have HBW12 : Hid (Below w.heap.size w W12) := Lib.hid hown.bel
              have HQW12 : Hid (Strs W12 (.slice (some ⟨W0.heap.size, 0, none⟩) 1 1) [s]) := Lib.hid (HQW11.out.grown hg (fun b o n c e => by cases e; intro e2; injection e2 with e2; exact HNW11.out e2))
              have HNNW12 : Hid (vW12 ≠ .slice none 0 0) := Lib.hid (fun e => by have := (hnn.1 e).1; cases this)
              clear hown hnn hg
              refine hK.out _ _ trivial (fun hHeld => ?_)
              clear hK K
              try simp only [Act.put, List.setIfInBounds_toArray, List.set_cons_zero, List.set_cons_succ]
              refine wpAnyH_ready (rs := [7]) (by kernel_rfl) (by simp) ?_
              refine AllReadyH.cons (o := { dst := some 58, op := .call { callee := .builtin .append, args := #[.tmp 55, .tmp 57], argTypes := #[29, 29] }, type := _, pos := _, after := _, guard := none }) rfl (fun K hK => ?_) AllReadyH.nil
              rw [if_pos (by rfl)]
              refine wp_append_strs (.tmp 55) (.tmp 57) w vW12 ([] ++ (xs.take k)) rfl HOW12.out _ [s] rfl HQW12.out nilOk_some (by have := HLN.out; simp; omega) ?_
              intro vW13 W13 hown hnn hg
              have HOW13 : Hid (OwnS w vW13 (([] ++ (xs.take k)) ++ [s]) W13) := Lib.hid hown
              have HBW13 : Hid (Below w.heap.size w W13) := Lib.hid hown.bel
              have HNNW13 : Hid (vW13 ≠ .slice none 0 0) := Lib.hid (fun e => HNNW12.out (hnn.1 e).1)
              clear hown hnn hg
              refine hK.out _ _ trivial (fun hHeld => ?_)
              clear hK K
              try simp only [Act.put, List.setIfInBounds_toArray, List.set_cons_zero, List.set_cons_succ]
              refine wpAnyH_ready (rs := [11]) (by kernel_rfl) (by simp) ?_
              refine AllReadyH.cons (o := { dst := some 62, op := .call { callee := .builtin .append, args := #[.tmp 58, .tmp 61], argTypes := #[29, 29] }, type := _, pos := _, after := _, guard := none }) rfl (fun K hK => ?_) AllReadyH.nil
              rw [if_pos (by rfl)]
              refine wp_append_strs (.tmp 58) (.tmp 61) w vW13 (([] ++ (xs.take k)) ++ [s]) rfl HOW13.out _ (xs.drop k) rfl (H61.out _) nilOk_some (by have := HLN.out; simp; omega) ?_
              intro vW14 W14 hown hnn hg
              have HOW14 : Hid (OwnS w vW14 ((([] ++ (xs.take k)) ++ [s]) ++ (xs.drop k)) W14) := Lib.hid hown
              have HBW14 : Hid (Below w.heap.size w W14) := Lib.hid hown.bel
              have HNNW14 : Hid (vW14 ≠ .slice none 0 0) := Lib.hid (fun e => HNNW13.out (hnn.1 e).1)
              clear hown hnn hg
              refine hK.out _ _ trivial (fun hHeld => ?_)
              clear hK K
              try simp only [Act.put, List.setIfInBounds_toArray, List.set_cons_zero, List.set_cons_succ]
              refine wpAnyH_take (i := 12) (oi := { dst := some 4, op := .assign (.tmp 62), type := _, pos := _, after := _, guard := none }) (v := vW14) rfl (by kernel_rfl) (by kernel_rfl) (by kernel_rfl) (fun _ _ _ h => h) (Or.inl ⟨by rfl, fun wh hSw => ?_⟩) hHeld ?_
              · (go_simp)
              try simp only [Act.put, List.setIfInBounds_toArray, List.set_cons_zero, List.set_cons_succ]
              refine wpAnyH_take (i := 13) (oi := { dst := some 5, op := .assign (.const (.bool true)), type := _, pos := _, after := _, guard := none }) (v := .bool true) rfl (by kernel_rfl) (by kernel_rfl) (by kernel_rfl) (fun _ _ _ h => h) (Or.inl ⟨by rfl, fun wh hSw => ?_⟩) hHeld ?_
              · (go_simp)
              try simp only [Act.put, List.setIfInBounds_toArray, List.set_cons_zero, List.set_cons_succ]
              refine wpAnyH_done (by kernel_rfl) ?_ _
              have NW : Hid (NewSO r.1 r.2 w (.returned (.tuple #[vW14, .bool true])) W14) := Lib.hid (by rw [E0.out]; refine ⟨_, rfl, ?_, HNNW14.out⟩; have := HOW14.out; rw [List.nil_append, List.append_assoc] at this; rw [ins, ← HK.out]; exact this)
              go_wp2
              go_ret2
              exact NW.out
end Go.Proofs.Ytjakelpdnmnofaa
