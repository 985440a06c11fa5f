/- What the program's RightsAdd and RightsDrop answer. -/
import Derived.Test.YtjakelpdnmnofaaRImpl3
namespace Go.Proofs.Ytjakelpdnmnofaa
open Go.ChangeShapes Go.WideShapes Go.ChangeAt Go.RowKit Go.Maps Go.Shelf
set_option linter.unusedVariables false

theorem full_any (w : World) (b : Nat) (xs : List Bs) (h : SetAt w b xs) (hl : xs.length ≤ 6) : Calls Try.prog 50 #[.map (some b)] w (Says (decide (6 ≤ xs.length)) w) := by
  have hlen := h.len 3
  obtain ⟨n, hn⟩ : ∃ n, n = xs.length := ⟨_, rfl⟩
  rw [← hn] at hlen hl ⊢
  clear h hn
  by_cases h6 : 6 ≤ n
  · have e : n = 6 := by omega
    subst e
    go_enter Try.func50, Try.ntmps50
    go_wp2
    go_ret
    exact says_mk rfl
  · have h6' : ((n : Int) == 6) = false := by simp; omega
    rw [decide_eq_false h6]
    go_enter Try.func50, Try.ntmps50
    go_wp2
    go_ret
    exact says_mk rfl
theorem ins_perm {xs : List Bs} {s : Bs} : (s :: xs).Perm (ins xs s) := by
  unfold ins
  refine List.Perm.trans ?_ List.perm_middle.symm
  rw [List.take_append_drop]
theorem strsW_none {w : World} {B0 B1 : Nat} : StrsW w B0 B1 (.slice none 0 0) [] := ⟨none, 0, rfl, Nat.le_refl _, Nat.zero_le _, fun i hi => by simp at hi⟩
theorem newS_list {w w1 w2 : World} {ys : List Bs} {v : Value} (hr : StrsW w2 w1.heap.size w2.heap.size v ys) (hb : Below w1.heap.size w1 w2) (h1 : Below w.heap.size w w1) : StrsW w2 w.heap.size w2.heap.size v ys ∧ Below w.heap.size w w2 :=
  ⟨hr.wide h1.size (Nat.le_refl _), h1.trans (hb.mono h1.size)⟩
theorem iradd_any : IRAdd := by
  intro w v xs s h hs hg
  have HC := Lib.hid (setOf_any w v xs h hs)
  have HV := Lib.hid (fun w => irv_any w s hg)
  have HSX := Lib.hid (short_max hg)
  clear h
  unfold SetOf at HC
  go_enter Try.func29, Try.ntmps29
  go_wp2_with fail
  refine HC.out.mono ?_
  rintro e w1 ⟨hb1, m, rfl, hm⟩
  have B1 := Lib.hid hb1
  have HM := Lib.hid hm
  clear hb1 hm HC
  cases hx : rvs xs with
  | false =>
    have HR : Hid (radd xs s = ([], false)) := Lib.hid (radd_bad (by rw [hx]; simp))
    clear hx
    go_wp2_with fail
    go_ret2
    exact ⟨.slice none 0 0, by rw [HR.out]; rfl, by rw [HR.out]; exact strsW_none, B1.out⟩
  | true =>
    obtain ⟨b, rfl, hb0, hset⟩ := HM.out hx
    have HSET := Lib.hid hset
    have HB0 := Lib.hid hb0
    have HX := Lib.hid hx
    clear hx hb0 hset HM
    go_wp2_with fail
    refine (HV.out w1).mono ?_
    rintro e w2 ⟨rfl, hb2⟩
    have B2 := Lib.hid (B1.out.trans (hb2.mono B1.out.size))
    have HS2 := Lib.hid (HSET.out.below hb2)
    clear hb2 HSET
    cases hy : rv s with
    | false =>
      have HR : Hid (radd xs s = ([], false)) := Lib.hid (radd_bad (by rw [hy]; simp))
      clear hy
      go_wp2_with fail
      go_ret2
      exact ⟨.slice none 0 0, by rw [HR.out]; rfl, by rw [HR.out]; exact strsW_none, B2.out⟩
    | true =>
      have HVV : Hid ((rvs xs && rv s) = true) := Lib.hid (by rw [HX.out, hy]; rfl)
      clear hy
      have HF := Lib.hid (full_any w2 b xs HS2.out (rvs_len HX.out))
      by_cases hfl : 6 ≤ xs.length
      · rw [decide_eq_true hfl] at HF
        have HFL := Lib.hid hfl
        clear hfl
        go_wp2_with fail
        refine HF.out.mono ?_
        rintro e w' ⟨rfl, rfl⟩
        have hlook := HS2.out.look s HSX.out
        by_cases hm : s ∈ xs
        · rw [decide_eq_true hm] at hlook
          have HNM := Lib.hid hm
          clear hm
          obtain ⟨w3, hrun, hset3, hg3⟩ := HS2.out.put (by have := rvs_len HX.out; omega) s HSX.out
          have B3 := Lib.hid (B2.out.grown hg3 B2.out.size (fun j hj => by cases hj; exact HB0.out))
          rw [if_pos HNM.out] at hset3
          have HR := Lib.hid (radd_there HVV.out HNM.out)
          have HL := Lib.hid (setList_any w3 b xs xs hset3 (List.Perm.refl _) (rvs_asc HX.out) (by have := rvs_len HX.out; omega))
          clear hset3 hg3
          go_wp2_with fail
          refine HL.out.mono ?_
          rintro e w4 ⟨v4, rfl, hr4, hb4⟩
          have HN4 := Lib.hid (newS_list hr4 hb4 B3.out)
          clear hr4 hb4
          go_wp2_with fail
          go_ret2
          exact ⟨v4, by rw [HR.out]; rfl, by rw [HR.out]; exact HN4.out.1, HN4.out.2⟩
        · rw [decide_eq_false hm] at hlook
          have HNM := Lib.hid hm
          clear hm
          have HR := Lib.hid (radd_full HVV.out HNM.out HFL.out)
          have HL := Lib.hid (setList_any w2 b xs xs HS2.out (List.Perm.refl _) (rvs_asc HX.out) (by have := rvs_len HX.out; omega))
          go_wp2_with fail
          refine HL.out.mono ?_
          rintro e w4 ⟨v4, rfl, hr4, hb4⟩
          have HN4 := Lib.hid (newS_list hr4 hb4 B2.out)
          clear hr4 hb4
          go_wp2_with fail
          go_ret2
          exact ⟨v4, by rw [HR.out]; rfl, by rw [HR.out]; exact HN4.out.1, HN4.out.2⟩
      · rw [decide_eq_false hfl] at HF
        have HFL := Lib.hid hfl
        clear hfl
        go_wp2_with fail
        refine HF.out.mono ?_
        rintro e w' ⟨rfl, rfl⟩
        by_cases hm : s ∈ xs
        · have HNM := Lib.hid hm
          clear hm
          obtain ⟨w3, hrun, hset3, hg3⟩ := HS2.out.put (by have := rvs_len HX.out; omega) s HSX.out
          have B3 := Lib.hid (B2.out.grown hg3 B2.out.size (fun j hj => by cases hj; exact HB0.out))
          rw [if_pos HNM.out] at hset3
          have HR := Lib.hid (radd_there HVV.out HNM.out)
          have HL := Lib.hid (setList_any w3 b xs xs hset3 (List.Perm.refl _) (rvs_asc HX.out) (by have := rvs_len HX.out; omega))
          clear hset3 hg3
          go_wp2_with fail
          refine HL.out.mono ?_
          rintro e w4 ⟨v4, rfl, hr4, hb4⟩
          have HN4 := Lib.hid (newS_list hr4 hb4 B3.out)
          clear hr4 hb4
          go_wp2_with fail
          go_ret2
          exact ⟨v4, by rw [HR.out]; rfl, by rw [HR.out]; exact HN4.out.1, HN4.out.2⟩
        · have HNM := Lib.hid hm
          clear hm
          obtain ⟨w3, hrun, hset3, hg3⟩ := HS2.out.put (by have := rvs_len HX.out; omega) s HSX.out
          have B3 := Lib.hid (B2.out.grown hg3 B2.out.size (fun j hj => by cases hj; exact HB0.out))
          rw [if_neg HNM.out] at hset3
          have HR := Lib.hid (radd_ins HVV.out HNM.out HFL.out)
          have HL := Lib.hid (setList_any w3 b (s :: xs) (ins xs s) hset3 ins_perm (rvs_asc (ins_rvs HVV.out HNM.out HFL.out)) (by rw [ins_len]; have := rvs_len HX.out; omega))
          clear hset3 hg3
          go_wp2_with fail
          refine HL.out.mono ?_
          rintro e w4 ⟨v4, rfl, hr4, hb4⟩
          have HN4 := Lib.hid (newS_list hr4 hb4 B3.out)
          clear hr4 hb4
          go_wp2_with fail
          go_ret2
          exact ⟨v4, by rw [HR.out]; rfl, by rw [HR.out]; exact HN4.out.1, HN4.out.2⟩
end Go.Proofs.Ytjakelpdnmnofaa
