/- What follows from a valid cache: distinct pages; what putting, dropping and finding do to each other. -/
import Derived.Test.YtklclcbhghjjfaaCTop
import Derived.Test.YtklclcbhghjjfaaCFind
namespace Go.Proofs.Ytklclcbhghjjfaa
open Go.ChangeShapes Go.WideShapes Go.ChangeAt Go.RowKit
set_option linter.unusedVariables false

def Dst (xs : List CV) : Prop := xs.Pairwise (fun a b => ¬ (a.e = b.e ∧ a.p = b.p))
theorem fnd_spec (xs : List CV) (e p : Int) : (fnd xs e p = -1 ∧ ∀ x ∈ xs, same x e p = false) ∨ ∃ k, k < xs.length ∧ fnd xs e p = (k : Int) ∧ same (xs.getD k c0) e p = true ∧ ∀ i, i < k → same (xs.getD i c0) e p = false := by
  unfold fnd
  cases h : xs.findIdx? (fun x => same x e p) with
  | none =>
    left
    refine ⟨rfl, fun x hx => ?_⟩
    have := List.findIdx?_eq_none_iff.1 h x hx
    exact this
  | some k =>
    right
    obtain ⟨hk, h1, h2⟩ := List.findIdx?_eq_some_iff_getElem.1 h
    refine ⟨k, hk, rfl, by rw [getD_lt hk]; exact h1, fun i hi => ?_⟩
    rw [getD_lt (by omega)]
    have := h2 i hi
    simpa using this
theorem same_iff {x : CV} {e p : Int} : same x e p = true ↔ x.e = e ∧ x.p = p := by unfold same; exact decide_eq_true_iff
theorem same_not {x : CV} {e p : Int} : same x e p = false ↔ ¬ (x.e = e ∧ x.p = p) := by unfold same; exact decide_eq_false_iff_not
theorem cOk_iff (xs : List CV) : cOk xs = true ↔ (∀ x ∈ xs, cvOk x = true) ∧ Dst xs ∧ xs.length ≤ 4 := by
  unfold cOk
  rw [decide_eq_true_iff]
  constructor
  · rintro ⟨h, hl⟩
    refine ⟨fun x hx => ?_, ?_, hl⟩
    · obtain ⟨i, hi, rfl⟩ := List.getElem_of_mem hx
      have := (h i hi).1
      rwa [getD_lt hi] at this
    · unfold Dst
      rw [List.pairwise_iff_getElem]
      intro i j hi hj hij hh
      have h2 := (h j hj).2
      rw [getD_lt hj] at h2
      rcases fnd_spec xs xs[j].e xs[j].p with ⟨h3, _⟩ | ⟨k, hk, h3, h4, h5⟩
      · omega
      · have := h5 i (by omega)
        rw [getD_lt hi, same_not] at this
        exact this hh
  · rintro ⟨h1, h2, hl⟩
    refine ⟨fun i hi => ⟨by rw [getD_lt hi]; exact h1 _ (List.getElem_mem _), ?_⟩, hl⟩
    rw [getD_lt hi]
    rcases fnd_spec xs xs[i].e xs[i].p with ⟨_, h4⟩ | ⟨k, hk, h3, h4, h5⟩
    · have := h4 xs[i] (List.getElem_mem _)
      rw [same_not] at this
      exact absurd ⟨rfl, rfl⟩ this
    · rw [h3]
      rcases Nat.lt_or_ge k i with hlt | hge
      · rw [getD_lt hk, same_iff] at h4
        exact absurd h4 (List.pairwise_iff_getElem.1 h2 k i hk hi hlt)
      · omega
theorem find_mem {xs : List CV} (h : cOk xs = true) {x : CV} (hx : x ∈ xs) : cFind xs x.e x.p = ⟨x, true⟩ := by
  obtain ⟨h1, h2, hl⟩ := (cOk_iff xs).1 h
  obtain ⟨i, hi, rfl⟩ := List.getElem_of_mem hx
  unfold cFind
  rcases fnd_spec xs xs[i].e xs[i].p with ⟨_, h4⟩ | ⟨k, hk, h3, h4, h5⟩
  · have := h4 xs[i] hx
    rw [same_not] at this
    exact absurd ⟨rfl, rfl⟩ this
  · rw [h3, if_pos ⟨h, by omega⟩]
    have hki : k = i := by
      rw [getD_lt hk, same_iff] at h4
      rcases Nat.lt_trichotomy k i with hlt | he | hgt
      · exact absurd h4 (List.pairwise_iff_getElem.1 h2 k i hk hi hlt)
      · exact he
      · exact absurd ⟨h4.1.symm, h4.2.symm⟩ (List.pairwise_iff_getElem.1 h2 i k hi hk hgt)
    subst hki
    simp [hi]
theorem find_no {xs : List CV} {e p : Int} (h : ∀ x ∈ xs, ¬ (x.e = e ∧ x.p = p)) : cFind xs e p = ⟨c0, false⟩ := by
  unfold cFind
  rcases fnd_spec xs e p with ⟨h3, _⟩ | ⟨k, hk, h3, h4, _⟩
  · rw [h3, if_neg (by omega)]
  · rw [getD_lt hk, same_iff] at h4
    exact absurd h4 (h _ (List.getElem_mem _))
theorem find_yes {xs : List CV} {e p : Int} (h : (cFind xs e p).b = true) : cOk xs = true ∧ (cFind xs e p).x ∈ xs ∧ (cFind xs e p).x.e = e ∧ (cFind xs e p).x.p = p := by
  unfold cFind at h ⊢
  by_cases hc : cOk xs = true ∧ 0 ≤ fnd xs e p
  · rw [if_pos hc]
    rcases fnd_spec xs e p with ⟨h3, _⟩ | ⟨k, hk, h3, h4, _⟩
    · omega
    · rw [h3]
      rw [same_iff] at h4
      simp only [Int.toNat_natCast]
      exact ⟨hc.1, by rw [getD_lt hk]; exact List.getElem_mem _, h4⟩
  · rw [if_neg hc] at h
    cases h
theorem oth_mem {xs : List CV} {x y : CV} (h : y ∈ oth xs x) : y ∈ xs ∧ ¬ (y.e = x.e ∧ y.p = x.p) := by
  unfold oth at h
  obtain ⟨h1, h2⟩ := List.mem_filter.1 h
  refine ⟨h1, ?_⟩
  rw [← same_not]
  simpa using h2
theorem cut_mem {o : List CV} {y : CV} (h : y ∈ cut4 o) : y ∈ o := by
  unfold cut4 at h
  split at h
  · exact List.mem_of_mem_drop h
  · exact h
theorem cut_dst {o : List CV} (h : Dst o) : Dst (cut4 o) := by
  unfold cut4
  split
  · exact List.Pairwise.sublist (List.drop_sublist 1 o) h
  · exact h
theorem put_len4 {xs : List CV} {x : CV} (h : putB xs x = true) : (putF xs x).length ≤ 4 := by
  unfold putF
  rw [h]
  show (put4 xs x).length ≤ 4
  have h1 : cOk xs = true := by
    unfold putB at h
    simp only [Bool.and_eq_true] at h
    exact h.1
  have h2 := cOk_len h1
  have h3 := oth_len xs x
  unfold put4 cut4
  rw [List.length_append]
  split
  · rw [List.length_drop]; simp; omega
  · simp; omega
theorem put_ok {xs : List CV} {x : CV} (h : putB xs x = true) : cOk (putF xs x) = true := by
  have hl := put_len4 h
  unfold putB at h
  simp only [Bool.and_eq_true] at h
  obtain ⟨h0, hx⟩ := h
  obtain ⟨h1, h2, _⟩ := (cOk_iff xs).1 h0
  have hp : putF xs x = cut4 (oth xs x) ++ [x] := by unfold putF putB; rw [h0, hx]; rfl
  rw [cOk_iff]
  refine ⟨fun y hy => ?_, ?_, hl⟩
  · rw [hp, List.mem_append, List.mem_singleton] at hy
    rcases hy with hy | rfl
    · exact h1 y (oth_mem (cut_mem hy)).1
    · exact hx
  · rw [hp]
    unfold Dst
    rw [List.pairwise_append]
    refine ⟨cut_dst (List.Pairwise.filter _ h2), List.pairwise_singleton _ _, fun y hy z hz => ?_⟩
    rw [List.mem_singleton] at hz
    subst hz
    exact (oth_mem (cut_mem hy)).2
theorem put_last {xs : List CV} {x : CV} (h : putB xs x = true) : x ∈ putF xs x ∧ 0 < (putF xs x).length ∧ (putF xs x).getD ((putF xs x).length - 1) c0 = x := by
  have hp : putF xs x = cut4 (oth xs x) ++ [x] := by unfold putF; rw [h]; rfl
  rw [hp]
  refine ⟨by simp, by simp, ?_⟩
  simp
theorem put_find {xs : List CV} {x : CV} (h : putB xs x = true) : cFind (putF xs x) x.e x.p = ⟨x, true⟩ := find_mem (put_ok h) (put_last h).1
theorem put_put {xs : List CV} {x : CV} (h : putB xs x = true) : putB (putF xs x) x = true ∧ putF (putF xs x) x = putF xs x := by
  have hb : putB (putF xs x) x = true := by
    have h1 := put_ok h
    unfold putB at h ⊢
    simp only [Bool.and_eq_true] at h ⊢
    exact ⟨h1, h.2⟩
  refine ⟨hb, ?_⟩
  have hp : putF xs x = cut4 (oth xs x) ++ [x] := by unfold putF; rw [h]; rfl
  have hl := put_len4 h
  have hq : putF (putF xs x) x = cut4 (oth (putF xs x) x) ++ [x] := by unfold putF at hb ⊢; rw [hb]; rfl
  have ho : oth (putF xs x) x = cut4 (oth xs x) := by
    rw [hp]
    unfold oth
    rw [List.filter_append]
    have e1 : List.filter (fun y => !same y x.e x.p) (cut4 (List.filter (fun y => !same y x.e x.p) xs)) = cut4 (List.filter (fun y => !same y x.e x.p) xs) := by
      rw [List.filter_eq_self]
      intro y hy
      have := (oth_mem (xs := xs) (x := x) (cut_mem hy)).2
      rw [← same_not] at this
      rw [this]
      rfl
    have e2 : List.filter (fun y => !same y x.e x.p) [x] = [] := by
      have : same x x.e x.p = true := same_iff.2 ⟨rfl, rfl⟩
      simp [this]
    rw [e1, e2, List.append_nil]
  rw [hq, ho, hp]
  have hlen : (cut4 (oth xs x)).length ≤ 3 := by
    rw [hp, List.length_append] at hl
    simp at hl
    omega
  have hc : cut4 (cut4 (oth xs x)) = cut4 (oth xs x) := by
    conv => lhs; unfold cut4
    rw [if_neg (by show ¬ 4 ≤ (cut4 (oth xs x)).length; omega)]
    rfl
  rw [hc]
theorem drop_find (xs : List CV) (e p : Int) : (cFind (dropF xs e) e p).b = false := by
  have : cFind (dropF xs e) e p = ⟨c0, false⟩ := find_no (fun x hx hh => by
    unfold dropF at hx
    split at hx
    · unfold drp at hx
      have := (List.mem_filter.1 hx).2
      exact absurd hh.1 (of_decide_eq_true this)
    · cases hx)
  rw [this]
/-- a cache without one translation stays valid; with one twice it is not -/
theorem part_ok {xs : List CV} (h : cOk xs = true) (k : Nat) : cOk (xs.take k ++ xs.drop (k + 1)) = true := by
  obtain ⟨h1, h2, hl⟩ := (cOk_iff xs).1 h
  rw [cOk_iff]
  have hs : (xs.take k ++ xs.drop (k + 1)).Sublist xs := by
    conv => rhs; rw [← List.take_append_drop k xs]
    refine List.Sublist.append_left ?_ _
    rw [← List.drop_drop]
    exact List.drop_sublist 1 _
  exact ⟨fun x hx => h1 x (hs.subset hx), List.Pairwise.sublist hs h2, Nat.le_trans hs.length_le hl⟩
theorem part_twice {xs : List CV} {k : Nat} (hk : k < xs.length) : cOk (xs.take (k + 1) ++ xs.drop k) = false := by
  rw [Bool.eq_false_iff]
  intro h
  obtain ⟨_, h2, _⟩ := (cOk_iff _).1 h
  have e : xs.drop k = xs[k] :: xs.drop (k + 1) := List.drop_eq_getElem_cons hk
  unfold Dst at h2
  rw [List.pairwise_append] at h2
  have hm1 : xs[k] ∈ xs.take (k + 1) := by
    rw [List.mem_take_iff_getElem]
    exact ⟨k, by omega, rfl⟩
  have hm2 : xs[k] ∈ xs.drop k := by rw [e]; exact List.mem_cons_self
  exact h2.2.2 _ hm1 _ hm2 ⟨rfl, rfl⟩
end Go.Proofs.Ytklclcbhghjjfaa
