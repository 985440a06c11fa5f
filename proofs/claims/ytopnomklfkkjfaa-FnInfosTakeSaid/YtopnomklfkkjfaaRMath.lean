/- Rights as texts of letters, said of lists of bytes: what a right is, what includes what, and what the functions of chapter 11 answer. -/
import Derived.Test.YtopnomklfkkjfaaMem
import Derived.Laws.Strings
namespace Go.Proofs.Ytopnomklfkkjfaa
set_option linter.unusedVariables false

abbrev Bs := List UInt8
def lok (b : UInt8) : Bool := decide (97 ≤ b.toNat) && decide (b.toNat ≤ 99)
def rv (s : Bs) : Bool := s.all lok && decide (s.length ≤ 4)
def cov (a b : Bs) : Bool := decide (a.length ≤ b.length) && (b.take a.length == a)
def rcov (a b : Bs) : Bool := rv a && (rv b && cov a b)
def bl (a b : Bs) : Bool := Op.bytesLess a b

theorem bl_nil (a : Bs) : bl a [] = false := by cases a <;> rfl
theorem bl_nil_cons (b : UInt8) (y : Bs) : bl [] (b :: y) = true := rfl
theorem bl_cons (a b : UInt8) (x y : Bs) : bl (a :: x) (b :: y) = (decide (a < b) || (a == b && bl x y)) := rfl
theorem bl_cons_iff {a b : UInt8} {x y : Bs} : bl (a :: x) (b :: y) = true ↔ a.toNat < b.toNat ∨ (a = b ∧ bl x y = true) := by
  rw [bl_cons]
  simp only [Bool.or_eq_true, decide_eq_true_eq, Bool.and_eq_true, beq_iff_eq, UInt8.lt_iff_toNat_lt]
theorem bl_irrefl : ∀ a : Bs, bl a a = false
  | [] => rfl
  | a :: x => by
    rw [Bool.eq_false_iff]
    intro h
    rcases bl_cons_iff.1 h with h | ⟨_, h⟩
    · omega
    · rw [bl_irrefl x] at h; cases h
theorem bl_trans : ∀ {a b c : Bs}, bl a b = true → bl b c = true → bl a c = true
  | _, [], _, h, _ => by rw [bl_nil] at h; cases h
  | _, _ :: _, [], _, h => by rw [bl_nil] at h; cases h
  | [], _ :: _, _ :: _, _, _ => rfl
  | a :: x, b :: y, c :: z, h1, h2 => by
    rw [bl_cons_iff] at h1 h2 ⊢
    rcases h1 with h1 | ⟨e1, h1⟩
    · rcases h2 with h2 | ⟨e2, h2⟩
      · left; omega
      · left; rw [← e2]; exact h1
    · rcases h2 with h2 | ⟨e2, h2⟩
      · left; rw [e1]; exact h2
      · right; exact ⟨e1.trans e2, bl_trans h1 h2⟩
theorem bl_asymm {a b : Bs} (h : bl a b = true) : bl b a = false := by
  rw [Bool.eq_false_iff]
  intro h2
  have := bl_trans h h2
  rw [bl_irrefl] at this; cases this
theorem bl_tri : ∀ {a b : Bs}, bl a b = false → bl b a = false → a = b
  | [], [], _, _ => rfl
  | [], _ :: _, h, _ => by cases h
  | _ :: _, [], _, h => by cases h
  | a :: x, b :: y, h1, h2 => by
    rw [Bool.eq_false_iff] at h1 h2
    have h1 := fun h => h1 (bl_cons_iff.2 h)
    have h2 := fun h => h2 (bl_cons_iff.2 h)
    have e : a = b := UInt8.toNat.inj (by
      have a1 : ¬ a.toNat < b.toNat := fun h => h1 (.inl h)
      have a2 : ¬ b.toNat < a.toNat := fun h => h2 (.inl h)
      omega)
    subst e
    have : x = y := bl_tri (by rw [Bool.eq_false_iff]; exact fun h => h1 (.inr ⟨rfl, h⟩)) (by rw [Bool.eq_false_iff]; exact fun h => h2 (.inr ⟨rfl, h⟩))
    rw [this]
theorem bl_ne {a b : Bs} (h : bl a b = true) : a ≠ b := fun e => by rw [e, bl_irrefl] at h; cases h

/-- the texts ascend -/
def Asc (xs : List Bs) : Prop := xs.Pairwise (fun a b => bl a b = true)
/-- all texts are rights, and each is above the one before -/
def rok (xs : List Bs) : Bool := decide (∀ j, j < xs.length → rv (xs.getD j []) = true ∧ (0 < j → bl (xs.getD (j - 1) []) (xs.getD j []) = true))
def rvs (xs : List Bs) : Bool := rok xs && decide (xs.length ≤ 6)
def may0 (xs : List Bs) (g : Bs) : Bool := xs.any (fun x => cov x g)
def rmay (xs : List Bs) (g : Bs) : Bool := rvs xs && (rv g && may0 xs g)
/-- how many texts are below s, in front -/
def cut (xs : List Bs) (s : Bs) : Nat := (xs.takeWhile (fun x => bl x s)).length
def ins (xs : List Bs) (s : Bs) : List Bs := xs.take (cut xs s) ++ s :: xs.drop (cut xs s)
def radd (xs : List Bs) (s : Bs) : List Bs × Bool :=
  if (rvs xs && rv s) = true then
    if s ∈ xs then (xs, true) else if 6 ≤ xs.length then (xs, false) else (ins xs s, true)
  else ([], false)
def drop0 (xs : List Bs) (s : Bs) : List Bs := xs.filter (fun x => !cov s x)
def rdrop (xs : List Bs) (s : Bs) : List Bs := if (rvs xs && rv s) = true then drop0 xs s else []

theorem rok_iff {xs : List Bs} : rok xs = true ↔ ∀ j, j < xs.length → rv (xs.getD j []) = true ∧ (0 < j → bl (xs.getD (j - 1) []) (xs.getD j []) = true) := by
  simp only [rok, decide_eq_true_eq]
theorem rok_asc {xs : List Bs} (h : rok xs = true) : Asc xs := by
  rw [rok_iff] at h
  have key : ∀ d i, i + d + 1 < xs.length → bl (xs.getD i []) (xs.getD (i + d + 1) []) = true := by
    intro d
    induction d with
    | zero => intro i hi; exact (h (i + 1) hi).2 (by omega)
    | succ d ih =>
      intro i hi
      exact bl_trans (ih i (by omega)) ((h (i + d + 1 + 1) (by omega)).2 (by omega))
  unfold Asc
  rw [List.pairwise_iff_getElem]
  intro i j hi hj hij
  have := key (j - i - 1) i (by omega)
  rw [show i + (j - i - 1) + 1 = j by omega, getD_lt hi, getD_lt hj] at this
  exact this
theorem rok_all {xs : List Bs} (h : rok xs = true) : ∀ x ∈ xs, rv x = true := by
  rw [rok_iff] at h
  intro x hx
  obtain ⟨i, hi, rfl⟩ := List.getElem_of_mem hx
  have := (h i hi).1
  rwa [getD_lt hi] at this
theorem rok_of {xs : List Bs} (h1 : Asc xs) (h2 : ∀ x ∈ xs, rv x = true) : rok xs = true := by
  rw [rok_iff]
  intro j hj
  refine ⟨h2 _ (by rw [getD_lt hj]; exact List.getElem_mem hj), fun h0 => ?_⟩
  rw [getD_lt hj, getD_lt (show j - 1 < xs.length by omega)]
  exact (List.pairwise_iff_getElem.1 h1) (j - 1) j (by omega) hj (by omega)
theorem rok_cases {xs : List Bs} : rok xs = true ↔ Asc xs ∧ ∀ x ∈ xs, rv x = true :=
  ⟨fun h => ⟨rok_asc h, rok_all h⟩, fun h => rok_of h.1 h.2⟩
theorem rvs_iff {xs : List Bs} : rvs xs = true ↔ (Asc xs ∧ ∀ x ∈ xs, rv x = true) ∧ xs.length ≤ 6 := by
  rw [rvs, Bool.and_eq_true, rok_cases, decide_eq_true_eq]
theorem rvs_len {xs : List Bs} (h : rvs xs = true) : xs.length ≤ 6 := (rvs_iff.1 h).2
theorem rvs_asc {xs : List Bs} (h : rvs xs = true) : Asc xs := (rvs_iff.1 h).1.1
theorem rvs_all {xs : List Bs} (h : rvs xs = true) : ∀ x ∈ xs, rv x = true := (rvs_iff.1 h).1.2
theorem rv_iff {s : Bs} : rv s = true ↔ (∀ b ∈ s, lok b = true) ∧ s.length ≤ 4 := by
  rw [rv, Bool.and_eq_true, List.all_eq_true, decide_eq_true_eq]
theorem rv_len {s : Bs} (h : rv s = true) : s.length ≤ 4 := (rv_iff.1 h).2

/-- ascending lists with the same members are the same -/
theorem asc_ext : ∀ {xs ys : List Bs}, Asc xs → Asc ys → (∀ z, z ∈ xs ↔ z ∈ ys) → xs = ys
  | [], [], _, _, _ => rfl
  | [], y :: ys, _, _, h => absurd ((h y).2 (List.mem_cons_self ..)) (List.not_mem_nil)
  | x :: xs, [], _, _, h => absurd ((h x).1 (List.mem_cons_self ..)) (List.not_mem_nil)
  | x :: xs, y :: ys, hx, hy, h => by
    have hx' := List.pairwise_cons.1 hx
    have hy' := List.pairwise_cons.1 hy
    have e : x = y := by
      rcases List.mem_cons.1 ((h x).1 (List.mem_cons_self ..)) with e | hm
      · exact e
      · rcases List.mem_cons.1 ((h y).2 (List.mem_cons_self ..)) with e | hm2
        · exact e.symm
        · have a := hy'.1 x hm
          have b := hx'.1 y hm2
          rw [bl_asymm a] at b; cases b
    subst e
    rw [asc_ext hx'.2 hy'.2 (fun z => ?_)]
    constructor
    · intro hz
      rcases List.mem_cons.1 ((h z).1 (List.mem_cons_of_mem _ hz)) with e | hm
      · subst e; exact absurd rfl (bl_ne (hx'.1 _ hz))
      · exact hm
    · intro hz
      rcases List.mem_cons.1 ((h z).2 (List.mem_cons_of_mem _ hz)) with e | hm
      · subst e; exact absurd rfl (bl_ne (hy'.1 _ hz))
      · exact hm
theorem asc_nodup {xs : List Bs} (h : Asc xs) : xs.Nodup := h.imp (fun hab => bl_ne hab)

theorem cut_le (xs : List Bs) (s : Bs) : cut xs s ≤ xs.length := by
  unfold cut
  exact (List.takeWhile_sublist _).length_le
theorem cut_cons (x : Bs) (xs : List Bs) (s : Bs) : cut (x :: xs) s = if bl x s = true then cut xs s + 1 else 0 := by
  unfold cut
  rw [List.takeWhile_cons]
  split <;> simp
theorem cut_below : ∀ {xs : List Bs} {s : Bs} {i : Nat}, i < cut xs s → bl (xs.getD i []) s = true
  | [], s, i, h => by simp [cut] at h
  | x :: xs, s, i, h => by
    rw [cut_cons] at h
    by_cases hx : bl x s = true
    · rw [if_pos hx] at h
      cases i with
      | zero => exact hx
      | succ i => exact cut_below (xs := xs) (by omega)
    · rw [if_neg hx] at h; omega
theorem cut_stop : ∀ {xs : List Bs} {s : Bs}, cut xs s < xs.length → bl (xs.getD (cut xs s) []) s = false
  | [], s, h => by simp at h
  | x :: xs, s, h => by
    rw [cut_cons] at h ⊢
    by_cases hx : bl x s = true
    · rw [if_pos hx] at h ⊢
      exact cut_stop (xs := xs) (by simp at h; omega)
    · rw [if_neg hx]
      simpa using hx
theorem cut_eq {xs : List Bs} {s : Bs} {k : Nat} (hk : k ≤ xs.length) (h1 : ∀ i, i < k → bl (xs.getD i []) s = true) (h2 : k < xs.length → bl (xs.getD k []) s = false) : k = cut xs s := by
  rcases Nat.lt_trichotomy k (cut xs s) with h | h | h
  · have a := cut_below h
    rw [h2 (Nat.lt_of_lt_of_le h (cut_le xs s))] at a; cases a
  · exact h
  · have a := h1 _ h
    rw [cut_stop (by omega)] at a; cases a
theorem ins_mem {xs : List Bs} {s z : Bs} : z ∈ ins xs s ↔ z = s ∨ z ∈ xs := by
  unfold ins
  rw [List.mem_append, List.mem_cons]
  constructor
  · rintro (h | h | h)
    · exact .inr (List.mem_of_mem_take h)
    · exact .inl h
    · exact .inr (List.mem_of_mem_drop h)
  · rintro (h | h)
    · exact .inr (.inl h)
    · rw [← List.take_append_drop (cut xs s) xs, List.mem_append] at h
      rcases h with h | h
      · exact .inl h
      · exact .inr (.inr h)
theorem ins_len {xs : List Bs} {s : Bs} : (ins xs s).length = xs.length + 1 := by
  have := cut_le xs s
  unfold ins
  simp only [List.length_append, List.length_take, List.length_cons, List.length_drop]
  omega
/-- a text that is there stands at its cut -/
theorem mem_cut {xs : List Bs} {s : Bs} (ha : Asc xs) : s ∈ xs ↔ cut xs s < xs.length ∧ xs.getD (cut xs s) [] = s := by
  constructor
  · intro h
    obtain ⟨i, hi, rfl⟩ := List.getElem_of_mem h
    have hp := List.pairwise_iff_getElem.1 ha
    have e : i = cut xs xs[i] := by
      refine cut_eq (by omega) (fun j hj => ?_) (fun _ => ?_)
      · rw [getD_lt (show j < xs.length by omega)]
        exact hp j i (by omega) hi hj
      · rw [getD_lt hi]; exact bl_irrefl _
    rw [← e]
    exact ⟨hi, getD_lt hi⟩
  · rintro ⟨h1, h2⟩
    rw [← h2, getD_lt h1]
    exact List.getElem_mem h1
theorem ins_asc {xs : List Bs} {s : Bs} (ha : Asc xs) (hn : s ∉ xs) : Asc (ins xs s) := by
  have hp := List.pairwise_iff_getElem.1 ha
  unfold Asc ins
  rw [List.pairwise_append]
  have low : ∀ a ∈ xs.take (cut xs s), bl a s = true := by
    intro a hm
    obtain ⟨i, hi, rfl⟩ := List.getElem_of_mem hm
    rw [List.length_take] at hi
    have := cut_below (xs := xs) (s := s) (i := i) (by omega)
    rw [getD_lt (by omega)] at this
    rw [List.getElem_take]; exact this
  have high : ∀ b ∈ xs.drop (cut xs s), bl s b = true := by
    intro b hm
    obtain ⟨i, hi, rfl⟩ := List.getElem_of_mem hm
    rw [List.length_drop] at hi
    have hst := cut_stop (xs := xs) (s := s) (by omega)
    rw [List.getElem_drop]
    have hc : bl s (xs.getD (cut xs s) []) = true := by
      cases hf : bl s (xs.getD (cut xs s) []) with
      | true => rfl
      | false => exact absurd ((mem_cut ha).2 ⟨by omega, bl_tri hst hf⟩) hn
    rcases Nat.eq_zero_or_pos i with h0 | h0
    · subst h0
      rw [getD_lt (by omega)] at hc
      simpa using hc
    · refine bl_trans hc ?_
      rw [getD_lt (by omega)]
      exact hp _ _ (by omega) (by omega) (by omega)
  refine ⟨ha.sublist (List.take_sublist ..), List.pairwise_cons.2 ⟨high, ha.sublist (List.drop_sublist ..)⟩, fun a hm b hb => ?_⟩
  rcases List.mem_cons.1 hb with e | hb
  · subst e; exact low a hm
  · exact bl_trans (low a hm) (high b hb)

theorem radd_bad {xs : List Bs} {s : Bs} (h : ¬ (rvs xs && rv s) = true) : radd xs s = ([], false) := if_neg h
theorem radd_there {xs : List Bs} {s : Bs} (h : (rvs xs && rv s) = true) (hm : s ∈ xs) : radd xs s = (xs, true) := by rw [radd, if_pos h, if_pos hm]
theorem radd_full {xs : List Bs} {s : Bs} (h : (rvs xs && rv s) = true) (hm : s ∉ xs) (hl : 6 ≤ xs.length) : radd xs s = (xs, false) := by rw [radd, if_pos h, if_neg hm, if_pos hl]
theorem radd_ins {xs : List Bs} {s : Bs} (h : (rvs xs && rv s) = true) (hm : s ∉ xs) (hl : ¬ 6 ≤ xs.length) : radd xs s = (ins xs s, true) := by rw [radd, if_pos h, if_neg hm, if_neg hl]
theorem ins_rvs {xs : List Bs} {s : Bs} (h : (rvs xs && rv s) = true) (hm : s ∉ xs) (hl : ¬ 6 ≤ xs.length) : rvs (ins xs s) = true := by
  rw [Bool.and_eq_true] at h
  refine rvs_iff.2 ⟨⟨ins_asc (rvs_asc h.1) hm, fun x hx => ?_⟩, by rw [ins_len]; omega⟩
  rcases ins_mem.1 hx with e | hx
  · rw [e]; exact h.2
  · exact rvs_all h.1 x hx
/-- what an addition that succeeds leads to -/
theorem radd_ok {xs : List Bs} {s : Bs} (h : (radd xs s).2 = true) : rvs (radd xs s).1 = true ∧ rv s = true ∧ s ∈ (radd xs s).1 ∧ ∀ x ∈ xs, x ∈ (radd xs s).1 := by
  by_cases hv : (rvs xs && rv s) = true
  · have hv' := hv
    rw [Bool.and_eq_true] at hv'
    by_cases hm : s ∈ xs
    · rw [radd_there hv hm]
      exact ⟨hv'.1, hv'.2, hm, fun x hx => hx⟩
    · by_cases hl : 6 ≤ xs.length
      · rw [radd_full hv hm hl] at h; cases h
      · rw [radd_ins hv hm hl]
        exact ⟨ins_rvs hv hm hl, hv'.2, ins_mem.2 (.inl rfl), fun x hx => ins_mem.2 (.inr hx)⟩
  · rw [radd_bad hv] at h; cases h
theorem radd_again {xs : List Bs} {s : Bs} (h : (radd xs s).2 = true) : radd (radd xs s).1 s = ((radd xs s).1, true) := by
  obtain ⟨h1, h2, h3, _⟩ := radd_ok h
  exact radd_there (by rw [h1, h2]; rfl) h3
theorem radd_len (xs : List Bs) (s : Bs) : (radd xs s).1.length ≤ 6 := by
  by_cases hv : (rvs xs && rv s) = true
  · have hv' := hv
    rw [Bool.and_eq_true] at hv'
    have := rvs_len hv'.1
    by_cases hm : s ∈ xs
    · rw [radd_there hv hm]; exact this
    · by_cases hl : 6 ≤ xs.length
      · rw [radd_full hv hm hl]; exact this
      · rw [radd_ins hv hm hl]
        show (ins xs s).length ≤ 6
        rw [ins_len]; omega
  · rw [radd_bad hv]; exact Nat.zero_le _

theorem cov_self (a : Bs) : cov a a = true := by simp [cov]
theorem cov_nil (b : Bs) : cov [] b = true := by simp [cov]
theorem cov_iff {a b : Bs} : cov a b = true ↔ a.length ≤ b.length ∧ b.take a.length = a := by
  rw [cov, Bool.and_eq_true, decide_eq_true_eq, beq_iff_eq]
theorem cov_anti {a b : Bs} (h1 : cov a b = true) (h2 : cov b a = true) : a = b := by
  rw [cov_iff] at h1 h2
  rw [← h1.2, show a.length = b.length by omega, List.take_length]
theorem cov_snoc {a g : Bs} {c : UInt8} (h : cov a g = true) : cov a (g ++ [c]) = true := by
  rw [cov_iff] at h ⊢
  refine ⟨by rw [List.length_append]; omega, ?_⟩
  rw [List.take_append_of_le_length h.1]
  exact h.2
theorem rv_nil : rv [] = true := rfl
theorem rv_take {s : Bs} (h : rv s = true) (n : Nat) : rv (s.take n) = true := by
  rw [rv_iff] at h ⊢
  refine ⟨fun b hb => h.1 b (List.mem_of_mem_take hb), ?_⟩
  rw [List.length_take]; omega
theorem rv_d (s : Bs) : rv (s ++ [100]) = false := by
  rw [Bool.eq_false_iff]
  intro h
  have := (rv_iff.1 h).1 100 (by simp)
  revert this
  decide

/-- rights without one of them are rights -/
theorem rvs_erase {xs : List Bs} (h : rvs xs = true) (k : Nat) : rvs (xs.take k ++ xs.drop (k + 1)) = true := by
  rw [rvs_iff] at h ⊢
  have hs : List.Sublist (xs.take k ++ xs.drop (k + 1)) xs := by
    have h1 : List.Sublist (xs.drop (k + 1)) (xs.drop k) := by
      rw [← List.drop_drop]; exact List.drop_sublist ..
    have h2 := (List.Sublist.refl (xs.take k)).append h1
    rwa [List.take_append_drop] at h2
  exact ⟨⟨h.1.1.sublist hs, fun x hx => h.1.2 x (hs.subset hx)⟩, Nat.le_trans hs.length_le h.2⟩
/-- one of them twice: no rights -/
theorem rvs_twice {xs : List Bs} {k : Nat} (hk : k < xs.length) : rvs (xs.take (k + 1) ++ xs.drop k) = false := by
  rw [Bool.eq_false_iff]
  intro h
  have hp := (rvs_iff.1 h).1.1
  have := (List.pairwise_append.1 hp).2.2 xs[k] (by
    rw [List.take_succ_eq_append_getElem hk]; exact List.mem_append.2 (.inr (List.mem_singleton.2 rfl))) xs[k] (by
    rw [List.drop_eq_getElem_cons hk]; exact List.mem_cons_self ..)
  rw [bl_irrefl] at this; cases this
end Go.Proofs.Ytopnomklfkkjfaa
