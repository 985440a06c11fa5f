/- Sets of frames as numbers: what their bits are, and what the functions of chapter 5 answer. -/
import Derived.Test.YtijgpimjmphaoaaMem
namespace Go.Proofs.Ytijgpimjmphaoaa
set_option linter.unusedVariables false

/-- the number of the set of those i below k of which P holds -/
def bnum (P : Nat → Bool) : Nat → Nat
  | 0 => 0
  | k + 1 => bnum P k + (if P k = true then 2 ^ k else 0)
theorem bnum_lt (P : Nat → Bool) : ∀ k, bnum P k < 2 ^ k
  | 0 => by simp [bnum]
  | k + 1 => by
    have := bnum_lt P k
    have e : 2 ^ (k + 1) = 2 ^ k + 2 ^ k := by rw [Nat.pow_succ]; omega
    unfold bnum
    split <;> omega
theorem bnum_bit (P : Nat → Bool) : ∀ k i, (bnum P k).testBit i = (decide (i < k) && P i)
  | 0, i => by simp [bnum]
  | k + 1, i => by
    have hlt := bnum_lt P k
    have ih := bnum_bit P k i
    unfold bnum
    by_cases hp : P k = true
    · rw [if_pos hp, Nat.add_comm, show 2 ^ k = 2 ^ k * 1 by omega, Nat.testBit_two_pow_mul_add 1 hlt, ih]
      by_cases h1 : i < k
      · rw [if_pos h1, decide_eq_true h1, decide_eq_true (show i < k + 1 by omega)]
      · rw [if_neg h1]
        by_cases h2 : i = k
        · subst h2; simp [hp]
        · rw [decide_eq_false (show ¬ i < k + 1 by omega), Bool.false_and]
          exact Nat.testBit_lt_two_pow (by have : 2 ^ 1 ≤ 2 ^ (i - k) := Nat.pow_le_pow_right (by omega) (by omega); omega)
    · rw [if_neg hp, Nat.add_zero, ih]
      by_cases hik : i = k
      · subst hik; simp [hp]
      · have : decide (i < k + 1) = decide (i < k) := by rw [decide_eq_decide]; omega
        rw [this]
theorem bnum_congr {P Q : Nat → Bool} : ∀ {k}, (∀ i, i < k → P i = Q i) → bnum P k = bnum Q k
  | 0, _ => rfl
  | k + 1, h => by unfold bnum; rw [bnum_congr (fun i hi => h i (by omega)), h k (by omega)]
theorem bnum_self {n k : Nat} (h : n < 2 ^ k) : bnum n.testBit k = n := by
  refine Nat.eq_of_testBit_eq fun i => ?_
  rw [bnum_bit]
  by_cases hi : i < k
  · rw [decide_eq_true hi, Bool.true_and]
  · rw [decide_eq_false hi, Bool.false_and]
    exact (Nat.testBit_lt_two_pow (Nat.lt_of_lt_of_le h (Nat.pow_le_pow_right (by omega) (by omega)))).symm
theorem bnum_none (k : Nat) : bnum (fun _ => false) k = 0 := by
  induction k with
  | zero => rfl
  | succ k ih => unfold bnum; rw [ih]; rfl
theorem bnum_add {P : Nat → Bool} {x : Nat} (hx : P x = false) : ∀ {k}, x < k → bnum (fun i => P i || decide (i = x)) k = bnum P k + 2 ^ x
  | 0, h => by omega
  | k + 1, h => by
    unfold bnum
    by_cases hk : x = k
    · subst hk
      rw [bnum_congr (Q := P) (fun i hi => by rw [decide_eq_false (by omega), Bool.or_false])]
      simp [hx]
    · rw [bnum_add hx (by omega), decide_eq_false (show ¬ k = x by omega), Bool.or_false]
      omega
/-- the numbers of a set, in order -/
def frm (P : Nat → Bool) (k : Nat) : List Int := ((List.range k).filter P).map (fun i : Nat => (i : Int))
theorem frm_succ (P : Nat → Bool) (k : Nat) : frm P (k + 1) = frm P k ++ (if P k = true then [(k : Int)] else []) := by
  unfold frm
  rw [List.range_succ, List.filter_append, List.map_append]
  by_cases h : P k = true
  · rw [if_pos h]; simp [h]
  · rw [if_neg h]; simp [h]
theorem frm_len (P : Nat → Bool) (k : Nat) : (frm P k).length ≤ k := by
  unfold frm
  rw [List.length_map]
  exact Nat.le_trans (List.length_filter_le _ _) (by simp)
theorem frm_mem {P : Nat → Bool} {k : Nat} {x : Int} : x ∈ frm P k ↔ ∃ i : Nat, i < k ∧ P i = true ∧ x = i := by
  unfold frm
  rw [List.mem_map]
  constructor
  · rintro ⟨i, hi, rfl⟩
    obtain ⟨h1, h2⟩ := List.mem_filter.1 hi
    exact ⟨i, List.mem_range.1 h1, h2, rfl⟩
  · rintro ⟨i, h1, h2, rfl⟩
    exact ⟨i, List.mem_filter.2 ⟨List.mem_range.2 h1, h2⟩, rfl⟩
theorem frm_asc (P : Nat → Bool) (k : Nat) : (frm P k).Pairwise (· < ·) := by
  unfold frm
  rw [List.pairwise_map]
  exact List.Pairwise.imp (fun h => by omega) (List.Pairwise.filter _ List.pairwise_lt_range)
theorem frm_nodup (P : Nat → Bool) (k : Nat) : (frm P k).Nodup := List.Pairwise.imp (fun h => by omega) (frm_asc P k)
def bset (n : Int) : Bool := decide (0 ≤ n ∧ n ≤ 4095)
def bin (f : Int) : Bool := decide (0 ≤ f ∧ f ≤ 11)
def bbit (n f : Int) : Bool := n.toNat.testBit f.toNat
def bhas (n f : Int) : Bool := bset n && (bin f && bbit n f)
def blist (n : Int) : List Int := if bset n = true then frm n.toNat.testBit 12 else []
def bjoin (a b : Int) : Int := if (bset a && bset b) = true then ((bnum (fun i => a.toNat.testBit i || b.toNat.testBit i) 12 : Nat) : Int) else -1
def bwout (a b : Int) : Int := if (bset a && bset b) = true then ((bnum (fun i => a.toNat.testBit i && !b.toNat.testBit i) 12 : Nat) : Int) else -1
def inSet (xs : List Int) (i : Nat) : Bool := decide ((i : Int) ∈ xs)
def bok (xs : List Int) : Prop := (∀ x ∈ xs, 0 ≤ x ∧ x ≤ 11) ∧ xs.Nodup
structure BV where
  n : Int
  b : Bool
open Classical in
noncomputable def bof (xs : List Int) : BV := if bok xs then ⟨(bnum (inSet xs) 12 : Nat), true⟩ else ⟨0, false⟩
theorem bof_yes {xs : List Int} (h : bok xs) : bof xs = ⟨(bnum (inSet xs) 12 : Nat), true⟩ := if_pos h
theorem bof_no {xs : List Int} (h : ¬ bok xs) : bof xs = ⟨0, false⟩ := if_neg h
theorem bof_b {xs : List Int} : (bof xs).b = true ↔ bok xs := by
  by_cases h : bok xs
  · rw [bof_yes h]; exact ⟨fun _ => h, fun _ => rfl⟩
  · rw [bof_no h]; exact ⟨fun hh => (by cases hh), fun hh => absurd hh h⟩
theorem bnum_set (P : Nat → Bool) : bset ((bnum P 12 : Nat) : Int) = true := by
  have := bnum_lt P 12
  exact decide_eq_true (by omega)
theorem bset_lt {n : Int} (h : bset n = true) : n.toNat < 2 ^ 12 ∧ ((n.toNat : Nat) : Int) = n := by
  have := of_decide_eq_true h
  omega
/-- one more frame -/
theorem bok_nil : bok [] := ⟨fun x hx => (List.not_mem_nil hx).elim, List.nodup_nil⟩
theorem bok_of_snoc {xs : List Int} {x : Int} (h : bok (xs ++ [x])) : bok xs ∧ bin x = true ∧ bbit ((bnum (inSet xs) 12 : Nat) : Int) x = false := by
  obtain ⟨h1, h2⟩ := h
  have hx := h1 x (by simp)
  rw [List.nodup_append] at h2
  refine ⟨⟨fun y hy => h1 y (by simp [hy]), h2.1⟩, decide_eq_true hx, ?_⟩
  unfold bbit
  rw [Int.toNat_natCast, bnum_bit, decide_eq_true (by omega), Bool.true_and]
  refine decide_eq_false fun hm => ?_
  rw [Int.toNat_of_nonneg hx.1] at hm
  exact h2.2.2 x hm x (by simp) rfl
theorem bok_snoc {xs : List Int} {x : Int} (h : bok xs) (hx : bin x = true) (hb : bbit ((bnum (inSet xs) 12 : Nat) : Int) x = false) :
    bok (xs ++ [x]) ∧ bnum (inSet (xs ++ [x])) 12 = bnum (inSet xs) 12 + 2 ^ x.toNat := by
  have hx' := of_decide_eq_true hx
  have hno : inSet xs x.toNat = false := by
    unfold bbit at hb
    rw [Int.toNat_natCast, bnum_bit, decide_eq_true (by omega), Bool.true_and] at hb
    exact hb
  have hno' : ¬ x ∈ xs := by
    have := of_decide_eq_false hno
    rwa [Int.toNat_of_nonneg hx'.1] at this
  refine ⟨⟨fun y hy => ?_, ?_⟩, ?_⟩
  · rcases List.mem_append.1 hy with hy | hy
    · exact h.1 y hy
    · rw [List.mem_singleton] at hy; subst hy; exact hx'
  · rw [List.nodup_append]
    refine ⟨h.2, by simp, fun y hy z hz => ?_⟩
    rw [List.mem_singleton] at hz
    subst hz
    exact fun e => hno' (e ▸ hy)
  · rw [← bnum_add hno (show x.toNat < 12 by omega)]
    refine bnum_congr fun i hi => ?_
    unfold inSet
    rw [Bool.eq_iff_iff]
    simp only [List.mem_append, List.mem_singleton, decide_eq_true_eq, Bool.or_eq_true]
    constructor
    · rintro (h | h)
      · exact .inl h
      · exact .inr (by omega)
    · rintro (h | h)
      · exact .inl h
      · exact .inr (by omega)
theorem bok_take {xs : List Int} {k : Nat} (h : bok xs) : bok (xs.take k) :=
  ⟨fun x hx => h.1 x (List.mem_of_mem_take hx), List.Pairwise.sublist (List.take_sublist k xs) h.2⟩
/-- what the functions do to each other -/
theorem blist_of {xs : List Int} (h : bok xs) : blist ((bnum (inSet xs) 12 : Nat) : Int) = frm (inSet xs) 12 := by
  unfold blist
  rw [if_pos (bnum_set _), Int.toNat_natCast]
  unfold frm
  congr 1
  refine List.filter_congr fun i hi => ?_
  rw [bnum_bit, decide_eq_true (List.mem_range.1 hi), Bool.true_and]
theorem frm_in {xs : List Int} (h : bok xs) {x : Int} : x ∈ frm (inSet xs) 12 ↔ x ∈ xs := by
  rw [frm_mem]
  constructor
  · rintro ⟨i, _, h2, rfl⟩; exact of_decide_eq_true h2
  · intro hx
    have := h.1 x hx
    exact ⟨x.toNat, by omega, decide_eq_true (by rwa [Int.toNat_of_nonneg this.1]), by omega⟩
theorem frm_length {xs : List Int} (h : bok xs) : (frm (inSet xs) 12).length = xs.length :=
  ((List.perm_ext_iff_of_nodup (frm_nodup _ _) h.2).2 fun _ => frm_in h).length_eq
theorem bof_list {n : Int} (h : bset n = true) : bof (blist n) = ⟨n, true⟩ := by
  obtain ⟨h1, h2⟩ := bset_lt h
  have hk : bok (blist n) := by
    unfold blist
    rw [if_pos h]
    exact ⟨fun x hx => by obtain ⟨i, hi, _, rfl⟩ := frm_mem.1 hx; omega, frm_nodup _ _⟩
  rw [bof_yes hk]
  have : bnum (inSet (blist n)) 12 = n.toNat := by
    refine (bnum_congr (Q := n.toNat.testBit) fun i hi => ?_).trans (bnum_self h1)
    unfold inSet blist
    rw [if_pos h, Bool.eq_iff_iff, decide_eq_true_eq, frm_mem]
    exact ⟨fun ⟨j, _, hj, e⟩ => by obtain rfl : i = j := by omega
                                   exact hj, fun hj => ⟨i, hi, hj, rfl⟩⟩
  rw [this, h2]
theorem bok_perm {xs ys : List Int} (h : bok xs) (hp : ys.Perm xs) : bok ys ∧ bnum (inSet ys) 12 = bnum (inSet xs) 12 := by
  refine ⟨⟨fun x hx => h.1 x (hp.mem_iff.1 hx), (hp.nodup_iff).2 h.2⟩, bnum_congr fun i hi => ?_⟩
  unfold inSet
  rw [Bool.eq_iff_iff, decide_eq_true_eq, decide_eq_true_eq]
  exact hp.mem_iff
theorem bok_twice {ys : List Int} {x : Int} (h : x ∈ ys) : ¬ bok (ys ++ [x]) := fun hh => by
  have := hh.2
  rw [List.nodup_append] at this
  exact this.2.2 x h x (by simp) rfl
theorem bhas_list (n f : Int) : bhas n f = decide (f ∈ blist n) := by
  unfold bhas blist
  cases hs : bset n with
  | false => simp
  | true =>
    rw [if_pos rfl, Bool.true_and, Bool.eq_iff_iff, decide_eq_true_eq, frm_mem, Bool.and_eq_true]
    constructor
    · rintro ⟨h1, h2⟩
      have := of_decide_eq_true h1
      exact ⟨f.toNat, by omega, h2, by omega⟩
    · rintro ⟨i, h1, h2, rfl⟩
      exact ⟨decide_eq_true (by omega), by unfold bbit; rwa [Int.toNat_natCast]⟩
theorem bhas_num (P : Nat → Bool) (i : Nat) (hi : i < 12) : bhas ((bnum P 12 : Nat) : Int) i = P i := by
  unfold bhas bin bbit
  rw [bnum_set, decide_eq_true (by omega), Int.toNat_natCast, Int.toNat_natCast, bnum_bit, decide_eq_true hi]
  simp
theorem bhas_at {n : Int} (h : bset n = true) (i : Nat) (hi : i < 12) : bhas n i = n.toNat.testBit i := by
  unfold bhas bin bbit
  rw [h, decide_eq_true (by omega), Int.toNat_natCast]
  simp
theorem bnum_or (a b : Nat) (ha : a < 2 ^ 12) (hb : b < 2 ^ 12) : bnum (fun i => a.testBit i || b.testBit i) 12 = a ||| b := by
  refine Nat.eq_of_testBit_eq fun i => ?_
  rw [bnum_bit, Nat.testBit_or]
  by_cases hi : i < 12
  · rw [decide_eq_true hi, Bool.true_and]
  · have hp : (2 : Nat) ^ 12 ≤ 2 ^ i := Nat.pow_le_pow_right (by omega) (by omega)
    rw [decide_eq_false hi, Bool.false_and, Nat.testBit_lt_two_pow (x := a) (by omega), Nat.testBit_lt_two_pow (x := b) (by omega)]
    rfl
theorem bjoin_yes {a b : Int} (ha : bset a = true) (hb : bset b = true) : bjoin a b = ((bnum (fun i => a.toNat.testBit i || b.toNat.testBit i) 12 : Nat) : Int) := if_pos (by rw [ha, hb]; rfl)
theorem bwout_yes {a b : Int} (ha : bset a = true) (hb : bset b = true) : bwout a b = ((bnum (fun i => a.toNat.testBit i && !b.toNat.testBit i) 12 : Nat) : Int) := if_pos (by rw [ha, hb]; rfl)
theorem bjoin_neg {a b : Int} : bjoin a b < 0 ↔ ¬ (bset a = true ∧ bset b = true) := by
  unfold bjoin
  split <;> rename_i h <;> rw [Bool.and_eq_true] at h
  · exact ⟨fun hh => by omega, fun hh => absurd h hh⟩
  · exact ⟨fun _ => h, fun _ => by omega⟩
theorem bwout_neg {a b : Int} : bwout a b < 0 ↔ ¬ (bset a = true ∧ bset b = true) := by
  unfold bwout
  split <;> rename_i h <;> rw [Bool.and_eq_true] at h
  · exact ⟨fun hh => by omega, fun hh => absurd h hh⟩
  · exact ⟨fun _ => h, fun _ => by omega⟩
theorem num_eq (P : Nat → Bool) {n : Int} (h : bset n = true) (hp : ∀ i, i < 12 → P i = n.toNat.testBit i) : ((bnum P 12 : Nat) : Int) = n := by
  obtain ⟨h1, h2⟩ := bset_lt h
  rw [bnum_congr hp, bnum_self h1, h2]
theorem bit_num (P : Nat → Bool) {i : Nat} (hi : i < 12) : (((bnum P 12 : Nat) : Int).toNat).testBit i = P i := by
  rw [Int.toNat_natCast, bnum_bit, decide_eq_true hi, Bool.true_and]
theorem bjoin_comm {a b : Int} (ha : bset a = true) (hb : bset b = true) : bjoin b a = bjoin a b := by
  rw [bjoin_yes ha hb, bjoin_yes hb ha, bnum_congr (fun i _ => Bool.or_comm _ _)]
theorem bjoin_again {a b : Int} (ha : bset a = true) (hb : bset b = true) : bjoin (bjoin a b) b = bjoin a b := by
  rw [bjoin_yes ha hb, bjoin_yes (bnum_set _) hb]
  exact congrArg _ (bnum_congr fun i hi => by rw [bit_num _ hi, Bool.or_assoc, Bool.or_self])
theorem bwout_self {a : Int} (ha : bset a = true) : bwout a a = 0 := by
  rw [bwout_yes ha ha, bnum_congr (Q := fun _ => false) (fun i _ => by simp), bnum_none]
  rfl
theorem bwout_set {a b : Int} (ha : bset a = true) (hb : bset b = true) : bset (bwout a b) = true := by rw [bwout_yes ha hb]; exact bnum_set _
theorem bjoin_set {a b : Int} (ha : bset a = true) (hb : bset b = true) : bset (bjoin a b) = true := by rw [bjoin_yes ha hb]; exact bnum_set _
theorem bpart_join {a b : Int} (ha : bset a = true) (hb : bset b = true) : bjoin (bwout a b) (bwout a (bwout a b)) = a := by
  rw [bwout_yes ha hb, bwout_yes ha (bnum_set _), bjoin_yes (bnum_set _) (bnum_set _)]
  refine num_eq _ ha fun i hi => ?_
  rw [bit_num _ hi, bit_num _ hi, bit_num _ hi]
  cases a.toNat.testBit i <;> cases b.toNat.testBit i <;> rfl
theorem bpart_none {a b : Int} (ha : bset a = true) (hb : bset b = true) : bwout (bwout a (bwout a b)) b = 0 := by
  rw [bwout_yes ha hb, bwout_yes ha (bnum_set _), bwout_yes (bnum_set _) hb, bnum_congr (Q := fun _ => false) (fun i hi => ?_), bnum_none]
  · rfl
  · rw [bit_num _ hi, bit_num _ hi]
    cases a.toNat.testBit i <;> cases b.toNat.testBit i <;> rfl
theorem bnum_two (P Q : Nat → Bool) : ∀ k, (∀ i, i < k → (P i && Q i) = false) → bnum P k + bnum Q k = bnum (fun i => P i || Q i) k
  | 0, _ => rfl
  | k + 1, h => by
    have := bnum_two P Q k (fun i hi => h i (by omega))
    have hk := h k (by omega)
    unfold bnum
    rw [← this]
    cases hp : P k <;> cases hq : Q k <;> simp [hp, hq] at hk ⊢ <;> omega
theorem bpart_sum {a b : Int} (ha : bset a = true) (hb : bset b = true) : bwout a b + bwout a (bwout a b) = a := by
  rw [bwout_yes ha hb, bwout_yes ha (bnum_set _), ← Int.natCast_add, bnum_two _ _ 12 (fun i hi => by rw [bit_num _ hi]; cases a.toNat.testBit i <;> cases b.toNat.testBit i <;> rfl)]
  refine num_eq _ ha fun i hi => ?_
  rw [bit_num _ hi]
  cases a.toNat.testBit i <;> cases b.toNat.testBit i <;> rfl
end Go.Proofs.Ytijgpimjmphaoaa
