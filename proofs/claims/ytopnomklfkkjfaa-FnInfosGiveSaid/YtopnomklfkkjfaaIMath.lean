/- What is known of frames, as lists: what is valid, which are free, and what the functions of chapter 12 answer. -/
import Derived.Test.YtopnomklfkkjfaaIs
namespace Go.Proofs.Ytopnomklfkkjfaa
set_option linter.unusedVariables false

def inR (x lo hi : Int) : Bool := decide (lo ≤ x ∧ x ≤ hi)
def iok (x : IV) : Bool := if x.k = 0 then decide (x = iz) else inR x.k 1 3 && (rv x.g && inR x.r 0 50)
def isok (xs : List IV) : Bool := decide (∀ i, i < xs.length → iok (xs.getD i iz) = true) && decide (xs.length = 12)
def isFree (x : IV) : Bool := decide (x.k = 0)
def fidx (xs : List IV) : Nat := xs.findIdx isFree
def cnt (xs : List IV) : Nat := xs.countP isFree
def ifree (xs : List IV) : Int := if isok xs = true then (cnt xs : Int) else -1
def tok (xs : List IV) (g : Bs) : Bool := isok xs && (rv g && decide (fidx xs < xs.length))
def itake (xs : List IV) (g : Bs) : List IV := if tok xs g = true then xs.set (fidx xs) ⟨1, g, 0⟩ else []
def itakeN (xs : List IV) (g : Bs) : Int := if tok xs g = true then (fidx xs : Int) else 0
def gok (xs : List IV) (f : Int) : Bool := isok xs && (inR f 0 11 && (decide ((xs.getD f.toNat iz).k = 1) && decide ((xs.getD f.toNat iz).r ≤ 0)))
def igive (xs : List IV) (f : Int) : List IV := if gok xs f = true then xs.set f.toNat iz else []

theorem inR_iff {x lo hi : Int} : inR x lo hi = true ↔ lo ≤ x ∧ x ≤ hi := by unfold inR; rw [decide_eq_true_eq]
theorem isok_iff {xs : List IV} : isok xs = true ↔ (∀ i, i < xs.length → iok (xs.getD i iz) = true) ∧ xs.length = 12 := by
  unfold isok
  rw [Bool.and_eq_true, decide_eq_true_eq, decide_eq_true_eq]
theorem isok_len {xs : List IV} (h : isok xs = true) : xs.length = 12 := (isok_iff.1 h).2
theorem isok_at {xs : List IV} (h : isok xs = true) {i : Nat} (hi : i < xs.length) : iok (xs.getD i iz) = true := (isok_iff.1 h).1 i hi
theorem iok_free {x : IV} (h : iok x = true) (hk : x.k = 0) : x = iz := by
  unfold iok at h
  rw [if_pos hk] at h
  exact of_decide_eq_true h
theorem iok_used {x : IV} (h : iok x = true) (hk : x.k ≠ 0) : (1 ≤ x.k ∧ x.k ≤ 3) ∧ rv x.g = true ∧ 0 ≤ x.r ∧ x.r ≤ 50 := by
  unfold iok at h
  rw [if_neg hk, Bool.and_eq_true, Bool.and_eq_true, inR_iff, inR_iff] at h
  exact h
theorem iok_iz : iok iz = true := by decide
theorem iok_data {g : Bs} (h : rv g = true) : iok ⟨1, g, 0⟩ = true := by
  unfold iok
  rw [if_neg (by show ¬ (1 : Int) = 0; decide), h]
  show (inR 1 1 3 && (true && inR 0 0 50)) = true
  decide
theorem set_getD_eq {xs : List IV} {k i : Nat} {x : IV} (hk : k < xs.length) : (xs.set k x).getD i iz = if i = k then x else xs.getD i iz := by
  by_cases h : i = k
  · subst h
    rw [if_pos rfl, getD_lt (by rw [List.length_set]; exact hk), List.getElem_set_self]
  · rw [if_neg h]
    by_cases hi : i < xs.length
    · rw [getD_lt (by rw [List.length_set]; exact hi), getD_lt hi, List.getElem_set_ne (by omega)]
    · simp [List.getD, List.getElem?_eq_none (Nat.le_of_not_lt hi), List.getElem?_eq_none (show (xs.set k x).length ≤ i by rw [List.length_set]; omega)]
theorem isok_set {xs : List IV} {k : Nat} {x : IV} (h : isok xs = true) (hx : iok x = true) (hk : k < xs.length) : isok (xs.set k x) = true := by
  rw [isok_iff] at h ⊢
  rw [List.length_set]
  refine ⟨fun i hi => ?_, h.2⟩
  rw [set_getD_eq hk]
  split
  · exact hx
  · exact h.1 i hi
theorem fidx_le (xs : List IV) : fidx xs ≤ xs.length := List.findIdx_le_length
theorem fidx_free {xs : List IV} (h : fidx xs < xs.length) : (xs.getD (fidx xs) iz).k = 0 := by
  have := List.findIdx_getElem (xs := xs) (p := isFree) (w := h)
  rw [getD_lt h]
  exact of_decide_eq_true this
theorem fidx_before {xs : List IV} {i : Nat} (h : i < fidx xs) : (xs.getD i iz).k ≠ 0 := by
  have := List.not_of_lt_findIdx (p := isFree) (xs := xs) (i := i) h
  rw [getD_lt (Nat.lt_of_lt_of_le h (fidx_le xs))]
  intro hk
  unfold isFree at this
  simp [hk] at this
theorem fidx_eq {xs : List IV} {k : Nat} (hk : k < xs.length) (hf : (xs.getD k iz).k = 0) (hb : ∀ i, i < k → (xs.getD i iz).k ≠ 0) : fidx xs = k := by
  rcases Nat.lt_trichotomy (fidx xs) k with h | h | h
  · exact absurd (fidx_free (by omega)) (hb _ h)
  · exact h
  · exact absurd hf (fidx_before h)
theorem fidx_none {xs : List IV} (hb : ∀ i, i < xs.length → (xs.getD i iz).k ≠ 0) : fidx xs = xs.length := by
  have h1 := fidx_le xs
  by_cases h : fidx xs < xs.length
  · exact absurd (fidx_free h) (hb _ h)
  · omega
theorem cnt_take_succ {xs : List IV} {k : Nat} (hk : k < xs.length) : cnt (xs.take (k + 1)) = cnt (xs.take k) + (if (xs.getD k iz).k = 0 then 1 else 0) := by
  rw [take_snoc_getD xs k iz hk]
  unfold cnt
  rw [List.countP_append, List.countP_cons, List.countP_nil, Nat.zero_add]
  unfold isFree
  simp only [decide_eq_true_eq]
theorem cnt_le (xs : List IV) : cnt xs ≤ xs.length := List.countP_le_length
theorem cnt_pos {xs : List IV} : 0 < cnt xs ↔ fidx xs < xs.length := by
  constructor
  · intro h
    obtain ⟨x, hx, hf⟩ := List.countP_pos_iff.1 h
    obtain ⟨i, hi, rfl⟩ := List.getElem_of_mem hx
    by_cases hn : fidx xs < xs.length
    · exact hn
    · have h1 := fidx_le xs
      have := fidx_before (xs := xs) (i := i) (by omega)
      rw [getD_lt hi] at this
      exact absurd (of_decide_eq_true hf) this
  · intro h
    refine List.countP_pos_iff.2 ⟨xs[fidx xs], List.getElem_mem h, ?_⟩
    have := fidx_free h
    rw [getD_lt h] at this
    exact decide_eq_true this
theorem cnt_set {xs : List IV} {k : Nat} {x : IV} (hk : k < xs.length) : cnt (xs.set k x) + (if (xs.getD k iz).k = 0 then 1 else 0) = cnt xs + (if x.k = 0 then 1 else 0) := by
  have e : xs = xs.take k ++ ([xs.getD k iz] ++ xs.drop (k + 1)) := by
    rw [← List.append_assoc, ← take_snoc_getD xs k iz hk, List.take_append_drop]
  have e2 : xs.set k x = xs.take k ++ ([x] ++ xs.drop (k + 1)) := by
    rw [List.set_eq_take_append_cons_drop, if_pos hk]; rfl
  rw [e2]
  conv => rhs; rw [e]
  unfold cnt isFree
  simp only [List.countP_append, List.countP_cons, List.countP_nil, decide_eq_true_eq]
  omega
theorem tok_iff {xs : List IV} {g : Bs} : tok xs g = true ↔ isok xs = true ∧ rv g = true ∧ fidx xs < xs.length := by
  unfold tok
  rw [Bool.and_eq_true, Bool.and_eq_true, decide_eq_true_eq]
theorem gok_iff {xs : List IV} {f : Int} : gok xs f = true ↔ isok xs = true ∧ (0 ≤ f ∧ f ≤ 11) ∧ (xs.getD f.toNat iz).k = 1 ∧ (xs.getD f.toNat iz).r ≤ 0 := by
  unfold gok
  rw [Bool.and_eq_true, Bool.and_eq_true, Bool.and_eq_true, inR_iff, decide_eq_true_eq, decide_eq_true_eq]
/-- what was taken can be given back -/
theorem take_give {xs : List IV} {g : Bs} (h : tok xs g = true) : gok (itake xs g) (itakeN xs g) = true ∧ igive (itake xs g) (itakeN xs g) = xs := by
  have ht := tok_iff.1 h
  have hl := isok_len ht.1
  have hg : gok (itake xs g) (itakeN xs g) = true := by
    unfold itake itakeN
    rw [if_pos h, if_pos h, gok_iff, Int.toNat_natCast, set_getD_eq ht.2.2, if_pos rfl]
    exact ⟨isok_set ht.1 (iok_data ht.2.1) ht.2.2, ⟨by omega, by omega⟩, rfl, Int.le_refl 0⟩
  refine ⟨hg, ?_⟩
  unfold igive
  rw [if_pos hg]
  unfold itake itakeN
  rw [if_pos h, if_pos h, Int.toNat_natCast, List.set_set]
  have hz := iok_free (isok_at ht.1 ht.2.2) (fidx_free ht.2.2)
  rw [getD_lt ht.2.2] at hz
  rw [← hz, List.set_getElem_self]
theorem free_take {xs : List IV} {g : Bs} (h : tok xs g = true) : ifree (itake xs g) = ifree xs - 1 := by
  have ht := tok_iff.1 h
  have h2 := cnt_set (x := ⟨1, g, 0⟩) ht.2.2
  rw [if_pos (fidx_free ht.2.2), if_neg (by show ¬ (1 : Int) = 0; decide)] at h2
  unfold ifree itake
  rw [if_pos h, if_pos ht.1, if_pos (isok_set ht.1 (iok_data ht.2.1) ht.2.2)]
  omega
theorem free_give {xs : List IV} {f : Int} (h : gok xs f = true) : ifree (igive xs f) = ifree xs + 1 := by
  have ht := gok_iff.1 h
  have hl := isok_len ht.1
  have hk : f.toNat < xs.length := by omega
  have h2 := cnt_set (x := iz) hk
  rw [if_neg (by rw [ht.2.2.1]; decide), if_pos (show iz.k = 0 from rfl)] at h2
  unfold ifree igive
  rw [if_pos h, if_pos ht.1, if_pos (isok_set ht.1 iok_iz hk)]
  omega
/-- a frame is taken exactly if one is free and the right is one -/
theorem take_none (xs : List IV) (g : Bs) : tok xs g = (decide (0 < ifree xs) && rv g) := by
  rw [Bool.eq_iff_iff, tok_iff, Bool.and_eq_true, decide_eq_true_eq]
  unfold ifree
  constructor
  · rintro ⟨h1, h2, h3⟩
    rw [if_pos h1]
    have := cnt_pos.2 h3
    exact ⟨by omega, h2⟩
  · rintro ⟨h1, h2⟩
    by_cases hk : isok xs = true
    · rw [if_pos hk] at h1
      exact ⟨hk, h2, cnt_pos.1 (by omega)⟩
    · rw [if_neg hk] at h1
      omega
/-- lists without one, and with an invalid one -/
theorem isok_erase {xs : List IV} {k : Nat} (h : isok xs = true) (hk : k < xs.length) : isok (xs.take k ++ xs.drop (k + 1)) = false := by
  rw [Bool.eq_false_iff]
  intro h2
  have h3 := isok_len h2
  have h4 := isok_len h
  rw [List.length_append, List.length_take, List.length_drop] at h3
  omega
theorem isok_bad {xs : List IV} {k : Nat} (hk : k < xs.length) {x : IV} (hx : iok x = false) : isok (xs.set k x) = false := by
  rw [Bool.eq_false_iff]
  intro h2
  have h3 := isok_at h2 (i := k) (by rw [List.length_set]; exact hk)
  rw [set_getD_eq hk, if_pos rfl, hx] at h3
  cases h3
end Go.Proofs.Ytopnomklfkkjfaa
