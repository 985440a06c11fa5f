/- A set of texts that is kept in a map of bools: what the map reads as. -/
import Derived.Test.YtjakelpdnmnofaaRMath
import Derived.Maps.Ext
import Derived.Maps.OwnSet
import Derived.Sort.Walk0
import Derived.Sort.KeysCollected
import Derived.Lib.SlMapFilter
namespace Go.Proofs.Ytjakelpdnmnofaa
open Go.ChangeShapes Go.WideShapes Go.ChangeAt Go.RowKit Go.Maps
set_option linter.unusedVariables false

def pairT {H : Type} (s : Bs) : Lit × DataW H := (.string s, .lit (.bool true))
/-- the map reads as the set of the texts xs, none of them twice: each with true -/
def SetIs {H : Type} (D : DataW H) (xs : List Bs) : Prop := ∃ es, D = .map es ∧ es.Perm (xs.map pairT) ∧ xs.Nodup
variable {H : Type} {D : DataW H} {xs ys : List Bs}

theorem SetIs.none : SetIs (.map [] : DataW H) [] := ⟨[], rfl, List.Perm.nil, List.nodup_nil⟩
theorem SetIs.size (h : SetIs D xs) : Maps.size D = xs.length := by
  obtain ⟨es, rfl, hp, _⟩ := h
  rw [Maps.size_eq, hp.length_eq, List.length_map]
theorem same_str (s t : Bs) : (Lit.string s).sameKey (.string t) = (s == t) := rfl
theorem pairs_any (xs : List Bs) (s : Bs) : (xs.map (pairT (H := H))).any (fun p => p.1.sameKey (.string s)) = decide (s ∈ xs) := by
  rw [Bool.eq_iff_iff, List.any_eq_true, decide_eq_true_eq]
  constructor
  · rintro ⟨p, hp, hk⟩
    obtain ⟨t, ht, rfl⟩ := List.mem_map.1 hp
    have : (t == s) = true := hk
    rw [← eq_of_beq this]; exact ht
  · intro hs
    exact ⟨pairT s, List.mem_map.2 ⟨s, hs, rfl⟩, by show (s == s) = true; exact beq_self_eq_true s⟩
theorem perm_any {α : Type} {l l' : List α} (h : l.Perm l') (f : α → Bool) : l.any f = l'.any f := by
  rw [Bool.eq_iff_iff, List.any_eq_true, List.any_eq_true]
  exact ⟨fun ⟨x, hx, hf⟩ => ⟨x, h.mem_iff.1 hx, hf⟩, fun ⟨x, hx, hf⟩ => ⟨x, h.mem_iff.2 hx, hf⟩⟩
theorem SetIs.has (h : SetIs D xs) (s : Bs) : Maps.has D (.string s) = decide (s ∈ xs) := by
  obtain ⟨es, rfl, hp, _⟩ := h
  rw [Maps.has_eq, perm_any hp, pairs_any]
theorem SetIs.entry {es : List (Lit × DataW H)} (hp : es.Perm (xs.map pairT)) {p : Lit × DataW H} (hm : p ∈ es) : ∃ t ∈ xs, p = pairT t := by
  obtain ⟨t, ht, e⟩ := List.mem_map.1 (hp.mem_iff.1 hm)
  exact ⟨t, ht, e.symm⟩
theorem SetIs.atKey (h : SetIs D xs) (s : Bs) : D.atKey (.string s) (.lit (.bool false)) = .lit (.bool (decide (s ∈ xs))) := by
  have hh := h.has s
  obtain ⟨es, rfl, hp, _⟩ := h
  rw [Maps.has_eq] at hh
  unfold DataW.atKey
  cases hf : es.find? (fun p => p.1.sameKey (.string s)) with
  | none =>
    have : es.any (fun p => p.1.sameKey (.string s)) = false := by
      rw [Bool.eq_false_iff]
      intro ha
      obtain ⟨p, hp', hk⟩ := List.any_eq_true.1 ha
      exact (List.find?_eq_none.1 hf) p hp' hk
    rw [← hh, this]
    show (match es.find? (fun p => p.1.sameKey (.string s)) with | some p => p.2 | Option.none => DataW.lit (.bool false)) = _
    rw [hf]
  | some p =>
    have h1 := List.find?_some hf
    have h2 := List.mem_of_find?_eq_some hf
    obtain ⟨t, ht, rfl⟩ := SetIs.entry hp h2
    have : es.any (fun p => p.1.sameKey (.string s)) = true := List.any_eq_true.2 ⟨_, h2, h1⟩
    rw [← hh, this]
    show (match es.find? (fun p => p.1.sameKey (.string s)) with | some p => p.2 | Option.none => DataW.lit (.bool false)) = _
    rw [hf]
    rfl
theorem perm_str (h : SetIs D xs) : (strKeys D).Perm xs := by
  obtain ⟨es, rfl, hp, _⟩ := h
  have := hp.map (fun p => strOf p.1)
  rw [List.map_map] at this
  refine this.trans ?_
  rw [show ((fun p : Lit × DataW H => strOf p.1) ∘ pairT) = id from rfl, List.map_id]
/-- one more text is put into the set -/
theorem SetIs.put (h : SetIs D xs) {s : Bs} (hn : s ∉ xs) : SetIs (D.put (.string s) (.lit (.bool true))) (s :: xs) := by
  obtain ⟨es, rfl, hp, hd⟩ := h
  refine ⟨_, rfl, ?_, List.nodup_cons.2 ⟨hn, hd⟩⟩
  have hf : es.filter (fun p => !p.1.sameKey (.string s)) = es := by
    refine List.filter_eq_self.2 (fun p hm => ?_)
    obtain ⟨t, ht, rfl⟩ := SetIs.entry hp hm
    show (!(t == s)) = true
    have : t ≠ s := fun e => hn (e ▸ ht)
    simpa using this
  rw [hf, List.map_cons]
  exact (insert_perm _ _).trans (hp.cons _)
/-- a text that is there is put into the set again -/
theorem SetIs.again (h : SetIs D xs) {s : Bs} (hn : s ∈ xs) : SetIs (D.put (.string s) (.lit (.bool true))) xs := by
  obtain ⟨es, rfl, hp, hd⟩ := h
  refine ⟨_, rfl, ?_, hd⟩
  have h1 : (es.filter (fun p => !p.1.sameKey (.string s))).Perm ((xs.map pairT).filter (fun p => !p.1.sameKey (.string s))) := hp.filter _
  have h2 : (xs.map (pairT (H := H))).filter (fun p => !p.1.sameKey (.string s)) = (xs.erase s).map pairT := by
    rw [List.filter_map, hd.erase_eq_filter]
    rfl
  rw [h2] at h1
  refine ((insert_perm _ _).trans (h1.cons _)).trans ?_
  have h3 := ((List.perm_cons_erase hn).map (pairT (H := H))).symm
  rw [List.map_cons] at h3
  exact h3
theorem SetIs.perm (h : SetIs D xs) (hp : xs.Perm ys) : SetIs D ys := by
  obtain ⟨es, rfl, h1, h2⟩ := h
  exact ⟨es, rfl, h1.trans (hp.map _), hp.nodup_iff.1 h2⟩
/-- texts are deleted from the set -/
theorem SetIs.del (h : SetIs D xs) (pd : Lit → DataW H → Bool) (f : Bs → Bool) (hf : ∀ s, pd (.string s) (.lit (.bool true)) = f s) : SetIs (Lib.deleteFuncD pd D) (xs.filter (fun s => !f s)) := by
  obtain ⟨es, rfl, hp, hd⟩ := h
  refine ⟨_, rfl, ?_, hd.filter _⟩
  refine (hp.filter _).trans ?_
  rw [List.filter_map]
  refine List.Perm.of_eq ?_
  congr 1
  refine List.filter_congr (fun t _ => ?_)
  show (!pd (.string t) (.lit (.bool true))) = (!f t)
  rw [hf]

theorem le_iff_bl {a b : Bs} : a ≤ b ↔ bl b a = false := by
  unfold bl
  rw [bytesLess_eq, decide_eq_false_iff_not]
  exact (List.not_lt).symm
/-- the keys of the set, sorted, are the texts that ascend -/
theorem SetIs.sorted (h : SetIs D xs) (ha : Asc xs) {ss : List Bs} (hp : ss.Perm (strKeys D)) : ss.mergeSort (fun x y => decide (x ≤ y)) = xs := by
  have hp2 : (ss.mergeSort (fun x y => decide (x ≤ y))).Perm xs := (List.mergeSort_perm ss _).trans (hp.trans (perm_str h))
  have hs : (ss.mergeSort (fun x y => decide (x ≤ y))).Pairwise (fun a b => decide (a ≤ b) = true) := by
    refine List.pairwise_mergeSort (fun a b c h1 h2 => ?_) (fun a b => ?_) ss
    · simp only [decide_eq_true_eq] at h1 h2 ⊢
      exact List.le_trans h1 h2
    · rcases List.le_total a b with h | h
      · simp [h]
      · simp [h]
  refine asc_ext ?_ ha (fun z => hp2.mem_iff)
  have hnd : (ss.mergeSort (fun x y => decide (x ≤ y))).Nodup := hp2.nodup_iff.2 (asc_nodup ha)
  unfold Asc
  refine (List.Pairwise.and hs hnd).imp (fun {a b} hab => ?_)
  obtain ⟨h1, h2⟩ := hab
  have h1 : bl b a = false := le_iff_bl.1 (of_decide_eq_true h1)
  cases hb : bl a b with
  | true => rfl
  | false => exact absurd (bl_tri hb h1) h2
end Go.Proofs.Ytjakelpdnmnofaa
