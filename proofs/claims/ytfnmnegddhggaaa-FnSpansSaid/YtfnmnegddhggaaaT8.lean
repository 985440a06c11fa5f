/- What the proofs stand on, part 8. -/
import Derived.Test.YtfnmnegddhggaaaRows
import Derived.Test.YtfnmnegddhggaaaT1
import Derived.Test.YtfnmnegddhggaaaT2
import Derived.Test.YtfnmnegddhggaaaT4
import Derived.Test.YtfnmnegddhggaaaT5
set_option linter.unusedSimpArgs false
set_option linter.unusedVariables false
namespace Go.Proofs.Ytfnmnegddhggaaa
set_option linter.unusedVariables false
set_option linter.unusedSimpArgs false
theorem fMiss_mono {x : Int} {S S' : List Int} (h : x ∈ S' → x ∈ S) : fMiss x S ≤ fMiss x S' := by
  by_cases hx : x ∈ S'
  · rw [fMiss_in (h hx)]; omega
  · rw [fMiss_out hx]; exact fMiss_le x S
def FRun (f : Nat) : List Int → List Int → Nat → Prop
  | _, [], _ => True
  | S, x :: r, n => ∃ T m, T.length ≤ f ∧ x ∈ T ∧ (∀ y ∈ T, y = x ∨ y ∈ S) ∧ FRun f T r m ∧ m + fMiss x S ≤ n
theorem FRun.le {f : Nat} {S l : List Int} {n m : Nat} (h : FRun f S l n) (hm : n ≤ m) : FRun f S l m := by
  cases l with
  | nil => trivial
  | cons x r =>
    obtain ⟨T, k, h1, h2, h3, h4, h5⟩ := h
    exact ⟨T, k, h1, h2, h3, h4, by omega⟩
theorem FRun.sub {f : Nat} {S S' l : List Int} {n : Nat} (h : FRun f S' l n) (hs : ∀ y ∈ S', y ∈ S) : FRun f S l n := by
  cases l with
  | nil => trivial
  | cons x r =>
    obtain ⟨T, k, h1, h2, h3, h4, h5⟩ := h
    exact ⟨T, k, h1, h2, fun y hy => (h3 y hy).imp id (hs y), h4, by have := fMiss_mono (x := x) (hs x); omega⟩
theorem FRun.less {f : Nat} {b : Int} : ∀ {l S S' : List Int} {n : Nat}, FRun f S' l n → (∀ y ∈ S', y = b ∨ y ∈ S) → FRun f S l (n + 1)
  | [], _, _, _, _, _ => trivial
  | x :: r, S, S', n, ⟨T, m, h1, h2, h3, h4, h5⟩, hs => by
    by_cases hxb : x = b
    · refine ⟨T, m, h1, h2, fun y hy => ?_, h4, by have := fMiss_le x S; omega⟩
      rcases h3 y hy with h | h
      · exact .inl h
      · rcases hs y h with h | h
        · exact .inl (by rw [h, hxb])
        · exact .inr h
    · refine ⟨T.filter (fun y => decide (y ≠ b)), m + 1, Nat.le_trans (List.length_filter_le _ _) h1, ?_, fun y hy => ?_, FRun.less (b := b) h4 (fun y hy => ?_), ?_⟩
      · rw [List.mem_filter]; exact ⟨h2, by simpa using hxb⟩
      · rw [List.mem_filter, decide_eq_true_eq] at hy
        rcases h3 y hy.1 with h | h
        · exact .inl h
        · exact .inr ((hs y h).resolve_left hy.2)
      · by_cases hyb : y = b
        · exact .inl hyb
        · exact .inr (by rw [List.mem_filter]; exact ⟨hy, by simpa using hyb⟩)
      · have := fMiss_mono (x := x) (S := S) (S' := S') (fun h => (hs x h).resolve_left hxb)
        omega
def fNx (r : List Int) (p : Int) : Nat := r.findIdx (fun x => decide (x = p))
theorem fNx_same (r : List Int) (p : Int) : fNx (p :: r) p = 0 := by simp [fNx, List.findIdx_cons]
theorem fNx_other {r : List Int} {x p : Int} (h : x ≠ p) : fNx (x :: r) p = fNx r p + 1 := by
  simp [fNx, List.findIdx_cons, h]
theorem fFilterLt {T : List Int} {b : Int} (h : b ∈ T) : (T.filter (fun y => decide (y ≠ b))).length + 1 ≤ T.length := by
  induction T with
  | nil => simp at h
  | cons z T ih =>
    by_cases hz : z = b
    · rw [List.filter_cons_of_neg (by simpa using hz)]
      have := List.length_filter_le (fun y => decide (y ≠ b)) T
      simp only [List.length_cons]; omega
    · rw [List.filter_cons_of_pos (by simpa using hz)]
      have := ih ((List.mem_cons.1 h).resolve_left (fun e => hz e.symm))
      simp only [List.length_cons]; omega
theorem FRun.sooner {f : Nat} {a b : Int} : ∀ {l S S' : List Int} {n : Nat}, FRun f S' l n → a ∈ S → a ∉ S' → (∀ y ∈ S', y = b ∨ y ∈ S) → fNx l a ≤ fNx l b → FRun f S l n
  | [], _, _, _, _, _, _, _, _ => trivial
  | x :: r, S, S', n, hr, ha, ha', hs, hn => by
    by_cases hab : a = b
    · exact FRun.sub hr (fun y hy => (hs y hy).elim (fun h => by rw [h, ← hab]; exact ha) id)
    obtain ⟨T, m, h1, h2, h3, h4, h5⟩ := hr
    by_cases hxb : x = b
    · subst hxb
      rw [fNx_same, fNx_other (fun e => hab e.symm)] at hn
      omega
    · have hT : ∀ y ∈ T.filter (fun y => decide (y ≠ b)), y = x ∨ y ∈ S := fun y hy => by
        rw [List.mem_filter, decide_eq_true_eq] at hy
        rcases h3 y hy.1 with h | h
        · exact .inl h
        · exact .inr ((hs y h).resolve_left hy.2)
      have hxT : x ∈ T.filter (fun y => decide (y ≠ b)) := by
        rw [List.mem_filter]; exact ⟨h2, by simpa using hxb⟩
      have hTb : ∀ y ∈ T, y = b ∨ y ∈ T.filter (fun y => decide (y ≠ b)) := fun y hy => by
        by_cases hyb : y = b
        · exact .inl hyb
        · exact .inr (by rw [List.mem_filter]; exact ⟨hy, by simpa using hyb⟩)
      have hl := List.length_filter_le (fun y => decide (y ≠ b)) T
      by_cases hxa : x = a
      · subst hxa
        rw [fMiss_out ha'] at h5
        exact ⟨_, m + 1, by omega, hxT, hT, FRun.less h4 hTb, by rw [fMiss_in ha]; omega⟩
      · have hm := fMiss_mono (x := x) (S := S) (S' := S') (fun h => (hs x h).resolve_left hxb)
        by_cases hbT : b ∈ T
        · have hfl := fFilterLt hbT
          refine ⟨a :: T.filter (fun y => decide (y ≠ b)), m, by simp only [List.length_cons]; omega, List.mem_cons_of_mem _ hxT, fun y hy => ?_, FRun.sooner (a := a) (b := b) h4 (List.mem_cons_self ..) ?_ (fun y hy => ?_) ?_, by omega⟩
          · rcases List.mem_cons.1 hy with rfl | hy
            · exact .inr ha
            · exact hT y hy
          · intro haT
            rcases h3 a haT with h | h
            · exact hxa h.symm
            · exact ha' h
          · rcases hTb y hy with h | h
            · exact .inl h
            · exact .inr (List.mem_cons_of_mem _ h)
          · rw [fNx_other hxa, fNx_other hxb] at hn; omega
        · refine ⟨T, m, h1, h2, fun y hy => ?_, h4, by omega⟩
          rcases h3 y hy with h | h
          · exact .inl h
          · rcases hs y h with h | h
            · exact absurd (h ▸ hy) hbT
            · exact .inr h
def stepB (ev : List Int → List Int → Nat) (f : Nat) (K : List Int) (x : Int) (r : List Int) : List Int :=
  if x ∈ K then K else if K.length = f then K.eraseIdx (ev r K) ++ [x] else K ++ [x]
def costB (ev : List Int → List Int → Nat) (f : Nat) : List Int → List Int → Nat
  | _, [] => 0
  | K, x :: r => costB ev f (stepB ev f K x r) r + fMiss x K
def FLate (ev : List Int → List Int → Nat) : Prop := ∀ r K, K ≠ [] → ev r K < K.length ∧ ∀ y ∈ K, fNx r y ≤ fNx r (K.getD (ev r K) 0)
theorem stepB_len {ev : List Int → List Int → Nat} (hev : FLate ev) {f : Nat} (hf : 0 < f) {K : List Int} (hK : K.length ≤ f) (x : Int) (r : List Int) : (stepB ev f K x r).length ≤ f := by
  unfold stepB
  split
  · exact hK
  · split
    · rename_i h
      have hne : K ≠ [] := by intro e; rw [e] at h; simp at h; omega
      have := (hev r K hne).1
      rw [List.length_append, List.length_eraseIdx_of_lt this]; simp; omega
    · rw [List.length_append]; simp; omega
theorem stepB_in (ev : List Int → List Int → Nat) (f : Nat) (K : List Int) (x : Int) (r : List Int) : x ∈ stepB ev f K x r := by
  unfold stepB
  split
  · assumption
  · split <;> simp
theorem fMemErase {K : List Int} {k : Nat} {y : Int} (h : y ∈ K.eraseIdx k) : y ∈ K := (List.eraseIdx_sublist K k).subset h
theorem stepB_sub (ev : List Int → List Int → Nat) (f : Nat) (K : List Int) (x : Int) (r : List Int) : ∀ y ∈ stepB ev f K x r, y = x ∨ y ∈ K := fun y hy => by
  unfold stepB at hy
  split at hy
  · exact .inr hy
  · split at hy
    · rcases List.mem_append.1 hy with h | h
      · exact .inr (fMemErase h)
      · exact .inl (by simpa using h)
    · rcases List.mem_append.1 hy with h | h
      · exact .inr h
      · exact .inl (by simpa using h)
theorem stepB_nodup {ev : List Int → List Int → Nat} {f : Nat} {K : List Int} (hK : K.Nodup) (x : Int) (r : List Int) : (stepB ev f K x r).Nodup := by
  have app : ∀ L : List Int, L.Nodup → x ∉ L → (L ++ [x]).Nodup := fun L hL hx => by
    rw [List.nodup_append]
    exact ⟨hL, by simp, fun a ha b hb e => hx (by simp at hb; rw [← hb, ← e]; exact ha)⟩
  unfold stepB
  split
  · exact hK
  · rename_i hx
    split
    · exact app _ ((List.eraseIdx_sublist K _).nodup hK) (fun h => hx (fMemErase h))
    · exact app _ hK hx
theorem costB_run {ev : List Int → List Int → Nat} (hev : FLate ev) {f : Nat} (hf : 0 < f) : ∀ (l K : List Int), K.length ≤ f → FRun f K l (costB ev f K l)
  | [], _, _ => trivial
  | x :: r, K, hK => ⟨stepB ev f K x r, _, stepB_len hev hf hK x r, stepB_in ev f K x r, stepB_sub ev f K x r, costB_run hev hf r _ (stepB_len hev hf hK x r), Nat.le_refl _⟩
theorem costB_le {ev : List Int → List Int → Nat} (hev : FLate ev) {f : Nat} (hf : 0 < f) : ∀ (l K : List Int) (n : Nat), K.Nodup → K.length ≤ f → FRun f K l n → costB ev f K l ≤ n
  | [], _, _, _, _, _ => Nat.zero_le _
  | x :: r, K, n, hN, hK, ⟨T, m, h1, h2, h3, h4, h5⟩ => by
    have hle := stepB_len hev hf hK x r
    have hnd := stepB_nodup (ev := ev) (f := f) hN x r
    suffices h : FRun f (stepB ev f K x r) r m by
      have := costB_le hev hf r _ m hnd hle h
      show costB ev f (stepB ev f K x r) r + fMiss x K ≤ n
      omega
    by_cases hx : x ∈ K
    · refine FRun.sub h4 (fun y hy => ?_)
      unfold stepB
      rw [if_pos hx]
      exact (h3 y hy).elim (fun e => e ▸ hx) id
    · by_cases hf' : K.length = f
      ·
        obtain ⟨y, hy, hyT⟩ : ∃ y ∈ K, y ∉ T := by
          refine Classical.byContradiction fun hc => ?_
          have hall : ∀ y ∈ x :: K, y ∈ T := fun y hy => by
            rcases List.mem_cons.1 hy with rfl | hy
            · exact h2
            · exact Classical.byContradiction fun h => hc ⟨y, hy, h⟩
          have := fLenSub (List.nodup_cons.2 ⟨hx, hN⟩) hall
          simp only [List.length_cons] at this
          omega
        have hne : K ≠ [] := by intro e; rw [e] at hy; simp at hy
        obtain ⟨hk1, hk2⟩ := hev r K hne
        have hs : stepB ev f K x r = K.eraseIdx (ev r K) ++ [x] := by unfold stepB; rw [if_neg hx, if_pos hf']
        obtain ⟨z, hz⟩ : ∃ z, z = K.getD (ev r K) 0 := ⟨_, rfl⟩
        have hzK : K[ev r K]? = some z := by rw [hz, List.getD_eq_getElem?_getD, List.getElem?_eq_getElem hk1]; rfl
        have hin : ∀ u ∈ K, u = z ∨ u ∈ K.eraseIdx (ev r K) := fun u hu => by
          obtain ⟨i, hi, rfl⟩ := List.mem_iff_getElem.1 hu
          by_cases hik : i = ev r K
          · left
            subst hik
            rw [List.getElem?_eq_getElem hi] at hzK
            exact Option.some.inj hzK
          · right
            rw [List.mem_eraseIdx_iff_getElem]
            exact ⟨i, hi, hik, rfl⟩
        rw [hs]
        by_cases hyz : y = z
        · refine FRun.sub h4 (fun u hu => ?_)
          rcases h3 u hu with h | h
          · rw [h]; simp
          · rcases hin u h with h' | h'
            · exact absurd (by rw [hyz, ← h']; exact hu) hyT
            · exact List.mem_append.2 (.inl h')
        · refine FRun.sooner (a := y) (b := z) h4 ?_ hyT (fun u hu => ?_) (by rw [hz]; exact hk2 y hy)
          · exact List.mem_append.2 (.inl ((hin y hy).resolve_left hyz))
          · rcases h3 u hu with h | h
            · exact .inr (by rw [h]; simp)
            · rcases hin u h with h' | h'
              · exact .inl h'
              · exact .inr (List.mem_append.2 (.inl h'))
      · refine FRun.sub h4 (fun y hy => ?_)
        unfold stepB
        rw [if_neg hx, if_neg hf']
        rcases h3 y hy with h | h
        · rw [h]; simp
        · exact List.mem_append.2 (.inl h)
def evN (r K : List Int) : Nat → Nat
  | 0 => 0
  | m + 1 => if fNx r (K.getD (evN r K m) 0) < fNx r (K.getD (m + 1) 0) then m + 1 else evN r K m
def evL (r K : List Int) : Nat := evN r K (K.length - 1)
theorem evN_le (r K : List Int) (m : Nat) : evN r K m ≤ m := by
  induction m with
  | zero => exact Nat.le_refl _
  | succ m ih => rw [evN]; split <;> omega
theorem evN_late (r K : List Int) (m : Nat) : ∀ i, i ≤ m → fNx r (K.getD i 0) ≤ fNx r (K.getD (evN r K m) 0) := by
  induction m with
  | zero => intro i hi; rw [evN, show i = 0 by omega]; exact Nat.le_refl _
  | succ m ih =>
    intro i hi
    rw [evN]
    by_cases him : i = m + 1
    · subst him; split <;> omega
    · have := ih i (by omega)
      split <;> omega
theorem evL_late : FLate evL := fun r K hK => by
  have hl : 0 < K.length := List.length_pos_iff.2 hK
  have h1 := evN_le r K (K.length - 1)
  refine ⟨by unfold evL; omega, fun y hy => ?_⟩
  obtain ⟨i, hi, rfl⟩ := List.mem_iff_getElem.1 hy
  have h := evN_late r K (K.length - 1) i (by omega)
  rwa [List.getD_eq_getElem?_getD, List.getElem?_eq_getElem hi] at h
end Go.Proofs.Ytfnmnegddhggaaa
namespace Go.Proofs.Ytfnmnegddhggaaa
open Go.ChangeShapes Go.WideShapes Go.ChangeAt Go.RowKit
set_option linter.unusedVariables false
set_option linter.unusedSimpArgs false
def fbest (xs : List Int) (f : Int) : Int := if ftOk xs f = true then (costB evL f.toNat [] xs : Nat) else -1
end Go.Proofs.Ytfnmnegddhggaaa
namespace Go.Proofs.Ytfnmnegddhggaaa
set_option linter.unusedVariables false
set_option linter.unusedSimpArgs false
def ltB (r : List Int) (a b : Int) : Bool := decide (fNx r b < fNx r a)
def ruleB (L : List Int) (_ : Int → Int) (r : List Int) : Int := xArg (ltB r) (L.headD 0) L
theorem ruleB_in : XIn ruleB := fun L c r h => xArg_in2 _ h
theorem ruleB_late (L : List Int) (c : Int → Int) (r : List Int) : ∀ y ∈ L, fNx r y ≤ fNx r (ruleB L c r) := fun y hy => by
  have h := (xArg_least (lt := ltB r) (m := fun a => - ((fNx r a : Nat) : Int)) (fun a b => by unfold ltB; rw [decide_eq_true_eq]; omega) L (L.headD 0)).2 y hy
  have h' : - ((fNx r (ruleB L c r) : Nat) : Int) ≤ - ((fNx r y : Nat) : Int) := h
  omega
theorem FRun.late {f : Nat} {K K' : List Int} {x : Int} {r : List Int} {n : Nat} (hN : K.Nodup) (hK : K.length ≤ f) (h : FRun f K (x :: r) n)
    (hin : x ∈ K → ∀ y ∈ K, y ∈ K') (hroom : x ∉ K → K.length < f → ∀ y, y = x ∨ y ∈ K → y ∈ K')
    (hfull : x ∉ K → K.length = f → ∃ z ∈ K, (∀ y ∈ K, fNx r y ≤ fNx r z) ∧ ∀ y, y = x ∨ (y ∈ K ∧ y ≠ z) → y ∈ K') : ∃ m, FRun f K' r m ∧ m + fMiss x K ≤ n := by
  obtain ⟨T, m, h1, h2, h3, h4, h5⟩ := h
  refine ⟨m, ?_, h5⟩
  by_cases hx : x ∈ K
  · exact FRun.sub h4 (fun y hy => (h3 y hy).elim (fun e => hin hx y (e ▸ hx)) (hin hx y))
  · by_cases hf' : K.length = f
    · obtain ⟨y, hy, hyT⟩ : ∃ y ∈ K, y ∉ T := by
        refine Classical.byContradiction fun hc => ?_
        have hall : ∀ y ∈ x :: K, y ∈ T := fun y hy => by
          rcases List.mem_cons.1 hy with rfl | hy
          · exact h2
          · exact Classical.byContradiction fun h => hc ⟨y, hy, h⟩
        have := fLenSub (List.nodup_cons.2 ⟨hx, hN⟩) hall
        simp only [List.length_cons] at this
        omega
      obtain ⟨z, hz, hlate, hk'⟩ := hfull hx hf'
      by_cases hyz : y = z
      · refine FRun.sub h4 (fun u hu => ?_)
        rcases h3 u hu with e | e
        · exact hk' u (.inl e)
        · exact hk' u (.inr ⟨e, fun e' => hyT (by rw [hyz, ← e']; exact hu)⟩)
      · by_cases hyr : y ∈ K'
        · refine FRun.sooner (a := y) (b := z) h4 hyr hyT (fun u hu => ?_) (hlate y hy)
          rcases h3 u hu with e | e
          · exact .inr (hk' u (.inl e))
          · by_cases huz : u = z
            · exact .inl huz
            · exact .inr (hk' u (.inr ⟨e, huz⟩))
        · exact absurd (hk' y (.inr ⟨hy, hyz⟩)) hyr
    · exact FRun.sub h4 (fun y hy => hroom hx (by omega) y ((h3 y hy).imp id id))
theorem xNext_late {f : Nat} (hf : 0 < f) {L : List Int} {c : Int → Int} {x : Int} {r : List Int} {n : Nat} (hN : L.Nodup) (hK : L.length ≤ f) (h : FRun f L (x :: r) n) : ∃ m, FRun f (xNext ruleB f L c x r) r m ∧ m + fMiss x L ≤ n := by
  refine FRun.late hN hK h (fun hx y hy => ?_) (fun hx hl y hy => ?_) (fun hx hl => ?_)
  · unfold xNext xMid
    rw [if_pos hx, List.mem_cons, List.Nodup.mem_erase_iff hN]
    by_cases e : y = x
    · exact .inl e
    · exact .inr ⟨e, hy⟩
  · unfold xNext xMid
    rw [if_neg hx, if_pos hl, List.mem_cons, List.erase_of_not_mem hx]
    exact hy
  · have hne : L ≠ [] := by intro e; rw [e] at hl; simp at hl; omega
    refine ⟨ruleB L c r, ruleB_in L c r hne, ruleB_late L c r, fun y hy => ?_⟩
    unfold xNext xMid
    rw [if_neg hx, if_neg (by omega), List.mem_cons, List.erase_of_not_mem (fun e => hx (List.mem_of_mem_erase e)), List.Nodup.mem_erase_iff hN]
    exact hy.imp id (fun e => ⟨e.2, e.1⟩)
theorem xRunB_le {f : Nat} (hf : 0 < f) : ∀ (r L : List Int) (c : Int → Int) (n k : Nat), L.Nodup → L.length ≤ f → FRun f L r k → xRun ruleB f L c n r ≤ n + k
  | [], _, _, _, _, _, _, _ => Nat.le_add_right _ _
  | x :: r, L, c, n, k, hN, hK, h => by
    obtain ⟨m, hm, hmk⟩ := xNext_late (c := c) hf hN hK h
    have := xRunB_le hf r _ (xCame L c n x) (n + fMiss x L) m (xNext_nodup hN) (xNext_le ruleB_in hf hK) hm
    rw [xRun]
    omega
theorem xRunB_run {f : Nat} (hf : 0 < f) : ∀ (r L : List Int) (c : Int → Int) (n : Nat), L.length ≤ f → n ≤ xRun ruleB f L c n r ∧ FRun f L r (xRun ruleB f L c n r - n)
  | [], _, _, _, _ => ⟨Nat.le_refl _, trivial⟩
  | x :: r, L, c, n, hK => by
    have hle := xNext_le ruleB_in hf hK (c := c) (x := x) (r := r)
    obtain ⟨h1, h2⟩ := xRunB_run hf r _ (xCame L c n x) (n + fMiss x L) hle
    rw [xRun]
    exact ⟨by omega, ⟨_, _, hle, List.mem_cons_self .., xNext_sub, h2, by omega⟩⟩
theorem xRunB {f : Nat} (hf : 0 < f) (xs : List Int) (c : Int → Int) : xRun ruleB f [] c 0 xs = costB evL f [] xs := by
  refine Nat.le_antisymm ?_ ?_
  · have := xRunB_le hf xs [] c 0 _ List.nodup_nil (Nat.zero_le _) (costB_run evL_late hf xs [] (Nat.zero_le _))
    omega
  · have := costB_le evL_late hf xs [] _ List.nodup_nil (Nat.zero_le _) (xRunB_run hf xs [] c 0 (Nat.zero_le _)).2
    omega
theorem x_best {xs : List Int} {f : Nat} {c : Int → Int} (hk : ftOk xs (f : Int) = true) (hf : 0 < f) : fbest xs (f : Int) = (xRun ruleB f [] c 0 xs : Nat) := by
  rw [fbest, if_pos hk, Int.toNat_natCast, xRunB hf]
end Go.Proofs.Ytfnmnegddhggaaa
namespace Go.Proofs.Ytfnmnegddhggaaa
open Go.ChangeShapes Go.WideShapes Go.ChangeAt Go.RowKit
set_option linter.unusedVariables false
set_option linter.unusedSimpArgs false
def CFB : Prop := ∀ w v xs f, Ints w v xs → Calls Try.prog 27 #[v, .int .i64 f] w (IRes (fbest xs f) w)
end Go.Proofs.Ytfnmnegddhggaaa
namespace Go.Proofs.Ytfnmnegddhggaaa
open Go.ChangeShapes Go.WideShapes Go.ChangeAt Go.RowKit
set_option linter.unusedVariables false
set_option linter.unusedSimpArgs false
set_option maxHeartbeats 1000000 in
theorem iIndex_any (w : World) (v : Value) (xs : List Int) (p : Int) (h : Ints w v xs) :
    Calls Try.prog 61 #[v, .int .i64 p] w fun e w' => e = .returned (.int .i64 (lfind xs p)) ∧ w = w' := by
  obtain ⟨a, ca, rfl, hla, hma, hxa⟩ := h
  unfold maxLen at hma
  obtain ⟨n, hn⟩ : ∃ n, n = xs.length := ⟨_, rfl⟩
  rw [← hn] at hla hxa ⊢
  have HN := Lib.hid hn
  have HX := Lib.hid hxa
  obtain ⟨r, hr⟩ : ∃ r, r = lfind xs p := ⟨_, rfl⟩
  rw [← hr]
  have HR := Lib.hid hr
  clear hn hxa hr
  go_enter Try.func61, Try.ntmps61
  go_wp2
  go_loopw [8] (fun i wr => ∃ k : Nat, k ≤ n ∧ i = .int .i64 k ∧ Hid (∀ i, i < k → xs.getD i 0 ≠ p) ∧ w = wr) (fun i _ => n - (intOf i).toNat)
  case atStart => exact ⟨0, Nat.zero_le _, rfl, Lib.hid (fun i hi => by omega), by first | trivial | rfl⟩
  case round =>
    obtain ⟨k, hk, rfl, HB, rfl⟩ := hrel
    by_cases hlt : k < n
    · obtain ⟨ba, oa, rfl, hca⟩ := HX.out k hlt
      have hlt' : (k : Int) < (n : Int) := by omega
      obtain ⟨x, hx⟩ : ∃ x, x = xs.getD k 0 := ⟨_, rfl⟩
      rw [← hx] at hca
      have HXV := Lib.hid hx
      clear hx HX
      by_cases hxp : x = p
      · have h1 : (p == x) = true := by rw [beq_iff_eq]; exact hxp.symm
        have HF : Hid (r = (k : Int)) := Lib.hid (by rw [HR.out]; exact lfind_first (by rw [← HN.out]; exact hlt) HB.out (by rw [← HXV.out]; exact hxp))
        have HXP := Lib.hid hxp
        clear HB hxp
        go_wp2
        go_ret
        exact ⟨by rw [HF.out]; rfl, by first | trivial | rfl⟩
      · have h1 : (p == x) = false := by simpa using fun e : p = x => hxp e.symm
        go_wp2
        go_roundw
        case rel => exact ⟨k + 1, by omega, by go_num, Lib.hid (fun i hij => by
          by_cases hk2 : i = k
          · rw [hk2, ← HXV.out]; exact hxp
          · exact HB.out i (by omega)), by first | trivial | rfl⟩
        case measure => simp [intOf]; omega
    · have e : k = n := by omega
      subst e
      have HF : Hid (r = -1) := Lib.hid (by rw [HR.out]; exact lfind_none (by rw [← HN.out]; exact HB.out))
      go_wp2
      go_ret
      exact ⟨by rw [HF.out]; rfl, by first | trivial | rfl⟩
end Go.Proofs.Ytfnmnegddhggaaa
namespace Go.Proofs.Ytfnmnegddhggaaa
open Go.ChangeShapes Go.WideShapes Go.ChangeAt Go.RowKit
set_option linter.unusedVariables false
set_option linter.unusedSimpArgs false
theorem fNx_find (r : List Int) (p : Int) : (fNx r p : Int) = if lfind r p < 0 then (r.length : Int) else lfind r p := by
  unfold lfind fNx
  by_cases h : p ∈ r
  · rw [if_pos h, if_neg (by omega)]
  · rw [if_neg h, if_pos (by decide)]
    congr 1
    refine List.findIdx_eq_length.2 (fun x hx => ?_)
    rw [decide_eq_false_iff_not]
    intro e; exact h (e ▸ hx)
set_option maxRecDepth 100000 in
set_option maxHeartbeats 1000000 in
theorem iuntil_any (w : World) (kb : Nat) (p : Option Addr) (v : Value) (fr n : Int) (c : Int → Int) (r : List Int) (x : Int) (h : Kp w kb p v fr n c) (hi : Ints w v r) :
    Calls Try.prog 58 #[.pointer (some ⟨kb, 0, none⟩), .int .i64 x] w fun e w' => e = .returned (.int .i64 (fNx r x)) ∧ w = w' := by
  have HI := Lib.hid (iIndex_any w v r x hi)
  obtain ⟨m, hm⟩ : ∃ m, m = (fNx r x : Int) := ⟨_, rfl⟩
  rw [← hm]
  have HM : Hid (m = if lfind r x < 0 then (r.length : Int) else lfind r x) := Lib.hid (hm.trans (fNx_find r x))
  obtain ⟨a, ca, rfl, hla, hma, hxa⟩ := hi
  obtain ⟨i, hii⟩ : ∃ i, i = lfind r x := ⟨_, rfl⟩
  rw [← hii] at HI HM
  have hc1 := h.c1
  clear hm hii hxa h
  by_cases h0 : i < 0
  · have h0' : decide (i < 0) = true := by simpa using h0
    have HF : Hid (m = (r.length : Int)) := Lib.hid (by rw [HM.out, if_pos h0])
    clear h0
    go_enter Try.func58, Try.ntmps58
    go_wp2_with fail
    refine HI.out.mono ?_
    rintro e w' ⟨rfl, rfl⟩
    go_wp2_with fail
    go_ret
    exact ⟨by rw [HF.out]; rfl, by first | trivial | rfl⟩
  · have h0' : decide (i < 0) = false := by simpa using h0
    have HF : Hid (m = i) := Lib.hid (by rw [HM.out, if_neg h0])
    clear h0
    go_enter Try.func58, Try.ntmps58
    go_wp2_with fail
    refine HI.out.mono ?_
    rintro e w' ⟨rfl, rfl⟩
    go_wp2_with fail
    go_ret
    exact ⟨by rw [HF.out]; rfl, by first | trivial | rfl⟩
set_option maxRecDepth 100000 in
set_option maxHeartbeats 2000000 in
theorem iusedLatest_any : RuleC 50 ruleB := by
  intro w0 kb L r fr n c w h hne _
  have hbel := h.bel
  obtain ⟨ns, p, v, hk, hp, hl, hn, hkb, hlo, hi⟩ := h.pg
  have hc0 := hk.c0
  obtain ⟨R, hR⟩ : ∃ R, R = ruleB L c r := ⟨_, rfl⟩
  rw [← hR]
  have HR : Hid (R = xArg (ltB r) ((pgs ns).headD 0) (pgs ns)) := Lib.hid (by rw [hR, hl]; rfl)
  have HU := Lib.hid (fun x => iuntil_any w kb p v fr n c r x hk (Ints.below (B := 0) hi hbel))
  have HN := Lib.hid hn
  have HP := Lib.hid hp
  obtain ⟨m0, us0, e0⟩ := List.exists_cons_of_ne_nil (fun e => hne (by rw [← hl, e]; rfl) : ns ≠ [])
  have HE0 := Lib.hid e0
  rw [e0] at hp
  obtain ⟨rfl, hx0, -, q2, -, -⟩ := hp
  have HR0 : Hid (R = xArg (ltB r) m0.2 (pgs ns)) := Lib.hid (by rw [HR.out]; rw [e0]; rfl)
  clear h hk hl hn hkb hlo hi hR hne HR e0 hbel
  go_enter Try.func50, Try.ntmps50
  go_wp2
  go_loopw [3, 4] (fun bv f wr => ∃ (b : Int) (pre us : List (Nat × Int)) (q : Option Addr), bv = .int .i64 b ∧ f = .pointer q ∧ Hid (ns = pre ++ us) ∧ Hid (Pg w us q) ∧ Hid (R = xArg (ltB r) b (pgs us)) ∧ wr = w) (fun _ f _ => mP (blk ns) f)
  case atStart => exact ⟨m0.2, [], ns, _, rfl, rfl, Lib.hid rfl, HP, HR0, rfl⟩
  case round =>
    obtain ⟨b, pre, us, q, rfl, rfl, HE, HPG, HRR, rfl⟩ := hrel
    have HM1 := Lib.hid (mP_eq HPG.out HE.out HN.out)
    cases us with
    | nil =>
      obtain rfl : q = none := HPG.out
      have HF : Hid (R = b) := Lib.hid HRR.out
      go_wp2_with fail
      go_ret
      exact ⟨by rw [HF.out]; rfl, Below.refl _ _⟩
    | cons m us =>
      obtain ⟨mb, y⟩ := m
      obtain ⟨rfl, hy0, -, q3, hy1, hy2⟩ := HPG.out
      have HX := Lib.hid hy2
      have HE2 : Hid (ns = (pre ++ [(mb, y)]) ++ us) := Lib.hid (by rw [HE.out]; simp)
      have HM2 := Lib.hid (mP_eq HX.out HE2.out HN.out)
      have HRR2 : Hid (R = xArg (ltB r) (if ltB r y b = true then y else b) (pgs us)) := Lib.hid HRR.out
      obtain ⟨Y, hY⟩ : ∃ Y : Int, Y = (fNx r y : Nat) := ⟨_, rfl⟩
      obtain ⟨Z, hZ⟩ : ∃ Z : Int, Z = (fNx r b : Nat) := ⟨_, rfl⟩
      have HUY := Lib.hid (HU.out y)
      have HUZ := Lib.hid (HU.out b)
      rw [← hY] at HUY
      rw [← hZ] at HUZ
      have hlt : Hid (ltB r y b = decide (Z < Y)) := Lib.hid (by unfold ltB; rw [decide_eq_decide]; omega)
      clear hY hZ
      clear hy2
      go_wp2_with fail
      refine HUY.out.mono ?_
      rintro e w' ⟨rfl, rfl⟩
      go_wp2_with fail
      refine HUZ.out.mono ?_
      rintro e w' ⟨rfl, rfl⟩
      cases hd : decide (Z < Y) with
      | true =>
        have HRR3 : Hid (R = xArg (ltB r) y (pgs us)) := Lib.hid (by rw [HRR2.out, hlt.out, hd, if_pos rfl])
        go_wp2_with fail
        go_roundw
        case rel => exact ⟨y, pre ++ [(mb, y)], us, q3, rfl, rfl, HE2, HX, HRR3, trivial⟩
        case measure =>
          show mP (blk ns) (.pointer q3) < mP (blk ns) (.pointer (some ⟨mb, 0, none⟩))
          rw [HM1.out, HM2.out]; simp
      | false =>
        have HRR3 : Hid (R = xArg (ltB r) b (pgs us)) := Lib.hid (by rw [HRR2.out, hlt.out, hd]; rfl)
        go_wp2_with fail
        go_roundw
        case rel => exact ⟨b, pre ++ [(mb, y)], us, q3, rfl, rfl, HE2, HX, HRR3, trivial⟩
        case measure =>
          show mP (blk ns) (.pointer q3) < mP (blk ns) (.pointer (some ⟨mb, 0, none⟩))
          rw [HM1.out, HM2.out]; simp
end Go.Proofs.Ytfnmnegddhggaaa
namespace Go.Proofs.Ytfnmnegddhggaaa
open Go.ChangeShapes Go.WideShapes Go.ChangeAt Go.RowKit
set_option linter.unusedVariables false
set_option linter.unusedSimpArgs false
set_option maxRecDepth 100000 in
set_option maxHeartbeats 1000000 in
theorem icb : CFB := by
  intro w v xs f h
  have HKO := Lib.hid (ikeeperOf_any w v xs f h)
  clear h
  have hmf : ∀ (fn : Fn) (first cap : Array Value) (w : World), (Instr.makeFunc fn first cap).run Try.prog w = .ok (.func fn first cap) w := fun _ _ _ _ => rfl
  by_cases hk : ftOk xs f = true
  · simp only [hk, if_true] at HKO
    obtain ⟨F, rfl, h1, h2⟩ := ftOk_f hk
    have HOK := Lib.hid hk
    have HFB := Lib.hid (fun w1 (h : KSt w w.heap.size [] xs (F : Int) 0 (fun _ => 0) w1) => ifaultsBy_any 50 ruleB iusedLatest_any ruleB_in (fun _ _ => by rfl) w w.heap.size F [] xs 0 (fun _ => 0) w1 (by simpa using h) ⟨h1, h2⟩ ⟨Nat.zero_le _, fun y hy => by simp at hy, (trOk_iff.1 (ftOk_tr hk)).1, by have := (trOk_iff.1 (ftOk_tr hk)).2; omega⟩)
    obtain ⟨R, hR⟩ : ∃ R, R = fbest xs (F : Int) := ⟨_, rfl⟩
    rw [← hR]
    have HR : Hid (R = (xRun ruleB F [] (fun _ => 0) 0 xs : Nat)) := Lib.hid (by rw [hR]; exact x_best hk (by omega))
    clear hk hR
    go_enter Try.func27, Try.ntmps27
    go_wp2_with fail
    refine HKO.out.mono ?_
    rintro e w1 ⟨rfl, hst⟩
    have HST := Lib.hid hst
    clear hst
    go_wp2_with fail
    refine (HFB.out w1 HST.out).mono ?_
    rintro e w2 ⟨rfl, hb⟩
    have HB := Lib.hid hb
    clear hb
    go_wp2_with fail
    go_ret
    exact ⟨by rw [HR.out]; rfl, HB.out⟩
  · have hr : fbest xs f = -1 := if_neg hk
    simp only [hk] at HKO
    rw [hr]
    clear hk hr
    go_enter Try.func27, Try.ntmps27
    go_wp2_with fail
    refine HKO.out.mono ?_
    rintro e w1 ⟨rfl, rfl⟩
    go_wp2_with fail
    go_ret
    exact ⟨rfl, Below.refl _ _⟩
end Go.Proofs.Ytfnmnegddhggaaa
