/- What the proofs stand on, part 7: TMath TSpec TDraw TDraw2 TSpec2 TSpec3 TSpec4 TSpec5. -/
import Derived.Test.YticnfekjbknomaaMg4
import Derived.Test.YticnfekjbknomaaMg2
import Derived.Test.YticnfekjbknomaaMg6
import Derived.Test.YticnfekjbknomaaMg1
import Derived.Test.YticnfekjbknomaaMg5
/- Tables of frames, as lists: what words are good, how often frames are named, and what the functions of chapter 13 answer. -/
namespace Go.Proofs.Yticnfekjbknomaa
set_option linter.unusedVariables false

def isTab (k : Int) : Bool := decide (k = 2 ∨ k = 3)
def tneeds (k : Int) : Int := if isTab k = true then k - 1 else 0
/-- the entry's frame, as a place in a list -/
def fr (w : Int) : Nat := (w / 4).toNat
def tent (ys : List IV) (f w k : Int) (rs : List Bs) : Bool :=
  if goodB w then !decide (w / 4 = f) && (decide ((ys.getD (fr w) iz).k = k - 1) && may0 rs (ys.getD (fr w) iz).g) else decide (w = 0)
def tgood (xss : List (List Int)) (ys : List IV) (f k : Int) (rs : List Bs) : Bool := (List.range 4).all (fun i => tent ys f (wd xss f.toNat i) k rs)
def targ (xss : List (List Int)) (ys : List IV) (f : Int) : Bool := memOk xss && (inR f 0 11 && isok ys)
def tok8 (xss : List (List Int)) (ys : List IV) (f k : Int) (rs : List Bs) : Bool := targ xss ys f && (isTab k && (rvs rs && tgood xss ys f k rs))
/-- how often a row of words names a frame -/
def cnt1 (xs : List Int) (f : Nat) : Nat := (named xs).count (f : Int)
/-- how often the first n frames that are tables name a frame -/
def cntN (xss : List (List Int)) (ys : List IV) (f : Nat) : Nat → Nat
  | 0 => 0
  | n + 1 => cntN xss ys f n + (if isTab (ys.getD n iz).k = true then cnt1 (xss.getD n []) f else 0)
def tcnt (xss : List (List Int)) (ys : List IV) : List Int := if (memOk xss && isok ys) = true then (List.range 12).map (fun f => (cntN xss ys f 12 : Int)) else []
/-- one more use, or one less, of a frame -/
def bump (n : Int) (ys : List IV) (f : Int) : List IV := ys.set f.toNat ⟨(ys.getD f.toNat iz).k, (ys.getD f.toNat iz).g, (ys.getD f.toNat iz).r + n⟩
def addL (n : Int) (ys : List IV) (fs : List Int) : List IV := fs.foldl (bump n) ys
def setK (ys : List IV) (f : Nat) (k : Int) : List IV := ys.set f ⟨k, (ys.getD f iz).g, (ys.getD f iz).r⟩
def pinL (xss : List (List Int)) (ys : List IV) (f k : Int) : List IV := addL 1 (setK ys f.toNat k) (named (xss.getD f.toNat []))
def unpL (xss : List (List Int)) (ys : List IV) (f : Int) : List IV := addL (-1) (setK ys f.toNat 1) (named (xss.getD f.toNat []))
def tpin (xss : List (List Int)) (ys : List IV) (f k : Int) (rs : List Bs) : List IV × Int :=
  if (targ xss ys f && (isTab k && rvs rs)) = true then
    if (ys.getD f.toNat iz).k = 1 ∧ (ys.getD f.toNat iz).r ≤ 0 then
      if tgood xss ys f k rs = true then
        if isok (pinL xss ys f k) = true then (pinL xss ys f k, 0) else (ys, 1)
      else (ys, 2)
    else (ys, 1)
  else ([], 3)
def tunp (xss : List (List Int)) (ys : List IV) (f : Int) : List IV × Int :=
  if targ xss ys f = true then
    if isTab (ys.getD f.toNat iz).k = true ∧ (ys.getD f.toNat iz).r ≤ 0 then
      if isok (unpL xss ys f) = true then (unpL xss ys f, 0) else (ys, 2)
    else (ys, 1)
  else ([], 3)

theorem tgood_iff {xss : List (List Int)} {ys : List IV} {f k : Int} {rs : List Bs} : tgood xss ys f k rs = true ↔ ∀ i, i < 4 → tent ys f (wd xss f.toNat i) k rs = true := by
  unfold tgood
  rw [List.all_eq_true]
  exact ⟨fun h i hi => h i (List.mem_range.2 hi), fun h i hi => h i (List.mem_range.1 hi)⟩
theorem isTab_iff {k : Int} : isTab k = true ↔ k = 2 ∨ k = 3 := by unfold isTab; rw [decide_eq_true_eq]
theorem targ_iff {xss : List (List Int)} {ys : List IV} {f : Int} : targ xss ys f = true ↔ memOk xss = true ∧ (0 ≤ f ∧ f ≤ 11) ∧ isok ys = true := by
  unfold targ
  rw [Bool.and_eq_true, Bool.and_eq_true, inR_iff]
theorem tok8_iff {xss : List (List Int)} {ys : List IV} {f k : Int} {rs : List Bs} : tok8 xss ys f k rs = true ↔ targ xss ys f = true ∧ isTab k = true ∧ rvs rs = true ∧ ∀ i, i < 4 → tent ys f (wd xss f.toNat i) k rs = true := by
  unfold tok8
  rw [Bool.and_eq_true, Bool.and_eq_true, Bool.and_eq_true, tgood_iff]
theorem addL_len (n : Int) : ∀ (fs : List Int) (ys : List IV), (addL n ys fs).length = ys.length
  | [], ys => rfl
  | f :: fs, ys => by
    unfold addL
    rw [List.foldl_cons]
    exact (addL_len n fs (bump n ys f)).trans (by unfold bump; rw [List.length_set])
theorem bump_get {n : Int} {ys : List IV} {f : Int} {j : Nat} (hf : 0 ≤ f ∧ f.toNat < ys.length) : (bump n ys f).getD j iz = ⟨(ys.getD j iz).k, (ys.getD j iz).g, (ys.getD j iz).r + (if (j : Int) = f then n else 0)⟩ := by
  unfold bump
  rw [set_getD_eq hf.2]
  by_cases h : j = f.toNat
  · rw [if_pos h, if_pos (by omega), h]
  · rw [if_neg h, if_neg (by omega), Int.add_zero]
theorem addL_get (n : Int) : ∀ (fs : List Int) (ys : List IV) (j : Nat), (∀ f ∈ fs, 0 ≤ f ∧ f.toNat < ys.length) → (addL n ys fs).getD j iz = ⟨(ys.getD j iz).k, (ys.getD j iz).g, (ys.getD j iz).r + n * (fs.count (j : Int) : Int)⟩
  | [], ys, j, _ => by
    show ys.getD j iz = _
    simp
  | f :: fs, ys, j, h => by
    have h0 := h f (by simp)
    have ih := addL_get n fs (bump n ys f) j (fun g hg => by
      have := h g (by simp [hg])
      unfold bump
      rw [List.length_set]; exact this)
    show (addL n (bump n ys f) fs).getD j iz = _
    rw [ih, bump_get h0]
    simp only [IV.mk.injEq, true_and]
    rw [List.count_cons]
    by_cases e : (j : Int) = f
    · subst e
      simp
      rw [Int.mul_add, Int.mul_one, Int.add_assoc, Int.add_comm n]
    · have e' : (f == (j : Int)) = false := by simpa using fun h => e h.symm
      rw [e', if_neg e]
      simp
theorem named_mem {xs : List Int} {f : Int} (h : f ∈ named xs) : ∃ x ∈ xs, goodB x ∧ x / 4 = f := by
  unfold named at h
  obtain ⟨x, hx, e⟩ := List.mem_map.1 h
  obtain ⟨h1, h2⟩ := List.mem_filter.1 hx
  exact ⟨x, h1, of_decide_eq_true h2, e⟩
theorem named_in {xs : List Int} {f : Int} (h : f ∈ named xs) : 0 ≤ f ∧ f < 12 := by
  obtain ⟨x, _, hx, rfl⟩ := named_mem h
  exact good_frame hx
theorem named_ok {xs : List Int} {ys : List IV} (hl : ys.length = 12) : ∀ f ∈ named xs, 0 ≤ f ∧ f.toNat < ys.length := fun f hf => by
  have := named_in hf; omega
theorem iv_get_ext {xs ys : List IV} (hl : xs.length = ys.length) (h : ∀ j, j < xs.length → xs.getD j iz = ys.getD j iz) : xs = ys := List.ext_getElem hl fun i h1 h2 => by
  have := h i h1
  rwa [getD_lt h1, getD_lt h2] at this
theorem setK_len (ys : List IV) (f : Nat) (k : Int) : (setK ys f k).length = ys.length := by unfold setK; rw [List.length_set]
theorem setK_get {ys : List IV} {f j : Nat} {k : Int} (hf : f < ys.length) : (setK ys f k).getD j iz = ⟨if j = f then k else (ys.getD j iz).k, (ys.getD j iz).g, (ys.getD j iz).r⟩ := by
  unfold setK
  rw [set_getD_eq hf]
  by_cases h : j = f
  · subst h; rw [if_pos rfl, if_pos rfl]
  · rw [if_neg h, if_neg h]
theorem pinL_len (xss : List (List Int)) (ys : List IV) (f k : Int) : (pinL xss ys f k).length = ys.length := by unfold pinL; rw [addL_len, setK_len]
theorem unpL_len (xss : List (List Int)) (ys : List IV) (f : Int) : (unpL xss ys f).length = ys.length := by unfold unpL; rw [addL_len, setK_len]
theorem pinL_get {xss : List (List Int)} {ys : List IV} {f k : Int} (hl : ys.length = 12) (hf : 0 ≤ f ∧ f ≤ 11) (j : Nat) : (pinL xss ys f k).getD j iz = ⟨if j = f.toNat then k else (ys.getD j iz).k, (ys.getD j iz).g, (ys.getD j iz).r + (cnt1 (xss.getD f.toNat []) j : Int)⟩ := by
  unfold pinL
  rw [addL_get 1 _ _ j (fun g hg => by rw [setK_len]; exact named_ok hl g hg), setK_get (by omega), Int.one_mul]
  rfl
theorem unpL_get {xss : List (List Int)} {ys : List IV} {f : Int} (hl : ys.length = 12) (hf : 0 ≤ f ∧ f ≤ 11) (j : Nat) : (unpL xss ys f).getD j iz = ⟨if j = f.toNat then 1 else (ys.getD j iz).k, (ys.getD j iz).g, (ys.getD j iz).r - (cnt1 (xss.getD f.toNat []) j : Int)⟩ := by
  unfold unpL
  rw [addL_get (-1) _ _ j (fun g hg => by rw [setK_len]; exact named_ok hl g hg), setK_get (by omega)]
  show (⟨_, _, _ + -1 * (cnt1 _ _ : Int)⟩ : IV) = _
  rw [Int.neg_one_mul, ← Int.sub_eq_add_neg]
/-! what the laws ask -/
theorem tent_good {ys : List IV} {f w k : Int} {rs : List Bs} (h : tent ys f w k rs = true) (hg : goodB w) : w / 4 ≠ f ∧ (ys.getD (fr w) iz).k = k - 1 ∧ may0 rs (ys.getD (fr w) iz).g = true := by
  unfold tent at h
  rw [if_pos hg, Bool.and_eq_true, Bool.and_eq_true, decide_eq_true_eq, Bool.not_eq_true', decide_eq_false_iff_not] at h
  exact h
theorem tent_bad {ys : List IV} {f w k : Int} {rs : List Bs} (h : tent ys f w k rs = true) (hg : ¬ goodB w) : w = 0 := by
  unfold tent at h
  rw [if_neg hg, decide_eq_true_eq] at h
  exact h
theorem may_all (g : Bs) : may0 [[]] g = true := by unfold may0; simp [cov_nil]
theorem rvs_nil : rvs [[]] = true := by decide
theorem tok8_all {xss : List (List Int)} {ys : List IV} {f k : Int} {rs : List Bs} (h : tok8 xss ys f k rs = true) : tok8 xss ys f k [[]] = true ∧ tok8 xss ys f 1 rs = false := by
  obtain ⟨h1, h2, h3, h4⟩ := tok8_iff.1 h
  refine ⟨tok8_iff.2 ⟨h1, h2, rvs_nil, fun i hi => ?_⟩, ?_⟩
  · have := h4 i hi
    by_cases hg : goodB (wd xss f.toNat i)
    · obtain ⟨e1, e2, e3⟩ := tent_good this hg
      unfold tent
      rw [if_pos hg, decide_eq_true e2, decide_eq_false e1, may_all]; rfl
    · unfold tent at this ⊢
      rw [if_neg hg] at this ⊢
      exact this
  · unfold tok8
    rw [show isTab 1 = false from by decide, Bool.false_and, Bool.and_false]
theorem tok8_zero {xss : List (List Int)} {ys : List IV} {f k : Int} {rs : List Bs} (h1 : targ xss ys f = true) (h2 : isTab k = true) (h3 : rvs rs = true) (h4 : ∀ i, i < 4 → wd xss f.toNat i = 0) : tok8 xss ys f k rs = true :=
  tok8_iff.2 ⟨h1, h2, h3, fun i hi => by
    unfold tent
    rw [h4 i hi, if_neg (by unfold goodB; omega)]; rfl⟩
theorem tok8_self {xss : List (List Int)} {ys : List IV} {f k : Int} {rs : List Bs} (hf : 0 ≤ f ∧ f ≤ 11) (h : wd xss f.toNat 0 = 4 * f + 3) : tok8 xss ys f k rs = false := by
  rw [Bool.eq_false_iff]
  intro hh
  have := (tok8_iff.1 hh).2.2.2 0 (by omega)
  rw [h] at this
  exact (tent_good this (by unfold goodB; omega)).1 (by omega)
/-- pinning adds to each count what the frame's words name -/
theorem cntN_pin {xss : List (List Int)} {ys zs : List IV} {f : Nat} (j : Nat) (hk : isTab (ys.getD f iz).k = false) (hk2 : isTab (zs.getD f iz).k = true) (ho : ∀ t, t ≠ f → (zs.getD t iz).k = (ys.getD t iz).k) : ∀ n, cntN xss zs j n = cntN xss ys j n + (if f < n then cnt1 (xss.getD f []) j else 0)
  | 0 => by simp [cntN]
  | n + 1 => by
    unfold cntN
    rw [cntN_pin j hk hk2 ho n]
    by_cases e : n = f
    · subst e
      rw [hk, hk2, if_pos rfl, if_neg (Nat.lt_irrefl _), if_pos (Nat.lt_succ_self _)]
      simp
    · rw [ho n e]
      by_cases hl : f < n
      · rw [if_pos hl, if_pos (show f < n + 1 by omega)]; omega
      · rw [if_neg hl, if_neg (show ¬ f < n + 1 by omega)]; omega
theorem tcnt_get {xss : List (List Int)} {ys : List IV} (hm : memOk xss = true) (hy : isok ys = true) : (tcnt xss ys).length = 12 ∧ ∀ j, j < 12 → (tcnt xss ys).getD j 0 = (cntN xss ys j 12 : Int) := by
  unfold tcnt
  rw [hm, hy, Bool.and_self, if_pos rfl]
  refine ⟨by simp, fun j hj => ?_⟩
  rw [getD_lt (by simpa using hj)]
  simp
theorem tcnt_none {xss : List (List Int)} {ys : List IV} (h : ¬ (memOk xss = true ∧ isok ys = true)) : tcnt xss ys = [] := by
  unfold tcnt
  rw [if_neg]
  rw [Bool.and_eq_true]
  exact h
end Go.Proofs.Yticnfekjbknomaa
/- What the reference's functions on tables of frames return: words, arguments, and whether a table is good. -/
namespace Go.Proofs.Yticnfekjbknomaa
open Go.ChangeShapes Go.WideShapes Go.ChangeAt Go.RowKit
set_option linter.unusedVariables false

theorem l13Table_any (w : World) (k : Int) : Calls Try.prog 64 #[.int .i64 k] w (Says (isTab k) w) := by
  by_cases h2 : k = 2
  · subst h2
    go_enter Try.func64, Try.ntmps64
    go_wp2
    go_ret
    exact says_mk rfl
  · have e2 : (k == 2) = false := by simpa using h2
    by_cases h3 : k = 3
    · subst h3
      go_enter Try.func64, Try.ntmps64
      go_wp2
      go_ret
      exact says_mk rfl
    · have e3 : (k == 3) = false := by simpa using h3
      have HR : Hid (isTab k = false) := Lib.hid (decide_eq_false (by omega))
      rw [HR.out]
      clear h2 h3
      go_enter Try.func64, Try.ntmps64
      go_wp2
      go_ret
      exact says_mk rfl
theorem sTableNeeds_any (w : World) (k : Int) : Calls Try.prog 22 #[.int .i64 k] w fun e w' => e = .returned (.int .i64 (tneeds k)) ∧ w = w' := by
  have HT := Lib.hid (l13Table_any w k)
  unfold tneeds
  cases h : isTab k with
  | false =>
    rw [h] at HT
    clear h
    go_enter Try.func22, Try.ntmps22
    go_wp2_with fail
    refine HT.out.mono ?_
    rintro e w' ⟨rfl, rfl⟩
    go_wp2_with fail
    go_ret
    exact ⟨rfl, rfl⟩
  | true =>
    rw [h] at HT
    have hk := isTab_iff.1 h
    have hw : IntKind.i64.wrap (k - 1) = k - 1 := by rw [IntKind.wrap_i64]; omega
    clear h hk
    go_enter Try.func22, Try.ntmps22
    go_wp2_with fail
    refine HT.out.mono ?_
    rintro e w' ⟨rfl, rfl⟩
    go_wp2_with fail
    go_ret
    exact ⟨rfl, rfl⟩
theorem l2Ok_any (w : World) (v : Value) (xss : List (List Int)) (f : Int) (h : Rows2 w v xss) : Calls Try.prog 108 #[v, .int .i64 f] w (Says (memOk xss && inR f 0 11) w) := by
  by_cases hm : memOk xss = true ∧ 0 ≤ f ∧ f < 12
  · have e : (memOk xss && inR f 0 11) = true := by rw [hm.1, Bool.true_and]; exact inR_iff.2 (by omega)
    rw [e]
    exact l2Ok_yes w v xss f h hm.1 hm.2
  · have e : (memOk xss && inR f 0 11) = false := by
      rw [Bool.eq_false_iff, Ne, Bool.and_eq_true, inR_iff]
      intro hh
      exact hm ⟨hh.1, hh.2.1, by omega⟩
    rw [e]
    exact l2Ok_no w v xss f h hm
theorem l13Args_any (w : World) (vm vl : Value) (xss : List (List Int)) (ys : List IV) (f : Int) (h : Rows2 w vm xss) (hl : Is w vl ys) (hs : ShortI ys) :
    Calls Try.prog 71 #[vm, vl, .int .i64 f] w (BRes (targ xss ys f) w) := by
  have HM := Lib.hid (l2Ok_any w vm xss f h)
  have HI := Lib.hid (infosValid_any w vl ys hl hs)
  have e : targ xss ys f = ((memOk xss && inR f 0 11) && isok ys) := by unfold targ; rw [Bool.and_assoc]
  rw [e]
  clear h hl hs e
  obtain ⟨b, hb⟩ : ∃ b, b = (memOk xss && inR f 0 11) := ⟨_, rfl⟩
  obtain ⟨c, hc⟩ : ∃ c, c = isok ys := ⟨_, rfl⟩
  rw [← hb] at HM ⊢
  rw [← hc] at HI ⊢
  clear hb hc
  cases b with
  | false =>
    go_enter Try.func71, Try.ntmps71
    go_wp2_with fail
    refine HM.out.mono ?_
    rintro e w' ⟨rfl, rfl⟩
    go_wp2_with fail
    go_ret
    exact ⟨rfl, Below.refl _ _⟩
  | true =>
    go_enter Try.func71, Try.ntmps71
    go_wp2_with fail
    refine HM.out.mono ?_
    rintro e w' ⟨rfl, rfl⟩
    go_wp2_with fail
    refine HI.out.mono ?_
    rintro e w1 ⟨rfl, hb1⟩
    have B1 := Lib.hid hb1
    clear hb1
    go_wp2_with fail
    go_ret
    exact ⟨rfl, B1.out⟩
set_option maxHeartbeats 1000000 in
theorem l13Entry_any (w : World) (vl vr : Value) (ys : List IV) (rs : List Bs) (f x k : Int) (hl : Is w vl ys) (hn : ys.length = 12) (hs : ShortI ys) (hr : Strs w vr rs) (hrs : Short rs) (hx : 0 ≤ x ∧ x ≤ 9999) (hk : isTab k = true) :
    Calls Try.prog 109 #[vl, .int .i64 f, .int .i64 x, .int .i64 k, vr] w (Says (tent ys f x k rs) w) := by
  have hk2 := isTab_iff.1 hk
  have hw : IntKind.i64.wrap (k - 1) = k - 1 := by rw [IntKind.wrap_i64]; omega
  clear hk hk2
  unfold tent
  by_cases hg : goodB x
  · rw [if_pos hg]
    have hfr := good_frame hg
    have HE := Lib.hid (fun w => eS_yes x w hg)
    obtain ⟨a, ca, rfl, h1, h2, h3⟩ := hl
    unfold maxLen at h2
    obtain ⟨j, hj⟩ : ∃ j : Nat, x / 4 = (j : Int) := ⟨(x / 4).toNat, by omega⟩
    have hjf : fr x = j := by unfold fr; omega
    obtain ⟨b, o, rfl, hc⟩ := h3 j (by omega)
    have HG : Hid ((ys.getD j iz).g.length ≤ 2000000) := Lib.hid (hs.at j)
    rw [hjf, hj]
    rw [hj] at HE
    obtain ⟨y, hy⟩ : ∃ y, y = ys.getD j iz := ⟨_, rfl⟩
    rw [← hy] at hc HG ⊢
    have HM := Lib.hid (fun hg => sMay0_any w vr rs y.g hr hrs hg)
    obtain ⟨c0, c1, c2⟩ := hc
    obtain ⟨n, hnn⟩ : ∃ n, n = ys.length := ⟨_, rfl⟩
    rw [← hnn] at h1 hn ⊢
    have hjn : j < n := by omega
    have hjn' : (j : Int) < (n : Int) := by omega
    have hj0 : (0 : Int) ≤ (j : Int) := by omega
    obtain ⟨wr, hwr⟩ : ∃ wr, wr = decide (x % 4 = 3) := ⟨_, rfl⟩
    rw [← hwr] at HE
    clear hwr hy h3 hg hfr hj hnn hr hn hx hs hrs hjf
    by_cases hf : (j : Int) = f
    · have hf' : ((j : Int) != f) = false := by simpa using hf
      have HR : Hid ((!decide ((j : Int) = f) && (decide (y.k = k - 1) && may0 rs y.g)) = false) := Lib.hid (by rw [decide_eq_true hf]; rfl)
      rw [HR.out]
      clear hf HR
      go_enter Try.func109, Try.ntmps109
      go_wp2_with fail
      refine (HE.out w).mono ?_
      rintro e w' ⟨rfl, rfl⟩
      go_wp2_with fail
      go_ret
      exact says_mk rfl
    · have hf' : ((j : Int) != f) = true := by simpa using hf
      by_cases hk1 : y.k = k - 1
      · have hk1' : (y.k == k - 1) = true := by simpa using hk1
        have HR : Hid ((!decide ((j : Int) = f) && (decide (y.k = k - 1) && may0 rs y.g)) = may0 rs y.g) := Lib.hid (by rw [decide_eq_false hf, decide_eq_true hk1]; rfl)
        rw [HR.out]
        have HM2 := Lib.hid (HM.out HG.out)
        generalize may0 rs y.g = r at HM2
        clear hf hk1 HR HM
        go_enter Try.func109, Try.ntmps109
        go_wp2_with fail
        refine (HE.out w).mono ?_
        rintro e w' ⟨rfl, rfl⟩
        go_wp2_with fail
        refine HM2.out.mono ?_
        rintro e w' ⟨rfl, rfl⟩
        go_wp2_with fail
        go_ret
        exact says_mk rfl
      · have hk1' : (y.k == k - 1) = false := by simpa using hk1
        have HR : Hid ((!decide ((j : Int) = f) && (decide (y.k = k - 1) && may0 rs y.g)) = false) := Lib.hid (by rw [decide_eq_false hk1, Bool.false_and, Bool.and_false])
        rw [HR.out]
        clear hf hk1 HR
        go_enter Try.func109, Try.ntmps109
        go_wp2_with fail
        refine (HE.out w).mono ?_
        rintro e w' ⟨rfl, rfl⟩
        go_wp2_with fail
        go_ret
        exact says_mk rfl
  · rw [if_neg hg]
    have HE := Lib.hid (fun w => eS_no x w hg (by omega) (by omega))
    have HR : Hid (decide (x = 0) = (x == 0)) := Lib.hid (by rw [Bool.eq_iff_iff]; simp)
    clear hg hl hr hs hrs hx hn
    go_enter Try.func109, Try.ntmps109
    go_wp2_with fail
    refine (HE.out w).mono ?_
    rintro e w' ⟨rfl, rfl⟩
    go_wp2_with fail
    go_ret
    exact says_mk (by rw [HR.out])
end Go.Proofs.Yticnfekjbknomaa
/- Drawn memories with what is known of frames: both new, each in blocks of its own. -/
namespace Go.Proofs.Yticnfekjbknomaa
open Go.ChangeShapes Go.WideShapes Go.ChangeAt Go.RowKit
set_option linter.unusedVariables false

structure TabB (w0 w : World) (B k C : Nat) (vm vl : Value) (xss : List (List Int)) (ys : List IV) (wr : World) : Prop where
  mem : MatW wr w.heap.size C vm xss
  inf : IsW wr C wr.heap.size vl ys
  form : ∃ g c, vl = .slice (some ⟨g, 0, none⟩) ys.length c
  rdr : Rdr w0 wr B k
  grow : w.grownBy wr (some B)
  hB : B < w.heap.size
  hC : w.heap.size ≤ C
  hC2 : C ≤ wr.heap.size
theorem IsW.grown {B B0 B1 : Nat} {w w' : World} {v : Value} {xs : List IV} (h : IsW w B0 B1 v xs) (hg : w.grownBy w' (some B)) (hB : B < B0) (h1 : B1 ≤ w.heap.size) : IsW w' B0 B1 v xs := by
  obtain ⟨a, cap, e, h2, h3, h4⟩ := h
  refine ⟨a, cap, e, h2, h3, fun i hi => ?_⟩
  obtain ⟨g, p, e, hg0, hg1, hf⟩ := h4 i hi
  exact ⟨g, p, e, hg0, hg1, hf.block (hg.block g (by omega) (by intro e; injection e with e; omega))⟩
theorem TabB.go {w0 w wr w' : World} {B k k' C : Nat} {vm vl : Value} {xss : List (List Int)} {ys : List IV} (h : TabB w0 w B k C vm vl xss ys wr) (hR : Rdr w0 w' B k') (hg : wr.grownBy w' (some B)) : TabB w0 w B k' C vm vl xss ys w' :=
  ⟨h.mem.grown hg h.hB h.hC2, (h.inf.grown hg (by have := h.hB; have := h.hC; omega) (Nat.le_refl _)).wide (Nat.le_refl _) hg.size, h.form, hR, gtrans h.grow hg, h.hB, h.hC, Nat.le_trans h.hC2 hg.size⟩
theorem TabB.mono {w0 w wr : World} {B k k' C : Nat} {vm vl : Value} {xss : List (List Int)} {ys : List IV} (h : TabB w0 w B k C vm vl xss ys wr) (hk : k ≤ k') : TabB w0 w B k' C vm vl xss ys wr :=
  ⟨h.mem, h.inf, h.form, rdr_mono h.rdr hk, h.grow, h.hB, h.hC, h.hC2⟩
theorem TabB.start {w0 w w1 w2 : World} {B k : Nat} {vm vl : Value} {xss : List (List Int)} {ys : List IV} (hB : B < w.heap.size) (hm : MatW w1 w.heap.size w1.heap.size vm xss) (hg : w.grownBy w1 (some B)) (hl : RowBI w0 B k w1 vl ys w2) : TabB w0 w B k w1.heap.size vm vl xss ys w2 :=
  ⟨hm.grown hl.grow hB (Nat.le_refl _), hl.row, hl.form, hl.rdr, gtrans hg hl.grow, hB, hg.size, hl.grow.size⟩
/-- a frame's place in the list, and the store there -/
theorem TabB.place {w0 w wr : World} {B k C g n c : Nat} {vm : Value} {xss : List (List Int)} {ys : List IV} (h : TabB w0 w B k C vm (.slice (some ⟨g, 0, none⟩) n c) xss ys wr) {i : Nat} (hi : i < ys.length) : C ≤ g ∧ g < wr.heap.size ∧ wr.there g (i * 3) 3 := by
  obtain ⟨a, cap, e, h2, h3, h4⟩ := h.inf
  injection e with e1 e2 e3
  subst e1
  obtain ⟨g', p', e, hg0, hg1, hf⟩ := h4 i hi
  cases e
  have ht := hf.there
  rw [Nat.zero_add] at ht
  exact ⟨hg0, hg1, ht⟩
theorem TabB.store {w0 w wr : World} {B k C g n c : Nat} {vm : Value} {xss : List (List Int)} {ys : List IV} (h : TabB w0 w B k C vm (.slice (some ⟨g, 0, none⟩) n c) xss ys wr) {i : Nat} (hi : i < ys.length) (x : IV) : TabB w0 w B k C vm (.slice (some ⟨g, 0, none⟩) n c) xss (ys.set i x) (wr.setCells g (i * 3) (ivC x)) := by
  have hp := h.place hi
  have hn : n = ys.length := by
    obtain ⟨a, cap, e, _⟩ := h.inf
    injection e
  have hB := h.hB
  have hC := h.hC
  have hg : wr.heap.size = (wr.setCells g (i * 3) (ivC x)).heap.size := (size_setCells _ _ _ _).symm
  refine ⟨?_, ?_, ?_, ?_, ?_, h.hB, h.hC, by rw [size_setCells]; exact h.hC2⟩
  · exact h.mem.chg (lo := g) (hi := g + 1) ⟨(os_setCells _ _ _ _), (tape_setCells _ _ _ _), (output_setCells _ _ _ _), by rw [size_setCells]; exact Nat.le_refl _, fun j hj hne => heap_setCells_other wr _ _ _ _ _ (by omega)⟩ h.hC2 (.inl hp.1)
  · rw [size_setCells]
    refine h.inf.upd (p := 0) rfl (by omega) ?_ (fun j y hj hy => hy.apart (.inr (by show 0 + j * 3 + 3 ≤ i * 3 ∨ i * 3 + 3 ≤ 0 + j * 3; omega)))
    rw [Nat.zero_add]
    exact TriW.stored hp.2.2
  · obtain ⟨g', c', e⟩ := h.form
    exact ⟨g', c', by rw [List.length_set]; exact e⟩
  · have hw0 := (rdr_below h.rdr).size
    obtain ⟨a, len, cap, zs, p, hr, hpk, hh, hb, hBe⟩ := h.rdr
    exact ⟨a, len, cap, zs, p, hr, hpk, (heap_setCells_other wr _ _ _ _ _ (by omega)).trans hh, Below.setCells (Below.refl _ _) _ (by omega) _ _ _ hb, hBe⟩
  · exact ⟨(os_setCells _ _ _ _).trans h.grow.os, (tape_setCells _ _ _ _).trans h.grow.tape, (output_setCells _ _ _ _).trans h.grow.output, by rw [size_setCells]; exact h.grow.size, fun j hj hne => (heap_setCells_other wr _ _ _ _ _ (by omega)).trans (h.grow.block j hj hne)⟩
/-- a word's place in the memory, and the store there -/
theorem TabB.spot {w0 w wr : World} {B k C : Nat} {vm vl : Value} {xss : List (List Int)} {ys : List IV} (h : TabB w0 w B k C vm vl xss ys wr) (hm : memOk xss = true) {i j : Nat} (hi : i < 12) (hj : j < 4) :
    ∃ b o c g p d, vm = .slice (some ⟨b, o, none⟩) 12 c ∧ w.heap.size ≤ b ∧ b < C ∧ wr.cell? ⟨b, o + i, none⟩ = some (.slice (some ⟨g, p, none⟩) 4 d) ∧ w.heap.size ≤ g ∧ g < C ∧ b ≠ g ∧ wr.cell? ⟨g, p + j, none⟩ = some (.int .i64 ((xss.getD i []).getD j 0)) ∧ wr.frozen? ⟨g, p + j, none⟩ = false ∧
      ∀ (w' : World) (k' : Nat) (ys' : List IV), TabB w0 w B k' C vm vl xss ys' w' → (∀ q, w.heap.size ≤ q → q < C → w'.heap[q]? = wr.heap[q]?) → ∀ x : Int, TabB w0 w B k' C vm vl (mput xss i j x) ys' (w'.setCell ⟨g, p + j, none⟩ (.int .i64 x)) := by
  obtain ⟨b, o, c, g, p, d, e, hb0, hb1, hc, hg0, hg1, hne, hx, hf, hst⟩ := h.mem.spot hm hi hj
  refine ⟨b, o, c, g, p, d, e, hb0, hb1, hc, hg0, hg1, hne, hx, hf, fun w' k' ys' h' heq x => ?_⟩
  have hB := h'.hB
  have hw0 := (rdr_below h'.rdr).size
  refine ⟨hst w' heq x, ?_, h'.form, ?_, ?_, h'.hB, h'.hC, by simpa [World.setCell] using h'.hC2⟩
  · obtain ⟨a, cap, e, h2, h3, h4⟩ := h'.inf
    refine ⟨a, cap, e, h2, h3, fun i hi => ?_⟩
    obtain ⟨g2, p2, e, hg20, hg21, hf⟩ := h4 i hi
    exact ⟨g2, p2, e, hg20, by simpa [World.setCell] using hg21, hf.off (.inl (by omega)) _⟩
  · exact rdr_store h'.rdr (by omega) (by have := (rdr_below h.rdr).size; have := h.grow.size; obtain ⟨_, _, _, _, _, _, _, _, _, hBe⟩ := h'.rdr; omega) _
  · exact ⟨h'.grow.os, h'.grow.tape, h'.grow.output, by simpa [World.setCell] using h'.grow.size, fun q hq hqn => (Below.heap_setCell w' ⟨g, p + j, none⟩ _ q (by show q ≠ g; omega)).trans (h'.grow.block q hq hqn)⟩
end Go.Proofs.Yticnfekjbknomaa
/- The reference's drawn memories with tables. -/
namespace Go.Proofs.Yticnfekjbknomaa
open Go.ChangeShapes Go.WideShapes Go.ChangeAt Go.RowKit
set_option linter.unusedVariables false

def DrewTab (w0 : World) (B k : Nat) (w : World) (e : Ending) (w' : World) : Prop :=
  ∃ vm vl xss ys C, e = .returned (.tuple #[vm, vl]) ∧ Small xss ∧ (ys.length ≤ 12 ∧ ∀ y ∈ ys, shI y) ∧ TabB w0 w B k C vm vl xss ys w'
def kindP (k : Int) : Prop := -1 ≤ k ∧ k ≤ 5
theorem shI_set {ys : List IV} {i : Nat} {x : IV} (h : ∀ y ∈ ys, shI y) (hx : shI x) : ∀ y ∈ ys.set i x, shI y := fun y hy => by
  rcases List.mem_or_eq_of_mem_set hy with h1 | h1
  · exact h y h1
  · rw [h1]; exact hx
set_option maxRecDepth 100000 in
set_option maxHeartbeats 4000000 in
theorem tables_any (w0 w : World) (B k : Nat) (f kd : Int) (hR : Rdr w0 w B k) (hk : k ≤ 600000) (hkd : kindP kd) :
    Calls Try.prog 66 #[.pointer (some ⟨B, 0, none⟩), .int .i64 f, .int .i64 kd] w (DrewTab w0 B (k + 1000) w) := by
  have hB := rdr_lt hR
  go_enter Try.func66, Try.ntmps66
  go_wp2_with fail
  refine (mem_any w0 w B k hR (by omega)).mono ?_
  rintro e w1 ⟨vm, xss, rfl, hm, hs1, hs2, hR1, hg1⟩
  have HS : Hid (Small xss) := Lib.hid ⟨hs1, hs2⟩
  have HM1 := Lib.hid hm
  have HG1 := Lib.hid hg1
  clear hs1 hs2 hR hm hg1
  go_wp2_with fail
  refine (infos_any w0 w1 B _ hR1 (by omega)).mono ?_
  rintro e w2 ⟨vl, ys, rfl, hl, hRB⟩
  have HTB := Lib.hid ((TabB.start hB HM1.out HG1.out hRB).mono (k' := k + 900) (by omega))
  obtain ⟨g, c, rfl⟩ := hRB.form
  have HSH := Lib.hid hl
  obtain ⟨C, hC⟩ : ∃ C, C = w1.heap.size := ⟨_, rfl⟩
  rw [← hC] at HTB
  have HRW := Lib.hid HTB.out.mem.rows
  have HV := Lib.hid (valid_any w2 vm xss HRW.out)
  have HIV := Lib.hid (infosValid_any w2 _ ys HTB.out.inf.is (fun y hy => by have := hl.2 y hy; unfold shI at this; omega))
  obtain ⟨n, hn⟩ : ∃ n, n = ys.length := ⟨_, rfl⟩
  rw [← hn] at HTB HIV ⊢
  have HN := Lib.hid hn
  clear hC hRB hR1 hl hn HM1 HG1
  obtain ⟨bm, hbm⟩ : ∃ bm, bm = memOk xss := ⟨_, rfl⟩
  rw [← hbm] at HV
  have HBM := Lib.hid hbm
  obtain ⟨bi, hbi⟩ : ∃ bi, bi = isok ys := ⟨_, rfl⟩
  rw [← hbi] at HIV
  have HBI := Lib.hid hbi
  clear hbm hbi
  have HEND : Hid (∀ w', TabB w0 w B (k + 1000) C vm (.slice (some ⟨g, 0, none⟩) n c) xss ys w' → DrewTab w0 B (k + 1000) w (.returned (.tuple #[vm, .slice (some ⟨g, 0, none⟩) n c])) w') := Lib.hid (fun w' h => ⟨vm, _, xss, ys, C, rfl, HS.out, HSH.out, h⟩)
  go_wp2_with fail
  refine HV.out.mono ?_
  rintro e w' ⟨rfl, rfl⟩
  cases bm with
  | false =>
    go_wp2_with fail
    go_ret2
    exact HEND.out _ (HTB.out.mono (by omega))
  | true =>
  go_wp2_with fail
  refine HIV.out.mono ?_
  rintro e w3 ⟨rfl, hb3⟩
  have HT3 := Lib.hid (HTB.out.go (rdr_of_below HTB.out.rdr hb3) (grown_of_below hb3))
  clear HTB hb3 HV HIV HRW
  cases bi with
  | false =>
    go_wp2_with fail
    go_ret2
    exact HEND.out _ (HT3.out.mono (by omega))
  | true =>
  have HL1 := Lib.hid (fun w => l1Frame_any w f)
  obtain ⟨bf, hbf⟩ : ∃ bf, bf = inR f 0 11 := ⟨_, rfl⟩
  rw [← hbf] at HL1
  have HBF := Lib.hid hbf
  have HL2 := Lib.hid (fun w => l13Table_any w kd)
  obtain ⟨bk, hbk⟩ : ∃ bk, bk = isTab kd := ⟨_, rfl⟩
  rw [← hbk] at HL2
  have HBK := Lib.hid hbk
  clear hbf hbk
  go_wp2_with fail
  refine (HL1.out w3).mono ?_
  rintro e w' ⟨rfl, rfl⟩
  cases bf with
  | false =>
    go_wp2_with fail
    go_ret2
    exact HEND.out _ (HT3.out.mono (by omega))
  | true =>
  go_wp2_with fail
  refine (HL2.out w3).mono ?_
  rintro e w' ⟨rfl, rfl⟩
  cases bk with
  | false =>
    go_wp2_with fail
    go_ret2
    exact HEND.out _ (HT3.out.mono (by omega))
  | true =>
  go_wp2_with fail
  refine (pick_any w0 w3 B _ _ HT3.out.rdr (by omega) (by omega)).mono ?_
  rintro e w4 ⟨m4, h40, h41, rfl, hR4, hO4⟩
  have HT4 := Lib.hid (HT3.out.go hR4 hO4.grown)
  clear hR4 hO4 HT3
  by_cases hm4 : m4 = 0
  · subst hm4
    go_wp2_with fail
    go_ret2
    exact HEND.out _ (HT4.out.mono (by omega))
  have hm4' : (m4 == 0) = false := by simpa using hm4
  have hin := inR_iff.1 HBF.out.symm
  obtain ⟨j, rfl⟩ : ∃ j : Nat, f = (j : Int) := ⟨f.toNat, by omega⟩
  have hj12 : j < 12 := by omega
  have hy12 := isok_len HBI.out.symm
  have hn12 : n = 12 := by have := HN.out; omega
  subst hn12
  have hp := HT4.out.place (i := j) (by omega)
  have HTH := Lib.hid hp.2.2
  have HT5 := Lib.hid (HT4.out.store (i := j) (by omega) ⟨1, [97], 0⟩)
  obtain ⟨w5, hw5⟩ : ∃ w5, w5 = w4.setCells g (j * 3) (ivC ⟨1, [97], 0⟩) := ⟨_, rfl⟩
  rw [← hw5] at HT5
  have HW5 := Lib.hid hw5
  have HSH5 : Hid (∀ y ∈ ys.set j ⟨1, [97], 0⟩, shI y) := Lib.hid (shI_set HSH.out.2 (by show ([97] : Bs).length ≤ 10; decide))
  have hl5 : (ys.set j ⟨1, [97], 0⟩).length = 12 := by rw [List.length_set]; omega
  obtain ⟨zs, hzs⟩ : ∃ zs, zs = ys.set j (⟨1, [97], 0⟩ : IV) := ⟨_, rfl⟩
  rw [← hzs] at HT5 HSH5 hl5
  have HL5 := Lib.hid hl5
  have HOK : Hid (memOk xss = true) := Lib.hid HBM.out.symm
  have hj0 : (0 : Int) ≤ (j : Int) := by omega
  have hjn : (j : Int) < 12 := by omega
  clear hp hw5 hzs hin hy12 hl5 hm4 HN HT4 HBM HBI HL1 HL2 HEND HBF
  go_wp2_with ((with_reducible refine store_is 36 (.tmp 44) (.tmp 43) ?_); refine store_arr 36 (.tmp 44) (.tmp 43) g (j * 3) #[.int .i64 1, .string ⟨#[97]⟩, .int .i64 0] rfl rfl HTH.out (by kernel_rfl) (by simp [Value.oneCell']) ?_; rw [show (#[.int .i64 1, .string ⟨#[97]⟩, .int .i64 0] : Array Value).toList = ivC ⟨1, [97], 0⟩ from rfl, ← HW5.out])
  have HSM := Lib.hid HS.out
  clear HTH HW5 HSH hm4' h40 h41 HS hB
  go_loopw [10] (fun i wr => ∃ (t : Nat) (xs2 : List (List Int)) (zs2 : List IV), t ≤ 4 ∧ i = .int .i64 t ∧ Hid (TabB w0 w B (k + 901 + 10 * t) C vm (.slice (some ⟨g, 0, none⟩) 12 c) xs2 zs2 wr) ∧ Hid (memOk xs2 = true) ∧ Hid (Small xs2) ∧ Hid (zs2.length = 12) ∧ Hid (∀ y ∈ zs2, shI y)) (fun i _ => 4 - (intOf i).toNat)
  case atStart => exact ⟨0, xss, zs, Nat.zero_le _, rfl, Lib.hid (HT5.out.mono (by omega)), HOK, HSM, HL5, HSH5⟩
  case round =>
    obtain ⟨t, xs2, zs2, ht, rfl, HT, HOK2, HSM2, HL2, HSH2⟩ := hrel
    clear HT5 HOK HSM HL5 HSH5
    by_cases hlt : t < 4
    · have hlt' : (t : Int) < 4 := by omega
      have ht0 : (0 : Int) ≤ (t : Int) := by omega
      obtain ⟨b, o, c1, g1, p1, d1, rfl, hb0, hb1, hc, hg0, hg1, hne, hx, hf, hst⟩ := HT.out.spot HOK2.out hj12 hlt
      have HT6 := Lib.hid (hst wr _ _ HT.out (fun q _ _ => rfl) 0)
      have HOK6 : Hid (memOk (mput xs2 j t 0) = true) := Lib.hid (mput_ok3 HOK2.out hj12 hlt (by omega) (by omega))
      have HSM6 : Hid (Small (mput xs2 j t 0)) := Lib.hid (small_mput HSM2.out)
      obtain ⟨w6, hw6⟩ : ∃ w6, w6 = wr.setCell ⟨g1, p1 + t, none⟩ (.int .i64 0) := ⟨_, rfl⟩
      rw [← hw6] at HT6
      have HW6 := Lib.hid hw6
      clear hst hw6 HT hb0 hb1 hg0 hg1 hne
      have HNX : Hid (∀ (w' : World) (zs' : List IV) (xs' : List (List Int)) (k' : Nat), k' ≤ k + 901 + 10 * (t + 1) → TabB w0 w B k' C (.slice (some ⟨b, o, none⟩) 12 c1) (.slice (some ⟨g, 0, none⟩) 12 c) xs' zs' w' → TabB w0 w B (k + 901 + 10 * (t + 1)) C (.slice (some ⟨b, o, none⟩) 12 c1) (.slice (some ⟨g, 0, none⟩) 12 c) xs' zs' w') := Lib.hid (fun w' zs' xs' k' hk' h => h.mono hk')
      go_wp2_with fail
      rw [← HW6.out]
      refine (pick_any w0 w6 B _ _ HT6.out.rdr (by omega) (by omega)).mono ?_
      rintro e w7 ⟨fi, hf0, hf1, rfl, hR7, hO7⟩
      have HT7 := Lib.hid (HT6.out.go hR7 hO7.grown)
      clear hR7 hO7 HT6 hc hx hf
      obtain ⟨i, rfl⟩ : ∃ i : Nat, fi = (i : Int) := ⟨fi.toNat, by omega⟩
      by_cases hij : (i : Int) = (j : Int)
      · have hij' : ((i : Int) != (j : Int)) = false := by simpa using hij
        have hij2 : i = j := by omega
        subst hij2
        clear hij hij'
        go_wp2_with fail
        go_roundw
        case rel => exact ⟨t + 1, _, _, by omega, by go_num, Lib.hid (HNX.out _ _ _ _ (by omega) HT7.out), HOK6, HSM6, HL2, HSH2⟩
        case measure => simp [intOf]; omega
      · have hij' : ((i : Int) != (j : Int)) = true := by simpa using hij
        have hij2 : ¬ i = j := by omega
        go_wp2_with fail
        refine (pick_any w0 w7 B _ _ HT7.out.rdr (by omega) (by omega)).mono ?_
        rintro e w8 ⟨m8, h80, h81, rfl, hR8, hO8⟩
        have HT8 := Lib.hid (HT7.out.go hR8 hO8.grown)
        clear hR8 hO8 HT7
        by_cases hm8 : 0 < m8
        · have HWR : Hid (IntKind.i64.wrap (kd - 1) = kd - 1) := Lib.hid (by have := isTab_iff.1 HBK.out.symm; rw [IntKind.wrap_i64]; omega)
          have hwr := HWR.out
          have hi0 : (0 : Int) ≤ (i : Int) := by omega
          have hi12 : (i : Int) < 12 := by omega
          have hi12' : i < 12 := by omega
          clear hf0 hf1
          go_wp2_with fail
          refine (pick_any w0 w8 B _ _ HT8.out.rdr (by omega) (by omega)).mono ?_
          rintro e w9 ⟨m9, h90, h91, rfl, hR9, hO9⟩
          have HT9 := Lib.hid (HT8.out.go hR9 hO9.grown)
          clear hR9 hO9 HT8 hm8
          have hp := HT9.out.place (i := i) (by have := HL2.out; omega)
          have HTH := Lib.hid hp.2.2
          have HTA := Lib.hid (HT9.out.store (i := i) (by have := HL2.out; omega) ⟨kd - 1, [97, 98], m9⟩)
          obtain ⟨wA, hwA⟩ : ∃ wA, wA = w9.setCells g (i * 3) (ivC ⟨kd - 1, [97, 98], m9⟩) := ⟨_, rfl⟩
          rw [← hwA] at HTA
          have HWA := Lib.hid hwA
          have HSHA : Hid (∀ y ∈ zs2.set i ⟨kd - 1, [97, 98], m9⟩, shI y) := Lib.hid (shI_set HSH2.out (by show ([97, 98] : Bs).length ≤ 10; decide))
          have HLA : Hid ((zs2.set i (⟨kd - 1, [97, 98], m9⟩ : IV)).length = 12) := Lib.hid (by rw [List.length_set]; exact HL2.out)
          obtain ⟨z3, hz3⟩ : ∃ z3, z3 = zs2.set i (⟨kd - 1, [97, 98], m9⟩ : IV) := ⟨_, rfl⟩
          rw [← hz3] at HTA HSHA HLA
          obtain ⟨b', o', c1', g2, p2, d2, e, hb0, hb1, hc, hg0, hg1, hne, hx, hf, hst⟩ := HTA.out.spot HOK6.out hj12 hlt
          injection e with e1 e2 e3
          injection e1 with e1
          injection e1 with e11 e12 e13
          subst e11 e12 e3
          clear e2 e13
          have HST := Lib.hid hst
          have HGB : Hid (g2 ≠ B ∧ b ≠ g2) := Lib.hid ⟨by have := HTA.out.hB; omega, hne⟩
          have HBB : Hid (b ≠ B ∧ b < C ∧ w.heap.size ≤ b) := Lib.hid ⟨by have := HTA.out.hB; omega, hb1, hb0⟩
          have HGC : Hid (g2 < C ∧ w.heap.size ≤ g2) := Lib.hid ⟨hg1, hg0⟩
          clear hp hwA hz3 hst hb0 hb1 hg0 hg1 hne HT9
          go_wp2_with ((with_reducible refine store_is 36 (.tmp 72) (.tmp 71) ?_); refine store_arr 36 (.tmp 72) (.tmp 71) g (i * 3) #[.int .i64 (kd - 1), .string ⟨#[97, 98]⟩, .int .i64 m9] rfl rfl HTH.out (by kernel_rfl) (by simp [Value.oneCell']) ?_; rw [show (#[.int .i64 (kd - 1), .string ⟨#[97, 98]⟩, .int .i64 m9] : Array Value).toList = ivC ⟨kd - 1, [97, 98], m9⟩ from rfl, ← HWA.out])
          refine wp_region_held_drew (S := fun w' => w'.cell? ⟨b, o + j, none⟩ = some (.slice (some ⟨g2, p2, none⟩) 4 d2)) (by kernel_rfl) hc (fun hHeld => ?_)
          refine wpAnyH_take (i := 0) (oi := { dst := some 73, op := .move (.tmp 8), type := _, pos := _, after := _, guard := none }) (v := .slice (some ⟨b, o, none⟩) 12 c1) rfl (by kernel_rfl) (by kernel_rfl) (by kernel_rfl) (fun _ _ _ h => h) (Or.inl ⟨by rfl, fun wh hSw => ?_⟩) hHeld ?_
          · (dsimp only at hSw; go_simp)
          try simp only [Act.put, List.setIfInBounds_toArray, List.set_cons_zero, List.set_cons_succ]
          refine wpAnyH_take (i := 1) (oi := { dst := some 74, op := .move (.tmp 1), type := _, pos := _, after := _, guard := none }) (v := .int .i64 (j : Int)) rfl (by kernel_rfl) (by kernel_rfl) (by kernel_rfl) (fun _ _ _ h => h) (Or.inl ⟨by rfl, fun wh hSw => ?_⟩) hHeld ?_
          · (dsimp only at hSw; go_simp)
          try simp only [Act.put, List.setIfInBounds_toArray, List.set_cons_zero, List.set_cons_succ]
          refine wpAnyH_take (i := 2) (oi := { dst := some 75, op := .indexAddr 26 (.tmp 73) (.tmp 74), type := _, pos := _, after := _, guard := none }) (v := .pointer (some ⟨b, o + j, none⟩)) rfl (by kernel_rfl) (by kernel_rfl) (by kernel_rfl) (fun _ _ _ h => h) (Or.inl ⟨by rfl, fun wh hSw => ?_⟩) hHeld ?_
          · (dsimp only at hSw; go_simp)
          try simp only [Act.put, List.setIfInBounds_toArray, List.set_cons_zero, List.set_cons_succ]
          refine wpAnyH_take (i := 3) (oi := { dst := some 76, op := .load 34 (.tmp 75), type := _, pos := _, after := _, guard := none }) (v := .slice (some ⟨g2, p2, none⟩) 4 d2) rfl (by kernel_rfl) (by kernel_rfl) (by kernel_rfl) (fun _ _ _ h => h) (Or.inl ⟨by rfl, fun wh hSw => ?_⟩) hHeld ?_
          · (dsimp only at hSw; go_simp)
          try simp only [Act.put, List.setIfInBounds_toArray, List.set_cons_zero, List.set_cons_succ]
          refine wpAnyH_take (i := 4) (oi := { dst := some 77, op := .move (.tmp 10), type := _, pos := _, after := _, guard := none }) (v := .int .i64 (t : Int)) rfl (by kernel_rfl) (by kernel_rfl) (by kernel_rfl) (fun _ _ _ h => h) (Or.inl ⟨by rfl, fun wh hSw => ?_⟩) hHeld ?_
          · (dsimp only at hSw; go_simp)
          try simp only [Act.put, List.setIfInBounds_toArray, List.set_cons_zero, List.set_cons_succ]
          refine wpAnyH_take (i := 5) (oi := { dst := some 78, op := .move (.tmp 11), type := _, pos := _, after := _, guard := none }) (v := .int .i64 (i : Int)) rfl (by kernel_rfl) (by kernel_rfl) (by kernel_rfl) (fun _ _ _ h => h) (Or.inl ⟨by rfl, fun wh hSw => ?_⟩) hHeld ?_
          · (dsimp only at hSw; go_simp)
          try simp only [Act.put, List.setIfInBounds_toArray, List.set_cons_zero, List.set_cons_succ]
          refine wpAnyH_take (i := 6) (oi := { dst := some 79, op := .move (.tmp 0), type := _, pos := _, after := _, guard := none }) (v := .pointer (some ⟨B, 0, none⟩)) rfl (by kernel_rfl) (by kernel_rfl) (by kernel_rfl) (fun _ _ _ h => h) (Or.inl ⟨by rfl, fun wh hSw => ?_⟩) hHeld ?_
          · (dsimp only at hSw; go_simp)
          try simp only [Act.put, List.setIfInBounds_toArray, List.set_cons_zero, List.set_cons_succ]
          refine wpAnyH_ready (rs := [7]) (by kernel_rfl) (by simp) ?_
          refine AllReadyH.cons (o := { dst := some 80, op := .call { callee := .value (.func 63), args := #[.tmp 79, .const (.int .i64 2)], argTypes := #[71, 3] }, type := _, pos := _, after := _, guard := none }) rfl (fun K hK => ?_) AllReadyH.nil
          go_simp
          refine (pick_any w0 _ B _ _ (rdr_drew HTA.out.rdr) (by omega) (by omega)).mono ?_
          rintro e wB ⟨mB, hB0, hB1, rfl, hRB, hOB⟩
          have hxB := (hOB.cell (o := p2 + t) HGB.out.1).trans hx
          have hfB := (World.frozen?_of_block (a := ⟨g2, p2 + t, none⟩) (hOB.2.2.2.2 g2 HGB.out.1)).trans hf
          have hcB := (hOB.cell (o := o + j) HBB.out.1).trans hc
          obtain ⟨bb, hbb⟩ : ∃ bb, (mB == 0) = bb := ⟨_, rfl⟩
          have HPUT := Lib.hid (fun w => l1Put_any w (i : Int) bb hi0 hi12)
          have hxb := put_bounds hi12' bb
          obtain ⟨x, hxx⟩ : ∃ x, x = (bif bb then 4 * (i : Int) + 3 else 4 * (i : Int) + 1) := ⟨_, rfl⟩
          rw [← hxx] at HPUT hxb
          have HTC := Lib.hid (HST.out wB (k + 901 + 10 * (t + 1)) z3 ((HTA.out.go hRB (grown_undrew hOB.grown)).mono (by omega)) (fun q h0 h1 => hOB.2.2.2.2 q (by have := HTA.out.hB; omega)) x)
          have HOKC : Hid (memOk (mput (mput xs2 j t 0) j t x) = true) := Lib.hid (mput_ok3 HOK6.out hj12 hlt hxb.1 hxb.2)
          have HSMC : Hid (Small (mput (mput xs2 j t 0) j t x)) := Lib.hid (small_mput HSM6.out)
          clear hRB hOB hxx hxb hx hf hc
          try go_simp
          refine hK.out _ _ ?_ (fun hHeld => ?_)
          · exact hcB
          clear hK K
          try simp only [Act.put, List.setIfInBounds_toArray, List.set_cons_zero, List.set_cons_succ]
          refine wpAnyH_take (i := 8) (oi := { dst := some 81, op := .binOp .eql 3 (.tmp 80) (.const (.int .i64 0)) 3, type := _, pos := _, after := _, guard := none }) (v := .bool bb) rfl (by kernel_rfl) (by kernel_rfl) (by kernel_rfl) (fun _ _ _ h => h) (Or.inl ⟨by rfl, fun wh hSw => ?_⟩) hHeld ?_
          · (dsimp only at hSw; go_simp)
          try simp only [Act.put, List.setIfInBounds_toArray, List.set_cons_zero, List.set_cons_succ]
          refine wpAnyH_ready (rs := [9]) (by kernel_rfl) (by simp) ?_
          refine AllReadyH.cons (o := { dst := some 82, op := .call { callee := .value (.func 103), args := #[.tmp 78, .tmp 81], argTypes := #[3, 4] }, type := _, pos := _, after := _, guard := none }) rfl (fun K hK => ?_) AllReadyH.nil
          go_simp
          refine (HPUT.out _).mono ?_
          rintro e w' ⟨rfl, rfl⟩
          try go_simp
          refine hK.out _ _ ?_ (fun hHeld => ?_)
          · exact hHeld
          clear hK K
          try simp only [Act.put, List.setIfInBounds_toArray, List.set_cons_zero, List.set_cons_succ]
          refine wpAnyH_take (i := 10) (oi := { dst := some 83, op := .indexAddr 34 (.tmp 76) (.tmp 77), type := _, pos := _, after := _, guard := none }) (v := .pointer (some ⟨g2, p2 + t, none⟩)) rfl (by kernel_rfl) (by kernel_rfl) (by kernel_rfl) (fun _ _ _ h => h) (Or.inl ⟨by rfl, fun wh hSw => ?_⟩) hHeld ?_
          · (dsimp only at hSw; go_simp)
          try simp only [Act.put, List.setIfInBounds_toArray, List.set_cons_zero, List.set_cons_succ]
          refine wpAnyH_ready (rs := [11]) (by kernel_rfl) (by simp) ?_
          refine AllReadyH.cons (o := { dst := none, op := .store 3 (.tmp 83) (.tmp 82), type := _, pos := _, after := _, guard := none }) rfl (fun K hK => ?_) AllReadyH.nil
          go_simp
          refine hK.out _ _ ?_ (fun hHeld => ?_)
          · exact (cell_set_other (.inl HGB.out.2)).trans hHeld
          clear hK K
          try simp only [Act.put, List.setIfInBounds_toArray, List.set_cons_zero, List.set_cons_succ]
          refine wpAnyH_done (by kernel_rfl) ?_ _
          go_wp2_with fail
          go_roundw
          case rel => exact ⟨t + 1, _, _, by omega, by go_num, HTC, HOKC, HSMC, HLA, HSHA⟩
          case measure => simp [intOf]; omega
        · have hm8' : decide (0 < m8) = false := by simpa using hm8
          go_wp2_with fail
          go_roundw
          case rel => exact ⟨t + 1, _, _, by omega, by go_num, Lib.hid (HNX.out _ _ _ _ (by omega) HT8.out), HOK6, HSM6, HL2, HSH2⟩
          case measure => simp [intOf]; omega
    · have HE := Lib.hid (HT.out.mono (k' := k + 1000) (by omega))
      go_wp2
      go_ret2
      exact ⟨_, _, xs2, zs2, C, rfl, HSM2.out, ⟨by have := HL2.out; omega, HSH2.out⟩, HE.out⟩
end Go.Proofs.Yticnfekjbknomaa
/- What the reference's TableOk and l13Add return. -/
namespace Go.Proofs.Yticnfekjbknomaa
open Go.ChangeShapes Go.WideShapes Go.ChangeAt Go.RowKit
set_option linter.unusedVariables false

set_option maxHeartbeats 1000000 in
theorem l13Ok_any (w : World) (vm vl vr : Value) (xss : List (List Int)) (ys : List IV) (rs : List Bs) (f k : Int) (h : Rows2 w vm xss) (hm : memOk xss = true) (hl : Is w vl ys) (hn : ys.length = 12) (hs : ShortI ys) (hr : Strs w vr rs) (hrs : Short rs) (hf : 0 ≤ f ∧ f ≤ 11) (hk : isTab k = true) :
    Calls Try.prog 72 #[vm, vl, .int .i64 f, .int .i64 k, vr] w (Says (tgood xss ys f k rs) w) := by
  obtain ⟨j, rfl⟩ : ∃ j : Nat, f = (j : Int) := ⟨f.toNat, by omega⟩
  have hj12 : j < 12 := by omega
  have HW := Lib.hid (fun i (hi : i < 4) => h.word hm (i := j) (j := i) hj12 hi)
  have HB := Lib.hid (fun i (hi : i < 4) => wd_bounds hm (i := j) (j := i) hj12 hi)
  have HE := Lib.hid (fun x hx => l13Entry_any w vl vr ys rs (j : Int) x k hl hn hs hr hrs hx hk)
  obtain ⟨r, hr⟩ : ∃ r, r = tgood xss ys (j : Int) k rs := ⟨_, rfl⟩
  rw [← hr]
  have HT : Hid (∀ i, i < 4 → tent ys (j : Int) (wd xss j i) k rs = false → r = false) := Lib.hid (fun i hi hb => by
    rw [hr, Bool.eq_false_iff]
    intro hh
    have := tgood_iff.1 hh i hi
    rw [Int.toNat_natCast, hb] at this
    cases this)
  have HT2 : Hid ((∀ i, i < 4 → tent ys (j : Int) (wd xss j i) k rs = true) → r = true) := Lib.hid (fun hb => by
    rw [hr]
    exact tgood_iff.2 (fun i hi => by rw [Int.toNat_natCast]; exact hb i hi))
  have hj0 : (0 : Int) ≤ (j : Int) := by omega
  have hjn : (j : Int) < 12 := by omega
  clear h hm hl hn hs hrs hf hk hr
  go_enter Try.func72, Try.ntmps72
  go_wp2
  go_loop [11] (fun i => ∃ n : Nat, n ≤ 4 ∧ i = .int .i64 n ∧ Hid (∀ t, t < n → tent ys (j : Int) (wd xss j t) k rs = true)) (fun i => 4 - (intOf i).toNat)
  case atStart => exact ⟨0, Nat.zero_le _, rfl, Lib.hid (fun t ht => by omega)⟩
  case round =>
    obtain ⟨n, hn4, rfl, HP⟩ := hrel
    by_cases hlt : n < 4
    · have hlt' : (n : Int) < 4 := by omega
      have hn0 : (0 : Int) ≤ (n : Int) := by omega
      obtain ⟨b, o, c, g, p, d, rfl, hc, hx⟩ := HW.out n hlt
      have hbd := HB.out n hlt
      have HN := Lib.hid (HT.out n hlt)
      unfold wd at hbd HN
      have HX := Lib.hid (HE.out _ hbd)
      have HP2 : Hid (tent ys (j : Int) ((xss.getD j []).getD n 0) k rs = true → ∀ t, t < n + 1 → tent ys (j : Int) (wd xss j t) k rs = true) := Lib.hid (fun hb t ht => by
        by_cases e : t = n
        · subst e; exact hb
        · exact HP.out t (by omega))
      obtain ⟨x, hxx⟩ : ∃ x, x = (xss.getD j []).getD n 0 := ⟨_, rfl⟩
      rw [← hxx] at hx HN HX HP2
      clear hbd hxx
      obtain ⟨q, hq⟩ : ∃ q, q = tent ys (j : Int) x k rs := ⟨_, rfl⟩
      rw [← hq] at HN HX HP2
      clear hq
      cases q with
      | false =>
        go_wp2_with fail
        refine HX.out.mono ?_
        rintro e w' ⟨rfl, rfl⟩
        go_wp2_with fail
        go_ret
        exact says_mk (HN.out (by trivial)).symm
      | true =>
        go_wp2_with fail
        refine HX.out.mono ?_
        rintro e w' ⟨rfl, rfl⟩
        go_wp2_with fail
        go_round
        case rel => exact ⟨n + 1, by omega, by go_num, Lib.hid (HP2.out (by trivial))⟩
        case measure => simp [intOf]; omega
    · have e : n = 4 := by omega
      subst e
      go_wp2
      go_ret
      exact says_mk (HT2.out HP.out).symm
set_option maxHeartbeats 1000000 in
theorem sTableOk_any (w : World) (vm vl vr : Value) (xss : List (List Int)) (ys : List IV) (rs : List Bs) (f k : Int) (h : Rows2 w vm xss) (hl : Is w vl ys) (hs : ShortI ys) (hr : Strs w vr rs) (hrs : Short rs) :
    Calls Try.prog 25 #[vm, vl, .int .i64 f, .int .i64 k, vr] w (BRes (tok8 xss ys f k rs) w) := by
  have HA := Lib.hid (l13Args_any w vm vl xss ys f h hl hs)
  have HK := Lib.hid (fun w => l13Table_any w k)
  have HV : Hid (∀ w' : World, Below w.heap.size w w' → Calls Try.prog 29 #[vr] w' (Reads (.bool (rvs rs)) w')) := Lib.hid (fun w' hb => sRightsValid_any w' vr rs (hr.below hb) hrs)
  have HO : Hid (∀ w' : World, Below w.heap.size w w' → targ xss ys f = true → isTab k = true → Calls Try.prog 72 #[vm, vl, .int .i64 f, .int .i64 k, vr] w' (Says (tgood xss ys f k rs) w')) := Lib.hid (fun w' hb h1 h2 => by
    obtain ⟨hm, hf, hi⟩ := targ_iff.1 h1
    exact l13Ok_any w' vm vl vr xss ys rs f k (h.below hb) hm (hl.below hb) (isok_len hi) hs (hr.below hb) hrs hf h2)
  unfold tok8
  clear h hl hs hr hrs
  obtain ⟨b1, hb1⟩ : ∃ b, b = targ xss ys f := ⟨_, rfl⟩
  obtain ⟨b2, hb2⟩ : ∃ b, b = isTab k := ⟨_, rfl⟩
  obtain ⟨b3, hb3⟩ : ∃ b, b = rvs rs := ⟨_, rfl⟩
  obtain ⟨b4, hb4⟩ : ∃ b, b = tgood xss ys f k rs := ⟨_, rfl⟩
  rw [← hb1] at HA HO ⊢
  rw [← hb2] at HK HO ⊢
  rw [← hb3] at HV ⊢
  rw [← hb4] at HO ⊢
  clear hb1 hb2 hb3 hb4
  cases b1 with
  | false =>
    go_enter Try.func25, Try.ntmps25
    go_wp2_with fail
    refine HA.out.mono ?_
    rintro e w1 ⟨rfl, hb⟩
    have B1 := Lib.hid hb
    clear hb
    go_wp2_with fail
    go_ret
    exact ⟨rfl, B1.out⟩
  | true =>
    cases b2 with
    | false =>
      go_enter Try.func25, Try.ntmps25
      go_wp2_with fail
      refine HA.out.mono ?_
      rintro e w1 ⟨rfl, hb⟩
      have B1 := Lib.hid hb
      clear hb
      go_wp2_with fail
      refine (HK.out w1).mono ?_
      rintro e w' ⟨rfl, rfl⟩
      go_wp2_with fail
      go_ret
      exact ⟨rfl, B1.out⟩
    | true =>
      cases b3 with
      | false =>
        go_enter Try.func25, Try.ntmps25
        go_wp2_with fail
        refine HA.out.mono ?_
        rintro e w1 ⟨rfl, hb⟩
        have B1 := Lib.hid hb
        have HV1 := Lib.hid (HV.out w1 hb)
        clear hb
        go_wp2_with fail
        refine (HK.out w1).mono ?_
        rintro e w' ⟨rfl, rfl⟩
        go_wp2_with fail
        refine HV1.out.mono ?_
        rintro e w2 ⟨rfl, nd, hnd⟩
        have B2 : Hid (Below w.heap.size w w2) := Lib.hid (by rw [hnd]; exact Below.chg B1.out (Chg.of_drewN _ nd) B1.out.size (.inr rfl))
        clear hnd
        go_wp2_with fail
        go_ret
        exact ⟨rfl, B2.out⟩
      | true =>
        go_enter Try.func25, Try.ntmps25
        go_wp2_with fail
        refine HA.out.mono ?_
        rintro e w1 ⟨rfl, hb⟩
        have B1 := Lib.hid hb
        have HV1 := Lib.hid (HV.out w1 hb)
        clear hb
        go_wp2_with fail
        refine (HK.out w1).mono ?_
        rintro e w' ⟨rfl, rfl⟩
        go_wp2_with fail
        refine HV1.out.mono ?_
        rintro e w2 ⟨rfl, nd, hnd⟩
        have B2 : Hid (Below w.heap.size w w2) := Lib.hid (by rw [hnd]; exact Below.chg B1.out (Chg.of_drewN _ nd) B1.out.size (.inr rfl))
        have HO2 := Lib.hid (HO.out w2 B2.out (by trivial) (by trivial))
        clear hnd
        go_wp2_with fail
        refine HO2.out.mono ?_
        rintro e w' ⟨rfl, rfl⟩
        go_wp2_with fail
        go_ret
        exact ⟨by simp, B2.out⟩
end Go.Proofs.Yticnfekjbknomaa
/- What the reference's counts of tables' words return. -/
namespace Go.Proofs.Yticnfekjbknomaa
open Go.ChangeShapes Go.WideShapes Go.ChangeAt Go.RowKit
set_option linter.unusedVariables false

theorem addL_snoc (n : Int) (ys : List IV) (fs : List Int) {t : Nat} (ht : t < fs.length) : addL n ys (fs.take (t + 1)) = bump n (addL n ys (fs.take t)) (fs.getD t 0) := by
  unfold addL
  rw [take_snoc_getD fs t 0 ht, List.foldl_append]
  rfl
/-- the uses are few -/
def FewI (ys : List IV) : Prop := ∀ y ∈ ys, -100 ≤ y.r ∧ y.r ≤ 100
theorem FewI.at {ys : List IV} (h : FewI ys) (i : Nat) : -100 ≤ (ys.getD i iz).r ∧ (ys.getD i iz).r ≤ 100 := by
  by_cases hi : i < ys.length
  · rw [getD_lt hi]; exact h _ (List.getElem_mem hi)
  · rw [List.getD, List.getElem?_eq_none (Nat.le_of_not_lt hi)]; exact ⟨by decide, by decide⟩
theorem iok_few {y : IV} (h : iok y = true) : -100 ≤ y.r ∧ y.r ≤ 100 := by
  by_cases hk : y.k = 0
  · rw [iok_free h hk]; exact ⟨by decide, by decide⟩
  · have := (iok_used h hk).2.2; omega
theorem isok_few {ys : List IV} (h : isok ys = true) : FewI ys := fun y hy => by
  obtain ⟨i, hi, e⟩ := List.getElem_of_mem hy
  have := iok_few (isok_at h hi)
  rw [getD_lt hi, e] at this
  exact this
theorem count_take_le (fs : List Int) (t : Nat) (j : Int) : (fs.take t).count j ≤ fs.length := by
  have h1 := List.count_le_length (a := j) (l := fs.take t)
  rw [List.length_take] at h1
  omega
theorem setCell_chg (w : World) (g o : Nat) (v : Value) : Chg g (g + 1) w (w.setCell ⟨g, o, none⟩ v) :=
  ⟨rfl, rfl, rfl, by simp [World.setCell], fun b _ hb => Below.heap_setCell w ⟨g, o, none⟩ _ b (by show b ≠ g; omega)⟩
theorem size_setCell (w : World) (g o : Nat) (v : Value) : (w.setCell ⟨g, o, none⟩ v).heap.size = w.heap.size := by simp [World.setCell]
theorem Is.nilOk {w : World} {v : Value} {xs : List IV} (h : Is w v xs) (hl : 0 < xs.length) : NilOkI v := by
  obtain ⟨a, cap, rfl, h1, h2, h3⟩ := h
  obtain ⟨b, o, rfl, _⟩ := h3 0 hl
  exact nilOkI_some
structure AddRel (w : World) (C D : Nat) (vo vn : Value) (zs : List IV) (fs : List Int) (wr : World) : Prop where
  out : IsW wr w.heap.size C vo zs
  nam : IntsW wr C D vn fs
  bel : Below w.heap.size w wr
  size : wr.heap.size = D
  lo : w.heap.size ≤ C
  hi : C ≤ D
theorem chg_drew (w : World) : Chg 0 0 w w.drew := ⟨rfl, rfl, rfl, Nat.le_refl _, fun _ _ _ => rfl⟩
theorem AddRel.drew {w : World} {C D : Nat} {vo vn : Value} {zs : List IV} {fs : List Int} {wr : World} (h : AddRel w C D vo vn zs fs wr) : AddRel w C D vo vn zs fs wr.drew :=
  ⟨h.out.chg (chg_drew wr) (by have := h.size; have := h.hi; omega) (.inr (Nat.zero_le _)), h.nam.chg (chg_drew wr) (by have := h.size; omega) (.inr (Nat.zero_le _)), h.bel.drew, h.size, h.lo, h.hi⟩
/-- a use more, or less, of one frame -/
theorem AddRel.bump {w : World} {C D : Nat} {vo vn : Value} {zs : List IV} {fs : List Int} {wr : World} (h : AddRel w C D vo vn zs fs wr) {j : Nat} (hj : j < zs.length) (n : Int) :
    ∃ g p c, vo = .slice (some ⟨g, p, none⟩) zs.length c ∧ g < C ∧ TriW wr g (p + j * 3) (zs.getD j iz) ∧ AddRel w C D vo vn (bump n zs (j : Int)) fs (wr.setCell ⟨g, p + j * 3 + 2, none⟩ (.int .i64 ((zs.getD j iz).r + n))) := by
  obtain ⟨g, p, c, rfl, hg0, hg1, ht⟩ := h.out.place hj
  refine ⟨g, p, c, rfl, hg1, ht, ?_, ?_, ?_, by rw [size_setCell]; exact h.size, h.lo, h.hi⟩
  · have := h.out.upd (w' := wr.setCell ⟨g, p + j * 3 + 2, none⟩ (.int .i64 ((zs.getD j iz).r + n))) rfl hj (ht.set2 ((zs.getD j iz).r + n)) (fun i y hi hy => hy.off (.inr (by omega)) _)
    unfold Go.Proofs.Yticnfekjbknomaa.bump
    rw [Int.toNat_natCast]
    exact this
  · exact h.nam.chg (setCell_chg _ _ _ _) (by have := h.size; omega) (.inr (by omega))
  · exact h.bel.setCell (p := ⟨g, p + j * 3 + 2, none⟩) hg0 _
set_option maxRecDepth 100000 in
set_option maxHeartbeats 2000000 in
theorem l13Add_any (w : World) (vm vl : Value) (xss : List (List Int)) (ys : List IV) (j : Nat) (n : Int) (h : Rows2 w vm xss) (hm : memOk xss = true) (hl : Is w vl ys) (hn : ys.length = 12) (hf : j < 12) (hfew : FewI ys) (hn1 : n = 1 ∨ n = -1) :
    Calls Try.prog 89 #[vm, vl, .int .i64 j, .int .i64 n] w (NewV (addL n ys (named (xss.getD j []))) w) := by
  have hnil := hl.nilOk (by omega)
  have hr := mem_row hm hf
  have hlm := mem_len hm
  obtain ⟨a, c, rfl, q1, q2, q3⟩ := h
  obtain ⟨b, o, u, rfl, hc, hu⟩ := q3 j (by omega)
  have HU := Lib.hid hu
  have hbd : ∀ i, i < (xss.getD j []).length → 0 ≤ (xss.getD j []).getD i 0 ∧ (xss.getD j []).getD i 0 ≤ 9999 := fun i hi => wd_bounds hm hf (by omega)
  have HBD := Lib.hid hbd
  rw [hlm] at q1 ⊢
  obtain ⟨xs, hxs⟩ : ∃ xs, xs = xss.getD j [] := ⟨_, rfl⟩
  rw [← hxs] at HU HBD hr ⊢
  have HFS := Lib.hid (named_len xs)
  have HIN : Hid (∀ f ∈ named xs, 0 ≤ f ∧ f < 12) := Lib.hid (fun f hf => named_in hf)
  obtain ⟨fs, hfs⟩ : ∃ fs, fs = named xs := ⟨_, rfl⟩
  rw [← hfs] at HFS HIN ⊢
  have HNX := Lib.hid hfs
  clear hfs
  have HR := Lib.hid hr
  have HL := Lib.hid hl
  have HN := Lib.hid hn
  have HFEW := Lib.hid hfew
  have HCB := Lib.hid (cell_lt hc)
  unfold maxLen at q2
  have hj0 : (0 : Int) ≤ (j : Int) := by omega
  have hjn : (j : Int) < 12 := by omega
  clear hxs hu hbd q3 hm hlm hr hl hn hfew
  have HSO := Lib.hid (OwnV.start w)
  have H2 := Lib.hid (HL.out.below HSO.out.bel)
  have HC := Lib.hid hc
  clear hc
  go_enter Try.func89, Try.ntmps89
  go_wp2_with (at_builtin; refine wpList_append_is (.tmp 12) (.tmp 13) w _ [] rfl HSO.out _ ys rfl H2.out hnil (by simp only [List.length_nil]; have := HN.out; omega) ?_; intro v1 w1 hown1 hnn1 hgrow1; have hcell := (hown1.bel.cell (p := ⟨b, o + j, none⟩) HCB.out).trans HC.out)
  rw [List.nil_append] at hown1
  have HO1 := Lib.hid hown1
  clear hown1 hnn1 hgrow1 hcell
  have HUN := Lib.hid (l3Named_any w1 u xs (HU.out.below (B := 0) HO1.out.bel) (by have := HR.out; omega) HBD.out)
  rw [← HNX.out] at HUN
  go_wp2_with fail
  refine HUN.out.mono ?_
  rintro e w2 ⟨vn, rfl, hown2⟩
  have hnw := IntsW.of_own hown2
  have hb2 := hown2.bel
  have hz1 := HO1.out.bel.size
  have hAR : AddRel w w1.heap.size w2.heap.size v1 vn ys fs w2 := ⟨HO1.out.row.below hb2 (Nat.le_refl _), hnw, HO1.out.bel.trans (hb2.mono hz1), rfl, hz1, hb2.size⟩
  obtain ⟨C, hC⟩ : ∃ C, C = w1.heap.size := ⟨_, rfl⟩
  obtain ⟨D, hD⟩ : ∃ D, D = w2.heap.size := ⟨_, rfl⟩
  rw [← hC, ← hD] at hAR
  have HAR := Lib.hid hAR
  have HCC := Lib.hid hC
  have HDD := Lib.hid hD
  obtain ⟨a2, c2, rfl, p1, p2, p3⟩ := hnw
  unfold maxLen at p2
  obtain ⟨m, hm⟩ : ∃ m, m = fs.length := ⟨_, rfl⟩
  have hm4 : m ≤ 4 := by have := HFS.out; have := HR.out; omega
  rw [← hm] at p1 HAR
  have HM := Lib.hid hm
  clear hown2 hb2 hz1 hAR hC hD p3
  rw [← hm]
  clear hm
  go_wp2_with fail
  go_loopw [11] (fun i wr => ∃ t : Nat, t ≤ m ∧ i = .int .i64 t ∧ Hid (AddRel w C D v1 (.slice a2 m c2) (addL n ys (fs.take t)) fs wr)) (fun i _ => m - (intOf i).toNat)
  case atStart => exact ⟨0, Nat.zero_le _, rfl, HAR⟩
  case round =>
    obtain ⟨t, ht, rfl, HA⟩ := hrel
    by_cases hlt : t < m
    · have hlt' : (t : Int) < (m : Int) := by omega
      have ht0 : (0 : Int) ≤ (t : Int) := by omega
      have htf : t < fs.length := by have := HM.out; omega
      have hfin := HIN.out _ (List.getElem_mem htf)
      obtain ⟨a3, c3, e3, _, _, p3⟩ := HA.out.nam
      injection e3 with e31 e32 e33
      subst e31
      clear e32 e33
      obtain ⟨g2, p, rfl, hg2C, -, hcf, -⟩ := p3 t htf
      have hsn := addL_snoc n ys fs htf
      rw [getD_lt htf] at hcf hsn
      obtain ⟨x, hx⟩ : ∃ x, x = fs[t] := ⟨_, rfl⟩
      rw [← hx] at hfin hcf hsn
      obtain ⟨i, rfl⟩ : ∃ i : Nat, x = (i : Int) := ⟨x.toNat, by omega⟩
      obtain ⟨zs, hzs⟩ : ∃ zs, zs = addL n ys (fs.take t) := ⟨_, rfl⟩
      have hzl : zs.length = 12 := by rw [hzs, addL_len]; exact HN.out
      have hzr : -104 ≤ (zs.getD i iz).r ∧ (zs.getD i iz).r ≤ 104 := by
        rw [hzs, addL_get n _ _ i (fun f hf => by have := HIN.out f (List.mem_of_mem_take hf); have := HN.out; omega)]
        have h1 := count_take_le fs t (i : Int)
        have h2 := HFEW.out.at i
        have := HM.out
        show -104 ≤ (ys.getD i iz).r + n * ((fs.take t).count (i : Int) : Int) ∧ (ys.getD i iz).r + n * ((fs.take t).count (i : Int) : Int) ≤ 104
        rcases hn1 with rfl | rfl <;> omega
      rw [← hzs] at HA hsn
      obtain ⟨g, p0, c0, hv1, hgC, htri, hAR⟩ := HA.out.bump (j := i) (by omega) n
      rw [hzl] at hv1
      subst hv1
      rw [← hsn] at hAR
      have HAR2 := Lib.hid hAR
      obtain ⟨y, hy⟩ : ∃ y, y = zs.getD i iz := ⟨_, rfl⟩
      rw [← hy] at htri hzr HAR2
      have hgg : g2 ≠ g := by omega
      have hc2 := htri.at3.c2
      have hf2 := htri.fr 2 (by omega)
      have hi0 : (0 : Int) ≤ (i : Int) := by omega
      have hi12 : (i : Int) < 12 := by omega
      have hwr : IntKind.i64.wrap (y.r + n) = y.r + n := by rw [IntKind.wrap_i64]; rcases hn1 with rfl | rfl <;> omega
      clear hfin p3 hsn hx hzs hzl hzr hAR hy htri htf HA
      go_wp2_with fail
      refine wp_region_held_drew (S := fun w' => w'.cell? ⟨g2, p + t, none⟩ = some (.int .i64 (i : Int))) (by kernel_rfl) hcf (fun hHeld => ?_)
      refine wpAnyH_take (i := 0) (oi := { dst := some 26, op := .move (.tmp 9), type := _, pos := _, after := _, guard := none }) (v := .slice (some ⟨g, p0, none⟩) 12 c0) rfl (by kernel_rfl) (by kernel_rfl) (by kernel_rfl) (fun _ _ _ h => h) (Or.inl ⟨by rfl, fun wh hSw => ?_⟩) hHeld ?_
      · (dsimp only at hSw; go_simp)
      try simp only [Act.put, List.setIfInBounds_toArray, List.set_cons_zero, List.set_cons_succ]
      refine wpAnyH_take (i := 1) (oi := { dst := some 27, op := .move (.tmp 10), type := _, pos := _, after := _, guard := none }) (v := .slice (some ⟨g2, p, none⟩) m c2) rfl (by kernel_rfl) (by kernel_rfl) (by kernel_rfl) (fun _ _ _ h => h) (Or.inl ⟨by rfl, fun wh hSw => ?_⟩) hHeld ?_
      · (dsimp only at hSw; go_simp)
      try simp only [Act.put, List.setIfInBounds_toArray, List.set_cons_zero, List.set_cons_succ]
      refine wpAnyH_take (i := 2) (oi := { dst := some 28, op := .move (.tmp 11), type := _, pos := _, after := _, guard := none }) (v := .int .i64 (t : Int)) rfl (by kernel_rfl) (by kernel_rfl) (by kernel_rfl) (fun _ _ _ h => h) (Or.inl ⟨by rfl, fun wh hSw => ?_⟩) hHeld ?_
      · (dsimp only at hSw; go_simp)
      try simp only [Act.put, List.setIfInBounds_toArray, List.set_cons_zero, List.set_cons_succ]
      refine wpAnyH_take (i := 3) (oi := { dst := some 29, op := .indexAddr 34 (.tmp 27) (.tmp 28), type := _, pos := _, after := _, guard := none }) (v := .pointer (some ⟨g2, p + t, none⟩)) rfl (by kernel_rfl) (by kernel_rfl) (by kernel_rfl) (fun _ _ _ h => h) (Or.inl ⟨by rfl, fun wh hSw => ?_⟩) hHeld ?_
      · (dsimp only at hSw; go_simp)
      try simp only [Act.put, List.setIfInBounds_toArray, List.set_cons_zero, List.set_cons_succ]
      refine wpAnyH_take (i := 4) (oi := { dst := some 30, op := .load 3 (.tmp 29), type := _, pos := _, after := _, guard := none }) (v := .int .i64 (i : Int)) rfl (by kernel_rfl) (by kernel_rfl) (by kernel_rfl) (fun _ _ _ h => h) (Or.inl ⟨by rfl, fun wh hSw => ?_⟩) hHeld ?_
      · (dsimp only at hSw; go_simp)
      try simp only [Act.put, List.setIfInBounds_toArray, List.set_cons_zero, List.set_cons_succ]
      refine wpAnyH_take (i := 5) (oi := { dst := some 31, op := .move (.tmp 9), type := _, pos := _, after := _, guard := none }) (v := .slice (some ⟨g, p0, none⟩) 12 c0) rfl (by kernel_rfl) (by kernel_rfl) (by kernel_rfl) (fun _ _ _ h => h) (Or.inl ⟨by rfl, fun wh hSw => ?_⟩) hHeld ?_
      · (dsimp only at hSw; go_simp)
      try simp only [Act.put, List.setIfInBounds_toArray, List.set_cons_zero, List.set_cons_succ]
      refine wpAnyH_take (i := 6) (oi := { dst := some 32, op := .move (.tmp 10), type := _, pos := _, after := _, guard := none }) (v := .slice (some ⟨g2, p, none⟩) m c2) rfl (by kernel_rfl) (by kernel_rfl) (by kernel_rfl) (fun _ _ _ h => h) (Or.inl ⟨by rfl, fun wh hSw => ?_⟩) hHeld ?_
      · (dsimp only at hSw; go_simp)
      try simp only [Act.put, List.setIfInBounds_toArray, List.set_cons_zero, List.set_cons_succ]
      refine wpAnyH_take (i := 7) (oi := { dst := some 33, op := .move (.tmp 11), type := _, pos := _, after := _, guard := none }) (v := .int .i64 (t : Int)) rfl (by kernel_rfl) (by kernel_rfl) (by kernel_rfl) (fun _ _ _ h => h) (Or.inl ⟨by rfl, fun wh hSw => ?_⟩) hHeld ?_
      · (dsimp only at hSw; go_simp)
      try simp only [Act.put, List.setIfInBounds_toArray, List.set_cons_zero, List.set_cons_succ]
      refine wpAnyH_take (i := 8) (oi := { dst := some 34, op := .indexAddr 34 (.tmp 32) (.tmp 33), type := _, pos := _, after := _, guard := none }) (v := .pointer (some ⟨g2, p + t, none⟩)) rfl (by kernel_rfl) (by kernel_rfl) (by kernel_rfl) (fun _ _ _ h => h) (Or.inl ⟨by rfl, fun wh hSw => ?_⟩) hHeld ?_
      · (dsimp only at hSw; go_simp)
      try simp only [Act.put, List.setIfInBounds_toArray, List.set_cons_zero, List.set_cons_succ]
      refine wpAnyH_take (i := 9) (oi := { dst := some 35, op := .load 3 (.tmp 34), type := _, pos := _, after := _, guard := none }) (v := .int .i64 (i : Int)) rfl (by kernel_rfl) (by kernel_rfl) (by kernel_rfl) (fun _ _ _ h => h) (Or.inl ⟨by rfl, fun wh hSw => ?_⟩) hHeld ?_
      · (dsimp only at hSw; go_simp)
      try simp only [Act.put, List.setIfInBounds_toArray, List.set_cons_zero, List.set_cons_succ]
      refine wpAnyH_take (i := 10) (oi := { dst := some 36, op := .indexAddr 27 (.tmp 31) (.tmp 35), type := _, pos := _, after := _, guard := none }) (v := .pointer (some ⟨g, p0 + i * 3, none⟩)) rfl (by kernel_rfl) (by kernel_rfl) (by kernel_rfl) (fun _ _ _ h => h) (Or.inl ⟨by rfl, fun wh hSw => ?_⟩) hHeld ?_
      · (dsimp only at hSw; go_simp)
      try simp only [Act.put, List.setIfInBounds_toArray, List.set_cons_zero, List.set_cons_succ]
      refine wpAnyH_take (i := 11) (oi := { dst := some 37, op := .fieldAddr 36 (.tmp 36) 2, type := _, pos := _, after := _, guard := none }) (v := .pointer (some ⟨g, p0 + i * 3 + 2, none⟩)) rfl (by kernel_rfl) (by kernel_rfl) (by kernel_rfl) (fun _ _ _ h => h) (Or.inl ⟨by rfl, fun wh hSw => ?_⟩) hHeld ?_
      · (dsimp only at hSw; go_simp)
      try simp only [Act.put, List.setIfInBounds_toArray, List.set_cons_zero, List.set_cons_succ]
      refine wpAnyH_take (i := 13) (oi := { dst := some 39, op := .move (.tmp 3), type := _, pos := _, after := _, guard := none }) (v := .int .i64 n) rfl (by kernel_rfl) (by kernel_rfl) (by kernel_rfl) (fun _ _ _ h => h) (Or.inl ⟨by rfl, fun wh hSw => ?_⟩) hHeld ?_
      · (dsimp only at hSw; go_simp)
      try simp only [Act.put, List.setIfInBounds_toArray, List.set_cons_zero, List.set_cons_succ]
      refine wpAnyH_ready (rs := [12]) (by kernel_rfl) (by simp) ?_
      refine AllReadyH.cons (o := { dst := some 38, op := .load 3 (.tmp 37), type := _, pos := _, after := _, guard := none }) rfl (fun K hK => ?_) AllReadyH.nil
      go_simp
      refine hK.out _ _ ?_ (fun hHeld => ?_)
      · exact hHeld
      clear hK K
      try simp only [Act.put, List.setIfInBounds_toArray, List.set_cons_zero, List.set_cons_succ]
      refine wpAnyH_take (i := 14) (oi := { dst := some 40, op := .binOp .add 3 (.tmp 38) (.tmp 39) 3, type := _, pos := _, after := _, guard := none }) (v := .int .i64 (y.r + n)) rfl (by kernel_rfl) (by kernel_rfl) (by kernel_rfl) (fun _ _ _ h => h) (Or.inl ⟨by rfl, fun wh hSw => ?_⟩) hHeld ?_
      · (dsimp only at hSw; go_simp)
      try simp only [Act.put, List.setIfInBounds_toArray, List.set_cons_zero, List.set_cons_succ]
      refine wpAnyH_take (i := 15) (oi := { dst := some 41, op := .indexAddr 27 (.tmp 26) (.tmp 30), type := _, pos := _, after := _, guard := none }) (v := .pointer (some ⟨g, p0 + i * 3, none⟩)) rfl (by kernel_rfl) (by kernel_rfl) (by kernel_rfl) (fun _ _ _ h => h) (Or.inl ⟨by rfl, fun wh hSw => ?_⟩) hHeld ?_
      · (dsimp only at hSw; go_simp)
      try simp only [Act.put, List.setIfInBounds_toArray, List.set_cons_zero, List.set_cons_succ]
      refine wpAnyH_take (i := 16) (oi := { dst := some 42, op := .fieldAddr 36 (.tmp 41) 2, type := _, pos := _, after := _, guard := none }) (v := .pointer (some ⟨g, p0 + i * 3 + 2, none⟩)) rfl (by kernel_rfl) (by kernel_rfl) (by kernel_rfl) (fun _ _ _ h => h) (Or.inl ⟨by rfl, fun wh hSw => ?_⟩) hHeld ?_
      · (dsimp only at hSw; go_simp)
      try simp only [Act.put, List.setIfInBounds_toArray, List.set_cons_zero, List.set_cons_succ]
      refine wpAnyH_ready (rs := [17]) (by kernel_rfl) (by simp) ?_
      refine AllReadyH.cons (o := { dst := none, op := .store 3 (.tmp 42) (.tmp 40), type := _, pos := _, after := _, guard := none }) rfl (fun K hK => ?_) AllReadyH.nil
      go_simp
      refine hK.out _ _ ?_ (fun hHeld => ?_)
      · exact (cell_set_other (.inl hgg)).trans hHeld
      clear hK K
      try simp only [Act.put, List.setIfInBounds_toArray, List.set_cons_zero, List.set_cons_succ]
      refine wpAnyH_done (by kernel_rfl) ?_ _
      go_wp2_with fail
      go_roundw
      case rel => exact ⟨t + 1, by omega, by go_num, Lib.hid HAR2.out.drew⟩
      case measure => simp [intOf]; omega
    · have e : t = m := by omega
      subst e
      have HV : Hid (IsW wr w.heap.size wr.heap.size v1 (addL n ys fs) ∧ Below w.heap.size w wr) := Lib.hid ⟨by
        have := HA.out.out
        rw [take_all HM.out] at this
        exact this.wide (Nat.le_refl _) (by have := HA.out.hi; have := HA.out.size; omega), HA.out.bel⟩
      go_wp2
      go_ret
      exact ⟨_, rfl, HV.out.1, HV.out.2⟩
end Go.Proofs.Yticnfekjbknomaa
/- What the reference's TableCount returns. -/
namespace Go.Proofs.Yticnfekjbknomaa
open Go.ChangeShapes Go.WideShapes Go.ChangeAt Go.RowKit
set_option linter.unusedVariables false

def cl (F : Nat → Nat) : List Int := (List.range 12).map (fun j => (F j : Int))
theorem cl_len (F : Nat → Nat) : (cl F).length = 12 := by simp [cl]
theorem cl_get (F : Nat → Nat) {j : Nat} (hj : j < 12) : (cl F).getD j 0 = (F j : Int) := by
  unfold cl
  rw [getD_lt (by simpa using hj)]
  simp
theorem cl_congr {F G : Nat → Nat} (h : ∀ j, j < 12 → F j = G j) : cl F = cl G := by
  unfold cl
  exact List.map_congr_left (fun j hj => by rw [h j (List.mem_range.1 hj)])
theorem IntsW.set {w : World} {B0 B1 : Nat} {v : Value} {xs : List Int} (h : IntsW w B0 B1 v xs) {j : Nat} (hj : j < xs.length) (x : Int) :
    ∃ g p c, v = .slice (some ⟨g, p, none⟩) xs.length c ∧ B0 ≤ g ∧ g < B1 ∧ w.cell? ⟨g, p + j, none⟩ = some (.int .i64 (xs.getD j 0)) ∧ w.frozen? ⟨g, p + j, none⟩ = false ∧ IntsW (w.setCell ⟨g, p + j, none⟩ (.int .i64 x)) B0 B1 v (xs.set j x) := by
  obtain ⟨a, cap, rfl, h1, h2, h3⟩ := h
  obtain ⟨g, p, rfl, hg0, hg1, hc, hf⟩ := h3 j hj
  refine ⟨g, p, cap, rfl, hg0, hg1, hc, hf, _, cap, by rw [List.length_set], by rw [List.length_set]; exact h1, h2, fun i hi => ?_⟩
  rw [List.length_set] at hi
  obtain ⟨g', p', e, _, _, hc', hf'⟩ := h3 i hi
  cases e
  refine ⟨g, p, rfl, hg0, hg1, ?_, (frozen_set _).trans hf'⟩
  by_cases hij : i = j
  · subst hij
    rw [getD_lt (by rw [List.length_set]; exact hi), List.getElem_set_self]
    exact cell_set_same hc'
  · rw [getD_lt (by rw [List.length_set]; exact hi), List.getElem_set_ne (by omega), ← getD_lt (d := 0) hi]
    exact (cell_set_other (.inr (by omega))).trans hc'
theorem cl_set (F : Nat → Nat) {j : Nat} (hj : j < 12) : (cl F).set j ((F j : Int) + 1) = cl (fun i => F i + if i = j then 1 else 0) := by
  refine List.ext_getElem (by simp [cl]) fun i h1 h2 => ?_
  rw [List.getElem_set]
  simp only [cl, List.getElem_map, List.getElem_range]
  by_cases e : j = i
  · subst e; simp
  · rw [if_neg e, if_neg (by omega)]; simp
theorem cntN_le {xss : List (List Int)} {ys : List IV} (hm : memOk xss = true) (j : Nat) : ∀ n, n ≤ 12 → cntN xss ys j n ≤ 4 * n
  | 0, _ => by simp [cntN]
  | n + 1, h => by
    have ih := cntN_le (ys := ys) hm j n (by omega)
    have h1 : cnt1 (xss.getD n []) j ≤ 4 := by
      have a := List.count_le_length (a := (j : Int)) (l := named (xss.getD n []))
      have b := named_len (xss.getD n [])
      have c := mem_row hm (show n < 12 by omega)
      unfold cnt1; omega
    unfold cntN
    split <;> omega
/-- counts of all frames in a block of their own -/
structure CntRel (w : World) (C : Nat) (vo : Value) (F : Nat → Nat) (wr : World) : Prop where
  out : IntsW wr w.heap.size C vo (cl F)
  bel : Below w.heap.size w wr
  lo : w.heap.size ≤ C
  hi : C ≤ wr.heap.size
theorem CntRel.below {w : World} {C : Nat} {vo : Value} {F : Nat → Nat} {wr w' : World} (h : CntRel w C vo F wr) (hb : Below wr.heap.size wr w') : CntRel w C vo F w' :=
  ⟨h.out.chg (Chg.of_below hb) h.hi (.inr (Nat.zero_le _)), h.bel.trans (hb.mono h.bel.size), h.lo, Nat.le_trans h.hi hb.size⟩
theorem CntRel.drew {w : World} {C : Nat} {vo : Value} {F : Nat → Nat} {wr : World} (h : CntRel w C vo F wr) : CntRel w C vo F wr.drew := h.below (Below.refl _ _).drew
/-- one more -/
theorem CntRel.up {w : World} {C : Nat} {vo : Value} {F : Nat → Nat} {wr : World} (h : CntRel w C vo F wr) {j : Nat} (hj : j < 12) :
    ∃ g p c, vo = .slice (some ⟨g, p, none⟩) 12 c ∧ g < C ∧ wr.cell? ⟨g, p + j, none⟩ = some (.int .i64 (F j)) ∧ wr.frozen? ⟨g, p + j, none⟩ = false ∧ CntRel w C vo (fun i => F i + if i = j then 1 else 0) (wr.setCell ⟨g, p + j, none⟩ (.int .i64 ((F j : Int) + 1))) := by
  obtain ⟨g, p, c, e, hg0, hg1, hc, hf, hs⟩ := h.out.set (j := j) (by rw [cl_len]; exact hj) ((F j : Int) + 1)
  rw [cl_len] at e
  rw [cl_get F hj] at hc
  rw [cl_set F hj] at hs
  exact ⟨g, p, c, e, hg1, hc, hf, hs, h.bel.setCell (p := ⟨g, p + j, none⟩) hg0 _, h.lo, by rw [size_setCell]; exact h.hi⟩
theorem cnt_made (w : World) : CntRel w (w.heap.size + 1) (.slice (some ⟨w.heap.size, 0, none⟩) 12 12) (fun _ => 0) (w.alloc (.cells (madeCells #[.int .i64 0] 12) 3)) := by
  have e := fun j => cell_of_row (w.alloc (.cells (madeCells #[.int .i64 0] 12) 3)) w.heap.size j _ _ (0, 0) (heap_alloc_new w _)
  have ef := fun j => frozen_of_row (w.alloc (.cells (madeCells #[.int .i64 0] 12) 3)) w.heap.size j _ _ (heap_alloc_new w _)
  refine ⟨⟨_, 12, by rw [cl_len], by rw [cl_len]; exact Nat.le_refl _, by unfold maxLen; omega, fun i hi => ⟨_, 0, rfl, Nat.le_refl _, Nat.lt_succ_self _, ?_, ef _⟩⟩, (Below.refl _ _).alloc (Nat.le_refl _) _, by omega, by simp⟩
  rw [cl_len] at hi
  rw [cl_get _ hi, Nat.zero_add, e i]
  rcases (by omega : i = 0 ∨ i = 1 ∨ i = 2 ∨ i = 3 ∨ i = 4 ∨ i = 5 ∨ i = 6 ∨ i = 7 ∨ i = 8 ∨ i = 9 ∨ i = 10 ∨ i = 11) with rfl | rfl | rfl | rfl | rfl | rfl | rfl | rfl | rfl | rfl | rfl | rfl <;> first | kernel_rfl | simp [madeCells]
theorem cnt_take_snoc (fs : List Int) (F : Nat → Nat) {t i : Nat} (ht : t < fs.length) (hx : fs.getD t 0 = (i : Int)) (j : Nat) : F j + (fs.take (t + 1)).count (j : Int) = (F j + (fs.take t).count (j : Int)) + if j = i then 1 else 0 := by
  rw [take_snoc_getD fs t 0 ht, List.count_append, hx, Nat.add_assoc]
  congr 2
  by_cases e : j = i
  · subst e; simp
  · have : ¬ (i : Int) = (j : Int) := by omega
    simp [this, e]

set_option maxRecDepth 100000 in
set_option maxHeartbeats 2000000 in
theorem l13Count_any (w : World) (vm vl : Value) (xss : List (List Int)) (ys : List IV) (h : Rows2 w vm xss) (hm : memOk xss = true) (hl : Is w vl ys) (hn : ys.length = 12) :
    Calls Try.prog 85 #[vm, vl] w (NewR (cl (fun j => cntN xss ys j 12)) w) := by
  have hmk : (Instr.makeSlice 34 (.int .i64 12) (.int .i64 12)).run Try.prog w = .ok (.slice (some ⟨w.heap.size, 0, none⟩) 12 12) (w.alloc (.cells (madeCells #[.int .i64 0] 12) 3)) := run_make_row' (P := Try.prog) 34 3 (.int .i64 0) 8 Try.underlying34 intInfo rfl .i64 .i64 12 (by omega) (by omega) w
  have hlm := mem_len hm
  obtain ⟨a, c, rfl, q1, q2, q3⟩ := h
  obtain ⟨a0, c0, rfl, l1, l2, l3⟩ := hl
  rw [hlm] at q1 ⊢
  rw [hn] at l1 ⊢
  unfold maxLen at q2 l2
  have HQ := Lib.hid q3
  have HL := Lib.hid l3
  have HM := Lib.hid hm
  have HN := Lib.hid hn
  have HLM := Lib.hid hlm
  have HCM := Lib.hid (cnt_made w)
  obtain ⟨w0, hw0⟩ : ∃ w0, w0 = w.alloc (.cells (madeCells #[.int .i64 0] 12) 3) := ⟨_, rfl⟩
  rw [← hw0] at hmk HCM
  obtain ⟨vo, hvo⟩ : ∃ vo, vo = Value.slice (some ⟨w.heap.size, 0, none⟩) 12 12 := ⟨_, rfl⟩
  rw [← hvo] at hmk HCM
  obtain ⟨C, hC⟩ : ∃ C, C = w.heap.size + 1 := ⟨_, rfl⟩
  rw [← hC] at HCM
  clear q3 l3 hm hn hlm hw0 hvo hC
  go_enter Try.func85, Try.ntmps85
  go_wp2
  go_loopw [6] (fun i wr => ∃ f : Nat, f ≤ 12 ∧ i = .int .i64 f ∧ Hid (CntRel w C vo (fun j => cntN xss ys j f) wr)) (fun i _ => 12 - (intOf i).toNat)
  case atStart => exact ⟨0, Nat.zero_le _, rfl, HCM⟩
  case round =>
    obtain ⟨f, hf, rfl, HR⟩ := hrel
    by_cases hlt : f < 12
    · have hlt' : (f : Int) < 12 := by omega
      have hf0 : (0 : Int) ≤ (f : Int) := by omega
      obtain ⟨b, o, u, rfl, hc, hu⟩ := HQ.out f (by have := HLM.out; omega)
      obtain ⟨bl, ol, rfl, ht⟩ := HL.out f (by have := HN.out; omega)
      have hbd : ∀ i, i < (xss.getD f []).length → 0 ≤ (xss.getD f []).getD i 0 ∧ (xss.getD f []).getD i 0 ≤ 9999 := fun i hi => wd_bounds HM.out hlt (by have := mem_row HM.out hlt; omega)
      have hr4 := mem_row HM.out hlt
      have hcr := (HR.out.bel.cell (p := ⟨b, o + f, none⟩) (cell_lt hc)).trans hc
      have HUN := Lib.hid (l3Named_any wr u (xss.getD f []) (hu.below (B := 0) HR.out.bel) (by omega) hbd)
      have HCN : Hid (∀ j, cntN xss ys j (f + 1) = cntN xss ys j f + (if isTab (ys.getD f iz).k = true then (named (xss.getD f [])).count (j : Int) else 0)) := Lib.hid (fun j => rfl)
      have hfs4 := named_len (xss.getD f [])
      rw [hr4] at hfs4
      have HIN : Hid (∀ x ∈ named (xss.getD f []), 0 ≤ x ∧ x < 12) := Lib.hid (fun x hx => named_in hx)
      obtain ⟨fs, hfs⟩ : ∃ fs, fs = named (xss.getD f []) := ⟨_, rfl⟩
      rw [← hfs] at HUN HCN hfs4 HIN
      obtain ⟨F, hF⟩ : ∃ F : Nat → Nat, F = fun j => cntN xss ys j f := ⟨_, rfl⟩
      rw [← hF] at HR
      have HCN2 : Hid (∀ j, cntN xss ys j (f + 1) = F j + (if isTab (ys.getD f iz).k = true then fs.count (j : Int) else 0)) := Lib.hid (fun j => by rw [HCN.out, hF])
      have hFb : ∀ j, F j ≤ 4 * f := fun j => by rw [hF]; exact cntN_le HM.out j f (by omega)
      have HFB := Lib.hid hFb
      have HT := Lib.hid ht
      obtain ⟨y, hy⟩ : ∃ y, y = ys.getD f iz := ⟨_, rfl⟩
      rw [← hy] at HT HCN2
      have HY := Lib.hid hy
      clear hc hu hbd hr4 hfs hF HCN hFb ht hy
      go_wp2_with fail
      refine HUN.out.mono ?_
      rintro e w2 ⟨vn, rfl, hown2⟩
      have HN2 := Lib.hid (IntsW.of_own hown2)
      have HR2 := Lib.hid (HR.out.below hown2.bel)
      obtain ⟨D0, hD0⟩ : ∃ D0, D0 = wr.heap.size := ⟨_, rfl⟩
      obtain ⟨D1, hD1⟩ : ∃ D1, D1 = w2.heap.size := ⟨_, rfl⟩
      have HC0 : Hid (C ≤ D0) := Lib.hid (by rw [hD0]; exact HR.out.hi)
      have HBD : Hid (Below w.heap.size w w2) := Lib.hid HR2.out.bel
      rw [← hD0, ← hD1] at HN2
      have HD1 := Lib.hid hD1
      clear hown2 hD0 hD1 HR HUN hcr
      obtain ⟨a2, c2, rfl, p1, p2, -⟩ := HN2.out
      unfold maxLen at p2
      obtain ⟨m, hm⟩ : ∃ m, m = fs.length := ⟨_, rfl⟩
      rw [← hm] at p1 HN2 hfs4 ⊢
      have HMM := Lib.hid hm
      clear hm
      have HTB := Lib.hid (fun w => l13Table_any w y.k)
      obtain ⟨bt, hbt⟩ : ∃ bt, bt = isTab y.k := ⟨_, rfl⟩
      rw [← hbt] at HTB HCN2
      clear hbt
      cases bt with
      | false =>
        have HFIN : Hid (CntRel w C vo (fun j => cntN xss ys j (f + 1)) w2) := Lib.hid (by
          have e : (fun j => cntN xss ys j (f + 1)) = F := funext (fun j => by rw [HCN2.out j]; simp)
          rw [e]; exact HR2.out)
        go_wp2_with fail
        go_loopw [8] (fun i wr => i = .int .i64 0 ∧ wr = w2) (fun i _ => 0)
        case atStart => exact ⟨rfl, rfl⟩
        case round =>
          obtain ⟨rfl, rfl⟩ := hrel
          by_cases hm0 : 0 < m
          · have hm0' : (0 : Int) < (m : Int) := by omega
            have hc0 := (HT.out.below HBD.out HT.out.lt).c0
            go_wp2_with fail
            refine (HTB.out _).mono ?_
            rintro e w' ⟨rfl, rfl⟩
            go_wp2_with fail
            go_roundw
            case rel => exact ⟨f + 1, by omega, by go_num, HFIN⟩
            case measure => simp [intOf]; omega
          · have hm0' : m = 0 := by omega
            go_wp2_with fail
            go_roundw
            case rel => exact ⟨f + 1, by omega, by go_num, HFIN⟩
            case measure => simp [intOf]; omega
      | true =>
        have HFIN : Hid (∀ wr', CntRel w C vo (fun j => F j + fs.count (j : Int)) wr' → CntRel w C vo (fun j => cntN xss ys j (f + 1)) wr') := Lib.hid (fun wr' h => by
          have e : (fun j => cntN xss ys j (f + 1)) = fun j => F j + fs.count (j : Int) := funext (fun j => by rw [HCN2.out j]; simp)
          rw [e]; exact h)
        have HR3 : Hid (CntRel w C vo (fun j => F j + (fs.take 0).count (j : Int)) w2) := Lib.hid (by
          have e : (fun j => F j + (fs.take 0).count (j : Int)) = F := funext (fun j => by simp)
          rw [e]; exact HR2.out)
        go_wp2_with fail
        go_loopw [8] (fun i wr => ∃ t : Nat, t ≤ m ∧ i = .int .i64 t ∧ Hid (CntRel w C vo (fun j => F j + (fs.take t).count (j : Int)) wr) ∧ Hid (IntsW wr D0 D1 (.slice a2 m c2) fs) ∧ Hid (wr.heap.size = D1)) (fun i _ => m - (intOf i).toNat)
        case atStart => exact ⟨0, Nat.zero_le _, rfl, HR3, HN2, Lib.hid HD1.out.symm⟩
        case round =>
          obtain ⟨t, ht, rfl, HRA, HNA, HSZ⟩ := hrel
          by_cases hm0 : t < m
          · have hm0' : (t : Int) < (m : Int) := by omega
            have ht0 : (0 : Int) ≤ (t : Int) := by omega
            have hc0 := (HT.out.below HRA.out.bel HT.out.lt).c0
            have htf : t < fs.length := by have := HMM.out; omega
            have hfin := HIN.out _ (List.getElem_mem htf)
            obtain ⟨a3, c3, e3, _, _, p3⟩ := HNA.out
            injection e3 with e31 e32 e33
            subst e31
            clear e32 e33
            obtain ⟨g2, p, rfl, hg2C, -, hcf, -⟩ := p3 t htf
            rw [getD_lt htf] at hcf
            obtain ⟨x, hx⟩ : ∃ x, x = fs[t] := ⟨_, rfl⟩
            have hxg : fs.getD t 0 = x := by rw [getD_lt htf, hx]
            rw [← hx] at hfin hcf
            obtain ⟨i, rfl⟩ : ∃ i : Nat, x = (i : Int) := ⟨x.toNat, by omega⟩
            have hi12' : i < 12 := by omega
            obtain ⟨g, p0, cc, hvo, hgC, hcg, hfg, hup⟩ := HRA.out.up hi12'
            have HUP : Hid (CntRel w C vo (fun j => F j + (fs.take (t + 1)).count (j : Int)) (wr.setCell ⟨g, p0 + i, none⟩ (.int .i64 (((F i + (fs.take t).count (i : Int) : Nat) : Int) + 1)))) := Lib.hid (by
              have e : (fun j => F j + (fs.take (t + 1)).count (j : Int)) = fun j => (F j + (fs.take t).count (j : Int)) + if j = i then 1 else 0 := funext (fun j => cnt_take_snoc fs F htf hxg j)
              rw [e]; exact hup)
            have hzb : F i + (fs.take t).count (i : Int) ≤ 60 := by
              have h1 := count_take_le fs t (i : Int)
              have h2 := HFB.out i
              have := HMM.out
              omega
            obtain ⟨z, hz⟩ : ∃ z, z = F i + (fs.take t).count (i : Int) := ⟨_, rfl⟩
            rw [← hz] at hcg HUP hzb
            have hgg : g2 ≠ g := by have := HC0.out; omega
            have HNU : Hid (IntsW (wr.setCell ⟨g, p0 + i, none⟩ (.int .i64 ((z : Int) + 1))).drew D0 D1 (.slice (some ⟨g2, p, none⟩) m c2) fs) := Lib.hid ((HNA.out.chg (setCell_chg wr g (p0 + i) (.int .i64 ((z : Int) + 1))) (by have := HSZ.out; omega) (.inr (by have := HC0.out; omega))).chg (chg_drew _) (by rw [size_setCell]; have := HSZ.out; omega) (.inr (Nat.zero_le _)))
            have HSU : Hid ((wr.setCell ⟨g, p0 + i, none⟩ (.int .i64 ((z : Int) + 1))).drew.heap.size = D1) := Lib.hid (by
              show (wr.setCell ⟨g, p0 + i, none⟩ (.int .i64 ((z : Int) + 1))).heap.size = D1
              rw [size_setCell]; exact HSZ.out)
            have hi0 : (0 : Int) ≤ (i : Int) := by omega
            have hi12 : (i : Int) < 12 := by omega
            have hwr : IntKind.i64.wrap ((z : Int) + 1) = (z : Int) + 1 := by rw [IntKind.wrap_i64]; omega
            have hzb' : (z : Int) ≤ 60 := by omega
            subst hvo
            clear hfin p3 hx hxg hz hup htf hzb
            go_wp2_with fail
            refine (HTB.out _).mono ?_
            rintro e w' ⟨rfl, rfl⟩
            go_wp2_with fail
            refine wp_region_held_drew (S := fun w' => w'.cell? ⟨g2, p + t, none⟩ = some (.int .i64 (i : Int))) (by kernel_rfl) hcf (fun hHeld => ?_)
            refine wpAnyH_take (i := 0) (oi := { dst := some 33, op := .move (.tmp 5), type := _, pos := _, after := _, guard := none }) (v := .slice (some ⟨g, p0, none⟩) 12 cc) rfl (by kernel_rfl) (by kernel_rfl) (by kernel_rfl) (fun _ _ _ h => h) (Or.inl ⟨by rfl, fun wh hSw => ?_⟩) hHeld ?_
            · (dsimp only at hSw; go_simp)
            try simp only [Act.put, List.setIfInBounds_toArray, List.set_cons_zero, List.set_cons_succ]
            refine wpAnyH_take (i := 1) (oi := { dst := some 34, op := .move (.tmp 7), type := _, pos := _, after := _, guard := none }) (v := .slice (some ⟨g2, p, none⟩) m c2) rfl (by kernel_rfl) (by kernel_rfl) (by kernel_rfl) (fun _ _ _ h => h) (Or.inl ⟨by rfl, fun wh hSw => ?_⟩) hHeld ?_
            · (dsimp only at hSw; go_simp)
            try simp only [Act.put, List.setIfInBounds_toArray, List.set_cons_zero, List.set_cons_succ]
            refine wpAnyH_take (i := 2) (oi := { dst := some 35, op := .move (.tmp 8), type := _, pos := _, after := _, guard := none }) (v := .int .i64 (t : Int)) rfl (by kernel_rfl) (by kernel_rfl) (by kernel_rfl) (fun _ _ _ h => h) (Or.inl ⟨by rfl, fun wh hSw => ?_⟩) hHeld ?_
            · (dsimp only at hSw; go_simp)
            try simp only [Act.put, List.setIfInBounds_toArray, List.set_cons_zero, List.set_cons_succ]
            refine wpAnyH_take (i := 3) (oi := { dst := some 36, op := .indexAddr 34 (.tmp 34) (.tmp 35), type := _, pos := _, after := _, guard := none }) (v := .pointer (some ⟨g2, p + t, none⟩)) rfl (by kernel_rfl) (by kernel_rfl) (by kernel_rfl) (fun _ _ _ h => h) (Or.inl ⟨by rfl, fun wh hSw => ?_⟩) hHeld ?_
            · (dsimp only at hSw; go_simp)
            try simp only [Act.put, List.setIfInBounds_toArray, List.set_cons_zero, List.set_cons_succ]
            refine wpAnyH_take (i := 4) (oi := { dst := some 37, op := .load 3 (.tmp 36), type := _, pos := _, after := _, guard := none }) (v := .int .i64 (i : Int)) rfl (by kernel_rfl) (by kernel_rfl) (by kernel_rfl) (fun _ _ _ h => h) (Or.inl ⟨by rfl, fun wh hSw => ?_⟩) hHeld ?_
            · (dsimp only at hSw; go_simp)
            try simp only [Act.put, List.setIfInBounds_toArray, List.set_cons_zero, List.set_cons_succ]
            refine wpAnyH_take (i := 5) (oi := { dst := some 38, op := .move (.tmp 5), type := _, pos := _, after := _, guard := none }) (v := .slice (some ⟨g, p0, none⟩) 12 cc) rfl (by kernel_rfl) (by kernel_rfl) (by kernel_rfl) (fun _ _ _ h => h) (Or.inl ⟨by rfl, fun wh hSw => ?_⟩) hHeld ?_
            · (dsimp only at hSw; go_simp)
            try simp only [Act.put, List.setIfInBounds_toArray, List.set_cons_zero, List.set_cons_succ]
            refine wpAnyH_take (i := 6) (oi := { dst := some 39, op := .move (.tmp 7), type := _, pos := _, after := _, guard := none }) (v := .slice (some ⟨g2, p, none⟩) m c2) rfl (by kernel_rfl) (by kernel_rfl) (by kernel_rfl) (fun _ _ _ h => h) (Or.inl ⟨by rfl, fun wh hSw => ?_⟩) hHeld ?_
            · (dsimp only at hSw; go_simp)
            try simp only [Act.put, List.setIfInBounds_toArray, List.set_cons_zero, List.set_cons_succ]
            refine wpAnyH_take (i := 7) (oi := { dst := some 40, op := .move (.tmp 8), type := _, pos := _, after := _, guard := none }) (v := .int .i64 (t : Int)) rfl (by kernel_rfl) (by kernel_rfl) (by kernel_rfl) (fun _ _ _ h => h) (Or.inl ⟨by rfl, fun wh hSw => ?_⟩) hHeld ?_
            · (dsimp only at hSw; go_simp)
            try simp only [Act.put, List.setIfInBounds_toArray, List.set_cons_zero, List.set_cons_succ]
            refine wpAnyH_take (i := 8) (oi := { dst := some 41, op := .indexAddr 34 (.tmp 39) (.tmp 40), type := _, pos := _, after := _, guard := none }) (v := .pointer (some ⟨g2, p + t, none⟩)) rfl (by kernel_rfl) (by kernel_rfl) (by kernel_rfl) (fun _ _ _ h => h) (Or.inl ⟨by rfl, fun wh hSw => ?_⟩) hHeld ?_
            · (dsimp only at hSw; go_simp)
            try simp only [Act.put, List.setIfInBounds_toArray, List.set_cons_zero, List.set_cons_succ]
            refine wpAnyH_take (i := 9) (oi := { dst := some 42, op := .load 3 (.tmp 41), type := _, pos := _, after := _, guard := none }) (v := .int .i64 (i : Int)) rfl (by kernel_rfl) (by kernel_rfl) (by kernel_rfl) (fun _ _ _ h => h) (Or.inl ⟨by rfl, fun wh hSw => ?_⟩) hHeld ?_
            · (dsimp only at hSw; go_simp)
            try simp only [Act.put, List.setIfInBounds_toArray, List.set_cons_zero, List.set_cons_succ]
            refine wpAnyH_take (i := 10) (oi := { dst := some 43, op := .indexAddr 34 (.tmp 38) (.tmp 42), type := _, pos := _, after := _, guard := none }) (v := .pointer (some ⟨g, p0 + i, none⟩)) rfl (by kernel_rfl) (by kernel_rfl) (by kernel_rfl) (fun _ _ _ h => h) (Or.inl ⟨by rfl, fun wh hSw => ?_⟩) hHeld ?_
            · (dsimp only at hSw; go_simp)
            try simp only [Act.put, List.setIfInBounds_toArray, List.set_cons_zero, List.set_cons_succ]
            refine wpAnyH_ready (rs := [11]) (by kernel_rfl) (by simp) ?_
            refine AllReadyH.cons (o := { dst := some 44, op := .load 3 (.tmp 43), type := _, pos := _, after := _, guard := none }) rfl (fun K hK => ?_) AllReadyH.nil
            go_simp
            refine hK.out _ _ ?_ (fun hHeld => ?_)
            · exact hHeld
            clear hK K
            try simp only [Act.put, List.setIfInBounds_toArray, List.set_cons_zero, List.set_cons_succ]
            refine wpAnyH_take (i := 12) (oi := { dst := some 45, op := .binOp .add 3 (.tmp 44) (.const (.int .i64 1)) 3, type := _, pos := _, after := _, guard := none }) (v := .int .i64 ((z : Int) + 1)) rfl (by kernel_rfl) (by kernel_rfl) (by kernel_rfl) (fun _ _ _ h => h) (Or.inl ⟨by rfl, fun wh hSw => ?_⟩) hHeld ?_
            · (dsimp only at hSw; go_simp)
            try simp only [Act.put, List.setIfInBounds_toArray, List.set_cons_zero, List.set_cons_succ]
            refine wpAnyH_take (i := 13) (oi := { dst := some 46, op := .indexAddr 34 (.tmp 33) (.tmp 37), type := _, pos := _, after := _, guard := none }) (v := .pointer (some ⟨g, p0 + i, none⟩)) rfl (by kernel_rfl) (by kernel_rfl) (by kernel_rfl) (fun _ _ _ h => h) (Or.inl ⟨by rfl, fun wh hSw => ?_⟩) hHeld ?_
            · (dsimp only at hSw; go_simp)
            try simp only [Act.put, List.setIfInBounds_toArray, List.set_cons_zero, List.set_cons_succ]
            refine wpAnyH_ready (rs := [14]) (by kernel_rfl) (by simp) ?_
            refine AllReadyH.cons (o := { dst := none, op := .store 3 (.tmp 46) (.tmp 45), type := _, pos := _, after := _, guard := none }) rfl (fun K hK => ?_) AllReadyH.nil
            go_simp
            refine hK.out _ _ ?_ (fun hHeld => ?_)
            · exact (cell_set_other (.inl hgg)).trans hHeld
            clear hK K
            try simp only [Act.put, List.setIfInBounds_toArray, List.set_cons_zero, List.set_cons_succ]
            refine wpAnyH_done (by kernel_rfl) ?_ _
            go_wp2_with fail
            go_roundw
            case rel => exact ⟨t + 1, by omega, by go_num, Lib.hid HUP.out.drew, HNU, HSU⟩
            case measure => simp [intOf]; omega
          · have e : t = m := by omega
            have HFR : Hid (CntRel w C vo (fun j => cntN xss ys j (f + 1)) wr) := Lib.hid (HFIN.out wr (by
              have := HRA.out
              rw [take_all (by rw [e]; exact HMM.out)] at this
              exact this))
            subst e
            go_wp2_with fail
            go_roundw
            case rel => exact ⟨f + 1, by omega, by go_num, HFR⟩
            case measure => simp [intOf]; omega
    · have e : f = 12 := by omega
      subst e
      have HE : Hid (IntsW wr w.heap.size wr.heap.size vo (cl (fun j => cntN xss ys j 12)) ∧ Below w.heap.size w wr) := Lib.hid ⟨by
        obtain ⟨a, cp, e, h1, h2, h3⟩ := HR.out.out
        refine ⟨a, cp, e, h1, h2, fun i hi => ?_⟩
        obtain ⟨g, p, e, hg0, hg1, hc⟩ := h3 i hi
        exact ⟨g, p, e, hg0, Nat.lt_of_lt_of_le hg1 HR.out.hi, hc⟩, HR.out.bel⟩
      go_wp2
      go_ret
      exact ⟨_, rfl, HE.out.1, HE.out.2⟩
end Go.Proofs.Yticnfekjbknomaa
/- What the reference's TableCount, TablePin and TableUnpin return. -/
namespace Go.Proofs.Yticnfekjbknomaa
open Go.ChangeShapes Go.WideShapes Go.ChangeAt Go.RowKit
set_option linter.unusedVariables false

theorem intsW_start (w w' : World) (hb : Below w.heap.size w w') : IntsW (w'.alloc (.cells #[] 3)) w.heap.size (w'.alloc (.cells #[] 3)).heap.size (.slice (some ⟨w'.heap.size, 0, none⟩) 0 0) [] ∧ Below w.heap.size w (w'.alloc (.cells #[] 3)) :=
  ⟨⟨_, 0, rfl, Nat.le_refl _, Nat.zero_le _, fun i hi => by simp at hi⟩, hb.alloc hb.size _⟩
theorem targ0 (xss : List (List Int)) (ys : List IV) : targ xss ys 0 = (memOk xss && isok ys) := by
  unfold targ
  rw [show inR 0 0 11 = true from by decide, Bool.true_and]
theorem sTableCount_any (w : World) (vm vl : Value) (xss : List (List Int)) (ys : List IV) (h : Rows2 w vm xss) (hl : Is w vl ys) (hs : ShortI ys) :
    Calls Try.prog 33 #[vm, vl] w (NewR (tcnt xss ys) w) := by
  have HA := Lib.hid (l13Args_any w vm vl xss ys 0 h hl hs)
  rw [targ0] at HA
  cases hb : (memOk xss && isok ys) with
  | false =>
    have HR : Hid (tcnt xss ys = []) := Lib.hid (by unfold tcnt; rw [hb]; rfl)
    rw [hb] at HA
    rw [HR.out]
    clear hb h hl hs
    go_enter Try.func33, Try.ntmps33
    go_wp2_with fail
    refine HA.out.mono ?_
    rintro e w1 ⟨rfl, hb1⟩
    have HE := Lib.hid (intsW_start w w1 hb1)
    clear hb1
    go_wp2_with fail
    go_ret
    exact ⟨_, rfl, HE.out.1, HE.out.2⟩
  | true =>
    have HR : Hid (tcnt xss ys = cl (fun j => cntN xss ys j 12)) := Lib.hid (by unfold tcnt; rw [hb]; rfl)
    have hm := (Bool.and_eq_true _ _ ▸ hb : memOk xss = true ∧ isok ys = true)
    have HC : Hid (∀ w' : World, Below w.heap.size w w' → Calls Try.prog 85 #[vm, vl] w' (NewR (cl (fun j => cntN xss ys j 12)) w')) := Lib.hid (fun w' hb => l13Count_any w' vm vl xss ys (h.below hb) hm.1 (hl.below hb) (isok_len hm.2))
    rw [hb] at HA
    rw [HR.out]
    generalize cl (fun j => cntN xss ys j 12) = L at HC
    clear hb h hl hs hm HR
    go_enter Try.func33, Try.ntmps33
    go_wp2_with fail
    refine HA.out.mono ?_
    rintro e w1 ⟨rfl, hb1⟩
    have B1 := Lib.hid hb1
    have HC1 := Lib.hid (HC.out w1 hb1)
    clear hb1
    go_wp2_with fail
    refine HC1.out.mono ?_
    rintro e w2 ⟨v, rfl, hv, hb2⟩
    have HV : Hid (IntsW w2 w.heap.size w2.heap.size v L) := Lib.hid (by
      obtain ⟨a, cp, e, h1, h2, h3⟩ := hv
      exact ⟨a, cp, e, h1, h2, fun i hi => by obtain ⟨g, p, e, hg0, hg1, hc⟩ := h3 i hi; exact ⟨g, p, e, Nat.le_trans B1.out.size hg0, hg1, hc⟩⟩)
    have B2 := Lib.hid (B1.out.trans (hb2.mono B1.out.size))
    clear hv hb2
    go_wp2_with fail
    go_ret
    exact ⟨_, rfl, HV.out, B2.out⟩
/-- a new slice and a number -/
def NewVN (ys : List IV) (n : Int) (w : World) (e : Ending) (w' : World) : Prop := ∃ v, e = .returned (.tuple #[v, .int .i64 n]) ∧ IsW w' w.heap.size w'.heap.size v ys ∧ Below w.heap.size w w'
/-- the kind of one frame is stored -/
theorem OwnV.setK {w w1 : World} {v : Value} {ys : List IV} (h : OwnV w v ys w1) {f : Nat} (hf : f < ys.length) (k : Int) :
    ∃ g p c, v = .slice (some ⟨g, p, none⟩) ys.length c ∧ TriW w1 g (p + f * 3) (ys.getD f iz) ∧ IsW (w1.setCell ⟨g, p + f * 3, none⟩ (.int .i64 k)) w.heap.size w1.heap.size v (setK ys f k) ∧ Below w.heap.size w (w1.setCell ⟨g, p + f * 3, none⟩ (.int .i64 k)) := by
  obtain ⟨g, p, c, rfl, hg0, hg1, ht⟩ := h.row.place hf
  refine ⟨g, p, c, rfl, ht, ?_, h.bel.setCell (p := ⟨g, p + f * 3, none⟩) hg0 _⟩
  exact h.row.upd (w' := w1.setCell ⟨g, p + f * 3, none⟩ (.int .i64 k)) rfl hf (ht.set0 k) (fun i y hi hy => hy.off (.inr (by omega)) _)
theorem setK_few {ys : List IV} {f : Nat} {k : Int} (h : FewI ys) (hf : f < ys.length) : FewI (setK ys f k) := fun y hy => by
  unfold setK at hy
  rcases List.mem_or_eq_of_mem_set hy with h1 | h1
  · exact h y h1
  · rw [h1]; exact h.at f
theorem setK_short {ys : List IV} {f : Nat} {k : Int} (h : ShortI ys) (hf : f < ys.length) : ShortI (setK ys f k) := fun y hy => by
  unfold setK at hy
  rcases List.mem_or_eq_of_mem_set hy with h1 | h1
  · exact h y h1
  · rw [h1]; exact h.at f
theorem bump_short {n : Int} {ys : List IV} {f : Int} (h : ShortI ys) : ShortI (bump n ys f) := fun y hy => by
  unfold bump at hy
  rcases List.mem_or_eq_of_mem_set hy with h1 | h1
  · exact h y h1
  · rw [h1]; exact h.at _
theorem addL_short {n : Int} : ∀ {fs : List Int} {ys : List IV}, ShortI ys → ShortI (addL n ys fs)
  | [], ys, h => h
  | f :: fs, ys, h => addL_short (fs := fs) (bump_short (f := f) h)
end Go.Proofs.Yticnfekjbknomaa
