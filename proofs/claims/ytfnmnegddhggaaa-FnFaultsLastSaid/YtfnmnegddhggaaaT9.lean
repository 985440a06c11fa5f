/- What the proofs stand on, part 9. -/
import Derived.Test.YtfnmnegddhggaaaRows
import Derived.Test.YtfnmnegddhggaaaT1
import Derived.Test.YtfnmnegddhggaaaT2
import Derived.Test.YtfnmnegddhggaaaT4
import Derived.Test.YtfnmnegddhggaaaT5
set_option linter.unusedSimpArgs false
set_option linter.unusedVariables false
namespace Go.Proofs.Ytfnmnegddhggaaa
set_option linter.unusedVariables false
set_option linter.unusedSimpArgs false
def stepF (f : Nat) (K : List Int) (x : Int) : List Int := if x ∈ K then K else if f < K.length + 1 then (K ++ [x]).drop 1 else K ++ [x]
def costF (f : Nat) : List Int → List Int → Nat
  | _, [] => 0
  | K, x :: r => costF f (stepF f K x) r + fMiss x K
theorem stepF_len {f : Nat} {K : List Int} (hK : K.length ≤ f) (x : Int) : (stepF f K x).length ≤ f := by
  unfold stepF
  split
  · exact hK
  · split
    · rw [List.length_drop, List.length_append]; simp; omega
    · rw [List.length_append]; simp; omega
end Go.Proofs.Ytfnmnegddhggaaa
namespace Go.Proofs.Ytfnmnegddhggaaa
open Go.ChangeShapes Go.WideShapes Go.ChangeAt Go.RowKit
set_option linter.unusedVariables false
set_option linter.unusedSimpArgs false
def ffirst (xs : List Int) (f : Int) : Int := if ftOk xs f = true then (costF f.toNat [] xs : Nat) else -1
end Go.Proofs.Ytfnmnegddhggaaa
namespace Go.Proofs.Ytfnmnegddhggaaa
set_option linter.unusedVariables false
set_option linter.unusedSimpArgs false
def ltF (c : Int → Int) (a b : Int) : Bool := decide (c a < c b)
def ruleF (L : List Int) (c : Int → Int) (_ : List Int) : Int := xArg (ltF c) (L.headD 0) L
theorem ruleF_in : XIn ruleF := fun L c r h => xArg_in2 _ h
structure XFi (f : Nat) (L K : List Int) (c : Int → Int) (n : Nat) : Prop where
  l : L.Nodup
  k : K.Nodup
  same : ∀ y, y ∈ L ↔ y ∈ K
  len : K.length ≤ f
  up : K.Pairwise (fun a b => c a < c b)
  le : ∀ y ∈ K, c y ≤ (n : Int)
theorem XFi.len_eq {f : Nat} {L K : List Int} {c : Int → Int} {n : Nat} (h : XFi f L K c n) : L.length = K.length :=
  Nat.le_antisymm (fLenSub h.l (fun y hy => (h.same y).1 hy)) (fLenSub h.k (fun y hy => (h.same y).2 hy))
theorem xNextF {f : Nat} (hf : 0 < f) {L K : List Int} {c : Int → Int} {n : Nat} (h : XFi f L K c n) (x : Int) (r : List Int) :
    XFi f (xNext ruleF f L c x r) (stepF f K x) (xCame L c n x) (n + fMiss x L) := by
  have hle := h.len_eq
  refine ⟨xNext_nodup h.l, ?_, ?_, stepF_len h.len x, ?_, ?_⟩
  all_goals unfold stepF
  ·
    by_cases hx : x ∈ K
    · rw [if_pos hx]; exact h.k
    · have ha : (K ++ [x]).Nodup := by
        rw [List.nodup_append]
        exact ⟨h.k, by simp, fun a ha b hb e => hx (by simp at hb; rw [← hb, ← e]; exact ha)⟩
      rw [if_neg hx]
      split
      · exact (List.drop_sublist _ _).nodup ha
      · exact ha
  ·
    intro y
    by_cases hx : x ∈ K
    · have hxL := (h.same x).2 hx
      rw [if_pos hx]
      unfold xNext xMid
      rw [if_pos hxL, List.mem_cons, List.Nodup.mem_erase_iff h.l, h.same]
      constructor
      · rintro (e | e)
        · rw [e]; exact hx
        · exact e.2
      · intro e
        by_cases hyx : y = x
        · exact .inl hyx
        · exact .inr ⟨hyx, e⟩
    · have hxL : x ∉ L := fun e => hx ((h.same x).1 e)
      rw [if_neg hx]
      unfold xNext xMid
      rw [if_neg hxL]
      by_cases hl : L.length < f
      · rw [if_pos hl, if_neg (by omega), List.erase_of_not_mem hxL, List.mem_cons, List.mem_append, List.mem_singleton, h.same]
        exact or_comm
      · rw [if_neg hl, if_pos (by omega)]
        cases K with
        | nil => exact absurd hf (by simp at hle; simp [hle] at hl; omega)
        | cons z K =>
          have hz : ruleF L c r = z := by
            have hne : L ≠ [] := by intro e; rw [e] at hle; simp at hle
            have hm := (h.same _).1 (ruleF_in L c r hne)
            have hz := (h.same z).2 (List.mem_cons_self ..)
            have hleast : c (ruleF L c r) ≤ c z := (xArg_least (lt := ltF c) (m := c) (fun a b => decide_eq_true_iff) L (L.headD 0)).2 z hz
            rcases List.mem_cons.1 hm with e | e
            · exact e
            · have := (List.pairwise_cons.1 h.up).1 _ e
              omega
          have hk := List.nodup_cons.1 h.k
          rw [hz, List.erase_of_not_mem (fun e => hxL (List.mem_of_mem_erase e)), List.mem_cons, List.Nodup.mem_erase_iff h.l, h.same, List.cons_append, List.drop_succ_cons, List.drop_zero, List.mem_append, List.mem_singleton, List.mem_cons]
          constructor
          · rintro (e | ⟨e1, e2⟩)
            · exact .inr e
            · exact .inl (e2.resolve_left e1)
          · rintro (e | e)
            · exact .inr ⟨fun e' => hk.1 (by rw [← e']; exact e), .inr e⟩
            · exact .inl e
  ·
    by_cases hx : x ∈ K
    · have hxL := (h.same x).2 hx
      rw [if_pos hx]
      unfold xCame
      rw [if_pos hxL]
      exact h.up
    · have hxL : x ∉ L := fun e => hx ((h.same x).1 e)
      have hc : ∀ a ∈ K, xUpd c x ((n + 1 : Nat) : Int) a = c a := fun a ha => if_neg (fun e => hx (by rw [← e]; exact ha))
      have ha : (K ++ [x]).Pairwise (fun a b => xUpd c x ((n + 1 : Nat) : Int) a < xUpd c x ((n + 1 : Nat) : Int) b) := by
        rw [List.pairwise_append]
        refine ⟨h.up.imp_of_mem (fun {a b} ha hb hh => by rw [hc a ha, hc b hb]; exact hh), by simp, fun a ha b hb => ?_⟩
        rw [List.mem_singleton] at hb
        subst hb
        rw [hc a ha]
        have := h.le a ha
        show c a < (if b = b then ((n + 1 : Nat) : Int) else c b)
        rw [if_pos rfl]; omega
      rw [if_neg hx]
      unfold xCame
      rw [if_neg hxL]
      split
      · exact ha.sublist (List.drop_sublist _ _)
      · exact ha
  ·
    intro y hy
    by_cases hx : x ∈ K
    · have hxL := (h.same x).2 hx
      rw [if_pos hx] at hy
      unfold xCame
      rw [if_pos hxL, fMiss_in hxL]
      exact h.le y hy
    · have hxL : x ∉ L := fun e => hx ((h.same x).1 e)
      have hy2 : y ∈ K ++ [x] := by
        rw [if_neg hx] at hy
        split at hy
        · exact List.mem_of_mem_drop hy
        · exact hy
      unfold xCame
      rw [if_neg hxL, fMiss_out hxL]
      by_cases hyx : y = x
      · show (if y = x then ((n + 1 : Nat) : Int) else c y) ≤ _
        rw [if_pos hyx]; exact Int.le_refl _
      · show (if y = x then ((n + 1 : Nat) : Int) else c y) ≤ _
        rw [if_neg hyx]
        rcases List.mem_append.1 hy2 with e | e
        · have := h.le y e; omega
        · exact absurd (List.mem_singleton.1 e) hyx
theorem xRunF {f : Nat} (hf : 0 < f) : ∀ (r L K : List Int) (c : Int → Int) (n : Nat), XFi f L K c n → xRun ruleF f L c n r = n + costF f K r
  | [], _, _, _, _, _ => rfl
  | x :: r, L, K, c, n, h => by
    have hm : fMiss x L = fMiss x K := by unfold fMiss; simp only [h.same]
    rw [xRun, xRunF hf r _ _ _ _ (xNextF hf h x r), costF, hm]
    omega
theorem x_first {xs : List Int} {f : Nat} {c : Int → Int} (hk : ftOk xs (f : Int) = true) (hf : 0 < f) : ffirst xs (f : Int) = (xRun ruleF f [] c 0 xs : Nat) := by
  rw [ffirst, if_pos hk, Int.toNat_natCast, xRunF hf xs [] [] c 0 ⟨List.nodup_nil, List.nodup_nil, fun _ => Iff.rfl, Nat.zero_le _, List.Pairwise.nil, fun y hy => by simp at hy⟩, Nat.zero_add]
end Go.Proofs.Ytfnmnegddhggaaa
namespace Go.Proofs.Ytfnmnegddhggaaa
open Go.ChangeShapes Go.WideShapes Go.ChangeAt Go.RowKit
set_option linter.unusedVariables false
set_option linter.unusedSimpArgs false
def CFF : Prop := ∀ w v xs f, Ints w v xs → Calls Try.prog 30 #[v, .int .i64 f] w (IRes (ffirst xs f) w)
end Go.Proofs.Ytfnmnegddhggaaa
namespace Go.Proofs.Ytfnmnegddhggaaa
open Go.ChangeShapes Go.WideShapes Go.ChangeAt Go.RowKit
set_option linter.unusedVariables false
set_option linter.unusedSimpArgs false
set_option maxRecDepth 100000 in
set_option maxHeartbeats 2000000 in
theorem icameFirst_any : RuleC 53 ruleF := by
  intro w0 kb L r fr n c w h hne hL
  obtain ⟨ns, p, v, hk, hp, hl, hn, hkb, hlo, hi⟩ := h.pg
  have hc0 := hk.c0
  obtain ⟨R, hR⟩ : ∃ R, R = ruleF L c r := ⟨_, rfl⟩
  rw [← hR]
  have HR : Hid (R = xArg (ltF c) ((pgs ns).headD 0) (pgs ns)) := Lib.hid (by rw [hR, hl]; rfl)
  have HK := Lib.hid hk
  have HN := Lib.hid hn
  have HP := Lib.hid hp
  have HL : Hid (∀ y ∈ pgs ns, 0 ≤ y ∧ y ≤ 15) := Lib.hid (by rw [hl]; exact hL)
  obtain ⟨m0, us0, e0⟩ := List.exists_cons_of_ne_nil (fun e => hne (by rw [← hl, e]; rfl) : ns ≠ [])
  have HE0 := Lib.hid e0
  rw [e0] at hp
  obtain ⟨rfl, hx0, -, q2, -, -⟩ := hp
  have HR0 : Hid (R = xArg (ltF c) m0.2 (pgs ns)) := Lib.hid (by rw [HR.out]; rw [e0]; rfl)
  have HB0 : Hid (0 ≤ m0.2 ∧ m0.2 ≤ 15) := Lib.hid (HL.out m0.2 (by rw [e0]; exact List.mem_cons_self ..))
  clear h hk hl hn hkb hlo hi hR hne HR e0 hL
  go_enter Try.func53, Try.ntmps53
  go_wp2
  go_loopw [3, 4] (fun bv f wr => ∃ (b : Int) (pre us : List (Nat × Int)) (q : Option Addr), bv = .int .i64 b ∧ f = .pointer q ∧ Hid (ns = pre ++ us) ∧ Hid (Pg wr us q) ∧ Hid (Kp wr kb (some ⟨m0.1, 0, none⟩) v fr n c) ∧ Hid (R = xArg (ltF c) b (pgs us)) ∧ Hid (0 ≤ b ∧ b ≤ 15) ∧ Hid (Below w.heap.size w wr)) (fun _ f _ => mP (blk ns) f)
  case atStart => exact ⟨m0.2, [], ns, _, rfl, rfl, Lib.hid rfl, HP, HK, HR0, HB0, Lib.hid (Below.refl _ _)⟩
  case round =>
    obtain ⟨b, pre, us, q, rfl, rfl, HE, HPG, HKW, HRR, HBB, HBW⟩ := hrel
    have HM1 := Lib.hid (mP_eq HPG.out HE.out HN.out)
    cases us with
    | nil =>
      obtain rfl : q = none := HPG.out
      have HF : Hid (R = b) := Lib.hid HRR.out
      go_wp2_with fail
      go_ret
      exact ⟨by rw [HF.out]; rfl, HBW.out⟩
    | cons m us =>
      obtain ⟨mb, y⟩ := m
      obtain ⟨rfl, hy0, hyf, q3, hy1, hy2⟩ := HPG.out
      have HX := Lib.hid hy2
      have HE2 : Hid (ns = (pre ++ [(mb, y)]) ++ us) := Lib.hid (by rw [HE.out]; simp)
      have HM2 := Lib.hid (mP_eq HX.out HE2.out HN.out)
      have HRR2 : Hid (R = xArg (ltF c) (if ltF c y b = true then y else b) (pgs us)) := Lib.hid HRR.out
      have HYB : Hid (0 ≤ y ∧ y ≤ 15) := Lib.hid (HL.out y (by rw [HE.out]; simp [pgs]))
      obtain ⟨yn, rfl⟩ : ∃ yn : Nat, y = (yn : Int) := ⟨y.toNat, by have := HYB.out; omega⟩
      obtain ⟨bn, rfl⟩ : ∃ bn : Nat, b = (bn : Int) := ⟨b.toNat, by have := HBB.out; omega⟩
      have hyn : yn < 16 := by have := HYB.out; omega
      have hbn : bn < 16 := by have := HBB.out; omega
      obtain ⟨Y, hY⟩ : ∃ Y, Y = c (yn : Int) := ⟨_, rfl⟩
      obtain ⟨Z, hZ⟩ : ∃ Z, Z = c (bn : Int) := ⟨_, rfl⟩
      have hcy := HKW.out.c4 yn hyn
      have hcb := HKW.out.c4 bn hbn
      rw [← hY] at hcy
      rw [← hZ] at hcb
      have hlt : Hid (ltF c (yn : Int) (bn : Int) = decide (Y < Z)) := Lib.hid (by unfold ltF; rw [← hY, ← hZ])
      have HC0 := Lib.hid hy0
      have HC1 := Lib.hid hy1
      have HPX : Hid (Pg wr.drew ((mb, (yn : Int)) :: us) (some ⟨mb, 0, none⟩)) := Lib.hid HPG.out.drew
      have HKD := Lib.hid HKW.out.drew
      have HXD := Lib.hid HX.out.drew
      have HCY := Lib.hid hcy
      have HCB := Lib.hid hcb
      have hix := fun W => run_indexAt_part (P := Try.prog) 53 16 3 Try.underlying53 Try.sizeOf3 (by omega) kb 4 yn hyn W
      have hixb := fun W => run_indexAt_part (P := Try.prog) 53 16 3 Try.underlying53 Try.sizeOf3 (by omega) kb 4 bn hbn W
      have HBD : Hid (Below w.heap.size w wr.drew) := Lib.hid ⟨HBW.out.os, HBW.out.tape, HBW.out.output, HBW.out.size, HBW.out.block⟩
      clear hy2 hY hZ hyf hcy hcb
      cases hd : decide (Y < Z) with
      | true =>
        go_wp2_with fail
        refine wp_region_held_drew (S := fun w' => w'.cell? ⟨mb, 0, none⟩ = some (.int .i64 (yn : Int)) ∧ w'.cell? ⟨kb, 4 + yn, none⟩ = some (.int .i64 Y) ∧ w'.cell? ⟨kb, 4 + bn, none⟩ = some (.int .i64 Z)) (by kernel_rfl) ⟨HC0.out, HCY.out, HCB.out⟩ (fun hHeld => ?_)
        refine wpAnyH_take (i := 0) (oi := { dst := some 22, op := .move (.tmp 0), type := _, pos := _, after := _, guard := none }) (v := .pointer (some ⟨kb, 0, none⟩)) rfl (by kernel_rfl) (by kernel_rfl) (by kernel_rfl) (fun _ _ _ h => h) (Or.inl ⟨by rfl, fun wh hSw => ?_⟩) hHeld ?_
        · (obtain ⟨s1, s2, s3⟩ := hSw; go_simp)
        try simp only [Act.put, List.setIfInBounds_toArray, List.set_cons_zero, List.set_cons_succ]
        refine wpAnyH_take (i := 1) (oi := { dst := some 23, op := .move (.tmp 4), type := _, pos := _, after := _, guard := none }) (v := .pointer (some ⟨mb, 0, none⟩)) rfl (by kernel_rfl) (by kernel_rfl) (by kernel_rfl) (fun _ _ _ h => h) (Or.inl ⟨by rfl, fun wh hSw => ?_⟩) hHeld ?_
        · (obtain ⟨s1, s2, s3⟩ := hSw; go_simp)
        try simp only [Act.put, List.setIfInBounds_toArray, List.set_cons_zero, List.set_cons_succ]
        refine wpAnyH_take (i := 2) (oi := { dst := some 24, op := .nilCheck (.tmp 23), type := _, pos := _, after := _, guard := none }) (v := .pointer (some ⟨mb, 0, none⟩)) rfl (by kernel_rfl) (by kernel_rfl) (by kernel_rfl) (fun _ _ _ h => h) (Or.inl ⟨by rfl, fun wh hSw => ?_⟩) hHeld ?_
        · (obtain ⟨s1, s2, s3⟩ := hSw; go_simp)
        try simp only [Act.put, List.setIfInBounds_toArray, List.set_cons_zero, List.set_cons_succ]
        refine wpAnyH_take (i := 3) (oi := { dst := some 25, op := .fieldAddr 52 (.tmp 24) 0, type := _, pos := _, after := _, guard := none }) (v := .pointer (some ⟨mb, 0, none⟩)) rfl (by kernel_rfl) (by kernel_rfl) (by kernel_rfl) (fun _ _ _ h => h) (Or.inl ⟨by rfl, fun wh hSw => ?_⟩) hHeld ?_
        · (obtain ⟨s1, s2, s3⟩ := hSw; go_simp)
        try simp only [Act.put, List.setIfInBounds_toArray, List.set_cons_zero, List.set_cons_succ]
        refine wpAnyH_take (i := 4) (oi := { dst := some 26, op := .load 3 (.tmp 25), type := _, pos := _, after := _, guard := none }) (v := .int .i64 (yn : Int)) rfl (by kernel_rfl) (by kernel_rfl) (by kernel_rfl) (fun _ _ _ h => h) (Or.inl ⟨by rfl, fun wh hSw => ?_⟩) hHeld ?_
        · (obtain ⟨s1, s2, s3⟩ := hSw; go_simp)
        try simp only [Act.put, List.setIfInBounds_toArray, List.set_cons_zero, List.set_cons_succ]
        refine wpAnyH_take (i := 5) (oi := { dst := some 27, op := .nilCheck (.tmp 22), type := _, pos := _, after := _, guard := none }) (v := .pointer (some ⟨kb, 0, none⟩)) rfl (by kernel_rfl) (by kernel_rfl) (by kernel_rfl) (fun _ _ _ h => h) (Or.inl ⟨by rfl, fun wh hSw => ?_⟩) hHeld ?_
        · (obtain ⟨s1, s2, s3⟩ := hSw; go_simp)
        try simp only [Act.put, List.setIfInBounds_toArray, List.set_cons_zero, List.set_cons_succ]
        refine wpAnyH_take (i := 6) (oi := { dst := some 28, op := .fieldAddr 55 (.tmp 27) 4, type := _, pos := _, after := _, guard := none }) (v := .pointer (some ⟨kb, 4, none⟩)) rfl (by kernel_rfl) (by kernel_rfl) (by kernel_rfl) (fun _ _ _ h => h) (Or.inl ⟨by rfl, fun wh hSw => ?_⟩) hHeld ?_
        · (obtain ⟨s1, s2, s3⟩ := hSw; go_simp)
        try simp only [Act.put, List.setIfInBounds_toArray, List.set_cons_zero, List.set_cons_succ]
        refine wpAnyH_take (i := 7) (oi := { dst := some 29, op := .indexAddr 53 (.tmp 28) (.tmp 26), type := _, pos := _, after := _, guard := none }) (v := .pointer (some ⟨kb, 4 + yn, none⟩)) rfl (by kernel_rfl) (by kernel_rfl) (by kernel_rfl) (fun _ _ _ h => h) (Or.inl ⟨by rfl, fun wh hSw => ?_⟩) hHeld ?_
        · (obtain ⟨s1, s2, s3⟩ := hSw; go_simp)
        try simp only [Act.put, List.setIfInBounds_toArray, List.set_cons_zero, List.set_cons_succ]
        refine wpAnyH_take (i := 8) (oi := { dst := some 30, op := .load 3 (.tmp 29), type := _, pos := _, after := _, guard := none }) (v := .int .i64 Y) rfl (by kernel_rfl) (by kernel_rfl) (by kernel_rfl) (fun _ _ _ h => h) (Or.inl ⟨by rfl, fun wh hSw => ?_⟩) hHeld ?_
        · (obtain ⟨s1, s2, s3⟩ := hSw; go_simp)
        try simp only [Act.put, List.setIfInBounds_toArray, List.set_cons_zero, List.set_cons_succ]
        refine wpAnyH_take (i := 9) (oi := { dst := some 31, op := .move (.tmp 0), type := _, pos := _, after := _, guard := none }) (v := .pointer (some ⟨kb, 0, none⟩)) rfl (by kernel_rfl) (by kernel_rfl) (by kernel_rfl) (fun _ _ _ h => h) (Or.inl ⟨by rfl, fun wh hSw => ?_⟩) hHeld ?_
        · (obtain ⟨s1, s2, s3⟩ := hSw; go_simp)
        try simp only [Act.put, List.setIfInBounds_toArray, List.set_cons_zero, List.set_cons_succ]
        refine wpAnyH_take (i := 10) (oi := { dst := some 32, op := .move (.tmp 3), type := _, pos := _, after := _, guard := none }) (v := .int .i64 (bn : Int)) rfl (by kernel_rfl) (by kernel_rfl) (by kernel_rfl) (fun _ _ _ h => h) (Or.inl ⟨by rfl, fun wh hSw => ?_⟩) hHeld ?_
        · (obtain ⟨s1, s2, s3⟩ := hSw; go_simp)
        try simp only [Act.put, List.setIfInBounds_toArray, List.set_cons_zero, List.set_cons_succ]
        refine wpAnyH_take (i := 11) (oi := { dst := some 33, op := .nilCheck (.tmp 31), type := _, pos := _, after := _, guard := none }) (v := .pointer (some ⟨kb, 0, none⟩)) rfl (by kernel_rfl) (by kernel_rfl) (by kernel_rfl) (fun _ _ _ h => h) (Or.inl ⟨by rfl, fun wh hSw => ?_⟩) hHeld ?_
        · (obtain ⟨s1, s2, s3⟩ := hSw; go_simp)
        try simp only [Act.put, List.setIfInBounds_toArray, List.set_cons_zero, List.set_cons_succ]
        refine wpAnyH_take (i := 12) (oi := { dst := some 34, op := .fieldAddr 55 (.tmp 33) 4, type := _, pos := _, after := _, guard := none }) (v := .pointer (some ⟨kb, 4, none⟩)) rfl (by kernel_rfl) (by kernel_rfl) (by kernel_rfl) (fun _ _ _ h => h) (Or.inl ⟨by rfl, fun wh hSw => ?_⟩) hHeld ?_
        · (obtain ⟨s1, s2, s3⟩ := hSw; go_simp)
        try simp only [Act.put, List.setIfInBounds_toArray, List.set_cons_zero, List.set_cons_succ]
        refine wpAnyH_take (i := 13) (oi := { dst := some 35, op := .indexAddr 53 (.tmp 34) (.tmp 32), type := _, pos := _, after := _, guard := none }) (v := .pointer (some ⟨kb, 4 + bn, none⟩)) rfl (by kernel_rfl) (by kernel_rfl) (by kernel_rfl) (fun _ _ _ h => h) (Or.inl ⟨by rfl, fun wh hSw => ?_⟩) hHeld ?_
        · (obtain ⟨s1, s2, s3⟩ := hSw; go_simp)
        try simp only [Act.put, List.setIfInBounds_toArray, List.set_cons_zero, List.set_cons_succ]
        refine wpAnyH_take (i := 14) (oi := { dst := some 36, op := .load 3 (.tmp 35), type := _, pos := _, after := _, guard := none }) (v := .int .i64 Z) rfl (by kernel_rfl) (by kernel_rfl) (by kernel_rfl) (fun _ _ _ h => h) (Or.inl ⟨by rfl, fun wh hSw => ?_⟩) hHeld ?_
        · (obtain ⟨s1, s2, s3⟩ := hSw; go_simp)
        try simp only [Act.put, List.setIfInBounds_toArray, List.set_cons_zero, List.set_cons_succ]
        refine wpAnyH_take (i := 15) (oi := { dst := some 37, op := .binOp .lss 3 (.tmp 30) (.tmp 36) 3, type := _, pos := _, after := _, guard := none }) (v := .bool true) rfl (by kernel_rfl) (by kernel_rfl) (by kernel_rfl) (fun _ _ _ h => h) (Or.inl ⟨by rfl, fun wh hSw => ?_⟩) hHeld ?_
        · (obtain ⟨s1, s2, s3⟩ := hSw; go_simp)
        try simp only [Act.put, List.setIfInBounds_toArray, List.set_cons_zero, List.set_cons_succ]
        refine wpAnyH_done (by kernel_rfl) ?_ _
        obtain ⟨-, k0, -, q4, k1, k2⟩ := HPX.out
        have k3 : wr.drew.cell? ⟨mb, 1, none⟩ = some (.pointer q3) := HC1.out
        clear k2 k1
        go_wp2_with fail
        go_roundw
        case rel => exact ⟨(yn : Int), pre ++ [(mb, (yn : Int))], us, q3, rfl, rfl, HE2, HXD, HKD, Lib.hid (by rw [HRR2.out, hlt.out, hd]; rw [if_pos rfl]), HYB, HBD⟩
        case measure =>
          show mP (blk ns) (.pointer q3) < mP (blk ns) (.pointer (some ⟨mb, 0, none⟩))
          rw [HM1.out, HM2.out]; simp
      | false =>
        go_wp2_with fail
        refine wp_region_held_drew (S := fun w' => w'.cell? ⟨mb, 0, none⟩ = some (.int .i64 (yn : Int)) ∧ w'.cell? ⟨kb, 4 + yn, none⟩ = some (.int .i64 Y) ∧ w'.cell? ⟨kb, 4 + bn, none⟩ = some (.int .i64 Z)) (by kernel_rfl) ⟨HC0.out, HCY.out, HCB.out⟩ (fun hHeld => ?_)
        refine wpAnyH_take (i := 0) (oi := { dst := some 22, op := .move (.tmp 0), type := _, pos := _, after := _, guard := none }) (v := .pointer (some ⟨kb, 0, none⟩)) rfl (by kernel_rfl) (by kernel_rfl) (by kernel_rfl) (fun _ _ _ h => h) (Or.inl ⟨by rfl, fun wh hSw => ?_⟩) hHeld ?_
        · (obtain ⟨s1, s2, s3⟩ := hSw; go_simp)
        try simp only [Act.put, List.setIfInBounds_toArray, List.set_cons_zero, List.set_cons_succ]
        refine wpAnyH_take (i := 1) (oi := { dst := some 23, op := .move (.tmp 4), type := _, pos := _, after := _, guard := none }) (v := .pointer (some ⟨mb, 0, none⟩)) rfl (by kernel_rfl) (by kernel_rfl) (by kernel_rfl) (fun _ _ _ h => h) (Or.inl ⟨by rfl, fun wh hSw => ?_⟩) hHeld ?_
        · (obtain ⟨s1, s2, s3⟩ := hSw; go_simp)
        try simp only [Act.put, List.setIfInBounds_toArray, List.set_cons_zero, List.set_cons_succ]
        refine wpAnyH_take (i := 2) (oi := { dst := some 24, op := .nilCheck (.tmp 23), type := _, pos := _, after := _, guard := none }) (v := .pointer (some ⟨mb, 0, none⟩)) rfl (by kernel_rfl) (by kernel_rfl) (by kernel_rfl) (fun _ _ _ h => h) (Or.inl ⟨by rfl, fun wh hSw => ?_⟩) hHeld ?_
        · (obtain ⟨s1, s2, s3⟩ := hSw; go_simp)
        try simp only [Act.put, List.setIfInBounds_toArray, List.set_cons_zero, List.set_cons_succ]
        refine wpAnyH_take (i := 3) (oi := { dst := some 25, op := .fieldAddr 52 (.tmp 24) 0, type := _, pos := _, after := _, guard := none }) (v := .pointer (some ⟨mb, 0, none⟩)) rfl (by kernel_rfl) (by kernel_rfl) (by kernel_rfl) (fun _ _ _ h => h) (Or.inl ⟨by rfl, fun wh hSw => ?_⟩) hHeld ?_
        · (obtain ⟨s1, s2, s3⟩ := hSw; go_simp)
        try simp only [Act.put, List.setIfInBounds_toArray, List.set_cons_zero, List.set_cons_succ]
        refine wpAnyH_take (i := 4) (oi := { dst := some 26, op := .load 3 (.tmp 25), type := _, pos := _, after := _, guard := none }) (v := .int .i64 (yn : Int)) rfl (by kernel_rfl) (by kernel_rfl) (by kernel_rfl) (fun _ _ _ h => h) (Or.inl ⟨by rfl, fun wh hSw => ?_⟩) hHeld ?_
        · (obtain ⟨s1, s2, s3⟩ := hSw; go_simp)
        try simp only [Act.put, List.setIfInBounds_toArray, List.set_cons_zero, List.set_cons_succ]
        refine wpAnyH_take (i := 5) (oi := { dst := some 27, op := .nilCheck (.tmp 22), type := _, pos := _, after := _, guard := none }) (v := .pointer (some ⟨kb, 0, none⟩)) rfl (by kernel_rfl) (by kernel_rfl) (by kernel_rfl) (fun _ _ _ h => h) (Or.inl ⟨by rfl, fun wh hSw => ?_⟩) hHeld ?_
        · (obtain ⟨s1, s2, s3⟩ := hSw; go_simp)
        try simp only [Act.put, List.setIfInBounds_toArray, List.set_cons_zero, List.set_cons_succ]
        refine wpAnyH_take (i := 6) (oi := { dst := some 28, op := .fieldAddr 55 (.tmp 27) 4, type := _, pos := _, after := _, guard := none }) (v := .pointer (some ⟨kb, 4, none⟩)) rfl (by kernel_rfl) (by kernel_rfl) (by kernel_rfl) (fun _ _ _ h => h) (Or.inl ⟨by rfl, fun wh hSw => ?_⟩) hHeld ?_
        · (obtain ⟨s1, s2, s3⟩ := hSw; go_simp)
        try simp only [Act.put, List.setIfInBounds_toArray, List.set_cons_zero, List.set_cons_succ]
        refine wpAnyH_take (i := 7) (oi := { dst := some 29, op := .indexAddr 53 (.tmp 28) (.tmp 26), type := _, pos := _, after := _, guard := none }) (v := .pointer (some ⟨kb, 4 + yn, none⟩)) rfl (by kernel_rfl) (by kernel_rfl) (by kernel_rfl) (fun _ _ _ h => h) (Or.inl ⟨by rfl, fun wh hSw => ?_⟩) hHeld ?_
        · (obtain ⟨s1, s2, s3⟩ := hSw; go_simp)
        try simp only [Act.put, List.setIfInBounds_toArray, List.set_cons_zero, List.set_cons_succ]
        refine wpAnyH_take (i := 8) (oi := { dst := some 30, op := .load 3 (.tmp 29), type := _, pos := _, after := _, guard := none }) (v := .int .i64 Y) rfl (by kernel_rfl) (by kernel_rfl) (by kernel_rfl) (fun _ _ _ h => h) (Or.inl ⟨by rfl, fun wh hSw => ?_⟩) hHeld ?_
        · (obtain ⟨s1, s2, s3⟩ := hSw; go_simp)
        try simp only [Act.put, List.setIfInBounds_toArray, List.set_cons_zero, List.set_cons_succ]
        refine wpAnyH_take (i := 9) (oi := { dst := some 31, op := .move (.tmp 0), type := _, pos := _, after := _, guard := none }) (v := .pointer (some ⟨kb, 0, none⟩)) rfl (by kernel_rfl) (by kernel_rfl) (by kernel_rfl) (fun _ _ _ h => h) (Or.inl ⟨by rfl, fun wh hSw => ?_⟩) hHeld ?_
        · (obtain ⟨s1, s2, s3⟩ := hSw; go_simp)
        try simp only [Act.put, List.setIfInBounds_toArray, List.set_cons_zero, List.set_cons_succ]
        refine wpAnyH_take (i := 10) (oi := { dst := some 32, op := .move (.tmp 3), type := _, pos := _, after := _, guard := none }) (v := .int .i64 (bn : Int)) rfl (by kernel_rfl) (by kernel_rfl) (by kernel_rfl) (fun _ _ _ h => h) (Or.inl ⟨by rfl, fun wh hSw => ?_⟩) hHeld ?_
        · (obtain ⟨s1, s2, s3⟩ := hSw; go_simp)
        try simp only [Act.put, List.setIfInBounds_toArray, List.set_cons_zero, List.set_cons_succ]
        refine wpAnyH_take (i := 11) (oi := { dst := some 33, op := .nilCheck (.tmp 31), type := _, pos := _, after := _, guard := none }) (v := .pointer (some ⟨kb, 0, none⟩)) rfl (by kernel_rfl) (by kernel_rfl) (by kernel_rfl) (fun _ _ _ h => h) (Or.inl ⟨by rfl, fun wh hSw => ?_⟩) hHeld ?_
        · (obtain ⟨s1, s2, s3⟩ := hSw; go_simp)
        try simp only [Act.put, List.setIfInBounds_toArray, List.set_cons_zero, List.set_cons_succ]
        refine wpAnyH_take (i := 12) (oi := { dst := some 34, op := .fieldAddr 55 (.tmp 33) 4, type := _, pos := _, after := _, guard := none }) (v := .pointer (some ⟨kb, 4, none⟩)) rfl (by kernel_rfl) (by kernel_rfl) (by kernel_rfl) (fun _ _ _ h => h) (Or.inl ⟨by rfl, fun wh hSw => ?_⟩) hHeld ?_
        · (obtain ⟨s1, s2, s3⟩ := hSw; go_simp)
        try simp only [Act.put, List.setIfInBounds_toArray, List.set_cons_zero, List.set_cons_succ]
        refine wpAnyH_take (i := 13) (oi := { dst := some 35, op := .indexAddr 53 (.tmp 34) (.tmp 32), type := _, pos := _, after := _, guard := none }) (v := .pointer (some ⟨kb, 4 + bn, none⟩)) rfl (by kernel_rfl) (by kernel_rfl) (by kernel_rfl) (fun _ _ _ h => h) (Or.inl ⟨by rfl, fun wh hSw => ?_⟩) hHeld ?_
        · (obtain ⟨s1, s2, s3⟩ := hSw; go_simp)
        try simp only [Act.put, List.setIfInBounds_toArray, List.set_cons_zero, List.set_cons_succ]
        refine wpAnyH_take (i := 14) (oi := { dst := some 36, op := .load 3 (.tmp 35), type := _, pos := _, after := _, guard := none }) (v := .int .i64 Z) rfl (by kernel_rfl) (by kernel_rfl) (by kernel_rfl) (fun _ _ _ h => h) (Or.inl ⟨by rfl, fun wh hSw => ?_⟩) hHeld ?_
        · (obtain ⟨s1, s2, s3⟩ := hSw; go_simp)
        try simp only [Act.put, List.setIfInBounds_toArray, List.set_cons_zero, List.set_cons_succ]
        refine wpAnyH_take (i := 15) (oi := { dst := some 37, op := .binOp .lss 3 (.tmp 30) (.tmp 36) 3, type := _, pos := _, after := _, guard := none }) (v := .bool false) rfl (by kernel_rfl) (by kernel_rfl) (by kernel_rfl) (fun _ _ _ h => h) (Or.inl ⟨by rfl, fun wh hSw => ?_⟩) hHeld ?_
        · (obtain ⟨s1, s2, s3⟩ := hSw; go_simp)
        try simp only [Act.put, List.setIfInBounds_toArray, List.set_cons_zero, List.set_cons_succ]
        refine wpAnyH_done (by kernel_rfl) ?_ _
        obtain ⟨-, k0, -, q4, k1, k2⟩ := HPX.out
        have k3 : wr.drew.cell? ⟨mb, 1, none⟩ = some (.pointer q3) := HC1.out
        clear k2 k1
        go_wp2_with fail
        go_roundw
        case rel => exact ⟨(bn : Int), pre ++ [(mb, (yn : Int))], us, q3, rfl, rfl, HE2, HXD, HKD, Lib.hid (by rw [HRR2.out, hlt.out, hd]; rfl), HBB, HBD⟩
        case measure =>
          show mP (blk ns) (.pointer q3) < mP (blk ns) (.pointer (some ⟨mb, 0, none⟩))
          rw [HM1.out, HM2.out]; simp
end Go.Proofs.Ytfnmnegddhggaaa
namespace Go.Proofs.Ytfnmnegddhggaaa
open Go.ChangeShapes Go.WideShapes Go.ChangeAt Go.RowKit
set_option linter.unusedVariables false
set_option linter.unusedSimpArgs false
set_option maxRecDepth 100000 in
set_option maxHeartbeats 1000000 in
theorem icf : CFF := by
  intro w v xs f h
  have HKO := Lib.hid (ikeeperOf_any w v xs f h)
  clear h
  have hmf : ∀ (fn : Fn) (first cap : Array Value) (w : World), (Instr.makeFunc fn first cap).run Try.prog w = .ok (.func fn first cap) w := fun _ _ _ _ => rfl
  by_cases hk : ftOk xs f = true
  · simp only [hk, if_true] at HKO
    obtain ⟨F, rfl, h1, h2⟩ := ftOk_f hk
    have HOK := Lib.hid hk
    have HFB := Lib.hid (fun w1 (h : KSt w w.heap.size [] xs (F : Int) 0 (fun _ => 0) w1) => ifaultsBy_any 53 ruleF icameFirst_any ruleF_in (fun _ _ => by rfl) w w.heap.size F [] xs 0 (fun _ => 0) w1 (by simpa using h) ⟨h1, h2⟩ ⟨Nat.zero_le _, fun y hy => by simp at hy, (trOk_iff.1 (ftOk_tr hk)).1, by have := (trOk_iff.1 (ftOk_tr hk)).2; omega⟩)
    obtain ⟨R, hR⟩ : ∃ R, R = ffirst xs (F : Int) := ⟨_, rfl⟩
    rw [← hR]
    have HR : Hid (R = (xRun ruleF F [] (fun _ => 0) 0 xs : Nat)) := Lib.hid (by rw [hR]; exact x_first hk (by omega))
    clear hk hR
    go_enter Try.func30, Try.ntmps30
    go_wp2_with fail
    refine HKO.out.mono ?_
    rintro e w1 ⟨rfl, hst⟩
    have HST := Lib.hid hst
    clear hst
    go_wp2_with fail
    refine (HFB.out w1 HST.out).mono ?_
    rintro e w2 ⟨rfl, hb⟩
    have HB := Lib.hid hb
    clear hb
    go_wp2_with fail
    go_ret
    exact ⟨by rw [HR.out]; rfl, HB.out⟩
  · have hr : ffirst xs f = -1 := if_neg hk
    simp only [hk] at HKO
    rw [hr]
    clear hk hr
    go_enter Try.func30, Try.ntmps30
    go_wp2_with fail
    refine HKO.out.mono ?_
    rintro e w1 ⟨rfl, rfl⟩
    go_wp2_with fail
    go_ret
    exact ⟨rfl, Below.refl _ _⟩
end Go.Proofs.Ytfnmnegddhggaaa
