/- What the proofs stand on, part 9. -/
import Derived.Test.YtaalnjinocicgaaRows
import Derived.Test.YtaalnjinocicgaaW1
import Derived.Test.YtaalnjinocicgaaW3
import Derived.Test.YtaalnjinocicgaaW6
set_option linter.unusedSimpArgs false
set_option linter.unusedVariables false
namespace Go.Proofs.Ytaalnjinocicgaa
open Go.ChangeShapes Go.WideShapes Go.ChangeAt Go.RowKit
set_option linter.unusedVariables false
section
variable {P : Program}
end
theorem range_blocks {w w' : World} {b o : Nat} {cs : List Value} (h : w.rangeAt b o cs) (e : w'.heap[b]? = w.heap[b]?) : w'.rangeAt b o cs := fun j v hv => by
  rw [World.cell?_of_block e]; exact h j v hv
end Go.Proofs.Ytaalnjinocicgaa
namespace Go.Proofs.Ytaalnjinocicgaa
set_option linter.unusedVariables false
set_option linter.unusedSimpArgs false
def sputB (xss : Rs) (ws : List Int) : Bool := swOk xss && (wordsOk ws && decide (sidx xss < xss.length))
def sput (xss : Rs) (ws : List Int) : Rs := if sputB xss ws = true then xss.set (sidx xss) ws else []
def sputN (xss : Rs) (ws : List Int) : Int := if sputB xss ws = true then (sidx xss : Int) else 0
theorem sidx_none {xss : Rs} (hb : ∀ i, i < xss.length → xss.getD i [] ≠ []) : sidx xss = xss.length := by
  have h1 : ¬ sidx xss < xss.length := fun h => hb _ h (sidx_free h)
  have := sidx_le xss
  omega
end Go.Proofs.Ytaalnjinocicgaa
namespace Go.Proofs.Ytaalnjinocicgaa
open Go.ChangeShapes Go.WideShapes Go.ChangeAt Go.RowKit
set_option linter.unusedVariables false
set_option linter.unusedSimpArgs false
theorem l31Free_any (w : World) (v : Value) (xss : Rs) (h : Rows2 w v xss) :
    Calls Try.prog 42 #[v] w fun e w' => e = .returned (.int .i64 (if sidx xss < xss.length then (sidx xss : Int) else -1)) ∧ w = w' := by
  obtain ⟨a, ca, rfl, hla, hma, hxa⟩ := h
  unfold maxLen at hma
  obtain ⟨n, hN⟩ : ∃ n, n = xss.length := ⟨_, rfl⟩
  rw [← hN] at hla hxa ⊢
  have HN := Lib.hid hN
  have HX := Lib.hid hxa
  obtain ⟨r, hr⟩ : ∃ r, r = (if sidx xss < n then (sidx xss : Int) else -1) := ⟨_, rfl⟩
  rw [← hr]
  have HR := Lib.hid hr
  clear hN hxa hr
  go_enter Try.func42, Try.ntmps42
  go_wp2
  go_loopw [3] (fun i wr => ∃ k : Nat, k ≤ n ∧ i = .int .i64 k ∧ Hid (∀ i, i < k → xss.getD i [] ≠ []) ∧ wr = w) (fun i _ => n - (intOf i).toNat)
  case atStart => exact ⟨0, Nat.zero_le _, rfl, Lib.hid (fun i hi => by omega), by first | trivial | rfl⟩
  case round =>
    obtain ⟨k, hk, rfl, HOK, rfl⟩ := hrel
    by_cases hlt : k < n
    · obtain ⟨b, o, u, rfl, hc, hu⟩ := HX.out k hlt
      have hlt' : (k : Int) < (n : Int) := by omega
      obtain ⟨xs, hxs⟩ : ∃ xs, xs = xss.getD k [] := ⟨_, rfl⟩
      rw [← hxs] at hu
      have HXK := Lib.hid hxs
      obtain ⟨ra, rc, rfl, hr1, hr2, -⟩ := hu
      clear hxs
      by_cases hz : xs.length = 0
      · have HF : Hid (r = (k : Int)) := Lib.hid (by
          have hs := sidx_first (by rw [← HN.out]; exact hlt) HOK.out (by rw [← HXK.out]; exact len0_iff.1 hz)
          rw [HR.out, hs, if_pos hlt])
        rw [hz] at hc hr1
        go_wp2
        go_ret
        exact ⟨by rw [HF.out]; rfl, by first | trivial | rfl⟩
      · obtain ⟨m, hm⟩ : ∃ m, m = xs.length := ⟨_, rfl⟩
        have HNE : Hid (xs ≠ []) := Lib.hid (fun e => hz (by rw [e]; rfl))
        rw [← hm] at hc hr1 hz
        have hz' : ((m : Int) == 0) = false := by simp; omega
        clear hm hz
        go_wp2
        go_roundw
        case rel => exact ⟨k + 1, by omega, by go_num, Lib.hid (fun i hi => by
          by_cases he : i = k
          · rw [he, ← HXK.out]; exact HNE.out
          · exact HOK.out i (by omega)), by first | trivial | rfl⟩
        case measure => simp [intOf]; omega
    · have e : k = n := by omega
      subst e
      have HF : Hid (r = -1) := Lib.hid (by
        have hs := sidx_none (xss := xss) (by rw [← HN.out]; exact HOK.out)
        rw [HR.out, if_neg (by rw [hs, ← HN.out]; omega)])
      go_wp2
      go_ret
      exact ⟨by rw [HF.out]; rfl, by first | trivial | rfl⟩
end Go.Proofs.Ytaalnjinocicgaa
namespace Go.Proofs.Ytaalnjinocicgaa
open Go.ChangeShapes Go.WideShapes Go.ChangeAt Go.RowKit
set_option linter.unusedVariables false
set_option linter.unusedSimpArgs false
def NewMN (yss : Rs) (n : Int) (b : Bool) (w : World) (e : Ending) (w' : World) : Prop := ∃ v, e = .returned (.tuple #[v, .int .i64 n, .bool b]) ∧ MatW w' w.heap.size w'.heap.size v yss ∧ Below w.heap.size w w'
set_option maxRecDepth 100000 in
set_option maxHeartbeats 1000000 in
theorem sSwapPut_any (w : World) (v u : Value) (xss : Rs) (ws : List Int) (h : Rows2 w v xss) (hw : Ints w u ws) :
    Calls Try.prog 15 #[v, u] w (NewMN (sput xss ws) (sputN xss ws) (sputB xss ws) w) := by
  have HV := Lib.hid (sSwapValid_any w v xss h)
  have HFR := Lib.hid (l31Free_any w v xss h)
  have HW := Lib.hid (l2Words_any w u ws hw)
  have HU := Lib.hid hw
  have HCP := Lib.hid (fun hm => copy_sw w v xss h hm)
  obtain ⟨a, ca, rfl, hla, hma, -⟩ := h
  unfold maxLen at hma
  obtain ⟨b, hb⟩ : ∃ b, b = sputB xss ws := ⟨_, rfl⟩
  obtain ⟨ys, hys⟩ : ∃ ys, ys = sput xss ws := ⟨_, rfl⟩
  obtain ⟨q, hq⟩ : ∃ q, q = sputN xss ws := ⟨_, rfl⟩
  rw [← hb, ← hys, ← hq]
  have HB := Lib.hid hb
  have HYS : Hid (ys = if b = true then xss.set (sidx xss) ws else []) := Lib.hid (by rw [hys, sput, ← hb])
  have HQS : Hid (q = if b = true then (sidx xss : Int) else 0) := Lib.hid (by rw [hq, sputN, ← hb])
  clear hb hys hq hw
  have no : b = false → NewMN ys q b w (.returned (.tuple #[.slice (some ⟨w.heap.size, 0, none⟩) 0 0, .int .i64 0, .bool false])) (w.alloc (.cells #[] 24)) := fun hb => by
    have e : ys = [] := by rw [HYS.out, hb]; rfl
    have e2 : q = 0 := by rw [HQS.out, hb]; rfl
    rw [hb, e, e2]
    exact ⟨_, rfl, mat_nil _ _ _ _, (Below.refl _ _).alloc (Nat.le_refl _) _⟩
  have NO := Lib.hid no
  clear no
  cases h1 : swOk xss with
  | false =>
    have HF : Hid (b = false) := Lib.hid (by rw [HB.out, sputB, h1]; rfl)
    rw [h1] at HV
    clear h1
    generalize (if sidx xss < xss.length then (sidx xss : Int) else -1) = fr at HFR
    go_enter Try.func15, Try.ntmps15
    go_wp2_with fail
    refine HFR.out.mono ?_
    rintro e w' ⟨rfl, rfl⟩
    go_wp2_with fail
    refine HV.out.mono ?_
    rintro e w' ⟨rfl, rfl⟩
    go_wp2_with fail
    go_ret3
    exact NO.out HF.out
  | true =>
    have hl16 := sw_len h1
    have HL16 := Lib.hid hl16
    have HCM := Lib.hid (HCP.out h1)
    rw [hl16] at HV HFR HCM hla ⊢
    clear HCP
    cases h2 : wordsOk ws with
    | false =>
      have HF : Hid (b = false) := Lib.hid (by rw [HB.out, sputB, h2, Bool.false_and, Bool.and_false])
      rw [h1] at HV
      rw [h2] at HW
      clear h1 h2
      generalize (if sidx xss < 16 then (sidx xss : Int) else -1) = fr at HFR
      go_enter Try.func15, Try.ntmps15
      go_wp2_with fail
      refine HFR.out.mono ?_
      rintro e w' ⟨rfl, rfl⟩
      go_wp2_with fail
      refine HV.out.mono ?_
      rintro e w' ⟨rfl, rfl⟩
      go_wp2_with fail
      refine HW.out.mono ?_
      rintro e w' ⟨rfl, rfl⟩
      go_wp2_with fail
      go_ret3
      exact NO.out HF.out
    | true =>
      have HWL := Lib.hid (words_len h2)
      have HBB : Hid (b = decide (sidx xss < 16)) := Lib.hid (by rw [HB.out, sputB, h1, h2, hl16]; rfl)
      rw [h1] at HV
      rw [h2] at HW
      clear h1 h2 hl16
      obtain ⟨k, hk⟩ : ∃ k, k = sidx xss := ⟨_, rfl⟩
      rw [← hk] at HFR HYS HQS HBB
      clear hk
      by_cases hk16 : k < 16
      · have HF : Hid (b = true) := Lib.hid (by rw [HBB.out]; exact decide_eq_true hk16)
        have HY2 : Hid (ys = xss.set k ws ∧ q = (k : Int)) := Lib.hid (by rw [HYS.out, HQS.out, if_pos HF.out, if_pos HF.out]; exact ⟨rfl, rfl⟩)
        rw [if_pos hk16] at HFR
        have hk16' : (k : Int) < 16 := by omega
        have hk0 : ¬ (k : Int) < 0 := by omega
        go_enter Try.func15, Try.ntmps15
        go_wp2_with fail
        refine HFR.out.mono ?_
        rintro e w' ⟨rfl, rfl⟩
        go_wp2_with fail
        refine HV.out.mono ?_
        rintro e w' ⟨rfl, rfl⟩
        go_wp2_with fail
        refine HW.out.mono ?_
        rintro e w' ⟨rfl, rfl⟩
        go_wp2_with fail
        refine HCM.out.mono ?_
        rintro e w1 ⟨v1, rfl, hm1, hb1⟩
        obtain ⟨b1, o1, cap1, A1, C1, rfl, hq1, hq2, hq3, hq4, hq5, hq6⟩ := hm1.top (i := k) (by rw [HL16.out]; exact hk16)
        rw [HL16.out] at hm1 hq1 ⊢
        have HM1 := Lib.hid hm1
        have HB1 := Lib.hid hb1
        have HQ := Lib.hid (And.intro hq3 hq4)
        have HQ5 := Lib.hid hq5
        have HQ6 := Lib.hid hq6
        have HST := Lib.hid (OwnI.start w1)
        clear hm1 hq3 hq4 hq5 hq6
        go_wp2_with (at_builtin; refine wpList_append_ints (.tmp 28) (.tmp 29) w1 _ [] rfl HST.out _ ws rfl ((HU.out.below (B := 0) HB1.out).below (B := 0) HST.out.bel) (by simp only [List.length_nil]; have := HWL.out; omega) ?_; intro v2 w2 hown2 _; rw [List.nil_append] at hown2; have HO := Lib.hid hown2; have HW4 := Lib.hid (IntsW.of_own hown2); have hcell : w2.cell? ⟨b1, o1 + k, none⟩ = some (.slice A1 (xss.getD k []).length C1) := (World.cell?_of_block (hown2.bel.block b1 HQ.out.2)).trans HQ5.out; have hfz : w2.frozen? ⟨b1, o1 + k, none⟩ = false := (World.frozen?_of_block (hown2.bel.block b1 HQ.out.2)).trans HQ6.out; obtain ⟨g2, c2, rfl⟩ := own_slice hown2.own (by rw [HWL.out]; omega); clear hown2)
        have HE : Hid (MatW (w2.setCell ⟨b1, o1 + k, none⟩ (.slice (some ⟨g2, 0, none⟩) ws.length c2)) w.heap.size w2.heap.size (.slice (some ⟨b1, o1, none⟩) 16 cap1) (xss.set k ws) ∧ Below w.heap.size w (w2.setCell ⟨b1, o1 + k, none⟩ (.slice (some ⟨g2, 0, none⟩) ws.length c2))) := Lib.hid (by
          obtain ⟨a', c', e, r1, r2, r3⟩ := HW4.out
          injection e with e1 e2 e3
          subst e1
          subst e3
          refine ⟨mat_set HM1.out (fun j _ hj => HO.out.bel.block j hj) hk16 ?_ ?_ r1 r2 (fun m hm => ?_), (HB1.out.trans (HO.out.bel.mono HB1.out.size)).setCell (p := ⟨b1, o1 + k, none⟩) HQ.out.1 _⟩
          · obtain ⟨g', p', e, h0, h1', _⟩ := r3 0 (by rw [HWL.out]; omega)
            cases e; exact h0
          · obtain ⟨g', p', e, h0, h1', _⟩ := r3 0 (by rw [HWL.out]; omega)
            cases e; exact h1'
          · obtain ⟨g', p', e, _, _, h2, h3⟩ := r3 m hm
            cases e
            rw [Nat.zero_add] at h2 h3
            exact ⟨h2, h3⟩)
        have hsz : (w2.setCell ⟨b1, o1 + k, none⟩ (.slice (some ⟨g2, 0, none⟩) ws.length c2)).heap.size = w2.heap.size := by simp
        rw [← hsz] at HE
        clear hsz
        go_wp2_with fail
        go_ret3
        exact ⟨_, by rw [HF.out, HY2.out.2]; rfl, by rw [HY2.out.1]; exact HE.out.1, HE.out.2⟩
      · have HF : Hid (b = false) := Lib.hid (by rw [HBB.out]; exact decide_eq_false hk16)
        rw [if_neg hk16] at HFR
        go_enter Try.func15, Try.ntmps15
        go_wp2_with fail
        refine HFR.out.mono ?_
        rintro e w' ⟨rfl, rfl⟩
        go_wp2_with fail
        refine HV.out.mono ?_
        rintro e w' ⟨rfl, rfl⟩
        go_wp2_with fail
        refine HW.out.mono ?_
        rintro e w' ⟨rfl, rfl⟩
        go_wp2_with fail
        go_ret3
        exact NO.out HF.out
end Go.Proofs.Ytaalnjinocicgaa
namespace Go.Proofs.Ytaalnjinocicgaa
set_option linter.unusedVariables false
set_option linter.unusedSimpArgs false
def ISP : Prop := ∀ w v u xss ws, Rows2 w v xss → Ints w u ws → Calls Try.prog 14 #[v, u] w (NewMN (sput xss ws) (sputN xss ws) (sputB xss ws) w)
end Go.Proofs.Ytaalnjinocicgaa
namespace Go.Proofs.Ytaalnjinocicgaa
open Go.ChangeShapes Go.WideShapes Go.ChangeAt Go.RowKit
set_option linter.unusedVariables false
set_option linter.unusedSimpArgs false
set_option maxHeartbeats 1000000 in
theorem pop_any (w : World) (b : Nat) (C : Nat → Value) (h : Blk w b C) (hn : Nums C) (c : Nat) (hc : C 96 = .int .i64 ((c : Int) + 1)) (hc15 : c < 16) (x : Int) (hx : C (80 + c) = .int .i64 x) :
    Calls Try.prog 76 #[.pointer (some ⟨b, 80, none⟩)] w fun e w' => e = .returned (.iface 3 (.int .i64 x)) ∧ ∃ C', HpR w b C C' w' := by
  have h96 := h.cell 96 (by omega)
  have f96 := h.frz 96 (by omega)
  have hs := HpR.set h hn 16 (by omega) c
  have g1 := hs.blk.cell (80 + c) (by omega)
  have g2 := hs.blk.cell 96 (by omega)
  rw [putC_ne (by omega), hx] at g1
  rw [show (96 : Nat) = 80 + 16 from rfl, putC_at] at g2
  have G1 := Lib.hid g1
  have G2 := Lib.hid g2
  have HS := Lib.hid hs
  rw [hc] at h96
  have c1 : (c : Int) < 16 := by omega
  clear h hx hc hs g1 g2 hn
  go_enter Try.func76, Try.ntmps76
  go_wp2_with fail
  refine wp_region_held_drew (S := fun w' => w'.cell? ⟨b, 96, none⟩ = some (.int .i64 c) ∧ w'.cell? ⟨b, 80 + c, none⟩ = some (.int .i64 x)) (by kernel_rfl) ⟨G2.out, G1.out⟩ (fun hHeld => ?_)
  refine wpAnyH_take (i := 0) (oi := { dst := some 10, op := .move (.tmp 0), type := _, pos := _, after := _, guard := none }) (v := .pointer (some ⟨b, 80, none⟩)) rfl (by kernel_rfl) (by kernel_rfl) (by kernel_rfl) (fun _ _ _ h => h) (Or.inl ⟨by rfl, fun wh hSw => ?_⟩) hHeld ?_
  · (obtain ⟨s1, s2⟩ := hSw; go_simp)
  try simp only [Act.put, List.setIfInBounds_toArray, List.set_cons_zero, List.set_cons_succ]
  refine wpAnyH_take (i := 1) (oi := { dst := some 11, op := .move (.tmp 0), type := _, pos := _, after := _, guard := none }) (v := .pointer (some ⟨b, 80, none⟩)) rfl (by kernel_rfl) (by kernel_rfl) (by kernel_rfl) (fun _ _ _ h => h) (Or.inl ⟨by rfl, fun wh hSw => ?_⟩) hHeld ?_
  · (obtain ⟨s1, s2⟩ := hSw; go_simp)
  try simp only [Act.put, List.setIfInBounds_toArray, List.set_cons_zero, List.set_cons_succ]
  refine wpAnyH_take (i := 2) (oi := { dst := some 12, op := .nilCheck (.tmp 11), type := _, pos := _, after := _, guard := none }) (v := .pointer (some ⟨b, 80, none⟩)) rfl (by kernel_rfl) (by kernel_rfl) (by kernel_rfl) (fun _ _ _ h => h) (Or.inl ⟨by rfl, fun wh hSw => ?_⟩) hHeld ?_
  · (obtain ⟨s1, s2⟩ := hSw; go_simp)
  try simp only [Act.put, List.setIfInBounds_toArray, List.set_cons_zero, List.set_cons_succ]
  refine wpAnyH_take (i := 3) (oi := { dst := some 13, op := .fieldAddr 58 (.tmp 12) 1, type := _, pos := _, after := _, guard := none }) (v := .pointer (some ⟨b, 96, none⟩)) rfl (by kernel_rfl) (by kernel_rfl) (by kernel_rfl) (fun _ _ _ h => h) (Or.inl ⟨by rfl, fun wh hSw => ?_⟩) hHeld ?_
  · (obtain ⟨s1, s2⟩ := hSw; go_simp)
  try simp only [Act.put, List.setIfInBounds_toArray, List.set_cons_zero, List.set_cons_succ]
  refine wpAnyH_take (i := 4) (oi := { dst := some 14, op := .load 3 (.tmp 13), type := _, pos := _, after := _, guard := none }) (v := .int .i64 (c : Int)) rfl (by kernel_rfl) (by kernel_rfl) (by kernel_rfl) (fun _ _ _ h => h) (Or.inl ⟨by rfl, fun wh hSw => ?_⟩) hHeld ?_
  · (obtain ⟨s1, s2⟩ := hSw; go_simp)
  try simp only [Act.put, List.setIfInBounds_toArray, List.set_cons_zero, List.set_cons_succ]
  refine wpAnyH_take (i := 5) (oi := { dst := some 15, op := .nilCheck (.tmp 10), type := _, pos := _, after := _, guard := none }) (v := .pointer (some ⟨b, 80, none⟩)) rfl (by kernel_rfl) (by kernel_rfl) (by kernel_rfl) (fun _ _ _ h => h) (Or.inl ⟨by rfl, fun wh hSw => ?_⟩) hHeld ?_
  · (obtain ⟨s1, s2⟩ := hSw; go_simp)
  try simp only [Act.put, List.setIfInBounds_toArray, List.set_cons_zero, List.set_cons_succ]
  refine wpAnyH_take (i := 6) (oi := { dst := some 16, op := .fieldAddr 58 (.tmp 15) 0, type := _, pos := _, after := _, guard := none }) (v := .pointer (some ⟨b, 80, none⟩)) rfl (by kernel_rfl) (by kernel_rfl) (by kernel_rfl) (fun _ _ _ h => h) (Or.inl ⟨by rfl, fun wh hSw => ?_⟩) hHeld ?_
  · (obtain ⟨s1, s2⟩ := hSw; go_simp)
  try simp only [Act.put, List.setIfInBounds_toArray, List.set_cons_zero, List.set_cons_succ]
  refine wpAnyH_take (i := 7) (oi := { dst := some 17, op := .indexAddr 56 (.tmp 16) (.tmp 14), type := _, pos := _, after := _, guard := none }) (v := .pointer (some ⟨b, 80 + c, none⟩)) rfl (by kernel_rfl) (by kernel_rfl) (by kernel_rfl) (fun _ _ _ h => h) (Or.inl ⟨by rfl, fun wh hSw => ?_⟩) hHeld ?_
  · (obtain ⟨s1, s2⟩ := hSw; go_simp)
  try simp only [Act.put, List.setIfInBounds_toArray, List.set_cons_zero, List.set_cons_succ]
  refine wpAnyH_take (i := 8) (oi := { dst := some 18, op := .load 3 (.tmp 17), type := _, pos := _, after := _, guard := none }) (v := .int .i64 x) rfl (by kernel_rfl) (by kernel_rfl) (by kernel_rfl) (fun _ _ _ h => h) (Or.inl ⟨by rfl, fun wh hSw => ?_⟩) hHeld ?_
  · (obtain ⟨s1, s2⟩ := hSw; go_simp)
  try simp only [Act.put, List.setIfInBounds_toArray, List.set_cons_zero, List.set_cons_succ]
  refine wpAnyH_take (i := 9) (oi := { dst := some 19, op := .makeInterface 3 (.tmp 18), type := _, pos := _, after := _, guard := none }) (v := .iface 3 (.int .i64 x)) rfl (by kernel_rfl) (by kernel_rfl) (by kernel_rfl) (fun _ _ _ h => h) (Or.inl ⟨by rfl, fun wh hSw => ?_⟩) hHeld ?_
  · (obtain ⟨s1, s2⟩ := hSw; go_simp)
  try simp only [Act.put, List.setIfInBounds_toArray, List.set_cons_zero, List.set_cons_succ]
  refine wpAnyH_take (i := 10) (oi := { dst := some 2, op := .assign (.tmp 19), type := _, pos := _, after := _, guard := none }) (v := .iface 3 (.int .i64 x)) rfl (by kernel_rfl) (by kernel_rfl) (by kernel_rfl) (fun _ _ _ h => h) (Or.inl ⟨by rfl, fun wh hSw => ?_⟩) hHeld ?_
  · (obtain ⟨s1, s2⟩ := hSw; go_simp)
  try simp only [Act.put, List.setIfInBounds_toArray, List.set_cons_zero, List.set_cons_succ]
  refine wpAnyH_done (by kernel_rfl) ?_ _
  go_wp2_with fail
  go_ret
  exact ⟨rfl, _, HS.out.trans (HpR.drew HS.out.blk HS.out.nums)⟩
end Go.Proofs.Ytaalnjinocicgaa
namespace Go.Proofs.Ytaalnjinocicgaa
open Go.ChangeShapes Go.WideShapes Go.ChangeAt Go.RowKit
set_option linter.unusedVariables false
set_option linter.unusedSimpArgs false
theorem m_pop (w : World) (b : Nat) : (method 255 76 (.pointer (some ⟨b, 80, none⟩)) "Pop").run Try.prog w = .ok (76, .pointer (some ⟨b, 80, none⟩)) w := by kernel_rfl
theorem less_at (w : World) (b : Nat) (C : Nat → Value) (h : Blk w b C) (i j : Nat) (hi : i < 16) (hj : j < 16) (u v : Int) (hu : u = i) (hv : v = j) (x y : Int) (hx : C (80 + i) = .int .i64 x) (hy : C (80 + j) = .int .i64 y) :
    Calls Try.prog 75 #[.pointer (some ⟨b, 80, none⟩), .int .i64 u, .int .i64 v] w (Gives w (.bool (decide (x < y)))) := by
  subst hu
  subst hv
  exact less_any w b C h i j hi hj x y hx hy
theorem swp_at (w : World) (b : Nat) (C : Nat → Value) (h : Blk w b C) (hn : Nums C) (i j : Nat) (hi : i < 16) (hj : j < 16) (u v : Int) (hu : u = i) (hv : v = j) :
    Calls Try.prog 78 #[.pointer (some ⟨b, 80, none⟩), .int .i64 u, .int .i64 v] w fun e w' => e = .returned (.tuple #[]) ∧ HpR w b C (putC (putC C (80 + i) [C (80 + j)]) (80 + j) [C (80 + i)]) w' := by
  subst hu
  subst hv
  exact swp_any w b C h hn i j hi hj
def DownR (w : World) (b : Nat) (C : Nat → Value) (n : Nat) (e : Ending) (w' : World) : Prop :=
  ∃ r C', e = .returned (.bool r) ∧ HpR w b C C' w' ∧ ∀ m, 80 + n ≤ m → C' m = C m
set_option maxHeartbeats 1000000 in
theorem down_any (w : World) (b : Nat) (C : Nat → Value) (h : Blk w b C) (hn : Nums C) (n : Nat) (hj : n < 16) :
    Calls Try.prog 57 #[.iface 76 (.pointer (some ⟨b, 80, none⟩)), .int .i64 0, .int .i64 n] w (DownR w b C n) := by
  have ML := m_less
  have MS := m_swap
  have HR := Lib.hid (HpR.refl h hn)
  clear h hn
  go_enter Try.func57, Try.ntmps57
  go_wp2_with fail
  go_loopw [7] (fun i wr => ∃ (k : Nat) (C' : Nat → Value), (k < n ∨ k = 0) ∧ i = .int .i64 k ∧ Hid (HpR w b C C' wr) ∧ Hid (∀ m, 80 + n ≤ m → C' m = C m)) (fun i _ => 16 - (intOf i).toNat)
  case atStart => exact ⟨0, C, .inr rfl, rfl, HR, Lib.hid (fun _ _ => rfl)⟩
  case round =>
    obtain ⟨k, C', hk, rfl, HK, HS⟩ := hrel
    have hk16 : k < 16 := by omega
    by_cases h1 : 2 * k + 1 < n
    · obtain ⟨x, hx⟩ := HK.out.nums k (by omega)
      obtain ⟨y, hy⟩ := HK.out.nums (2 * k + 1) (by omega)
      by_cases h2 : 2 * k + 2 < n
      · obtain ⟨z, hz⟩ := HK.out.nums (2 * k + 2) (by omega)
        have HL := Lib.hid (less_at wr b C' HK.out.blk (2 * k + 2) (2 * k + 1) (by omega) (by omega) (2 * (k : Int) + 1 + 1) (2 * (k : Int) + 1) (by omega) (by omega) z y hz hy)
        go_wp2_with fail
        refine HL.out.mono ?_
        rintro en w5 ⟨rfl, hb5, hs5⟩
        have HK5 := Lib.hid (HK.out.sames hb5 hs5)
        clear hb5 hs5
        by_cases hzy : z < y
        · rw [decide_eq_true hzy]
          have HM := Lib.hid (less_at w5 b C' HK5.out.blk (2 * k + 2) k (by omega) hk16 (2 * (k : Int) + 1 + 1) (k : Int) (by omega) rfl z x hz hx)
          have HT := Lib.hid (fun W5 h5 => swp_at W5 b C' (HpR.blk h5) (HpR.nums h5) k (2 * k + 2) hk16 (by omega) (k : Int) (2 * (k : Int) + 1 + 1) rfl (by omega) : ∀ W5, HpR w b C C' W5 → _)
          go_wp2_with fail
          refine HM.out.mono ?_
          rintro en w7 ⟨rfl, hb7, hs7⟩
          have HK7 := Lib.hid (HK5.out.sames hb7 hs7)
          clear hb7 hs7
          by_cases hyx : z < x
          · rw [decide_eq_true hyx]
            go_wp2_with fail
            refine (HT.out _ HK7.out).mono ?_
            rintro en w8 ⟨rfl, hh8⟩
            have HK8 := Lib.hid (HK7.out.trans hh8)
            clear hh8
            go_wp2_with fail
            go_roundw
            case rel => exact ⟨2 * k + 2, _, .inl (by omega), by go_num, HK8, Lib.hid (fun m hm => by rw [putC_ne (by omega), putC_ne (by omega)]; exact HS.out m hm)⟩
            case measure => simp [intOf]; omega
          · rw [decide_eq_false hyx]
            go_wp2_with fail
            go_ret
            exact ⟨_, C', rfl, HK7.out, HS.out⟩
        · rw [decide_eq_false hzy]
          have HM := Lib.hid (less_at w5 b C' HK5.out.blk (2 * k + 1) k (by omega) hk16 (2 * (k : Int) + 1) (k : Int) (by omega) rfl y x hy hx)
          have HT := Lib.hid (fun W5 h5 => swp_at W5 b C' (HpR.blk h5) (HpR.nums h5) k (2 * k + 1) hk16 (by omega) (k : Int) (2 * (k : Int) + 1) rfl (by omega) : ∀ W5, HpR w b C C' W5 → _)
          go_wp2_with fail
          refine HM.out.mono ?_
          rintro en w7 ⟨rfl, hb7, hs7⟩
          have HK7 := Lib.hid (HK5.out.sames hb7 hs7)
          clear hb7 hs7
          by_cases hyx : y < x
          · rw [decide_eq_true hyx]
            go_wp2_with fail
            refine (HT.out _ HK7.out).mono ?_
            rintro en w8 ⟨rfl, hh8⟩
            have HK8 := Lib.hid (HK7.out.trans hh8)
            clear hh8
            go_wp2_with fail
            go_roundw
            case rel => exact ⟨2 * k + 1, _, .inl (by omega), by go_num, HK8, Lib.hid (fun m hm => by rw [putC_ne (by omega), putC_ne (by omega)]; exact HS.out m hm)⟩
            case measure => simp [intOf]; omega
          · rw [decide_eq_false hyx]
            go_wp2_with fail
            go_ret
            exact ⟨_, C', rfl, HK7.out, HS.out⟩
      · have HM := Lib.hid (less_at wr b C' HK.out.blk (2 * k + 1) k (by omega) hk16 (2 * (k : Int) + 1) (k : Int) (by omega) rfl y x hy hx)
        have HT := Lib.hid (fun W5 h5 => swp_at W5 b C' (HpR.blk h5) (HpR.nums h5) k (2 * k + 1) hk16 (by omega) (k : Int) (2 * (k : Int) + 1) rfl (by omega) : ∀ W5, HpR w b C C' W5 → _)
        go_wp2_with fail
        refine HM.out.mono ?_
        rintro en w7 ⟨rfl, hb7, hs7⟩
        have HK7 := Lib.hid (HK.out.sames hb7 hs7)
        clear hb7 hs7
        by_cases hyx : y < x
        · rw [decide_eq_true hyx]
          go_wp2_with fail
          refine (HT.out _ HK7.out).mono ?_
          rintro en w8 ⟨rfl, hh8⟩
          have HK8 := Lib.hid (HK7.out.trans hh8)
          clear hh8
          go_wp2_with fail
          go_roundw
          case rel => exact ⟨2 * k + 1, _, .inl (by omega), by go_num, HK8, Lib.hid (fun m hm => by rw [putC_ne (by omega), putC_ne (by omega)]; exact HS.out m hm)⟩
          case measure => simp [intOf]; omega
        · rw [decide_eq_false hyx]
          go_wp2_with fail
          go_ret
          exact ⟨_, C', rfl, HK7.out, HS.out⟩
    · go_wp2_with fail
      go_ret
      exact ⟨_, C', rfl, HK.out, HS.out⟩
end Go.Proofs.Ytaalnjinocicgaa
namespace Go.Proofs.Ytaalnjinocicgaa
open Go.ChangeShapes Go.WideShapes Go.ChangeAt Go.RowKit
set_option linter.unusedVariables false
set_option linter.unusedSimpArgs false
def PopR (w : World) (b : Nat) (C : Nat → Value) (x : Int) (e : Ending) (w' : World) : Prop :=
  e = .returned (.iface 3 (.int .i64 x)) ∧ ∃ C', HpR w b C C' w'
theorem hpop_any (w : World) (b : Nat) (C : Nat → Value) (h : Blk w b C) (hn : Nums C) (c : Nat) (hc : C 96 = .int .i64 ((c : Int) + 1)) (hc15 : c < 16) (x : Int) (hx : C 80 = .int .i64 x) :
    Calls Try.prog 54 #[.iface 76 (.pointer (some ⟨b, 80, none⟩))] w (PopR w b C x) := by
  have ML := m_len
  have MS := m_swap
  have MP := m_pop
  have HL := Lib.hid (len_any w b C h _ hc)
  have HW := Lib.hid (swp_at w b C h hn 0 c (by omega) hc15 0 (c : Int) rfl rfl)
  have HC := Lib.hid hc
  have HX := Lib.hid hx
  have HC15 := Lib.hid hc15
  clear h hn hc hx
  go_enter Try.func54, Try.ntmps54
  go_wp2_with fail
  refine HL.out.mono ?_
  rintro en w1 ⟨rfl, rfl⟩
  go_wp2_with fail
  refine HW.out.mono ?_
  rintro en w2 ⟨rfl, h2⟩
  obtain ⟨C2, hC2⟩ : ∃ C2, C2 = putC (putC C (80 + 0) [C (80 + c)]) (80 + c) [C (80 + 0)] := ⟨_, rfl⟩
  rw [← hC2] at h2
  have hx2 : C2 (80 + c) = .int .i64 x := by rw [hC2, putC_at]; exact HX.out
  have hc2 : C2 96 = .int .i64 ((c : Int) + 1) := by rw [hC2, putC_ne (by omega), putC_ne (by omega)]; exact HC.out
  have H2 := Lib.hid h2
  have HX2 := Lib.hid hx2
  have HC2 := Lib.hid hc2
  have HD := Lib.hid (down_any w2 b C2 h2.blk h2.nums c hc15)
  clear h2 hx2 hc2 hC2 HL HW
  go_wp2_with fail
  refine HD.out.mono ?_
  rintro en w3 ⟨r, C3, rfl, h3, hm⟩
  have HP := Lib.hid (pop_any w3 b C3 h3.blk h3.nums c (by rw [hm 96 (by omega)]; exact HC2.out) HC15.out x (by rw [hm (80 + c) (Nat.le_refl _)]; exact HX2.out))
  have H3 := Lib.hid (H2.out.trans h3)
  clear h3 hm HD
  go_wp2_with fail
  refine HP.out.mono ?_
  rintro en w4 ⟨rfl, C4, h4⟩
  have H4 := Lib.hid (H3.out.trans h4)
  clear h4
  go_wp2_with fail
  go_ret
  exact ⟨rfl, C4, H4.out⟩
end Go.Proofs.Ytaalnjinocicgaa
namespace Go.Proofs.Ytaalnjinocicgaa
open Go.ChangeShapes Go.WideShapes Go.ChangeAt Go.RowKit
set_option linter.unusedVariables false
set_option linter.unusedSimpArgs false
set_option maxRecDepth 100000 in
set_option maxHeartbeats 1000000 in
theorem swput_no (w : World) (b : Nat) (C : Nat → Value) (x0 x1 x2 x3 : Int) (h : Blk w b C) (hc : C 96 = .int .i64 0) :
    Calls Try.prog 40 #[.pointer (some ⟨b, 0, none⟩), .agg #[.int .i64 x0, .int .i64 x1, .int .i64 x2, .int .i64 x3]] w
      fun e w' => e = .returned (.tuple #[.int .i64 0, .bool false]) ∧ Below w.heap.size w w' := by
  have HL := Lib.hid (fun w2 h2 => len_any w2 b C h2 0 hc)
  have HB := Lib.hid (h.of_block (heap_alloc_old w (.cells #[.int .i64 x0, .int .i64 x1, .int .i64 x2, .int .i64 x3] 52) h.lt))
  clear h hc
  go_enter Try.func40, Try.ntmps40
  go_wp2_with fail
  refine (HL.out _ HB.out).mono ?_
  rintro e w2 ⟨rfl, rfl⟩
  go_wp2_with fail
  go_ret2
  exact ⟨rfl, (Below.refl _ _).alloc (Nat.le_refl _) _⟩
set_option maxRecDepth 100000 in
set_option maxHeartbeats 1000000 in
theorem swput_yes (w : World) (b : Nat) (C : Nat → Value) (x0 x1 x2 x3 : Int) (h : Blk w b C) (hn : Nums C) (ho : One C) (c k : Nat) (hc : C 96 = .int .i64 ((c : Int) + 1)) (hc15 : c < 16) (hk : k < 16) (hx : C 80 = .int .i64 (k : Int)) :
    Calls Try.prog 40 #[.pointer (some ⟨b, 0, none⟩), .agg #[.int .i64 x0, .int .i64 x1, .int .i64 x2, .int .i64 x3]] w
      (SetR w b C k (rowL [x0, x1, x2, x3]) (.tuple #[.int .i64 (k : Int), .bool true])) := by
  have HL := Lib.hid (fun w2 h2 => len_any w2 b C h2 _ hc)
  have HP := Lib.hid (fun w2 h2 => hpop_any w2 b C h2 hn c hc hc15 (k : Int) hx)
  have hA : ∀ W : World, (Instr.typeAssert (.iface 3 (.int .i64 (k : Int))) 20 3 false).run Try.prog W = .ok (.int .i64 (k : Int)) W := fun _ => by kernel_rfl
  obtain ⟨X, hX⟩ : ∃ X, w.heap.size = X := ⟨_, rfl⟩
  obtain ⟨w1, hw1⟩ : ∃ w1, w.alloc (.cells #[.int .i64 x0, .int .i64 x1, .int .i64 x2, .int .i64 x3] 52) = w1 := ⟨_, rfl⟩
  have HB1 : Hid (Blk w1 b C) := Lib.hid (by rw [← hw1]; exact h.of_block (heap_alloc_old w _ h.lt))
  have HR1 : Hid (w1.rangeAt X 0 [.int .i64 x0, .int .i64 x1, .int .i64 x2, .int .i64 x3]) := Lib.hid (by rw [← hw1, ← hX]; exact range_row (heap_alloc_new w _))
  have HC1 : Hid (Chg b (b + 1) w w1) := Lib.hid (by rw [← hw1]; exact Chg.of_bel ((Below.refl _ _).alloc (Nat.le_refl _) _))
  have HXB : Hid (b < X ∧ X < w1.heap.size) := Lib.hid (by rw [← hw1, ← hX]; exact ⟨h.lt, by simp⟩)
  have hc0 : ((c : Int) + 1 == 0) = false := by rw [beq_eq_false_iff_ne]; omega
  have HO := Lib.hid ho
  have hk16 : (k : Int) < 16 := by omega
  clear h hn hc hx ho
  go_enter Try.func40, Try.ntmps40
  go_wp2_with fail
  try simp only [hX, hw1]
  clear hX hw1
  refine (HL.out _ HB1.out).mono ?_
  rintro e w2 ⟨rfl, rfl⟩
  go_wp2_with fail
  refine (HP.out _ HB1.out).mono ?_
  rintro e w3 ⟨rfl, C3, h3⟩
  have H3 := Lib.hid h3
  have HR3 : Hid (w3.rangeAt X 0 [.int .i64 x0, .int .i64 x1, .int .i64 x2, .int .i64 x3]) := Lib.hid (range_blocks HR1.out (h3.chg.block X HXB.out.2 (.inr (by have := HXB.out.1; omega))))
  clear h3 HL HP
  go_wp2_with fail
  have HS0 : Hid (w3.drew.cell? ⟨X, 0, none⟩ = some (.int .i64 x0) ∧ w3.drew.cell? ⟨X, 1, none⟩ = some (.int .i64 x1) ∧ w3.drew.cell? ⟨X, 2, none⟩ = some (.int .i64 x2) ∧ w3.drew.cell? ⟨X, 3, none⟩ = some (.int .i64 x3)) := Lib.hid ⟨HR3.out 0 _ rfl, HR3.out 1 _ rfl, HR3.out 2 _ rfl, HR3.out 3 _ rfl⟩
  have HIX := run_indexAt_arr (P := Try.prog) 55 16 54 5 Try.underlying55 slot_size (by omega) b k (by omega)
  refine wp_region_held_drew (S := fun w' => w'.cell? ⟨X, 0, none⟩ = some (.int .i64 x0) ∧ w'.cell? ⟨X, 1, none⟩ = some (.int .i64 x1) ∧ w'.cell? ⟨X, 2, none⟩ = some (.int .i64 x2) ∧ w'.cell? ⟨X, 3, none⟩ = some (.int .i64 x3)) (by kernel_rfl) HS0.out (fun hHeld => ?_)
  refine anyH_gen _ (fun AZ hgen => ?_)
  have HZ := Lib.hid (by rw [hgen]; exact H3.out.trans (HpR.drew H3.out.blk H3.out.nums) : HpR w1 b C C3 AZ)
  rw [← hgen] at hHeld
  have KP : Hid ((AZ.setCells b (k * 5) (#[.int .i64 x0, .int .i64 x1, .int .i64 x2, .int .i64 x3, .bool true] : Array Value).toList).cell? ⟨X, 0, none⟩ = some (.int .i64 x0) ∧ (AZ.setCells b (k * 5) (#[.int .i64 x0, .int .i64 x1, .int .i64 x2, .int .i64 x3, .bool true] : Array Value).toList).cell? ⟨X, 1, none⟩ = some (.int .i64 x1) ∧ (AZ.setCells b (k * 5) (#[.int .i64 x0, .int .i64 x1, .int .i64 x2, .int .i64 x3, .bool true] : Array Value).toList).cell? ⟨X, 2, none⟩ = some (.int .i64 x2) ∧ (AZ.setCells b (k * 5) (#[.int .i64 x0, .int .i64 x1, .int .i64 x2, .int .i64 x3, .bool true] : Array Value).toList).cell? ⟨X, 3, none⟩ = some (.int .i64 x3)) := Lib.hid (by
    have e := heap_setCells_other AZ b (#[.int .i64 x0, .int .i64 x1, .int .i64 x2, .int .i64 x3, .bool true] : Array Value).toList (k * 5) AZ X (by have := HXB.out.1; omega)
    exact ⟨(World.cell?_of_block (a := ⟨X, 0, none⟩) e).trans hHeld.1, (World.cell?_of_block (a := ⟨X, 1, none⟩) e).trans hHeld.2.1, (World.cell?_of_block (a := ⟨X, 2, none⟩) e).trans hHeld.2.2.1, (World.cell?_of_block (a := ⟨X, 3, none⟩) e).trans hHeld.2.2.2⟩)
  clear hgen
  refine wpAnyH_take (i := 0) (oi := { dst := some 18, op := .move (.tmp 0), type := _, pos := _, after := _, guard := none }) (v := .pointer (some ⟨b, 0, none⟩)) rfl (by kernel_rfl) (by kernel_rfl) (by kernel_rfl) (fun _ _ _ h => h) (Or.inl ⟨by rfl, fun wh hSw => ?_⟩) hHeld ?_
  · (obtain ⟨s0, s1, s2, s3⟩ := hSw; go_simp)
  try simp only [Act.put, List.setIfInBounds_toArray, List.set_cons_zero, List.set_cons_succ]
  refine wpAnyH_take (i := 1) (oi := { dst := some 19, op := .move (.tmp 6), type := _, pos := _, after := _, guard := none }) (v := .int .i64 (k : Int)) rfl (by kernel_rfl) (by kernel_rfl) (by kernel_rfl) (fun _ _ _ h => h) (Or.inl ⟨by rfl, fun wh hSw => ?_⟩) hHeld ?_
  · (obtain ⟨s0, s1, s2, s3⟩ := hSw; go_simp)
  try simp only [Act.put, List.setIfInBounds_toArray, List.set_cons_zero, List.set_cons_succ]
  refine wpAnyH_take (i := 2) (oi := { dst := some 20, op := .load 52 (.tmp 3), type := _, pos := _, after := _, guard := none }) (v := .agg #[.int .i64 x0, .int .i64 x1, .int .i64 x2, .int .i64 x3]) rfl (by kernel_rfl) (by kernel_rfl) (by kernel_rfl) (fun _ _ _ h => h) (Or.inl ⟨by rfl, fun wh hSw => ?_⟩) hHeld ?_
  · (obtain ⟨s0, s1, s2, s3⟩ := hSw; go_simp)
  try simp only [Act.put, List.setIfInBounds_toArray, List.set_cons_zero, List.set_cons_succ]
  refine wpAnyH_take (i := 3) (oi := { dst := some 21, op := .build 54 #[(0, .tmp 20), (1, .const (.bool true))], type := _, pos := _, after := _, guard := none }) (v := .agg #[.int .i64 x0, .int .i64 x1, .int .i64 x2, .int .i64 x3, .bool true]) rfl (by kernel_rfl) (by kernel_rfl) (by kernel_rfl) (fun _ _ _ h => h) (Or.inl ⟨by rfl, fun wh hSw => ?_⟩) hHeld ?_
  · (obtain ⟨s0, s1, s2, s3⟩ := hSw; go_simp)
  try simp only [Act.put, List.setIfInBounds_toArray, List.set_cons_zero, List.set_cons_succ]
  refine wpAnyH_take (i := 4) (oi := { dst := some 22, op := .nilCheck (.tmp 18), type := _, pos := _, after := _, guard := none }) (v := .pointer (some ⟨b, 0, none⟩)) rfl (by kernel_rfl) (by kernel_rfl) (by kernel_rfl) (fun _ _ _ h => h) (Or.inl ⟨by rfl, fun wh hSw => ?_⟩) hHeld ?_
  · (obtain ⟨s0, s1, s2, s3⟩ := hSw; go_simp)
  try simp only [Act.put, List.setIfInBounds_toArray, List.set_cons_zero, List.set_cons_succ]
  refine wpAnyH_take (i := 5) (oi := { dst := some 23, op := .fieldAddr 60 (.tmp 22) 0, type := _, pos := _, after := _, guard := none }) (v := .pointer (some ⟨b, 0, none⟩)) rfl (by kernel_rfl) (by kernel_rfl) (by kernel_rfl) (fun _ _ _ h => h) (Or.inl ⟨by rfl, fun wh hSw => ?_⟩) hHeld ?_
  · (obtain ⟨s0, s1, s2, s3⟩ := hSw; go_simp)
  try simp only [Act.put, List.setIfInBounds_toArray, List.set_cons_zero, List.set_cons_succ]
  refine wpAnyH_take (i := 6) (oi := { dst := some 24, op := .indexAddr 55 (.tmp 23) (.tmp 19), type := _, pos := _, after := _, guard := none }) (v := .pointer (some ⟨b, k * 5, none⟩)) rfl (by kernel_rfl) (by kernel_rfl) (by kernel_rfl) (fun _ _ _ h => h) (Or.inl ⟨by rfl, fun wh hSw => ?_⟩) hHeld ?_
  · (obtain ⟨s0, s1, s2, s3⟩ := hSw; go_simp)
  try simp only [Act.put, List.setIfInBounds_toArray, List.set_cons_zero, List.set_cons_succ]
  refine wpAnyH_ready (rs := [7]) (by kernel_rfl) (by simp) ?_
  refine AllReadyH.cons (o := { dst := none, op := .store 54 (.tmp 24) (.tmp 21), type := _, pos := _, after := _, guard := none }) rfl (fun K hK => ?_) AllReadyH.nil
  rw [if_pos (by rfl)]
  refine wp_store_mid 54 (.tmp 24) (.tmp 21) rfl b (k * 5) #[.int .i64 x0, .int .i64 x1, .int .i64 x2, .int .i64 x3, .bool true] rfl rfl (HZ.out.blk.part (k * 5) 5 (by omega)) slot_info (by kernel_rfl) ?_
  refine hK.out _ _ ?_ (fun hHeld => ?_)
  · exact KP.out
  clear hK K
  try simp only [Act.put, List.setIfInBounds_toArray, List.set_cons_zero, List.set_cons_succ]
  refine wpAnyH_done (by kernel_rfl) ?_ _
  go_wp2_with fail
  go_ret2
  exact ⟨rfl, _, HZ.out.blk.put (k * 5) (rowL [x0, x1, x2, x3]) (by rw [rowL_len rfl]; omega), (HZ.out.one HO.out).put _ (rowL_mem _), fun j hj => by unfold putC; split; rfl; exact HZ.out.low j hj, (HC1.out.trans HZ.out.chg).trans (chg_setCells _ _ _ _)⟩
end Go.Proofs.Ytaalnjinocicgaa
namespace Go.Proofs.Ytaalnjinocicgaa
open Go.ChangeShapes Go.WideShapes Go.ChangeAt Go.RowKit
set_option linter.unusedVariables false
set_option linter.unusedSimpArgs false
theorem wordsOf_four {w : World} {u : Value} {ws : List Int} (h : Ints w u ws) : ∃ x0 x1 x2 x3 : Int, (wordsOk ws = true → ws = [x0, x1, x2, x3]) ∧ ∀ W, Ints W u ws → Calls Try.prog 39 #[u] W (ArrRes W #[.int .i64 x0, .int .i64 x1, .int .i64 x2, .int .i64 x3] (wordsOk ws)) := by
  cases hw : wordsOk ws with
  | true =>
    obtain ⟨x0, x1, x2, x3, rfl⟩ := row4 hw
    refine ⟨x0, x1, x2, x3, fun _ => rfl, fun W hW => ?_⟩
    have h := wordsOf_any hW
    rw [hw] at h
    exact h
  | false =>
    refine ⟨0, 0, 0, 0, fun h => Bool.noConfusion h, fun W hW => ?_⟩
    have h := wordsOf_any hW
    rw [hw] at h
    exact h
set_option maxRecDepth 100000 in
set_option maxHeartbeats 2000000 in
theorem isp : ISP := fun w v u xss ws h hu => by
  have HSO := Lib.hid (swapOf_any w v xss h)
  have HU := Lib.hid hu
  obtain ⟨x0, x1, x2, x3, hxs, hwo⟩ := wordsOf_four hu
  obtain ⟨Z, hZ⟩ : ∃ Z, Z = (cells Z0).toArray := ⟨_, rfl⟩
  have HAL : Hid (∀ w, (zeroValue 60).run Try.prog w = .ok (.agg Z) w) := Lib.hid (by rw [hZ]; exact Z0_zero)
  have HZS : Hid (Z.size = 97) := Lib.hid (by rw [hZ]; exact cells_size _)
  clear hZ
  obtain ⟨ys, hys⟩ : ∃ ys, ys = sput xss ws := ⟨_, rfl⟩
  obtain ⟨n, hnn⟩ : ∃ n, n = sputN xss ws := ⟨_, rfl⟩
  obtain ⟨q, hq⟩ : ∃ q, q = sputB xss ws := ⟨_, rfl⟩
  rw [← hys, ← hnn, ← hq]
  have HN : Hid (q = false → ys = [] ∧ n = 0) := Lib.hid (fun hf => by
    have hne : ¬ sputB xss ws = true := by rw [← hq, hf]; exact Bool.false_ne_true
    exact ⟨by rw [hys, sput, if_neg hne], by rw [hnn, sputN, if_neg hne]⟩)
  have HY : Hid (q = true → ys = xss.set (sidx xss) ws ∧ n = (sidx xss : Int)) := Lib.hid (fun ht => by
    have hne : sputB xss ws = true := by rw [← hq, ht]
    exact ⟨by rw [hys, sput, if_pos hne], by rw [hnn, sputN, if_pos hne]⟩)
  have HQ := Lib.hid hq
  have HXS := Lib.hid hxs
  have HWO := Lib.hid hwo
  clear hys hnn hq hxs hwo h hu
  cases hok : swOk xss with
  | false =>
    rw [hok] at HSO
    have HF : Hid (q = false) := Lib.hid (by rw [HQ.out, sputB, hok]; rfl)
    clear hok
    go_enter Try.func14, Try.ntmps14
    go_wp2_with fail
    refine HSO.out.mono ?_
    rintro e w1 ⟨C, rfl, hone, hst, hb1⟩
    have HLV := Lib.hid (laid_var hb1 C Z HZS.out 60)
    have HONE := Lib.hid hone
    have HST := Lib.hid hst
    obtain ⟨L, hL⟩ : ∃ L, L = cells C := ⟨_, rfl⟩
    have HLE := Lib.hid hL
    have HLL : Hid (L.length = 97) := Lib.hid (by rw [hL]; exact cells_len _)
    have HLS : Hid (L.toArray.size = 97) := Lib.hid (by rw [hL]; exact cells_size _)
    have HLO : Hid (L.toArray.all (·.oneCell') = true) := Lib.hid (by rw [hL]; exact hone.all)
    rw [← hL] at HLV ⊢
    obtain ⟨w2, hw2⟩ : ∃ w2, (w1.alloc (.cells Z 60)).setCells w1.heap.size 0 L = w2 := ⟨_, rfl⟩
    obtain ⟨X, hX⟩ : ∃ X, w1.heap.size = X := ⟨_, rfl⟩
    have HW2 := Lib.hid hw2
    rw [hw2] at HLV
    have HXX := Lib.hid hX
    have HB1S := Lib.hid hb1.size
    clear hb1 hst hone hL hw2 hX
    go_wp2_with (first | ((with_reducible refine alloc_is 60 ?_); refine alloc_arr 60 Z HAL.out ?_; try simp only [Act.put, List.setIfInBounds_toArray, List.set_cons_zero, List.set_cons_succ]) | ((with_reducible refine store_is 60 (.tmp 7) (.tmp 16) ?_); refine store_arr 60 (.tmp 7) (.tmp 16) w1.heap.size 0 L.toArray rfl rfl (by rw [HLS.out]; exact HLV.out.2.2) (swap_info' HLL.out) HLO.out ?_; rw [show L.toArray.toList = L from rfl, HW2.out]) | fail)
    refine (HWO.out w2 (Ints.below (B := 0) HU.out HLV.out.2.1)).mono ?_
    rintro e w3 ⟨rfl, hb3⟩
    have HB3 := Lib.hid (fun ob => (HLV.out.2.1.trans (hb3.mono HLV.out.2.1.size)).alloc (by have h1 := HLV.out.2.1.size; have h2 := hb3.size; omega) ob)
    have HK3 : Hid (∀ ob, Blk (w3.alloc ob) w1.heap.size C) := Lib.hid (fun ob => HLV.out.1.of_block ((Below.heap_alloc w3 ob _ (by have := HLV.out.1.lt; have := hb3.size; omega)).trans (hb3.block _ HLV.out.1.lt)))
    clear hb3
    go_wp2_with fail
    go_ret3
    exact ⟨_, by rw [(HN.out HF.out).2, HF.out]; rfl, by rw [(HN.out HF.out).1]; exact mat_nil _ _ _ _, HB3.out _⟩
  | true =>
    rw [hok] at HSO
    have HOK := Lib.hid hok
    have HLN := Lib.hid (sw_len hok)
    cases hw : wordsOk ws with
    | false =>
      rw [hw] at HWO
      have HF : Hid (q = false) := Lib.hid (by rw [HQ.out, sputB, hok, hw]; rfl)
      clear hok hw
      go_enter Try.func14, Try.ntmps14
      go_wp2_with fail
      refine HSO.out.mono ?_
      rintro e w1 ⟨C, rfl, hone, hst, hb1⟩
      have HLV := Lib.hid (laid_var hb1 C Z HZS.out 60)
      have HONE := Lib.hid hone
      have HST := Lib.hid hst
      obtain ⟨L, hL⟩ : ∃ L, L = cells C := ⟨_, rfl⟩
      have HLE := Lib.hid hL
      have HLL : Hid (L.length = 97) := Lib.hid (by rw [hL]; exact cells_len _)
      have HLS : Hid (L.toArray.size = 97) := Lib.hid (by rw [hL]; exact cells_size _)
      have HLO : Hid (L.toArray.all (·.oneCell') = true) := Lib.hid (by rw [hL]; exact hone.all)
      rw [← hL] at HLV ⊢
      obtain ⟨w2, hw2⟩ : ∃ w2, (w1.alloc (.cells Z 60)).setCells w1.heap.size 0 L = w2 := ⟨_, rfl⟩
      obtain ⟨X, hX⟩ : ∃ X, w1.heap.size = X := ⟨_, rfl⟩
      have HW2 := Lib.hid hw2
      rw [hw2] at HLV
      have HXX := Lib.hid hX
      have HB1S := Lib.hid hb1.size
      clear hb1 hst hone hL hw2 hX
      go_wp2_with (first | ((with_reducible refine alloc_is 60 ?_); refine alloc_arr 60 Z HAL.out ?_; try simp only [Act.put, List.setIfInBounds_toArray, List.set_cons_zero, List.set_cons_succ]) | ((with_reducible refine store_is 60 (.tmp 7) (.tmp 16) ?_); refine store_arr 60 (.tmp 7) (.tmp 16) w1.heap.size 0 L.toArray rfl rfl (by rw [HLS.out]; exact HLV.out.2.2) (swap_info' HLL.out) HLO.out ?_; rw [show L.toArray.toList = L from rfl, HW2.out]) | fail)
      refine (HWO.out w2 (Ints.below (B := 0) HU.out HLV.out.2.1)).mono ?_
      rintro e w3 ⟨rfl, hb3⟩
      have HB3 := Lib.hid (fun ob => (HLV.out.2.1.trans (hb3.mono HLV.out.2.1.size)).alloc (by have h1 := HLV.out.2.1.size; have h2 := hb3.size; omega) ob)
      have HK3 : Hid (∀ ob, Blk (w3.alloc ob) w1.heap.size C) := Lib.hid (fun ob => HLV.out.1.of_block ((Below.heap_alloc w3 ob _ (by have := HLV.out.1.lt; have := hb3.size; omega)).trans (hb3.block _ HLV.out.1.lt)))
      clear hb3
      go_wp2_with fail
      go_ret3
      exact ⟨_, by rw [(HN.out HF.out).2, HF.out]; rfl, by rw [(HN.out HF.out).1]; exact mat_nil _ _ _ _, HB3.out _⟩
    | true =>
      rw [hw] at HWO
      have HWK := Lib.hid hw
      have HQ2 : Hid (q = decide (sidx xss < 16)) := Lib.hid (by rw [HQ.out, sputB, hok, hw, sw_len hok]; rfl)
      clear hok hw
      go_enter Try.func14, Try.ntmps14
      go_wp2_with fail
      refine HSO.out.mono ?_
      rintro e w1 ⟨C, rfl, hone, hst, hb1⟩
      have HLV := Lib.hid (laid_var hb1 C Z HZS.out 60)
      have HONE := Lib.hid hone
      have HST := Lib.hid hst
      obtain ⟨L, hL⟩ : ∃ L, L = cells C := ⟨_, rfl⟩
      have HLE := Lib.hid hL
      have HLL : Hid (L.length = 97) := Lib.hid (by rw [hL]; exact cells_len _)
      have HLS : Hid (L.toArray.size = 97) := Lib.hid (by rw [hL]; exact cells_size _)
      have HLO : Hid (L.toArray.all (·.oneCell') = true) := Lib.hid (by rw [hL]; exact hone.all)
      rw [← hL] at HLV ⊢
      obtain ⟨w2, hw2⟩ : ∃ w2, (w1.alloc (.cells Z 60)).setCells w1.heap.size 0 L = w2 := ⟨_, rfl⟩
      obtain ⟨X, hX⟩ : ∃ X, w1.heap.size = X := ⟨_, rfl⟩
      have HW2 := Lib.hid hw2
      rw [hw2] at HLV
      have HXX := Lib.hid hX
      have HB1S := Lib.hid hb1.size
      clear hb1 hst hone hL hw2 hX
      have HSS : Hid (∃ c, SwSt xss 16 c C) := Lib.hid (HST.out rfl)
      go_wp2_with (first | ((with_reducible refine alloc_is 60 ?_); refine alloc_arr 60 Z HAL.out ?_; try simp only [Act.put, List.setIfInBounds_toArray, List.set_cons_zero, List.set_cons_succ]) | ((with_reducible refine store_is 60 (.tmp 7) (.tmp 16) ?_); refine store_arr 60 (.tmp 7) (.tmp 16) w1.heap.size 0 L.toArray rfl rfl (by rw [HLS.out]; exact HLV.out.2.2) (swap_info' HLL.out) HLO.out ?_; rw [show L.toArray.toList = L from rfl, HW2.out]) | fail)
      refine (HWO.out w2 (Ints.below (B := 0) HU.out HLV.out.2.1)).mono ?_
      rintro e w3 ⟨rfl, hb3⟩
      have HB3 := Lib.hid (fun ob => (HLV.out.2.1.trans (hb3.mono HLV.out.2.1.size)).alloc (by have h1 := HLV.out.2.1.size; have h2 := hb3.size; omega) ob)
      have HK3 : Hid (∀ ob, Blk (w3.alloc ob) w1.heap.size C) := Lib.hid (fun ob => HLV.out.1.of_block ((Below.heap_alloc w3 ob _ (by have := HLV.out.1.lt; have := hb3.size; omega)).trans (hb3.block _ HLV.out.1.lt)))
      clear hb3
      obtain ⟨c, hs⟩ := HSS.out
      cases c with
      | zero =>
        have HF : Hid (q = false) := Lib.hid (by
          have h := sidx_none (xss := xss) (fun i hi => hs.hp.none rfl i (by have := HLN.out; omega))
          rw [HQ2.out, h, HLN.out]
          rfl)
        have HP := Lib.hid (fun ob => swput_no (w3.alloc ob) w1.heap.size C x0 x1 x2 x3 (HK3.out ob) hs.hp.cnt)
        clear hs
        go_wp2_with fail
        refine (HP.out _).mono ?_
        rintro e w4 ⟨rfl, hb4⟩
        have HB4 := Lib.hid ((HB3.out _).trans (hb4.mono (HB3.out _).size))
        clear hb4
        go_wp2_with fail
        go_ret3
        exact ⟨_, by rw [(HN.out HF.out).2, HF.out]; rfl, by rw [(HN.out HF.out).1]; exact mat_nil _ _ _ _, HB4.out⟩
      | succ c =>
        obtain ⟨hk16, hck⟩ := hs.hp.some (by omega)
        obtain ⟨k, hk⟩ : ∃ k, k = sidx xss := ⟨_, rfl⟩
        rw [← hk] at hk16 hck
        have HF : Hid (q = true) := Lib.hid (by rw [HQ2.out, ← hk]; exact decide_eq_true hk16)
        have HYK : Hid (ys = xss.set k ws ∧ n = (k : Int)) := Lib.hid (by rw [hk]; exact HY.out HF.out)
        have hc16 : c < 16 := by have := hs.hp.le; omega
        have HP := Lib.hid (fun ob => swput_yes (w3.alloc ob) w1.heap.size C x0 x1 x2 x3 (HK3.out ob) hs.nums hs.one c k (by rw [hs.hp.cnt]; simp) hc16 hk16 hck)
        have HSW : Hid (Sw (putC C (k * 5) (rowL [x0, x1, x2, x3])) (xss.set k ws)) := Lib.hid (by
          rw [← HXS.out HWK.out]
          exact hs.sw.set HLN.out hk16 (words_len HWK.out))
        have HOK2 := Lib.hid (swOk_set HOK.out (row_words HWK.out) k)
        clear hs hk16 hck hk hc16
        go_wp2_with fail
        refine (HP.out _).mono ?_
        rintro e w4 ⟨rfl, C4, hk4, ho4, hl4, hc4⟩
        have HB4 := Lib.hid (Chg.bel (HB3.out _) hc4 HB1S.out (Nat.le_refl _))
        have HLI := Lib.hid (lists_any w4 C4 (xss.set k ws) ho4 (HSW.out.low hl4) (by rw [List.length_set]; exact HLN.out) HOK2.out)
        obtain ⟨L4, hL4⟩ : ∃ L4, L4 = cells C4 := ⟨_, rfl⟩
        have HLL4 : Hid (L4.length = 97) := Lib.hid (by rw [hL4]; exact cells_len _)
        have HLR4 : Hid (w4.rangeAt w1.heap.size 0 L4) := Lib.hid (by rw [hL4]; exact hk4.range)
        rw [← hL4] at HLI
        clear hk4 ho4 hl4 hc4 hL4
        go_wp2_with (first | ((with_reducible refine load_is 60 (.tmp 7) ?_); refine load_arr 60 (.tmp 7) w1.heap.size 0 L4 _ rfl HLR4.out Try.underlying60 rfl (swap_info HLL4.out) ?_) | fail)
        refine HLI.out.mono ?_
        rintro e w5 hm5
        obtain ⟨v5, rfl, hm, hbm⟩ := ToMat.bel HB4.out hm5
        have HM := Lib.hid hm
        have HBM := Lib.hid hbm
        clear hm hbm hm5
        go_wp2_with fail
        go_ret3
        exact ⟨_, by rw [HF.out, HYK.out.2]; rfl, by rw [HYK.out.1]; exact HM.out, HBM.out⟩
end Go.Proofs.Ytaalnjinocicgaa
