/- What the reference's WalkTables and WalkFrames return at all arguments. -/
import Derived.Test.YtdockkmodjbfpaaSTabs
namespace Go.Proofs.Ytdockkmodjbfpaa
open Go.ChangeShapes Go.WideShapes Go.ChangeAt Go.RowKit
set_option linter.unusedVariables false

theorem OwnI.form {w w' : World} {v : Value} {ys : List Int} (h : OwnI w v ys w') : ∃ g c, v = .slice (some ⟨g, 0, none⟩) ys.length c ∧ w.heap.size ≤ g ∧ g < w'.heap.size := by
  rcases h.own.2 with ⟨e, _⟩ | ⟨g, c, _, e, hb, hbl, _⟩
  · exact absurd e h.nn
  · exact ⟨g, c, e, hb, (Array.getElem?_eq_some_iff.1 hbl).1⟩
theorem own_below {w w' : World} {B : Nat} {e : TypeId} {v : Value} {n : Nat} {x : List Value} (h : w.ownsRow B e 1 v n x) (hb : Below w.heap.size w w') : w'.ownsRow B e 1 v n x := by
  refine ⟨h.1, ?_⟩
  rcases h.2 with hn | ⟨g, cap, cur, e, hg, hbl, rest⟩
  · exact .inl hn
  · exact .inr ⟨g, cap, cur, e, hg, (hb.block g (Array.getElem?_eq_some_iff.1 hbl).1).trans hbl, rest⟩
theorem OwnI.go {w w1 w2 : World} {v : Value} {ys : List Int} (h : OwnI w v ys w1) (hb : Below w1.heap.size w1 w2) : OwnI w v ys w2 :=
  ⟨own_below h.own hb, h.bel.trans (hb.mono h.bel.size), h.nn⟩
theorem OwnI.grow0 {w w1 w2 : World} {v v2 : Value} {ys zs : List Int} {n : Nat} (h : OwnI w v ys w1) (hn : n = ys.length + zs.length) (h2 : w2.ownsRow w.heap.size 3 1 v2 n (ys.map (.int .i64) ++ zs.map (.int .i64))) (hg : w1.grownBy w2 v.ownBlock) (hnn : v2 = .slice none 0 0 → v = .slice none 0 0) :
    OwnI w v2 (ys ++ zs) w2 := by
  subst hn
  refine ⟨by rw [List.length_append, List.map_append]; exact h2, h.bel.grown hg h.bel.size (fun b hb => (h.own.lt b hb).1), fun e => h.nn (hnn e)⟩
theorem ints_grown {w w' : World} {v : Value} {xs : List Int} {row : Option Nat} (h : Ints w v xs) (hg : w.grownBy w' row) (hr : ∀ b, v.ownBlock = some b → row ≠ some b) : Ints w' v xs := by
  obtain ⟨a, cap, rfl, h1, h2, h3⟩ := h
  refine ⟨a, cap, rfl, h1, h2, fun i hi => ?_⟩
  obtain ⟨b, o, rfl, hc⟩ := h3 i hi
  exact ⟨b, o, rfl, (World.cell?_of_block (w := w) (hg.block b (cell_lt hc) (fun e => hr b rfl e.symm))).trans hc⟩

def flat (xss : List (List Int)) (ts : List Int) : List Int := ts.flatMap (fun t => named (rw4 xss t))
theorem flat_snoc3 (xss : List (List Int)) (ts : List Int) (k : Nat) (hk : k < ts.length) : flat xss (ts.take (k + 1)) = flat xss (ts.take k) ++ named (rw4 xss (ts.getD k 0)) := by
  rw [take_snoc_getD ts k 0 hk]
  simp [flat]
theorem flat_len3 (xss : List (List Int)) (hm : memOk xss = true) (ts : List Int) (ht : ∀ t ∈ ts, 0 ≤ t ∧ t < 12) : (flat xss ts).length ≤ 4 * ts.length := by
  induction ts with
  | nil => simp [flat]
  | cons t ts ih =>
    have h1 := ih (fun x hx => ht x (List.mem_cons_of_mem _ hx))
    have ht0 := ht t (List.mem_cons_self ..)
    have h2 : (named (rw4 xss t)).length ≤ 4 := by
      have h3 := named_len (rw4 xss t)
      have h4 : (rw4 xss t).length = 4 := mem_row hm (by omega)
      omega
    unfold flat at h1 ⊢
    rw [List.flatMap_cons, List.length_append, List.length_cons]
    omega
def frs (xss : List (List Int)) (r : Int) : List Int := srt (flat xss (tabs xss r)) 12

theorem l3Frames_any (w : World) (v : Value) (xss : List (List Int)) (r : Int) (h : Rows2 w v xss) (hm : memOk xss = true) (hr : 0 ≤ r ∧ r < 12) :
    Calls Try.prog 57 #[v, .int .i64 r] w (NewI (frs xss r) w) := by
  obtain ⟨i0, hi, hz0, hz1, hz2⟩ := info_parts intInfo
  have HI := Lib.hid hi
  have HZ0 := Lib.hid hz0
  have HZ1 := Lib.hid hz1
  have HZ2 := Lib.hid hz2
  clear hi hz0 hz1 hz2
  have H := Lib.hid h
  have HM := Lib.hid hm
  have HT := Lib.hid (fun ob => l3Tables_any (w.alloc ob) v xss r (Rows2.below h ((Below.refl _ _).alloc (Nat.le_refl _) ob)) hm hr)
  have HTB : Hid (∀ t ∈ tabs xss r, 0 ≤ t ∧ t < 12) := Lib.hid (fun t ht => ⟨(srt_mem ht).1, (srt_mem ht).2.1⟩)
  have HTL : Hid ((tabs xss r).length ≤ 12) := Lib.hid (srt_len _ _)
  have HE : Hid (frs xss r = srt (flat xss (tabs xss r)) 12) := Lib.hid rfl
  rw [HE.out]
  obtain ⟨ts, hts⟩ : ∃ ts, ts = tabs xss r := ⟨_, rfl⟩
  rw [← hts] at HT HTB HTL ⊢
  clear hts HE h hm
  obtain ⟨m, hmm⟩ : ∃ m, m = ts.length := ⟨_, rfl⟩
  have HMM := Lib.hid hmm
  clear hmm
  have hm12 : m ≤ 12 := by have := HMM.out; have := HTL.out; omega
  obtain ⟨b, o, c, u0, rfl, _, _⟩ := H.out.row HM.out (i := 0) (by omega)
  go_enter Try.func57, Try.ntmps57
  go_wp2_with fail
  refine (HT.out _).mono ?_
  rintro e w1 ⟨vt, rfl, ht⟩
  obtain ⟨gt, ct, rfl, hg0, hg1⟩ := ht.form
  rw [← HMM.out]
  have hst : OwnI w (.slice (some ⟨w.heap.size, 0, none⟩) 0 0) (flat xss (ts.take 0)) w1 := by
    rw [List.take_zero]
    exact (OwnI.start w).go ht.bel
  have HTI := Lib.hid ht.ints
  rw [← HMM.out] at HTI
  have HST := Lib.hid hst
  simp only [World.alloc, Array.size_push] at hg0
  clear ht hst HT
  go_wp2_with fail
  go_loopw [5, 7] (fun u i wr => ∃ k : Nat, k ≤ m ∧ i = .int .i64 k ∧ OwnI w u (flat xss (ts.take k)) wr ∧ Ints wr (.slice (some ⟨gt, 0, none⟩) m ct) ts ∧ u.ownBlock ≠ some gt ∧ gt < wr.heap.size) (fun _ i _ => m - (intOf i).toNat)
  case atStart => exact ⟨0, Nat.zero_le _, rfl, HST.out, HTI.out, fun e => by simp [Value.ownBlock] at e; omega, hg1⟩
  case round =>
    obtain ⟨k, hk, rfl, hrel, hti, hap, hgl⟩ := hrel
    by_cases hlt : k < m
    · have hlt' : (k : Int) < (m : Int) := by omega
      obtain ⟨_, _, e0, hct⟩ : ∃ b o, (some (⟨gt, 0, none⟩ : Addr)) = some ⟨b, o, none⟩ ∧ wr.cell? ⟨b, o + k, none⟩ = some (.int .i64 (ts.getD k 0)) := by
        obtain ⟨a', c', e', _, _, h3⟩ := hti
        injection e' with e1 e2 e3
        obtain ⟨b', o', e4, h5⟩ := h3 k (by have := HMM.out; omega)
        exact ⟨b', o', by rw [e1, e4], h5⟩
      cases e0
      rw [Nat.zero_add] at hct
      have htk := HTB.out (ts.getD k 0) (by rw [getD_lt (by have := HMM.out; omega)]; exact List.getElem_mem _)
      have hsn := flat_snoc3 xss ts k (by have := HMM.out; omega)
      obtain ⟨t, htt⟩ : ∃ t, t = ts.getD k 0 := ⟨_, rfl⟩
      rw [← htt] at hct htk hsn
      clear htt
      obtain ⟨ht0, ht1⟩ := htk
      obtain ⟨tn, rfl⟩ := Int.eq_ofNat_of_zero_le ht0
      have hR := Rows2.below H.out hrel.bel
      obtain ⟨b', o', c', ur, e0, hc, hu⟩ := hR.row HM.out (i := tn) (by omega)
      injection e0 with e0 _ e3
      injection e0 with e0
      injection e0 with e1 e2
      subst e1
      subst e2
      subst e3
      have HC := Lib.hid (row_named wr ur xss tn HM.out (by omega) hu)
      have hnl : (flat xss (ts.take k)).length ≤ 48 := by
        have h1 := flat_len3 xss HM.out (ts.take k) (fun x hx => HTB.out x (List.mem_of_mem_take hx))
        rw [List.length_take] at h1
        omega
      have hn4 : (named (xss.getD tn [])).length ≤ 4 := by
        have h3 := named_len (xss.getD tn [])
        have h4 := mem_row HM.out (i := tn) (by omega)
        omega
      rw [show rw4 xss (tn : Int) = xss.getD tn [] from by unfold rw4; simp] at hsn
      obtain ⟨ns, hns⟩ : ∃ ns, ns = named (xss.getD tn []) := ⟨_, rfl⟩
      rw [← hns] at HC hsn hn4
      have HSN := Lib.hid hsn
      have HNL := Lib.hid hnl
      have HN4 := Lib.hid hn4
      have HREL := Lib.hid hrel
      have HTI2 := Lib.hid hti
      have HAP := Lib.hid hap
      clear hns hsn hnl hn4 hrel hti hR hu hap
      go_wp2_with fail
      refine HC.out.mono ?_
      rintro e w3 ⟨v1, rfl, h1⟩
      obtain ⟨g1, c1, rfl, hg10, hg11⟩ := h1.form
      have HU := Lib.hid (HREL.out.go h1.bel)
      have HT3 := Lib.hid (Ints.below (B := 0) HTI2.out h1.bel)
      have hsz3 := h1.bel.size
      have HNEWS : Hid (∀ j y, (ns.map (Value.int .i64))[j]? = some y → w3.cell? ((⟨g1, 0, none⟩ : Addr).add j) = some y) := Lib.hid (fun j y hy => h1.own.cells (g := g1) rfl j y hy)
      clear h1 hc hct
      go_wp2_with (at_builtin; refine wpList_append_own_at _ rfl (.tmp 18) (.tmp 26) 34 rfl w.heap.size 3 i0 (.int .i64 0) 1 8 Try.underlying34 HI.out HZ0.out HZ1.out HZ2.out rfl (by decide) _ _ _ rfl HU.out.own ⟨g1, 0, none⟩ ns.length c1 (ns.map (.int .i64)) rfl (by simp) HNEWS.out (ints_one ns) (by have := HNL.out; have := HN4.out; unfold maxLen; omega) (by have := HNL.out; have := HN4.out; omega) HU.out.bel.size ?_; intro v2 w2 hown2 hgrow2 hnn2 hblk2)
      have HR2 : Hid (OwnI w v2 (flat xss (ts.take (k + 1))) w2) := Lib.hid (by
        rw [HSN.out]
        exact HU.out.grow0 (zs := ns) rfl hown2 hgrow2 (fun e => (hnn2.1 e).1))
      have HI2 : Hid (Ints w2 (.slice (some ⟨gt, 0, none⟩) m ct) ts) := Lib.hid (ints_grown HT3.out hgrow2 (fun b hb e => by
        simp [Value.ownBlock] at hb
        subst hb
        exact HAP.out e))
      have HB2 : Hid (v2.ownBlock ≠ some gt) := Lib.hid (fun e => by
        rcases hblk2 with h | h
        · exact HAP.out (h.symm.trans e)
        · rw [h] at e
          injection e with e
          omega)
      have HL2 : Hid (gt < w2.heap.size) := Lib.hid (by have := hgrow2.size; omega)
      clear hown2 hgrow2 hnn2 hblk2
      go_wp2
      go_roundw
      case rel => exact ⟨k + 1, by omega, by go_num, HR2.out, HI2.out, HB2.out, HL2.out⟩
      case measure => simp [intOf]; omega
    · have e : k = m := by omega
      subst e
      rw [take_all HMM.out] at hrel
      have HREL := Lib.hid hrel
      have HS := Lib.hid (l3Sorted_any wr u5 (flat xss ts) hrel.ints)
      clear hrel hti hap
      go_wp2_with fail
      refine HS.out.mono ?_
      rintro e w4 ⟨v4, rfl, h4⟩
      have H4 := Lib.hid (h4.from HREL.out.bel)
      clear h4
      go_wp2_with fail
      go_ret
      exact ⟨_, rfl, H4.out⟩

def tabF (xss : List (List Int)) (r : Int) : List Int := if memOk xss = true ∧ 0 ≤ r ∧ r < 12 then tabs xss r else []
def frmF (xss : List (List Int)) (r : Int) : List Int := if memOk xss = true ∧ 0 ≤ r ∧ r < 12 then frs xss r else []
theorem stabs_any (w : World) (v : Value) (xss : List (List Int)) (r : Int) (h : Rows2 w v xss) :
    Calls Try.prog 20 #[v, .int .i64 r] w (NewI (tabF xss r) w) := by
  by_cases hk : memOk xss = true ∧ 0 ≤ r ∧ r < 12
  · rw [show tabF xss r = tabs xss r from by unfold tabF; rw [if_pos hk]]
    have HC := Lib.hid (l2Ok_yes w v xss r h hk.1 hk.2)
    have HT := Lib.hid (l3Tables_any w v xss r h hk.1 hk.2)
    clear h hk
    go_enter Try.func20, Try.ntmps20
    go_wp2_with fail
    refine HC.out.mono ?_
    rintro e w' ⟨rfl, rfl⟩
    go_wp2_with fail
    refine HT.out.mono ?_
    rintro e w1 ⟨v1, rfl, h1⟩
    have H1 := Lib.hid h1
    clear h1
    go_wp2_with fail
    go_ret
    exact ⟨_, rfl, H1.out⟩
  · rw [show tabF xss r = [] from by unfold tabF; rw [if_neg hk]]
    have HC := Lib.hid (l2Ok_no w v xss r h hk)
    clear h hk
    go_enter Try.func20, Try.ntmps20
    go_wp2_with fail
    refine HC.out.mono ?_
    rintro e w' ⟨rfl, rfl⟩
    go_wp2_with fail
    go_ret
    exact ⟨_, rfl, OwnI.start _⟩
theorem sfrms_any (w : World) (v : Value) (xss : List (List Int)) (r : Int) (h : Rows2 w v xss) :
    Calls Try.prog 27 #[v, .int .i64 r] w (NewI (frmF xss r) w) := by
  by_cases hk : memOk xss = true ∧ 0 ≤ r ∧ r < 12
  · rw [show frmF xss r = frs xss r from by unfold frmF; rw [if_pos hk]]
    have HC := Lib.hid (l2Ok_yes w v xss r h hk.1 hk.2)
    have HT := Lib.hid (l3Frames_any w v xss r h hk.1 hk.2)
    clear h hk
    go_enter Try.func27, Try.ntmps27
    go_wp2_with fail
    refine HC.out.mono ?_
    rintro e w' ⟨rfl, rfl⟩
    go_wp2_with fail
    refine HT.out.mono ?_
    rintro e w1 ⟨v1, rfl, h1⟩
    have H1 := Lib.hid h1
    clear h1
    go_wp2_with fail
    go_ret
    exact ⟨_, rfl, H1.out⟩
  · rw [show frmF xss r = [] from by unfold frmF; rw [if_neg hk]]
    have HC := Lib.hid (l2Ok_no w v xss r h hk)
    clear h hk
    go_enter Try.func27, Try.ntmps27
    go_wp2_with fail
    refine HC.out.mono ?_
    rintro e w' ⟨rfl, rfl⟩
    go_wp2_with fail
    go_ret
    exact ⟨_, rfl, OwnI.start _⟩
end Go.Proofs.Ytdockkmodjbfpaa
