/- What the reference's InfosTake and InfosGive return. -/
import Derived.Test.YtopnomklfkkjfaaISpec
namespace Go.Proofs.Ytopnomklfkkjfaa
open Go.ChangeShapes Go.WideShapes Go.ChangeAt Go.RowKit
set_option linter.unusedVariables false

theorem OwnI.drew {w w' : World} {v : Value} {ys : List IV} (h : OwnI w v ys w') : OwnI w v ys w'.drew := ⟨h.own, h.bel.drew⟩
/-- a slice that is not empty, in own blocks, has a place -/
theorem IsW.place {w : World} {B0 B1 : Nat} {v : Value} {xs : List IV} {k : Nat} (h : IsW w B0 B1 v xs) (hk : k < xs.length) : ∃ g p cap, v = .slice (some ⟨g, p, none⟩) xs.length cap ∧ B0 ≤ g ∧ g < B1 ∧ TriW w g (p + k * 3) (xs.getD k iz) := by
  obtain ⟨a, cap, rfl, h1, h2, h3⟩ := h
  obtain ⟨g, p, rfl, hg0, hg1, ht⟩ := h3 k hk
  exact ⟨g, p, cap, rfl, hg0, hg1, ht⟩
/-- one of a new slice is replaced -/
theorem stored_any {w w2 : World} {g p k cap n : Nat} {xs : List IV} {x : IV} (h : IsW w2 w.heap.size w2.heap.size (.slice (some ⟨g, p, none⟩) n cap) xs) (hk : k < n) (hg : w.heap.size ≤ g) (ht : w2.there g (p + k * 3) 3) (hb : Below w.heap.size w w2) :
    IsW (w2.setCells g (p + k * 3) (ivC x)) w.heap.size (w2.setCells g (p + k * 3) (ivC x)).heap.size (.slice (some ⟨g, p, none⟩) n cap) (xs.set k x) ∧ Below w.heap.size w (w2.setCells g (p + k * 3) (ivC x)) := by
  refine ⟨?_, Below.setCells hb _ hg _ _ _ hb⟩
  rw [size_setCells]
  exact h.upd rfl hk (TriW.stored ht) (fun i y hi hy => hy.apart (.inr (by show p + i * 3 + 3 ≤ p + k * 3 ∨ p + k * 3 + 3 ≤ p + i * 3; omega)))
set_option maxRecDepth 100000 in
set_option maxHeartbeats 1000000 in
theorem infosTake_any (w : World) (v : Value) (xs : List IV) (g : Bs) (h : Is w v xs) (hs : ShortI xs) (hg : g.length ≤ 2000000) :
    Calls Try.prog 15 #[v, .string ⟨g.toArray⟩] w (NewIIB (itake xs g) (itakeN xs g) (tok xs g) w) := by
  have HL := Lib.hid (l12Free_any w v xs h)
  have HV := Lib.hid (infosValid_any w v xs h hs)
  have HG := Lib.hid (fun w => sRightValid_any w g hg)
  have H := Lib.hid h
  clear h
  cases h1 : isok xs with
  | false =>
    have HR : Hid (tok xs g = false ∧ itake xs g = [] ∧ itakeN xs g = 0) := Lib.hid (by
      have : tok xs g = false := by unfold tok; rw [h1]; rfl
      unfold itake itakeN
      rw [this]; exact ⟨rfl, rfl, rfl⟩)
    rw [HR.out.1, HR.out.2.1, HR.out.2.2]
    rw [h1] at HV
    clear h1
    generalize (if fidx xs < xs.length then (fidx xs : Int) else -1) = q at HL
    go_enter Try.func15, Try.ntmps15
    go_wp2_with fail
    refine HL.out.mono ?_
    rintro e w' ⟨rfl, rfl⟩
    go_wp2_with fail
    refine HV.out.mono ?_
    rintro e w1 ⟨rfl, hb1⟩
    have B1 := Lib.hid hb1
    clear hb1
    go_wp2_with fail
    go_ret3
    exact ⟨_, rfl, (IsW.of_ownsRow (OwnI.start w1).own).wide B1.out.size (Nat.le_refl _), B1.out.trans ((OwnI.start w1).bel.mono B1.out.size)⟩
  | true =>
    have HOK := Lib.hid h1
    rw [h1] at HV
    clear h1
    cases h2 : rv g with
    | false =>
      have HR : Hid (tok xs g = false ∧ itake xs g = [] ∧ itakeN xs g = 0) := Lib.hid (by
        have : tok xs g = false := by unfold tok; rw [h2, Bool.false_and, Bool.and_false]
        unfold itake itakeN
        rw [this]; exact ⟨rfl, rfl, rfl⟩)
      rw [HR.out.1, HR.out.2.1, HR.out.2.2]
      rw [h2] at HG
      clear h2
      generalize (if fidx xs < xs.length then (fidx xs : Int) else -1) = q at HL
      go_enter Try.func15, Try.ntmps15
      go_wp2_with fail
      refine HL.out.mono ?_
      rintro e w' ⟨rfl, rfl⟩
      go_wp2_with fail
      refine HV.out.mono ?_
      rintro e w1 ⟨rfl, hb1⟩
      have B1 := Lib.hid hb1
      clear hb1
      go_wp2_with fail
      refine (HG.out w1).mono ?_
      rintro e w' ⟨rfl, rfl⟩
      go_wp2_with fail
      go_ret3
      exact ⟨_, rfl, (IsW.of_ownsRow (OwnI.start w1).own).wide B1.out.size (Nat.le_refl _), B1.out.trans ((OwnI.start w1).bel.mono B1.out.size)⟩
    | true =>
      have HRV := Lib.hid h2
      rw [h2] at HG
      clear h2
      by_cases h3 : fidx xs < xs.length
      · rw [if_pos h3] at HL
        have HR : Hid (tok xs g = true ∧ itake xs g = xs.set (fidx xs) ⟨1, g, 0⟩ ∧ itakeN xs g = (fidx xs : Int)) := Lib.hid (by
          have : tok xs g = true := tok_iff.2 ⟨HOK.out, HRV.out, h3⟩
          unfold itake itakeN
          rw [this]; exact ⟨rfl, rfl, rfl⟩)
        rw [HR.out.1, HR.out.2.1, HR.out.2.2]
        have hl12 := isok_len HOK.out
        obtain ⟨n, hn⟩ : ∃ n, n = xs.length := ⟨_, rfl⟩
        have hn12 : n = 12 := hn.trans hl12
        have hn13 : n ≤ 12 := by omega
        have HN := Lib.hid hn
        rw [← hn] at h3
        obtain ⟨k, hk⟩ : ∃ k, k = fidx xs := ⟨_, rfl⟩
        rw [← hk] at HL h3 ⊢
        have HK := Lib.hid hk
        have hk0 : (0 : Int) ≤ (k : Int) := by omega
        have hkn : (k : Int) < (n : Int) := by omega
        clear hk
        obtain ⟨a, ca, rfl, hla, hma, hxa⟩ := H.out
        rw [← hn] at HL HV H hla ⊢
        obtain ⟨b0, o0, rfl, -⟩ := hxa 0 (by omega)
        clear hxa hn hn12 hl12
        have HST := Lib.hid (fun w => OwnI.start w)
        go_enter Try.func15, Try.ntmps15
        go_wp2_with fail
        refine HL.out.mono ?_
        rintro e w' ⟨rfl, rfl⟩
        go_wp2_with fail
        refine HV.out.mono ?_
        rintro e w1 ⟨rfl, hb1⟩
        have B1 := Lib.hid hb1
        have H1 := Lib.hid (H.out.below hb1)
        clear hb1
        go_wp2_with fail
        refine (HG.out w1).mono ?_
        rintro e w' ⟨rfl, rfl⟩
        have HSO := Lib.hid (OwnI.start w1)
        have H2 := Lib.hid (H1.out.below HSO.out.bel)
        go_wp2_with (at_builtin; refine wpList_append_is (.tmp 24) (.tmp 25) w1 _ [] rfl HSO.out _ xs rfl H2.out nilOkI_some (by simp only [List.length_nil]; have := HN.out; omega) ?_; intro v2 w2 hown2 hnn2 hgrow2)
        have hr2 := hown2.row
        rw [List.nil_append] at hr2
        obtain ⟨gb, p, cp, rfl, hg0, hg1, ht⟩ := hr2.place (k := k) (by have := HN.out; omega)
        have HT := Lib.hid ht.there
        have HP := Lib.hid (stored_any (x := ⟨1, g, 0⟩) (hr2.wide (Nat.le_refl _) (Nat.le_refl _)) (by have := HN.out; omega : k < xs.length) hg0 HT.out hown2.bel)
        rw [← HN.out] at HP ⊢
        clear hown2 hnn2 hgrow2 hr2 hg0 hg1 ht
        clear hma
        go_wp2_with fail
        go_simp
        rename_i hA
        refine hA _ _ ?_
        refine store_arr 30 (.tmp 31) (.tmp 30) gb (p + k * 3) #[.int .i64 1, .string ⟨g.toArray⟩, .int .i64 0] rfl rfl HT.out (by kernel_rfl) (by simp [Value.oneCell']) ?_
        go_wp2
        go_ret3
        exact ⟨_, rfl, HP.out.1.wide B1.out.size (Nat.le_refl _), B1.out.trans (HP.out.2.mono B1.out.size)⟩
      · have HR : Hid (tok xs g = false ∧ itake xs g = [] ∧ itakeN xs g = 0) := Lib.hid (by
            have : tok xs g = false := by unfold tok; rw [decide_eq_false h3, Bool.and_false, Bool.and_false]
            unfold itake itakeN
            rw [this]; exact ⟨rfl, rfl, rfl⟩)
        rw [HR.out.1, HR.out.2.1, HR.out.2.2]
        rw [if_neg h3] at HL
        clear h3
        go_enter Try.func15, Try.ntmps15
        go_wp2_with fail
        refine HL.out.mono ?_
        rintro e w' ⟨rfl, rfl⟩
        go_wp2_with fail
        refine HV.out.mono ?_
        rintro e w1 ⟨rfl, hb1⟩
        have B1 := Lib.hid hb1
        clear hb1
        go_wp2_with fail
        refine (HG.out w1).mono ?_
        rintro e w' ⟨rfl, rfl⟩
        go_wp2_with fail
        go_ret3
        exact ⟨_, rfl, (IsW.of_ownsRow (OwnI.start w1).own).wide B1.out.size (Nat.le_refl _), B1.out.trans ((OwnI.start w1).bel.mono B1.out.size)⟩
set_option maxRecDepth 100000 in
set_option maxHeartbeats 1000000 in
theorem infosGive_any (w : World) (v : Value) (xs : List IV) (f : Int) (h : Is w v xs) (hs : ShortI xs) :
    Calls Try.prog 21 #[v, .int .i64 f] w (NewIB (igive xs f) (gok xs f) w) := by
  have HV := Lib.hid (infosValid_any w v xs h hs)
  have HF := Lib.hid (fun w => l1Frame_any w f)
  have H := Lib.hid h
  clear h
  cases h1 : isok xs with
  | false =>
    have HR : Hid (gok xs f = false ∧ igive xs f = []) := Lib.hid (by
      have : gok xs f = false := by unfold gok; rw [h1]; rfl
      unfold igive
      rw [this]; exact ⟨rfl, rfl⟩)
    rw [HR.out.1, HR.out.2]
    rw [h1] at HV
    clear h1
    go_enter Try.func21, Try.ntmps21
    go_wp2_with fail
    refine HV.out.mono ?_
    rintro e w1 ⟨rfl, hb1⟩
    have B1 := Lib.hid hb1
    have H1 := Lib.hid (H.out.below hb1)
    clear hb1
    go_wp2_with fail
    go_ret2
    exact ⟨_, rfl, (IsW.of_ownsRow (OwnI.start w1).own).wide B1.out.size (Nat.le_refl _), B1.out.trans ((OwnI.start w1).bel.mono B1.out.size)⟩
  | true =>
    have HOK := Lib.hid h1
    rw [h1] at HV
    clear h1
    cases h2 : inR f 0 11 with
    | false =>
      have HR : Hid (gok xs f = false ∧ igive xs f = []) := Lib.hid (by
        have : gok xs f = false := by unfold gok; rw [h2, Bool.false_and, Bool.and_false]
        unfold igive
        rw [this]; exact ⟨rfl, rfl⟩)
      rw [HR.out.1, HR.out.2]
      rw [h2] at HF
      clear h2
      go_enter Try.func21, Try.ntmps21
      go_wp2_with fail
      refine HV.out.mono ?_
      rintro e w1 ⟨rfl, hb1⟩
      have B1 := Lib.hid hb1
      have H1 := Lib.hid (H.out.below hb1)
      clear hb1
      go_wp2_with fail
      refine (HF.out w1).mono ?_
      rintro e w' ⟨rfl, rfl⟩
      go_wp2_with fail
      go_ret2
      exact ⟨_, rfl, (IsW.of_ownsRow (OwnI.start w1).own).wide B1.out.size (Nat.le_refl _), B1.out.trans ((OwnI.start w1).bel.mono B1.out.size)⟩
    | true =>
      have HIN := Lib.hid h2
      have hin := inR_iff.1 h2
      rw [h2] at HF
      clear h2
      obtain ⟨k, rfl⟩ : ∃ k : Nat, f = (k : Int) := ⟨f.toNat, by omega⟩
      have hl12 := isok_len HOK.out
      obtain ⟨n, hn⟩ : ∃ n, n = xs.length := ⟨_, rfl⟩
      have hn13 : n ≤ 12 := by omega
      have hk0 : (0 : Int) ≤ (k : Int) := by omega
      have hkn : (k : Int) < (n : Int) := by omega
      have hkl : k < n := by omega
      have HN := Lib.hid hn
      obtain ⟨a, ca, rfl, hla, hma, hxa⟩ := H.out
      rw [← hn] at HV H hla ⊢
      obtain ⟨b0, o0, rfl, ht0⟩ := hxa k (by omega)
      have HT0 := Lib.hid ht0
      have HGK : Hid (gok xs (k : Int) = (decide ((xs.getD k iz).k = 1) && decide ((xs.getD k iz).r ≤ 0))) := Lib.hid (by
        unfold gok
        rw [HOK.out, HIN.out, Int.toNat_natCast, Bool.true_and, Bool.true_and])
      have HGI : Hid (gok xs (k : Int) = true → igive xs (k : Int) = xs.set k iz) := Lib.hid (fun h => by unfold igive; rw [if_pos h, Int.toNat_natCast])
      have HGE : Hid (gok xs (k : Int) = false → igive xs (k : Int) = []) := Lib.hid (fun h => by unfold igive; rw [h]; rfl)
      clear hxa ht0 hn hl12 hin
      obtain ⟨q, hq⟩ : ∃ q, q = gok xs (k : Int) := ⟨_, rfl⟩
      obtain ⟨zs, hz⟩ : ∃ zs, zs = igive xs (k : Int) := ⟨_, rfl⟩
      rw [← hq] at HGK HGI HGE ⊢
      rw [← hz] at HGI HGE ⊢
      clear hq hz
      generalize xs.getD k iz = x at HT0 HGK
      go_enter Try.func21, Try.ntmps21
      go_wp2_with fail
      refine HV.out.mono ?_
      rintro e w1 ⟨rfl, hb1⟩
      have B1 := Lib.hid hb1
      have H1 := Lib.hid (H.out.below hb1)
      clear hb1
      go_wp2_with fail
      refine (HF.out w1).mono ?_
      rintro e w' ⟨rfl, rfl⟩
      obtain ⟨c0, c1, c2⟩ := HT0.out.below B1.out HT0.out.lt
      by_cases hk1 : x.k = 1
      · have hk1' : (x.k != 1) = false := by simpa using hk1
        by_cases hr0 : x.r ≤ 0
        · have hr0' : ¬ (0 : Int) < x.r := by omega
          have hq : q = true := by rw [HGK.out, decide_eq_true hk1, decide_eq_true hr0]; rfl
          subst hq
          have hz := HGI.out rfl
          subst hz
          clear hk1 hr0
          have HSO := Lib.hid (OwnI.start w1)
          have H2 := Lib.hid (H1.out.below HSO.out.bel)
          go_wp2_with (at_builtin; refine wpList_append_is (.tmp 32) (.tmp 33) w1 _ [] rfl HSO.out _ xs rfl H2.out nilOkI_some (by simp only [List.length_nil]; have := HN.out; omega) ?_; intro v2 w2 hown2 hnn2 hgrow2)
          have hr2 := hown2.row
          rw [List.nil_append] at hr2
          obtain ⟨gb, p, cp, rfl, hg0, hg1, ht⟩ := hr2.place (k := k) (by have := HN.out; omega)
          have HT := Lib.hid ht.there
          have HP := Lib.hid (stored_any (x := iz) (hr2.wide (Nat.le_refl _) (Nat.le_refl _)) (by have := HN.out; omega : k < xs.length) hg0 HT.out hown2.bel)
          rw [← HN.out] at HP ⊢
          clear hown2 hnn2 hgrow2 hr2 hg0 hg1 ht
          go_wp2_with fail
          go_simp
          rename_i hA
          refine hA _ _ ?_
          refine store_arr 30 (.tmp 38) (.tmp 37) gb (p + k * 3) #[.int .i64 0, .string ⟨#[]⟩, .int .i64 0] rfl rfl HT.out (by kernel_rfl) (by simp [Value.oneCell']) ?_
          go_wp2
          go_ret2
          exact ⟨_, rfl, HP.out.1.wide B1.out.size (Nat.le_refl _), B1.out.trans (HP.out.2.mono B1.out.size)⟩
        · have hr0' : (0 : Int) < x.r := by omega
          have hq : q = false := by rw [HGK.out, decide_eq_false hr0, Bool.and_false]
          subst hq
          have hz := HGE.out rfl
          subst hz
          clear hk1 hr0
          go_wp2_with fail
          go_ret2
          exact ⟨_, rfl, (IsW.of_ownsRow (OwnI.start w1).own).wide B1.out.size (Nat.le_refl _), B1.out.trans ((OwnI.start w1).bel.mono B1.out.size)⟩
      · have hk1' : (x.k != 1) = true := by simpa using hk1
        have hq : q = false := by rw [HGK.out, decide_eq_false hk1, Bool.false_and]
        subst hq
        have hz := HGE.out rfl
        subst hz
        clear hk1
        go_wp2_with fail
        go_ret2
        exact ⟨_, rfl, (IsW.of_ownsRow (OwnI.start w1).own).wide B1.out.size (Nat.le_refl _), B1.out.trans ((OwnI.start w1).bel.mono B1.out.size)⟩
end Go.Proofs.Ytopnomklfkkjfaa
