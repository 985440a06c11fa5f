/- What the proofs stand on, part 23. -/
import Derived.Test.YtfnmnegddhggaaaRows
import Derived.Test.YtfnmnegddhggaaaT1
import Derived.Test.YtfnmnegddhggaaaT2
import Derived.Test.YtfnmnegddhggaaaT3
import Derived.Test.YtfnmnegddhggaaaT4
import Derived.Test.YtfnmnegddhggaaaT5
import Derived.Test.YtfnmnegddhggaaaT7
import Derived.Test.YtfnmnegddhggaaaT9
import Derived.Test.YtfnmnegddhggaaaT15
import Derived.Test.YtfnmnegddhggaaaT16
set_option linter.unusedSimpArgs false
set_option linter.unusedVariables false
namespace Go.Proofs.Ytfnmnegddhggaaa
open Go.ChangeShapes Go.WideShapes Go.ChangeAt Go.RowKit
set_option linter.unusedVariables false
set_option linter.unusedSimpArgs false
theorem ints_tail {w : World} {g o n c : Nat} {xs : List Int} (h : Ints w (.slice (some ⟨g, o, none⟩) (n + 1) c) xs) : Ints w (.slice (some ⟨g, o + 1, none⟩) n (c - 1)) (xs.drop 1) := by
  obtain ⟨a, c', e, h1, h2, h3⟩ := h
  injection e with e1 e2 e3
  subst e1
  subst e3
  refine ⟨some ⟨g, o + 1, none⟩, c - 1, by rw [List.length_drop, ← e2, Nat.add_sub_cancel], by rw [List.length_drop]; omega, by omega, fun i hi => ?_⟩
  rw [List.length_drop] at hi
  obtain ⟨b, o', e, hc⟩ := h3 (1 + i) (by omega)
  cases e
  refine ⟨g, o + 1, rfl, ?_⟩
  rw [drop_get, Nat.add_assoc]
  exact hc
end Go.Proofs.Ytfnmnegddhggaaa
namespace Go.Proofs.Ytfnmnegddhggaaa
open Go.ChangeShapes Go.WideShapes Go.ChangeAt Go.RowKit
set_option linter.unusedVariables false
set_option linter.unusedSimpArgs false
def ffK (xs : List Int) (f : Nat) : Nat → List Int
  | 0 => []
  | m + 1 => stepF f (ffK xs f m) (xs.getD m 0)
def ffN (xs : List Int) (f : Nat) : Nat → Nat
  | 0 => 0
  | m + 1 => ffN xs f m + fMiss (xs.getD m 0) (ffK xs f m)
theorem ffK_len (xs : List Int) (f : Nat) (m : Nat) : (ffK xs f m).length ≤ m := by
  induction m with
  | zero => simp [ffK]
  | succ m ih =>
    rw [ffK]
    unfold stepF
    by_cases h : xs.getD m 0 ∈ ffK xs f m
    · rw [if_pos h]; omega
    · rw [if_neg h]
      split
      · rw [List.length_drop, List.length_append, List.length_singleton]; omega
      · rw [List.length_append, List.length_singleton]; omega
theorem ffN_cost {xs : List Int} {f : Nat} : ∀ {k : Nat}, k ≤ xs.length → costF f (ffK xs f k) (xs.drop k) + ffN xs f k = costF f [] xs
  | 0, _ => by simp [ffN, ffK]
  | k + 1, hk => by
    have ih := ffN_cost (xs := xs) (f := f) (k := k) (by omega)
    rw [drop_at (show k < xs.length by omega), costF] at ih
    rw [ffN, ffK]
    omega
theorem ffN_all (xs : List Int) (f : Nat) : ffN xs f xs.length = costF f [] xs := by
  have h := ffN_cost (xs := xs) (f := f) (Nat.le_refl _)
  rw [List.drop_length] at h
  simpa [costF] using h
theorem ffN_le (xs : List Int) (f : Nat) (m : Nat) : ffN xs f m ≤ m := by
  induction m with
  | zero => simp [ffN]
  | succ m ih =>
    rw [ffN]
    have := fMiss_le (xs.getD m 0) (ffK xs f m)
    omega
set_option maxRecDepth 100000 in
set_option maxHeartbeats 1000000 in
theorem sFaultsFirst_any (w : World) (v : Value) (xs : List Int) (f : Int) (h : Ints w v xs) :
    Calls Try.prog 32 #[v, .int .i64 f] w (IRes (ffirst xs f) w) := by
  have H := Lib.hid h
  have HV := Lib.hid (l33Ok_any w v xs f h)
  obtain ⟨a, ca, hv, hla, hma, -⟩ := h
  unfold maxLen at hma
  obtain ⟨n, hn⟩ : ∃ n, n = xs.length := ⟨_, rfl⟩
  rw [← hn] at hla hv
  subst hv
  have HN := Lib.hid hn
  clear hn
  obtain ⟨r, hr⟩ : ∃ r, r = ffirst xs f := ⟨_, rfl⟩
  rw [← hr]
  have HR := Lib.hid hr
  clear hr
  cases hc : ftOk xs f with
  | false =>
    rw [hc] at HV
    have HF : Hid (r = -1) := Lib.hid (by rw [HR.out, ffirst, hc]; rfl)
    clear hc
    go_enter Try.func32, Try.ntmps32
    go_wp2_with fail
    refine HV.out.mono ?_
    rintro e w' ⟨rfl, rfl⟩
    go_wp2_with fail
    go_ret
    exact ⟨by rw [HF.out]; rfl, Below.refl _ _⟩
  | true =>
    rw [hc] at HV
    obtain ⟨F, hF, hF1, hF12⟩ := ftOk_f hc
    have HF : Hid (r = (ffN xs F n : Nat)) := Lib.hid (by rw [HR.out, ffirst, hc, if_pos rfl, HN.out, ffN_all, hF]; rfl)
    subst hF
    have hl24 : xs.length ≤ 24 := tr_len (by unfold ftOk at hc; rw [Bool.and_eq_true] at hc; exact hc.1)
    have HL24 := Lib.hid hl24
    have HCL : Hid (∀ w', Below w.heap.size w w' → ∀ i, i < n → ∃ g p, a = some ⟨g, p, none⟩ ∧ w'.cell? ⟨g, p + i, none⟩ = some (.int .i64 (xs.getD i 0))) := Lib.hid (fun w' hb i hi => by
      obtain ⟨a', c', e, _, _, hx⟩ := Ints.below (B := 0) H.out hb
      obtain ⟨g, p, e', hc⟩ := hx i (by rw [← HN.out]; exact hi)
      injection e with e1
      exact ⟨g, p, e1.trans e', hc⟩)
    clear hc hl24
    go_enter Try.func32, Try.ntmps32
    go_wp2_with fail
    refine HV.out.mono ?_
    rintro e w' ⟨rfl, rfl⟩
    clear HV
    have HST := Lib.hid (OwnI.start w)
    go_wp2_with fail
    go_loopw [5, 6, 7] (fun kv q i wr => ∃ m : Nat, m ≤ n ∧ i = .int .i64 m ∧ q = .int .i64 (ffN xs F m : Nat) ∧ Hid (Ints wr kv (ffK xs F m)) ∧ Hid (Below w.heap.size w wr)) (fun _ _ i _ => n - (intOf i).toNat)
    case atStart => exact ⟨0, Nat.zero_le _, rfl, rfl, Lib.hid HST.out.ints, Lib.hid HST.out.bel⟩
    case round =>
      obtain ⟨m, hm, rfl, rfl, HKV, hbl⟩ := hrel
      have hfl := ffN_le xs F m
      have hkl := ffK_len xs F m
      have hl := HL24.out
      rw [← HN.out] at hl
      by_cases hlt : m < n
      · have hlt' : (m : Int) < (n : Int) := by omega
        obtain ⟨ba, oa, rfl, hca⟩ := HCL.out _ hbl.out m hlt
        have HS1 : Hid (ffK xs F (m + 1) = stepF F (ffK xs F m) (xs.getD m 0)) := Lib.hid rfl
        have HS2 : Hid (ffN xs F (m + 1) = ffN xs F m + fMiss (xs.getD m 0) (ffK xs F m)) := Lib.hid rfl
        obtain ⟨q, hq⟩ : ∃ q, q = ffN xs F m := ⟨_, rfl⟩
        rw [← hq] at hfl HS2 ⊢
        clear hq
        generalize ffK xs F m = ks at HKV hkl HS1 HS2
        generalize xs.getD m 0 = x at hca HS1 HS2
        have HFD := Lib.hid (l33Find_any _ _ ks x HKV.out)
        obtain ⟨z, hz⟩ : ∃ z, z = lfind ks x := ⟨_, rfl⟩
        rw [← hz] at HFD
        have HQ : Hid (z < 0 ↔ x ∉ ks) := Lib.hid (by rw [hz]; exact lfind_neg)
        clear hz HCL
        go_wp2_with fail
        refine HFD.out.mono ?_
        rintro e w' ⟨rfl, rfl⟩
        clear HFD
        by_cases hzn : z < 0
        · have hny := HQ.out.1 hzn
          rw [fMiss_out hny] at HS2
          go_wp2_with fail
          refine wp_region_held_drew (S := fun w' => w'.cell? ⟨ba, oa + m, none⟩ = some (.int .i64 x)) (by kernel_rfl) hca (fun hHeld => ?_)
          refine anyH_gen _ (fun AZ hgen => ?_)
          have HBZ := Lib.hid (by rw [hgen]; exact Below.drew (Below.refl _ _) : Below wr.heap.size wr AZ)
          rw [← hgen] at hHeld
          clear hgen
          have HB0 : Hid (Below AZ.heap.size AZ AZ) := Lib.hid (Below.refl _ _)
          have hcZ := (HBZ.out.cell (p := ⟨ba, oa + m, none⟩) (cell_lt hca)).trans hca
          have HKZ := Lib.hid (Ints.below (B := 0) HKV.out HBZ.out)
          refine wpAnyH_take (i := 1) (oi := { dst := some 29, op := .move (.tmp 5), type := _, pos := _, after := _, guard := none }) (v := u5) rfl (by kernel_rfl) (by kernel_rfl) (by kernel_rfl) (fun _ _ _ h => h) (Or.inl ⟨by rfl, fun wh hSw => ?_⟩) hHeld ?_
          · (go_simp)
          try simp only [Act.put, List.setIfInBounds_toArray, List.set_cons_zero, List.set_cons_succ]
          refine wpAnyH_take (i := 3) (oi := { dst := some 31, op := .move (.tmp 0), type := _, pos := _, after := _, guard := none }) (v := .slice (some ⟨ba, oa, none⟩) n ca) rfl (by kernel_rfl) (by kernel_rfl) (by kernel_rfl) (fun _ _ _ h => h) (Or.inl ⟨by rfl, fun wh hSw => ?_⟩) hHeld ?_
          · (go_simp)
          try simp only [Act.put, List.setIfInBounds_toArray, List.set_cons_zero, List.set_cons_succ]
          refine wpAnyH_take (i := 4) (oi := { dst := some 32, op := .move (.tmp 7), type := _, pos := _, after := _, guard := none }) (v := .int .i64 (m : Int)) rfl (by kernel_rfl) (by kernel_rfl) (by kernel_rfl) (fun _ _ _ h => h) (Or.inl ⟨by rfl, fun wh hSw => ?_⟩) hHeld ?_
          · (go_simp)
          try simp only [Act.put, List.setIfInBounds_toArray, List.set_cons_zero, List.set_cons_succ]
          refine wpAnyH_take (i := 5) (oi := { dst := some 33, op := .indexAddr 23 (.tmp 31) (.tmp 32), type := _, pos := _, after := _, guard := none }) (v := .pointer (some ⟨ba, oa + m, none⟩)) rfl (by kernel_rfl) (by kernel_rfl) (by kernel_rfl) (fun _ _ _ h => h) (Or.inl ⟨by rfl, fun wh hSw => ?_⟩) hHeld ?_
          · (go_simp)
          try simp only [Act.put, List.setIfInBounds_toArray, List.set_cons_zero, List.set_cons_succ]
          refine wpAnyH_take (i := 6) (oi := { dst := some 34, op := .load 3 (.tmp 33), type := _, pos := _, after := _, guard := none }) (v := .int .i64 x) rfl (by kernel_rfl) (by kernel_rfl) (by kernel_rfl) (fun _ _ _ h => h) (Or.inl ⟨by rfl, fun wh hSw => ?_⟩) hHeld ?_
          · (go_simp)
          try simp only [Act.put, List.setIfInBounds_toArray, List.set_cons_zero, List.set_cons_succ]
          refine wpAnyH_ready (rs := [0, 7]) (by kernel_rfl) (by simp) ?_
          refine AllReadyH.cons (o := { dst := some 28, op := .buildSlice 23 0 #[], type := _, pos := _, after := _, guard := none }) rfl (fun K hK => ?_) (AllReadyH.cons (o := { dst := some 35, op := .buildSlice 23 1 #[(0, .tmp 34)], type := _, pos := _, after := _, guard := none }) rfl (fun K hK => ?_) AllReadyH.nil)
          · go_simp
            obtain ⟨A1, hA1⟩ : ∃ A, A = AZ.alloc (.cells #[] 3) := ⟨_, rfl⟩
            rw [← hA1]
            have hb1 : Below AZ.heap.size AZ A1 := by rw [hA1]; exact (Below.refl _ _).alloc (Nat.le_refl _) _
            have HB1 : Hid (Below AZ.heap.size AZ A1) := Lib.hid (HB0.out.trans (hb1.mono HB0.out.size))
            have HSZ1 : Hid (AZ.heap.size < A1.heap.size) := Lib.hid (by rw [hA1]; simp)
            have HO28_1 : Hid (OwnI AZ (.slice (some ⟨AZ.heap.size, 0, none⟩) 0 0) [] A1) := Lib.hid (by rw [hA1]; exact OwnI.start _)
            clear hA1 hb1
            refine hK.out _ _ ?_ (fun hHeld => ?_)
            · exact ((HB1.out.cell (p := ⟨ba, oa + m, none⟩) (cell_lt hcZ)).trans hcZ)
            clear hK K
            try simp only [Act.put, List.setIfInBounds_toArray, List.set_cons_zero, List.set_cons_succ]
            refine wpAnyH_ready (rs := [2, 7]) (by kernel_rfl) (by simp) ?_
            refine AllReadyH.cons (o := { dst := some 30, op := .call { callee := .builtin .append, args := #[.tmp 28, .tmp 29], argTypes := #[23, 23] }, type := _, pos := _, after := _, guard := none }) rfl (fun K hK => ?_) (AllReadyH.cons (o := { dst := some 35, op := .buildSlice 23 1 #[(0, .tmp 34)], type := _, pos := _, after := _, guard := none }) rfl (fun K hK => ?_) AllReadyH.nil)
            · rw [if_pos (by rfl)]
              refine wp_append_ints (.tmp 28) (.tmp 29) AZ (.slice (some ⟨AZ.heap.size, 0, none⟩) 0 0) [] rfl HO28_1.out u5 (ks) rfl (Ints.below (B := 0) HKZ.out HB1.out) (by simp only [List.length_nil, List.length_append, List.length_cons]; omega) ?_
              intro v2 A2 hO2 hg2
              rw [List.nil_append] at hO2
              have HO30_2 := Lib.hid hO2
              have HB2 : Hid (Below AZ.heap.size AZ A2) := Lib.hid (HB0.out.trans (hO2.bel.mono HB0.out.size))
              clear hO2 hg2
              refine hK.out _ _ ?_ (fun hHeld => ?_)
              · exact ((HB2.out.cell (p := ⟨ba, oa + m, none⟩) (cell_lt hcZ)).trans hcZ)
              clear hK K
              try simp only [Act.put, List.setIfInBounds_toArray, List.set_cons_zero, List.set_cons_succ]
              refine wpAnyH_ready (rs := [7]) (by kernel_rfl) (by simp) ?_
              refine AllReadyH.cons (o := { dst := some 35, op := .buildSlice 23 1 #[(0, .tmp 34)], type := _, pos := _, after := _, guard := none }) rfl (fun K hK => ?_) AllReadyH.nil
              go_simp
              obtain ⟨A3, hA3⟩ : ∃ A, A = A2.alloc (.cells #[.int .i64 x] 3) := ⟨_, rfl⟩
              rw [← hA3]
              have hb3 : Below A2.heap.size A2 A3 := by rw [hA3]; exact (Below.refl _ _).alloc (Nat.le_refl _) _
              have HB3 : Hid (Below AZ.heap.size AZ A3) := Lib.hid (HB2.out.trans (hb3.mono HB2.out.size))
              have HSZ3 : Hid (A2.heap.size < A3.heap.size) := Lib.hid (by rw [hA3]; simp)
              have HO30_3 := Lib.hid (HO30_2.out.keep hb3)
              have HC35_3 : Hid (Ints A3 (.slice (some ⟨A2.heap.size, 0, none⟩) 1 1) [x]) := Lib.hid ⟨some ⟨A2.heap.size, 0, none⟩, 1, rfl, Nat.le_refl _, by unfold maxLen; omega, fun j hj => ⟨A2.heap.size, 0, rfl, by obtain rfl : j = 0 := by { have hj1 : j < 1 := hj; omega }; rw [hA3, Nat.zero_add]; exact cell_of_row _ _ 0 _ _ _ (heap_alloc_new _ _)⟩⟩
              clear hA3 hb3
              refine hK.out _ _ ?_ (fun hHeld => ?_)
              · exact ((HB3.out.cell (p := ⟨ba, oa + m, none⟩) (cell_lt hcZ)).trans hcZ)
              clear hK K
              try simp only [Act.put, List.setIfInBounds_toArray, List.set_cons_zero, List.set_cons_succ]
              refine wpAnyH_ready (rs := [8]) (by kernel_rfl) (by simp) ?_
              refine AllReadyH.cons (o := { dst := some 36, op := .call { callee := .builtin .append, args := #[.tmp 30, .tmp 35], argTypes := #[23, 23] }, type := _, pos := _, after := _, guard := none }) rfl (fun K hK => ?_) AllReadyH.nil
              rw [if_pos (by rfl)]
              refine wp_append_ints (.tmp 30) (.tmp 35) AZ v2 ks rfl HO30_3.out (.slice (some ⟨A2.heap.size, 0, none⟩) 1 1) ([x]) rfl HC35_3.out (by simp only [List.length_nil, List.length_append, List.length_cons]; omega) ?_
              intro v4 A4 hO4 hg4
              have HO36_4 := Lib.hid hO4
              have HB4 : Hid (Below AZ.heap.size AZ A4) := Lib.hid (HB0.out.trans (hO4.bel.mono HB0.out.size))
              clear hO4 hg4
              refine hK.out _ _ ?_ (fun hHeld => ?_)
              · exact ((HB4.out.cell (p := ⟨ba, oa + m, none⟩) (cell_lt hcZ)).trans hcZ)
              clear hK K
              try simp only [Act.put, List.setIfInBounds_toArray, List.set_cons_zero, List.set_cons_succ]
              refine wpAnyH_take (i := 9) (oi := { dst := some 5, op := .assign (.tmp 36), type := _, pos := _, after := _, guard := none }) (v := v4) rfl (by kernel_rfl) (by kernel_rfl) (by kernel_rfl) (fun _ _ _ h => h) (Or.inl ⟨by rfl, fun wh hSw => ?_⟩) hHeld ?_
              · (go_simp)
              try simp only [Act.put, List.setIfInBounds_toArray, List.set_cons_zero, List.set_cons_succ]
              refine wpAnyH_done (by kernel_rfl) ?_ _
              have HF5 := HO36_4
              have HE5 := HB4
              obtain ⟨g5, c5, hv5, hc51, hc52⟩ := HF5.out.slice
              subst hv5
              have HI5 := Lib.hid HF5.out.ints
              have HBW5 : Hid (Below w.heap.size w A4) := Lib.hid (hbl.out.trans ((HBZ.out.trans (HE5.out.mono HBZ.out.size)).mono hbl.out.size))
              obtain ⟨L, hL⟩ : ∃ L, L = (ks ++ [x]).length := ⟨_, rfl⟩
              have hLk : L = ks.length + 1 := by rw [hL, List.length_append]; rfl
              have HLL := Lib.hid hL
              rw [← hL] at hc51 HI5 ⊢
              clear hL
              by_cases hlen : F < L
              · have hlen1 : (F : Int) < (L : Int) := by omega
                have HS6 := Lib.hid (ints_tail (n := ks.length) (by rw [← hLk]; exact HI5.out))
                have hst : stepF F ks x = (ks ++ [x]).drop 1 := by unfold stepF; rw [if_neg hny, if_pos (by omega)]
                rw [hst] at HS1
                clear hst
                go_wp2_with fail
                go_roundw
                case rel => exact ⟨m + 1, by omega, by go_num, by rw [HS2.out]; go_num, Lib.hid (by rw [HS1.out]; exact HS6.out), HBW5⟩
                case measure => simp [intOf]; omega
              · have hlen1 : decide ((F : Int) < (L : Int)) = false := by rw [decide_eq_false_iff_not]; omega
                have hst : stepF F ks x = ks ++ [x] := by unfold stepF; rw [if_neg hny, if_neg (by omega)]
                rw [hst] at HS1
                clear hst
                go_wp2_with fail
                go_roundw
                case rel => exact ⟨m + 1, by omega, by go_num, by rw [HS2.out]; go_num, Lib.hid (by rw [HS1.out]; exact HI5.out), HBW5⟩
                case measure => simp [intOf]; omega
            · go_simp
              obtain ⟨A5, hA5⟩ : ∃ A, A = A1.alloc (.cells #[.int .i64 x] 3) := ⟨_, rfl⟩
              rw [← hA5]
              have hb5 : Below A1.heap.size A1 A5 := by rw [hA5]; exact (Below.refl _ _).alloc (Nat.le_refl _) _
              have HB5 : Hid (Below AZ.heap.size AZ A5) := Lib.hid (HB1.out.trans (hb5.mono HB1.out.size))
              have HSZ5 : Hid (A1.heap.size < A5.heap.size) := Lib.hid (by rw [hA5]; simp)
              have HO28_5 := Lib.hid (HO28_1.out.keep hb5)
              have HC35_5 : Hid (Ints A5 (.slice (some ⟨A1.heap.size, 0, none⟩) 1 1) [x]) := Lib.hid ⟨some ⟨A1.heap.size, 0, none⟩, 1, rfl, Nat.le_refl _, by unfold maxLen; omega, fun j hj => ⟨A1.heap.size, 0, rfl, by obtain rfl : j = 0 := by { have hj1 : j < 1 := hj; omega }; rw [hA5, Nat.zero_add]; exact cell_of_row _ _ 0 _ _ _ (heap_alloc_new _ _)⟩⟩
              clear hA5 hb5
              refine hK.out _ _ ?_ (fun hHeld => ?_)
              · exact ((HB5.out.cell (p := ⟨ba, oa + m, none⟩) (cell_lt hcZ)).trans hcZ)
              clear hK K
              try simp only [Act.put, List.setIfInBounds_toArray, List.set_cons_zero, List.set_cons_succ]
              refine wpAnyH_ready (rs := [2]) (by kernel_rfl) (by simp) ?_
              refine AllReadyH.cons (o := { dst := some 30, op := .call { callee := .builtin .append, args := #[.tmp 28, .tmp 29], argTypes := #[23, 23] }, type := _, pos := _, after := _, guard := none }) rfl (fun K hK => ?_) AllReadyH.nil
              rw [if_pos (by rfl)]
              refine wp_append_ints (.tmp 28) (.tmp 29) AZ (.slice (some ⟨AZ.heap.size, 0, none⟩) 0 0) [] rfl HO28_5.out u5 (ks) rfl (Ints.below (B := 0) HKZ.out HB5.out) (by simp only [List.length_nil, List.length_append, List.length_cons]; omega) ?_
              intro v6 A6 hO6 hg6
              rw [List.nil_append] at hO6
              have HO30_6 := Lib.hid hO6
              have HB6 : Hid (Below AZ.heap.size AZ A6) := Lib.hid (HB0.out.trans (hO6.bel.mono HB0.out.size))
              have HC35_6 : Hid (Ints A6 (.slice (some ⟨A1.heap.size, 0, none⟩) 1 1) [x]) := Lib.hid (ints_other HC35_5.out hg6 (fun e => by have e2 : A1.heap.size = AZ.heap.size := Option.some.inj e; have := HSZ1.out; have := HSZ5.out; omega))
              clear hO6 hg6
              refine hK.out _ _ ?_ (fun hHeld => ?_)
              · exact ((HB6.out.cell (p := ⟨ba, oa + m, none⟩) (cell_lt hcZ)).trans hcZ)
              clear hK K
              try simp only [Act.put, List.setIfInBounds_toArray, List.set_cons_zero, List.set_cons_succ]
              refine wpAnyH_ready (rs := [8]) (by kernel_rfl) (by simp) ?_
              refine AllReadyH.cons (o := { dst := some 36, op := .call { callee := .builtin .append, args := #[.tmp 30, .tmp 35], argTypes := #[23, 23] }, type := _, pos := _, after := _, guard := none }) rfl (fun K hK => ?_) AllReadyH.nil
              rw [if_pos (by rfl)]
              refine wp_append_ints (.tmp 30) (.tmp 35) AZ v6 ks rfl HO30_6.out (.slice (some ⟨A1.heap.size, 0, none⟩) 1 1) ([x]) rfl HC35_6.out (by simp only [List.length_nil, List.length_append, List.length_cons]; omega) ?_
              intro v7 A7 hO7 hg7
              have HO36_7 := Lib.hid hO7
              have HB7 : Hid (Below AZ.heap.size AZ A7) := Lib.hid (HB0.out.trans (hO7.bel.mono HB0.out.size))
              clear hO7 hg7
              refine hK.out _ _ ?_ (fun hHeld => ?_)
              · exact ((HB7.out.cell (p := ⟨ba, oa + m, none⟩) (cell_lt hcZ)).trans hcZ)
              clear hK K
              try simp only [Act.put, List.setIfInBounds_toArray, List.set_cons_zero, List.set_cons_succ]
              refine wpAnyH_take (i := 9) (oi := { dst := some 5, op := .assign (.tmp 36), type := _, pos := _, after := _, guard := none }) (v := v7) rfl (by kernel_rfl) (by kernel_rfl) (by kernel_rfl) (fun _ _ _ h => h) (Or.inl ⟨by rfl, fun wh hSw => ?_⟩) hHeld ?_
              · (go_simp)
              try simp only [Act.put, List.setIfInBounds_toArray, List.set_cons_zero, List.set_cons_succ]
              refine wpAnyH_done (by kernel_rfl) ?_ _
              have HF5 := HO36_7
              have HE5 := HB7
              obtain ⟨g5, c5, hv5, hc51, hc52⟩ := HF5.out.slice
              subst hv5
              have HI5 := Lib.hid HF5.out.ints
              have HBW5 : Hid (Below w.heap.size w A7) := Lib.hid (hbl.out.trans ((HBZ.out.trans (HE5.out.mono HBZ.out.size)).mono hbl.out.size))
              obtain ⟨L, hL⟩ : ∃ L, L = (ks ++ [x]).length := ⟨_, rfl⟩
              have hLk : L = ks.length + 1 := by rw [hL, List.length_append]; rfl
              have HLL := Lib.hid hL
              rw [← hL] at hc51 HI5 ⊢
              clear hL
              by_cases hlen : F < L
              · have hlen1 : (F : Int) < (L : Int) := by omega
                have HS6 := Lib.hid (ints_tail (n := ks.length) (by rw [← hLk]; exact HI5.out))
                have hst : stepF F ks x = (ks ++ [x]).drop 1 := by unfold stepF; rw [if_neg hny, if_pos (by omega)]
                rw [hst] at HS1
                clear hst
                go_wp2_with fail
                go_roundw
                case rel => exact ⟨m + 1, by omega, by go_num, by rw [HS2.out]; go_num, Lib.hid (by rw [HS1.out]; exact HS6.out), HBW5⟩
                case measure => simp [intOf]; omega
              · have hlen1 : decide ((F : Int) < (L : Int)) = false := by rw [decide_eq_false_iff_not]; omega
                have hst : stepF F ks x = ks ++ [x] := by unfold stepF; rw [if_neg hny, if_neg (by omega)]
                rw [hst] at HS1
                clear hst
                go_wp2_with fail
                go_roundw
                case rel => exact ⟨m + 1, by omega, by go_num, by rw [HS2.out]; go_num, Lib.hid (by rw [HS1.out]; exact HI5.out), HBW5⟩
                case measure => simp [intOf]; omega
          · go_simp
            obtain ⟨A8, hA8⟩ : ∃ A, A = AZ.alloc (.cells #[.int .i64 x] 3) := ⟨_, rfl⟩
            rw [← hA8]
            have hb8 : Below AZ.heap.size AZ A8 := by rw [hA8]; exact (Below.refl _ _).alloc (Nat.le_refl _) _
            have HB8 : Hid (Below AZ.heap.size AZ A8) := Lib.hid (HB0.out.trans (hb8.mono HB0.out.size))
            have HSZ8 : Hid (AZ.heap.size < A8.heap.size) := Lib.hid (by rw [hA8]; simp)
            have HC35_8 : Hid (Ints A8 (.slice (some ⟨AZ.heap.size, 0, none⟩) 1 1) [x]) := Lib.hid ⟨some ⟨AZ.heap.size, 0, none⟩, 1, rfl, Nat.le_refl _, by unfold maxLen; omega, fun j hj => ⟨AZ.heap.size, 0, rfl, by obtain rfl : j = 0 := by { have hj1 : j < 1 := hj; omega }; rw [hA8, Nat.zero_add]; exact cell_of_row _ _ 0 _ _ _ (heap_alloc_new _ _)⟩⟩
            clear hA8 hb8
            refine hK.out _ _ ?_ (fun hHeld => ?_)
            · exact ((HB8.out.cell (p := ⟨ba, oa + m, none⟩) (cell_lt hcZ)).trans hcZ)
            clear hK K
            try simp only [Act.put, List.setIfInBounds_toArray, List.set_cons_zero, List.set_cons_succ]
            refine wpAnyH_ready (rs := [0]) (by kernel_rfl) (by simp) ?_
            refine AllReadyH.cons (o := { dst := some 28, op := .buildSlice 23 0 #[], type := _, pos := _, after := _, guard := none }) rfl (fun K hK => ?_) AllReadyH.nil
            go_simp
            obtain ⟨A9, hA9⟩ : ∃ A, A = A8.alloc (.cells #[] 3) := ⟨_, rfl⟩
            rw [← hA9]
            have hb9 : Below A8.heap.size A8 A9 := by rw [hA9]; exact (Below.refl _ _).alloc (Nat.le_refl _) _
            have HB9 : Hid (Below AZ.heap.size AZ A9) := Lib.hid (HB8.out.trans (hb9.mono HB8.out.size))
            have HSZ9 : Hid (A8.heap.size < A9.heap.size) := Lib.hid (by rw [hA9]; simp)
            have HC35_9 := Lib.hid (Ints.below (B := 0) HC35_8.out hb9)
            have HO28_9 : Hid (OwnI A8 (.slice (some ⟨A8.heap.size, 0, none⟩) 0 0) [] A9) := Lib.hid (by rw [hA9]; exact OwnI.start _)
            clear hA9 hb9
            refine hK.out _ _ ?_ (fun hHeld => ?_)
            · exact ((HB9.out.cell (p := ⟨ba, oa + m, none⟩) (cell_lt hcZ)).trans hcZ)
            clear hK K
            try simp only [Act.put, List.setIfInBounds_toArray, List.set_cons_zero, List.set_cons_succ]
            refine wpAnyH_ready (rs := [2]) (by kernel_rfl) (by simp) ?_
            refine AllReadyH.cons (o := { dst := some 30, op := .call { callee := .builtin .append, args := #[.tmp 28, .tmp 29], argTypes := #[23, 23] }, type := _, pos := _, after := _, guard := none }) rfl (fun K hK => ?_) AllReadyH.nil
            rw [if_pos (by rfl)]
            refine wp_append_ints (.tmp 28) (.tmp 29) A8 (.slice (some ⟨A8.heap.size, 0, none⟩) 0 0) [] rfl HO28_9.out u5 (ks) rfl (Ints.below (B := 0) HKZ.out HB9.out) (by simp only [List.length_nil, List.length_append, List.length_cons]; omega) ?_
            intro v10 A10 hO10 hg10
            rw [List.nil_append] at hO10
            have HO30_10 := Lib.hid hO10
            have HB10 : Hid (Below AZ.heap.size AZ A10) := Lib.hid (HB8.out.trans (hO10.bel.mono HB8.out.size))
            have HC35_10 : Hid (Ints A10 (.slice (some ⟨AZ.heap.size, 0, none⟩) 1 1) [x]) := Lib.hid (ints_other HC35_9.out hg10 (fun e => by have e2 : AZ.heap.size = A8.heap.size := Option.some.inj e; have := HSZ8.out; have := HSZ9.out; omega))
            clear hO10 hg10
            refine hK.out _ _ ?_ (fun hHeld => ?_)
            · exact ((HB10.out.cell (p := ⟨ba, oa + m, none⟩) (cell_lt hcZ)).trans hcZ)
            clear hK K
            try simp only [Act.put, List.setIfInBounds_toArray, List.set_cons_zero, List.set_cons_succ]
            refine wpAnyH_ready (rs := [8]) (by kernel_rfl) (by simp) ?_
            refine AllReadyH.cons (o := { dst := some 36, op := .call { callee := .builtin .append, args := #[.tmp 30, .tmp 35], argTypes := #[23, 23] }, type := _, pos := _, after := _, guard := none }) rfl (fun K hK => ?_) AllReadyH.nil
            rw [if_pos (by rfl)]
            refine wp_append_ints (.tmp 30) (.tmp 35) A8 v10 ks rfl HO30_10.out (.slice (some ⟨AZ.heap.size, 0, none⟩) 1 1) ([x]) rfl HC35_10.out (by simp only [List.length_nil, List.length_append, List.length_cons]; omega) ?_
            intro v11 A11 hO11 hg11
            have HO36_11 := Lib.hid hO11
            have HB11 : Hid (Below AZ.heap.size AZ A11) := Lib.hid (HB8.out.trans (hO11.bel.mono HB8.out.size))
            clear hO11 hg11
            refine hK.out _ _ ?_ (fun hHeld => ?_)
            · exact ((HB11.out.cell (p := ⟨ba, oa + m, none⟩) (cell_lt hcZ)).trans hcZ)
            clear hK K
            try simp only [Act.put, List.setIfInBounds_toArray, List.set_cons_zero, List.set_cons_succ]
            refine wpAnyH_take (i := 9) (oi := { dst := some 5, op := .assign (.tmp 36), type := _, pos := _, after := _, guard := none }) (v := v11) rfl (by kernel_rfl) (by kernel_rfl) (by kernel_rfl) (fun _ _ _ h => h) (Or.inl ⟨by rfl, fun wh hSw => ?_⟩) hHeld ?_
            · (go_simp)
            try simp only [Act.put, List.setIfInBounds_toArray, List.set_cons_zero, List.set_cons_succ]
            refine wpAnyH_done (by kernel_rfl) ?_ _
            have HF5 := HO36_11
            have HE5 := HB11
            obtain ⟨g5, c5, hv5, hc51, hc52⟩ := HF5.out.slice
            subst hv5
            have HI5 := Lib.hid HF5.out.ints
            have HBW5 : Hid (Below w.heap.size w A11) := Lib.hid (hbl.out.trans ((HBZ.out.trans (HE5.out.mono HBZ.out.size)).mono hbl.out.size))
            obtain ⟨L, hL⟩ : ∃ L, L = (ks ++ [x]).length := ⟨_, rfl⟩
            have hLk : L = ks.length + 1 := by rw [hL, List.length_append]; rfl
            have HLL := Lib.hid hL
            rw [← hL] at hc51 HI5 ⊢
            clear hL
            by_cases hlen : F < L
            · have hlen1 : (F : Int) < (L : Int) := by omega
              have HS6 := Lib.hid (ints_tail (n := ks.length) (by rw [← hLk]; exact HI5.out))
              have hst : stepF F ks x = (ks ++ [x]).drop 1 := by unfold stepF; rw [if_neg hny, if_pos (by omega)]
              rw [hst] at HS1
              clear hst
              go_wp2_with fail
              go_roundw
              case rel => exact ⟨m + 1, by omega, by go_num, by rw [HS2.out]; go_num, Lib.hid (by rw [HS1.out]; exact HS6.out), HBW5⟩
              case measure => simp [intOf]; omega
            · have hlen1 : decide ((F : Int) < (L : Int)) = false := by rw [decide_eq_false_iff_not]; omega
              have hst : stepF F ks x = ks ++ [x] := by unfold stepF; rw [if_neg hny, if_neg (by omega)]
              rw [hst] at HS1
              clear hst
              go_wp2_with fail
              go_roundw
              case rel => exact ⟨m + 1, by omega, by go_num, by rw [HS2.out]; go_num, Lib.hid (by rw [HS1.out]; exact HI5.out), HBW5⟩
              case measure => simp [intOf]; omega
        · have hzn1 : decide (z < 0) = false := by rw [decide_eq_false_iff_not]; exact hzn
          have hny : x ∈ ks := by
            by_cases hh : x ∈ ks
            · exact hh
            · exact absurd (HQ.out.2 hh) hzn
          rw [fMiss_in hny] at HS2
          have hst : stepF F ks x = ks := if_pos hny
          rw [hst] at HS1
          clear hst
          go_wp2_with fail
          go_roundw
          case rel => exact ⟨m + 1, by omega, by go_num, by rw [HS2.out, Nat.add_zero], Lib.hid (by rw [HS1.out]; exact HKV.out), hbl⟩
          case measure => simp [intOf]; omega
      · have e : m = n := by omega
        subst e
        go_wp2_with fail
        go_ret
        exact ⟨by rw [HF.out]; rfl, hbl.out⟩
end Go.Proofs.Ytfnmnegddhggaaa
