/- What the proofs stand on, part 6. -/
import Derived.Test.YthfdkenidfnmgaaGreatRows
import Derived.Test.YthfdkenidfnmgaaGreatKn5
set_option linter.unusedSimpArgs false
set_option linter.unusedVariables false
namespace Go.Proofs.YthfdkenidfnmgaaGreat
open Go.ChangeShapes Go.WideShapes Go.ChangeAt Go.RowKit
set_option linter.unusedVariables false
set_option linter.unusedSimpArgs false
set_option maxRecDepth 100000
set_option maxHeartbeats 4000000 in
theorem sKernelNew_any (w : World) (v : Value) (rs : List (List Bs)) (h : SssN w v rs) (hs : ∀ x ∈ rs, Short x) (hn : rs.length ≤ 1000000) (hl : ∀ x ∈ rs, x.length ≤ 1000000) :
    Calls Tryz.prog 6 #[v] w (NewKB (knew rs) (knewOk rs) w) := by
  obtain ⟨a, ca, rfl, hla, hma, hxa⟩ := h
  unfold maxLen at hma
  obtain ⟨n, hN⟩ : ∃ n, n = rs.length := ⟨_, rfl⟩
  rw [← hN] at hla hxa hn ⊢
  have HNN := Lib.hid hN
  have HXX := Lib.hid hxa
  have HSH := Lib.hid hs
  have HLL := Lib.hid hl
  obtain ⟨R, HRR⟩ : ∃ R : Ending → World → Prop, Hid (R = NewKB (knew rs) (knewOk rs) w) := ⟨_, Lib.hid rfl⟩
  rw [← HRR.out]
  obtain ⟨X, hX⟩ : ∃ X, X = w.heap.size := ⟨_, rfl⟩
  obtain ⟨w0, hw0⟩ : ∃ w0, w0 = w.alloc (.cells #[sl0, sl0, sl0, sl0] 30) := ⟨_, rfl⟩
  have HB0 : Hid (Below w.heap.size w w0 ∧ X < w0.heap.size ∧ w0.there X 0 4 ∧ w.heap.size ≤ X) := Lib.hid (by rw [hw0, hX]; exact ⟨(Below.refl _ _).alloc (Nat.le_refl _) _, by simp, there_row (heap_alloc_new w _) (Nat.le_refl _), Nat.le_refl _⟩)
  have HB1 : Hid (Below w.heap.size w w0 ∧ w0.heap.size = w.heap.size + 1 ∧ KB4 w0 w.heap.size sl0 sl0 sl0 sl0 ∧ w0.there w.heap.size 0 4) := Lib.hid (by rw [hw0]; exact ⟨(Below.refl _ _).alloc (Nat.le_refl _) _, by simp, KB4.new w _ _ _ _ _, there_row (heap_alloc_new w _) (Nat.le_refl _)⟩)
  have HXE := Lib.hid hX
  have HW0 := Lib.hid hw0
  clear hN hxa hs hl hX hw0
  go_enter Tryz.func6, Tryz.ntmps6
  go_wp2_with fail
  rw [← HXE.out, ← HW0.out]
  refine wp_region_held_drew (S := fun _ => True) (by kernel_rfl) trivial (fun hHeld => ?_)
  refine any_gen (fun G HG => ?_)
  have sF : Hid (∀ (l : Array Bool) (W : World) (u : Value) (B0 B1 : Nat) (b1 : Nat) (b2 : Nat) (b3 : Nat) (bp : Nat), l = #[true, true, true, true, true, true, false] → Hid (NK w0 W (some (u, B0, B1)) (some b1) (some b2) (some bp)) → G 1 l { tmps := #[.slice a n ca, undef, .pointer (some ⟨X, 0, none⟩), .bool false, .pointer (some ⟨bp, 0, none⟩), undef, u, .slice (some ⟨b1, 0, none⟩) 12 12, .slice (some ⟨b2, 0, none⟩) 0 0, .slice (some ⟨b3, 0, none⟩) 0 0, .agg #[u, .slice (some ⟨b1, 0, none⟩) 12 12, .slice (some ⟨b2, 0, none⟩) 0 0, .slice (some ⟨b3, 0, none⟩) 0 0], undef, undef, undef, undef, undef, undef, undef, undef, undef, undef, undef, undef, undef, undef, undef, undef, undef, undef, undef, undef, undef, undef, undef, undef, undef, undef, undef, undef, undef, undef], defers := [] } W) := Lib.hid (by
    intro l W u B0 B1 b1 b2 b3 bp hl HN
    subst hl
    rw [HG.out]
    have hHeld : True := trivial
    obtain ⟨ua, un, uc, rfl⟩ : ∃ a n c, u = .slice a n c := by
      obtain ⟨a, cap, A, C, e, _⟩ := (HN.out.fm u B0 B1 rfl).1
      exact ⟨_, _, _, e⟩
    obtain ⟨p1, p2, p3⟩ := HN.out.fp bp rfl
    obtain ⟨_, c0, c1, c2, c3⟩ := p1
    have f0 := (p2 0 (by omega)).2
    have f1 := (p2 1 (by omega)).2
    have f2 := (p2 2 (by omega)).2
    have f3 := (p2 3 (by omega)).2
    simp only [Nat.zero_add] at f0 f1 f2 f3
    have HS : Hid (NKS w0 ((((W.setCell ⟨bp, 0, none⟩ (.slice ua un uc)).setCell ⟨bp, 1, none⟩ (.slice (some ⟨b1, 0, none⟩) 12 12)).setCell ⟨bp, 2, none⟩ (.slice (some ⟨b2, 0, none⟩) 0 0)).setCell ⟨bp, 3, none⟩ (.slice (some ⟨b3, 0, none⟩) 0 0)) (.slice ua un uc) B0 B1 b1 b2 bp (.slice (some ⟨b3, 0, none⟩) 0 0)) := Lib.hid (NK.stored HN.out)
    clear p2 p3
    refine wpAnyH_ready (rs := [6]) (by kernel_rfl) (by simp) ?_
    refine AllReadyH.cons (o := { dst := none, op := .store 30 (.tmp 4) (.tmp 10), type := _, pos := _, after := _, guard := none }) rfl (fun K hK => ?_) AllReadyH.nil
    go_simp
    refine hK.out _ _ ?_ (fun hHeld => ?_)
    · trivial
    clear hK K c0 c1 c2 c3 f0 f1 f2 f3
    try simp only [Act.put, List.setIfInBounds_toArray, List.set_cons_zero, List.set_cons_succ]
    refine wpAnyH_done (by kernel_rfl) ?_ _
    have HK0 : Hid (KLoop w ((((W.setCell ⟨bp, 0, none⟩ (.slice ua un uc)).setCell ⟨bp, 1, none⟩ (.slice (some ⟨b1, 0, none⟩) 12 12)).setCell ⟨bp, 2, none⟩ (.slice (some ⟨b2, 0, none⟩) 0 0)).setCell ⟨bp, 3, none⟩ (.slice (some ⟨b3, 0, none⟩) 0 0)) (.slice ua un uc) B0 B1 b1 bp (.slice (some ⟨b2, 0, none⟩) 0 0) (.slice (some ⟨b3, 0, none⟩) 0 0) (newE (rs.take 0)) []) := Lib.hid (by
      rw [show newE (rs.take 0) = [] from by simp [newE]]
      exact KLoop.start HS.out HB1.out.1 HB1.out.2.1 HB1.out.2.2.1 HB1.out.2.2.2)
    clear HS HN
    generalize ((((W.setCell ⟨bp, 0, none⟩ (.slice ua un uc)).setCell ⟨bp, 1, none⟩ (.slice (some ⟨b1, 0, none⟩) 12 12)).setCell ⟨bp, 2, none⟩ (.slice (some ⟨b2, 0, none⟩) 0 0)).setCell ⟨bp, 3, none⟩ (.slice (some ⟨b3, 0, none⟩) 0 0)) = W9 at HK0 ⊢
    clear HG G
    go_wp2_with fail
    go_loopw [5] (fun i wr => ∃ (k : Nat) (v2 : Value) (ps : List (Value × Int)), k ≤ n ∧ i = .int .i64 k ∧ Hid (KLoop w wr (.slice ua un uc) B0 B1 b1 bp v2 (.slice (some ⟨b3, 0, none⟩) 0 0) (newE (rs.take k)) ps) ∧ Hid (∀ j, j < k → rvs (rs.getD j []) = true)) (fun i _ => n - (intOf i).toNat)
    case atStart => exact ⟨0, _, [], Nat.zero_le _, rfl, HK0, Lib.hid (fun j hj => absurd hj (Nat.not_lt_zero _))⟩
    case round =>
      obtain ⟨k, v2, ps, hk, rfl, HK, HOK⟩ := hrel
      obtain ⟨va, vn, vc, rfl⟩ := HK.out.form
      by_cases hlt : k < n
      · have hlt' : (k : Int) < n := by omega
        have hk0 : (0 : Int) ≤ (k : Int) := by omega
        obtain ⟨b, o, ru, rfl, hcr0, hu, hnil⟩ := HXX.out k hlt
        have HRC : Hid (∀ Q, Below w.heap.size w Q → Q.cell? ⟨b, o + k, none⟩ = some ru ∧ Strs Q ru (rs.getD k [])) := Lib.hid (fun Q hQ => ⟨(hQ.cell (p := ⟨b, o + k, none⟩) (cell_lt hcr0)).trans hcr0, hu.below hQ⟩)
        have hcr := (HRC.out wr HK.out.bel).1
        have HNIL := Lib.hid hnil
        obtain ⟨r, hr⟩ : ∃ r, r = rs.getD k [] := ⟨_, rfl⟩
        rw [← hr] at HRC
        have HR := Lib.hid hr
        have HSR : Hid (Short r) := Lib.hid (by rw [hr]; exact HSH.out _ (by rw [getD_lt (by have := HNN.out; omega)]; exact List.getElem_mem _))
        obtain ⟨q, hq⟩ : ∃ q, q = rvs r := ⟨_, rfl⟩
        have HQ := Lib.hid hq
        have HRV : Hid (Calls Tryz.prog 17 #[ru] wr (Reads (.bool q) wr)) := Lib.hid (by rw [hq]; exact sRightsValid_any wr ru r (HRC.out wr HK.out.bel).2 HSR.out)
        clear hcr0 hu hnil hr hq
        go_wp2_with fail
        refine HRV.out.mono ?_
        rintro _ w1 ⟨rfl, d, hd⟩
        have HK1 := Lib.hid (HK.out.go (W' := w1) (by rw [hd]; exact below_drewN _ _ _))
        clear hd hcr
        cases q with
        | false =>
          obtain ⟨_, x0, x1, x2, x3⟩ := HK1.out.x
          have g0 := (HK1.out.xt 0 (by omega)).2
          have g1 := (HK1.out.xt 1 (by omega)).2
          have g2 := (HK1.out.xt 2 (by omega)).2
          have g3 := (HK1.out.xt 3 (by omega)).2
          simp only [Nat.zero_add] at g0 g1 g2 g3
          rw [← HXE.out] at x0 x1 x2 x3 g0 g1 g2 g3
          go_wp2_with fail
          have HRA : Hid (World.rangeAt ((((w1.setCell ⟨X, 0, none⟩ (sl0)).setCell ⟨X, 1, none⟩ (sl0)).setCell ⟨X, 2, none⟩ (sl0)).setCell ⟨X, 3, none⟩ (sl0)) X 0 [sl0, sl0, sl0, sl0]) := Lib.hid (World.rangeAt_setCells_same w1 X 0 [sl0, sl0, sl0, sl0] (by rw [HXE.out]; exact HK1.out.xt))
          refine bodyPost_ret (results_cell_mid rfl _ _ X 0 [sl0, sl0, sl0, sl0] _ rfl HRA.out Tryz.underlying30 rfl (by kernel_rfl)) rfl ?_
          rw [HRR.out]
          have hko : knewOk rs = false := by
            unfold knewOk
            rw [Bool.and_eq_false_iff]
            left
            rw [Bool.eq_false_iff]
            intro hh
            have := List.all_eq_true.1 hh r (by rw [HR.out, getD_lt (by have := HNN.out; omega)]; exact List.getElem_mem _)
            rw [← HQ.out] at this
            cases this
          have hkn : knew rs = kz := by unfold knew; rw [hko]; simp
          rw [hko, hkn]
          exact ⟨_, _, _, _, rfl, ks_none _, (HK1.out.res (b3 := b3) (by rw [← HXE.out]; exact grown_set4 _ X _ _ _ _)).2⟩
        | true =>
          go_wp2_with fail
          have HRCW : Hid (∀ Q, Below w1.heap.size w1 Q → Q.cell? ⟨b, o + k, none⟩ = some ru ∧ Strs Q ru r) := Lib.hid (fun Q hQ => HRC.out Q (HK1.out.bel.trans (hQ.mono HK1.out.bel.size)))
          have HLR : Hid (r.length ≤ 1000000) := Lib.hid (by rw [HR.out]; exact HLL.out _ (by rw [getD_lt (by have := HNN.out; omega)]; exact List.getElem_mem _))
          have HLE : Hid ((newE (rs.take k)).length = k) := Lib.hid (newE_len (by have := HNN.out; omega))
          have HOK2 : Hid (∀ j, j < k + 1 → rvs (rs.getD j []) = true) := Lib.hid (fun j hj => by
            by_cases e : j = k
            · subst e; rw [← HR.out, ← HQ.out]
            · exact HOK.out j (by omega))
          have HFR : Hid (∀ (wz W W' : World) (sv : Value) (hz : w1.heap.size ≤ wz.heap.size), OwnS wz sv r W → Below W.heap.size W W' → Strs W' sv r ∧ ∀ g, sv.ownBlock = some g → g < W'.heap.size ∧ (Value.slice va vn vc).ownBlock ≠ some g ∧ g ≠ bp ∧ w.heap.size < g) := Lib.hid (fun wz W W' sv hz ho hb => ⟨ho.strs.below hb, fun g hg => by
            have h1 := ho.own.lt g hg
            have h2 := hb.size
            have h3 := HK1.out.c.lt
            have h4 := HK1.out.x.lt
            exact ⟨by omega, fun e => by have := (HK1.out.e.own.lt g e).2; omega, by omega, by omega⟩⟩)
          refine wp_region_held_drew (S := fun w' => w'.cell? ⟨b, o + k, none⟩ = some ru) (by kernel_rfl) (HRCW.out _ (Below.refl _ _).drew).1 (fun hHeld => ?_)
          refine anyH_gen _ (fun wz hgen => ?_)
          have HBz := Lib.hid (by rw [hgen]; exact (Below.refl _ _).drew : Hid (Below w1.heap.size w1 wz))
          rw [← hgen] at hHeld
          clear hgen
          refine wpAnyH_take (i := 0) (oi := { dst := some 24, op := .fieldAddr 30 (.tmp 4) 2, type := _, pos := _, after := _, guard := none }) (v := .pointer (some ⟨bp, 0 + 2, none⟩)) rfl (by kernel_rfl) (by kernel_rfl) (by kernel_rfl) (fun _ _ _ h => h) (Or.inl ⟨by rfl, fun wh hSw => ?_⟩) hHeld ?_
          · (first | exact congrArg _ hSw | (dsimp only at hSw; go_simp))
          try simp only [Act.put, List.setIfInBounds_toArray, List.set_cons_zero, List.set_cons_succ]
          refine wpAnyH_take (i := 3) (oi := { dst := some 27, op := .move (.tmp 0), type := _, pos := _, after := _, guard := none }) (v := .slice (some ⟨b, o, none⟩) n ca) rfl (by kernel_rfl) (by kernel_rfl) (by kernel_rfl) (fun _ _ _ h => h) (Or.inl ⟨by rfl, fun wh hSw => ?_⟩) hHeld ?_
          · (first | exact congrArg _ hSw | (dsimp only at hSw; go_simp))
          try simp only [Act.put, List.setIfInBounds_toArray, List.set_cons_zero, List.set_cons_succ]
          refine wpAnyH_take (i := 4) (oi := { dst := some 28, op := .move (.tmp 5), type := _, pos := _, after := _, guard := none }) (v := .int .i64 (k : Int)) rfl (by kernel_rfl) (by kernel_rfl) (by kernel_rfl) (fun _ _ _ h => h) (Or.inl ⟨by rfl, fun wh hSw => ?_⟩) hHeld ?_
          · (first | exact congrArg _ hSw | (dsimp only at hSw; go_simp))
          try simp only [Act.put, List.setIfInBounds_toArray, List.set_cons_zero, List.set_cons_succ]
          refine wpAnyH_take (i := 5) (oi := { dst := some 29, op := .indexAddr 23 (.tmp 27) (.tmp 28), type := _, pos := _, after := _, guard := none }) (v := .pointer (some ⟨b, o + k, none⟩)) rfl (by kernel_rfl) (by kernel_rfl) (by kernel_rfl) (fun _ _ _ h => h) (Or.inl ⟨by rfl, fun wh hSw => ?_⟩) hHeld ?_
          · (first | exact congrArg _ hSw | (dsimp only at hSw; go_simp))
          try simp only [Act.put, List.setIfInBounds_toArray, List.set_cons_zero, List.set_cons_succ]
          refine wpAnyH_take (i := 6) (oi := { dst := some 30, op := .load 35 (.tmp 29), type := _, pos := _, after := _, guard := none }) (v := ru) rfl (by kernel_rfl) (by kernel_rfl) (by kernel_rfl) (fun _ _ _ h => h) (Or.inl ⟨by rfl, fun wh hSw => ?_⟩) hHeld ?_
          · (first | exact congrArg _ hSw | (dsimp only at hSw; go_simp))
          try simp only [Act.put, List.setIfInBounds_toArray, List.set_cons_zero, List.set_cons_succ]
          refine wpAnyH_ready (rs := [1, 2]) (by kernel_rfl) (by simp) ?_
          refine AllReadyH.cons (o := { dst := some 25, op := .load 27 (.tmp 24), type := _, pos := _, after := _, guard := none }) rfl (fun K hK => ?_) (AllReadyH.cons (o := { dst := some 26, op := .buildSlice 35 0 #[], type := _, pos := _, after := _, guard := none }) rfl (fun K hK => ?_) AllReadyH.nil)
          · obtain ⟨_, _, _, c2, _⟩ := (HK1.out.go HBz.out).c
            go_simp
            refine hK.out _ _ ?_ (fun hHeld => ?_)
            · exact (HRCW.out _ HBz.out).1
            clear hK K
            try simp only [Act.put, List.setIfInBounds_toArray, List.set_cons_zero, List.set_cons_succ]
            clear c2
            refine wpAnyH_ready (rs := [2]) (by kernel_rfl) (by simp) ?_
            refine AllReadyH.cons (o := { dst := some 26, op := .buildSlice 35 0 #[], type := _, pos := _, after := _, guard := none }) rfl (fun K hK => ?_) AllReadyH.nil
            obtain ⟨W2, hW⟩ : ∃ W2, W2 = wz.alloc (.cells #[] 9) := ⟨_, rfl⟩
            have HO2 : Hid (OwnS wz (.slice (some ⟨wz.heap.size, 0, none⟩) 0 0) [] W2) := Lib.hid (by rw [hW]; exact OwnS.start wz)
            have HB2 := Lib.hid (HBz.out.trans (HO2.out.bel.mono HBz.out.size))
            have HW := Lib.hid hW
            clear hW
            go_simp
            rw [← HW.out]
            clear HW
            refine hK.out _ _ ?_ (fun hHeld => ?_)
            · exact (HRCW.out _ HB2.out).1
            clear hK K
            try simp only [Act.put, List.setIfInBounds_toArray, List.set_cons_zero, List.set_cons_succ]
            refine wpAnyH_ready (rs := [7]) (by kernel_rfl) (by simp) ?_
            refine AllReadyH.cons (o := { dst := some 31, op := .call { callee := .builtin .append, args := #[.tmp 26, .tmp 30], argTypes := #[35, 35] }, type := _, pos := _, after := _, guard := none }) rfl (fun K hK => ?_) AllReadyH.nil
            refine wp_append_strs (.tmp 26) (.tmp 30) wz _ [] rfl HO2.out ru r rfl (HRCW.out _ HB2.out).2 HNIL.out (by have := HLR.out; simpa using this) ?_
            intro v' W3 ho _ _
            rw [List.nil_append] at ho
            obtain ⟨sa, sn, sc, rfl⟩ : ∃ a n c, v' = .slice a n c := by
              obtain ⟨a, c, e, _⟩ := ho.strs
              exact ⟨_, _, _, e⟩
            have HO3 := Lib.hid ho
            have HB3 := Lib.hid (HBz.out.trans (ho.bel.mono HBz.out.size))
            clear ho
            refine hK.out _ _ ?_ (fun hHeld => ?_)
            · exact (HRCW.out _ HB3.out).1
            clear hK K
            try simp only [Act.put, List.setIfInBounds_toArray, List.set_cons_zero, List.set_cons_succ]
            refine wpAnyH_take (i := 8) (oi := { dst := some 32, op := .build 37 #[(0, .tmp 31), (1, .const (.int .i64 (-1)))], type := _, pos := _, after := _, guard := none }) (v := .agg #[.slice sa sn sc, .int .i64 (-1)]) rfl (by kernel_rfl) (by kernel_rfl) (by kernel_rfl) (fun _ _ _ h => h) (Or.inl ⟨by rfl, fun wh hSw => ?_⟩) hHeld ?_
            · (first | exact congrArg _ hSw | (dsimp only at hSw; go_simp))
            try simp only [Act.put, List.setIfInBounds_toArray, List.set_cons_zero, List.set_cons_succ]
            refine wpAnyH_ready (rs := [9]) (by kernel_rfl) (by simp) ?_
            refine AllReadyH.cons (o := { dst := some 33, op := .buildSlice 27 1 #[(0, .tmp 32)], type := _, pos := _, after := _, guard := none }) rfl (fun K hK => ?_) AllReadyH.nil
            obtain ⟨W4, hW⟩ : ∃ W4, W4 = W3.alloc (.cells #[.slice sa sn sc, .int .i64 (-1)] 37) := ⟨_, rfl⟩
            have HC4 : Hid (W4.cell? ⟨W3.heap.size, 0, none⟩ = some (.slice sa sn sc) ∧ W4.cell? ⟨W3.heap.size, 1, none⟩ = some (.int .i64 (-1)) ∧ Below W3.heap.size W3 W4) := Lib.hid (by rw [hW]; exact ⟨new_cell rfl, new_cell rfl, (Below.refl _ _).alloc (Nat.le_refl _) _⟩)
            have HB4 := Lib.hid (HB3.out.trans (HC4.out.2.2.mono HB3.out.size))
            have HE4 : Hid (Strs W4 (.slice sa sn sc) r ∧ ∀ g, (Value.slice sa sn sc).ownBlock = some g → g < W4.heap.size ∧ (Value.slice va vn vc).ownBlock ≠ some g ∧ g ≠ bp ∧ w.heap.size < g) := Lib.hid (HFR.out wz _ _ _ HBz.out.size HO3.out HC4.out.2.2)
            have HW := Lib.hid hW
            clear hW
            go_simp
            rw [← HW.out]
            clear HW
            refine hK.out _ _ ?_ (fun hHeld => ?_)
            · exact (HRCW.out _ HB4.out).1
            clear hK K
            try simp only [Act.put, List.setIfInBounds_toArray, List.set_cons_zero, List.set_cons_succ]
            refine wpAnyH_ready (rs := [10]) (by kernel_rfl) (by simp) ?_
            refine AllReadyH.cons (o := { dst := some 34, op := .call { callee := .builtin .append, args := #[.tmp 25, .tmp 33], argTypes := #[27, 27] }, type := _, pos := _, after := _, guard := none }) rfl (fun K hK => ?_) AllReadyH.nil
            refine wp_append_es1 (.tmp 25) (.tmp 33) (w.heap.size + 1) _ _ ps rfl (HK1.out.go HB4.out).e (by have := HK1.out.x.lt; have := HB4.out.size; omega) _ (.slice sa sn sc) ⟨r, -1⟩ rfl HC4.out.1 HC4.out.2.1 HE4.out.1 (fun g hg _ => ⟨(HE4.out.2 g hg).1, (HE4.out.2 g hg).2.1⟩) (by rw [HLE.out]; omega) ?_
            intro v' W5 he hg g5
            obtain ⟨ta, tn, tc, rfl⟩ : ∃ a n c, v' = .slice a n c := by
              obtain ⟨a, c, e, _⟩ := he.es
              exact ⟨_, _, _, e⟩
            have HP := Lib.hid ((HK1.out.go HB4.out).put hg he g5 (fun g hg _ => (HE4.out.2 g hg).2.2))
            have HQ2 := Lib.hid ((HK1.out.go HB4.out).place hg)
            clear he hg g5
            refine hK.out _ _ ?_ (fun hHeld => ?_)
            · exact (HRC.out _ HQ2.out.2.2).1
            clear hK K
            try simp only [Act.put, List.setIfInBounds_toArray, List.set_cons_zero, List.set_cons_succ]
            refine wpAnyH_take (i := 11) (oi := { dst := some 35, op := .fieldAddr 30 (.tmp 4) 2, type := _, pos := _, after := _, guard := none }) (v := .pointer (some ⟨bp, 0 + 2, none⟩)) rfl (by kernel_rfl) (by kernel_rfl) (by kernel_rfl) (fun _ _ _ h => h) (Or.inl ⟨by rfl, fun wh hSw => ?_⟩) hHeld ?_
            · (first | exact congrArg _ hSw | (dsimp only at hSw; go_simp))
            try simp only [Act.put, List.setIfInBounds_toArray, List.set_cons_zero, List.set_cons_succ]
            refine wpAnyH_ready (rs := [12]) (by kernel_rfl) (by simp) ?_
            refine AllReadyH.cons (o := { dst := none, op := .store 27 (.tmp 35) (.tmp 34), type := _, pos := _, after := _, guard := none }) rfl (fun K hK => ?_) AllReadyH.nil
            obtain ⟨z0, z1, _⟩ := HQ2.out
            go_simp
            refine hK.out _ _ ?_ (fun hHeld => ?_)
            · exact (HRC.out _ HP.out.bel).1
            clear hK K
            try simp only [Act.put, List.setIfInBounds_toArray, List.set_cons_zero, List.set_cons_succ]
            clear z0 z1
            refine wpAnyH_done (by kernel_rfl) ?_ _
            have HKF : Hid (KLoop w (W5.setCell ⟨bp, 2, none⟩ (.slice ta tn tc)) (.slice ua un uc) B0 B1 b1 bp (.slice ta tn tc) (.slice (some ⟨b3, 0, none⟩) 0 0) (newE (rs.take (k + 1))) (ps ++ [(.slice sa sn sc, -1)])) := Lib.hid (by rw [newE_snoc (by have := HNN.out; omega), ← HR.out]; exact HP.out)
            go_wp2_with fail
            go_roundw
            case rel => exact ⟨k + 1, _, _, by omega, by go_num, HKF, HOK2⟩
            case measure => simp [intOf]; omega
          · obtain ⟨W7, hW⟩ : ∃ W7, W7 = wz.alloc (.cells #[] 9) := ⟨_, rfl⟩
            have HO7 : Hid (OwnS wz (.slice (some ⟨wz.heap.size, 0, none⟩) 0 0) [] W7) := Lib.hid (by rw [hW]; exact OwnS.start wz)
            have HB7 := Lib.hid (HBz.out.trans (HO7.out.bel.mono HBz.out.size))
            have HW := Lib.hid hW
            clear hW
            go_simp
            rw [← HW.out]
            clear HW
            refine hK.out _ _ ?_ (fun hHeld => ?_)
            · exact (HRCW.out _ HB7.out).1
            clear hK K
            try simp only [Act.put, List.setIfInBounds_toArray, List.set_cons_zero, List.set_cons_succ]
            refine wpAnyH_ready (rs := [1, 7]) (by kernel_rfl) (by simp) ?_
            refine AllReadyH.cons (o := { dst := some 25, op := .load 27 (.tmp 24), type := _, pos := _, after := _, guard := none }) rfl (fun K hK => ?_) (AllReadyH.cons (o := { dst := some 31, op := .call { callee := .builtin .append, args := #[.tmp 26, .tmp 30], argTypes := #[35, 35] }, type := _, pos := _, after := _, guard := none }) rfl (fun K hK => ?_) AllReadyH.nil)
            · obtain ⟨_, _, _, c2, _⟩ := (HK1.out.go HB7.out).c
              go_simp
              refine hK.out _ _ ?_ (fun hHeld => ?_)
              · exact (HRCW.out _ HB7.out).1
              clear hK K
              try simp only [Act.put, List.setIfInBounds_toArray, List.set_cons_zero, List.set_cons_succ]
              clear c2
              refine wpAnyH_ready (rs := [7]) (by kernel_rfl) (by simp) ?_
              refine AllReadyH.cons (o := { dst := some 31, op := .call { callee := .builtin .append, args := #[.tmp 26, .tmp 30], argTypes := #[35, 35] }, type := _, pos := _, after := _, guard := none }) rfl (fun K hK => ?_) AllReadyH.nil
              refine wp_append_strs (.tmp 26) (.tmp 30) wz _ [] rfl HO7.out ru r rfl (HRCW.out _ HB7.out).2 HNIL.out (by have := HLR.out; simpa using this) ?_
              intro v' W9 ho _ _
              rw [List.nil_append] at ho
              obtain ⟨sa, sn, sc, rfl⟩ : ∃ a n c, v' = .slice a n c := by
                obtain ⟨a, c, e, _⟩ := ho.strs
                exact ⟨_, _, _, e⟩
              have HO9 := Lib.hid ho
              have HB9 := Lib.hid (HBz.out.trans (ho.bel.mono HBz.out.size))
              clear ho
              refine hK.out _ _ ?_ (fun hHeld => ?_)
              · exact (HRCW.out _ HB9.out).1
              clear hK K
              try simp only [Act.put, List.setIfInBounds_toArray, List.set_cons_zero, List.set_cons_succ]
              refine wpAnyH_take (i := 8) (oi := { dst := some 32, op := .build 37 #[(0, .tmp 31), (1, .const (.int .i64 (-1)))], type := _, pos := _, after := _, guard := none }) (v := .agg #[.slice sa sn sc, .int .i64 (-1)]) rfl (by kernel_rfl) (by kernel_rfl) (by kernel_rfl) (fun _ _ _ h => h) (Or.inl ⟨by rfl, fun wh hSw => ?_⟩) hHeld ?_
              · (first | exact congrArg _ hSw | (dsimp only at hSw; go_simp))
              try simp only [Act.put, List.setIfInBounds_toArray, List.set_cons_zero, List.set_cons_succ]
              refine wpAnyH_ready (rs := [9]) (by kernel_rfl) (by simp) ?_
              refine AllReadyH.cons (o := { dst := some 33, op := .buildSlice 27 1 #[(0, .tmp 32)], type := _, pos := _, after := _, guard := none }) rfl (fun K hK => ?_) AllReadyH.nil
              obtain ⟨W10, hW⟩ : ∃ W10, W10 = W9.alloc (.cells #[.slice sa sn sc, .int .i64 (-1)] 37) := ⟨_, rfl⟩
              have HC10 : Hid (W10.cell? ⟨W9.heap.size, 0, none⟩ = some (.slice sa sn sc) ∧ W10.cell? ⟨W9.heap.size, 1, none⟩ = some (.int .i64 (-1)) ∧ Below W9.heap.size W9 W10) := Lib.hid (by rw [hW]; exact ⟨new_cell rfl, new_cell rfl, (Below.refl _ _).alloc (Nat.le_refl _) _⟩)
              have HB10 := Lib.hid (HB9.out.trans (HC10.out.2.2.mono HB9.out.size))
              have HE10 : Hid (Strs W10 (.slice sa sn sc) r ∧ ∀ g, (Value.slice sa sn sc).ownBlock = some g → g < W10.heap.size ∧ (Value.slice va vn vc).ownBlock ≠ some g ∧ g ≠ bp ∧ w.heap.size < g) := Lib.hid (HFR.out wz _ _ _ HBz.out.size HO9.out HC10.out.2.2)
              have HW := Lib.hid hW
              clear hW
              go_simp
              rw [← HW.out]
              clear HW
              refine hK.out _ _ ?_ (fun hHeld => ?_)
              · exact (HRCW.out _ HB10.out).1
              clear hK K
              try simp only [Act.put, List.setIfInBounds_toArray, List.set_cons_zero, List.set_cons_succ]
              refine wpAnyH_ready (rs := [10]) (by kernel_rfl) (by simp) ?_
              refine AllReadyH.cons (o := { dst := some 34, op := .call { callee := .builtin .append, args := #[.tmp 25, .tmp 33], argTypes := #[27, 27] }, type := _, pos := _, after := _, guard := none }) rfl (fun K hK => ?_) AllReadyH.nil
              refine wp_append_es1 (.tmp 25) (.tmp 33) (w.heap.size + 1) _ _ ps rfl (HK1.out.go HB10.out).e (by have := HK1.out.x.lt; have := HB10.out.size; omega) _ (.slice sa sn sc) ⟨r, -1⟩ rfl HC10.out.1 HC10.out.2.1 HE10.out.1 (fun g hg _ => ⟨(HE10.out.2 g hg).1, (HE10.out.2 g hg).2.1⟩) (by rw [HLE.out]; omega) ?_
              intro v' W11 he hg g5
              obtain ⟨ta, tn, tc, rfl⟩ : ∃ a n c, v' = .slice a n c := by
                obtain ⟨a, c, e, _⟩ := he.es
                exact ⟨_, _, _, e⟩
              have HP := Lib.hid ((HK1.out.go HB10.out).put hg he g5 (fun g hg _ => (HE10.out.2 g hg).2.2))
              have HQ2 := Lib.hid ((HK1.out.go HB10.out).place hg)
              clear he hg g5
              refine hK.out _ _ ?_ (fun hHeld => ?_)
              · exact (HRC.out _ HQ2.out.2.2).1
              clear hK K
              try simp only [Act.put, List.setIfInBounds_toArray, List.set_cons_zero, List.set_cons_succ]
              refine wpAnyH_take (i := 11) (oi := { dst := some 35, op := .fieldAddr 30 (.tmp 4) 2, type := _, pos := _, after := _, guard := none }) (v := .pointer (some ⟨bp, 0 + 2, none⟩)) rfl (by kernel_rfl) (by kernel_rfl) (by kernel_rfl) (fun _ _ _ h => h) (Or.inl ⟨by rfl, fun wh hSw => ?_⟩) hHeld ?_
              · (first | exact congrArg _ hSw | (dsimp only at hSw; go_simp))
              try simp only [Act.put, List.setIfInBounds_toArray, List.set_cons_zero, List.set_cons_succ]
              refine wpAnyH_ready (rs := [12]) (by kernel_rfl) (by simp) ?_
              refine AllReadyH.cons (o := { dst := none, op := .store 27 (.tmp 35) (.tmp 34), type := _, pos := _, after := _, guard := none }) rfl (fun K hK => ?_) AllReadyH.nil
              obtain ⟨z0, z1, _⟩ := HQ2.out
              go_simp
              refine hK.out _ _ ?_ (fun hHeld => ?_)
              · exact (HRC.out _ HP.out.bel).1
              clear hK K
              try simp only [Act.put, List.setIfInBounds_toArray, List.set_cons_zero, List.set_cons_succ]
              clear z0 z1
              refine wpAnyH_done (by kernel_rfl) ?_ _
              have HKF : Hid (KLoop w (W11.setCell ⟨bp, 2, none⟩ (.slice ta tn tc)) (.slice ua un uc) B0 B1 b1 bp (.slice ta tn tc) (.slice (some ⟨b3, 0, none⟩) 0 0) (newE (rs.take (k + 1))) (ps ++ [(.slice sa sn sc, -1)])) := Lib.hid (by rw [newE_snoc (by have := HNN.out; omega), ← HR.out]; exact HP.out)
              go_wp2_with fail
              go_roundw
              case rel => exact ⟨k + 1, _, _, by omega, by go_num, HKF, HOK2⟩
              case measure => simp [intOf]; omega
            · refine wp_append_strs (.tmp 26) (.tmp 30) wz _ [] rfl HO7.out ru r rfl (HRCW.out _ HB7.out).2 HNIL.out (by have := HLR.out; simpa using this) ?_
              intro v' W13 ho _ _
              rw [List.nil_append] at ho
              obtain ⟨sa, sn, sc, rfl⟩ : ∃ a n c, v' = .slice a n c := by
                obtain ⟨a, c, e, _⟩ := ho.strs
                exact ⟨_, _, _, e⟩
              have HO13 := Lib.hid ho
              have HB13 := Lib.hid (HBz.out.trans (ho.bel.mono HBz.out.size))
              clear ho
              refine hK.out _ _ ?_ (fun hHeld => ?_)
              · exact (HRCW.out _ HB13.out).1
              clear hK K
              try simp only [Act.put, List.setIfInBounds_toArray, List.set_cons_zero, List.set_cons_succ]
              refine wpAnyH_take (i := 8) (oi := { dst := some 32, op := .build 37 #[(0, .tmp 31), (1, .const (.int .i64 (-1)))], type := _, pos := _, after := _, guard := none }) (v := .agg #[.slice sa sn sc, .int .i64 (-1)]) rfl (by kernel_rfl) (by kernel_rfl) (by kernel_rfl) (fun _ _ _ h => h) (Or.inl ⟨by rfl, fun wh hSw => ?_⟩) hHeld ?_
              · (first | exact congrArg _ hSw | (dsimp only at hSw; go_simp))
              try simp only [Act.put, List.setIfInBounds_toArray, List.set_cons_zero, List.set_cons_succ]
              refine wpAnyH_ready (rs := [1, 9]) (by kernel_rfl) (by simp) ?_
              refine AllReadyH.cons (o := { dst := some 25, op := .load 27 (.tmp 24), type := _, pos := _, after := _, guard := none }) rfl (fun K hK => ?_) (AllReadyH.cons (o := { dst := some 33, op := .buildSlice 27 1 #[(0, .tmp 32)], type := _, pos := _, after := _, guard := none }) rfl (fun K hK => ?_) AllReadyH.nil)
              · obtain ⟨_, _, _, c2, _⟩ := (HK1.out.go HB13.out).c
                go_simp
                refine hK.out _ _ ?_ (fun hHeld => ?_)
                · exact (HRCW.out _ HB13.out).1
                clear hK K
                try simp only [Act.put, List.setIfInBounds_toArray, List.set_cons_zero, List.set_cons_succ]
                clear c2
                refine wpAnyH_ready (rs := [9]) (by kernel_rfl) (by simp) ?_
                refine AllReadyH.cons (o := { dst := some 33, op := .buildSlice 27 1 #[(0, .tmp 32)], type := _, pos := _, after := _, guard := none }) rfl (fun K hK => ?_) AllReadyH.nil
                obtain ⟨W15, hW⟩ : ∃ W15, W15 = W13.alloc (.cells #[.slice sa sn sc, .int .i64 (-1)] 37) := ⟨_, rfl⟩
                have HC15 : Hid (W15.cell? ⟨W13.heap.size, 0, none⟩ = some (.slice sa sn sc) ∧ W15.cell? ⟨W13.heap.size, 1, none⟩ = some (.int .i64 (-1)) ∧ Below W13.heap.size W13 W15) := Lib.hid (by rw [hW]; exact ⟨new_cell rfl, new_cell rfl, (Below.refl _ _).alloc (Nat.le_refl _) _⟩)
                have HB15 := Lib.hid (HB13.out.trans (HC15.out.2.2.mono HB13.out.size))
                have HE15 : Hid (Strs W15 (.slice sa sn sc) r ∧ ∀ g, (Value.slice sa sn sc).ownBlock = some g → g < W15.heap.size ∧ (Value.slice va vn vc).ownBlock ≠ some g ∧ g ≠ bp ∧ w.heap.size < g) := Lib.hid (HFR.out wz _ _ _ HBz.out.size HO13.out HC15.out.2.2)
                have HW := Lib.hid hW
                clear hW
                go_simp
                rw [← HW.out]
                clear HW
                refine hK.out _ _ ?_ (fun hHeld => ?_)
                · exact (HRCW.out _ HB15.out).1
                clear hK K
                try simp only [Act.put, List.setIfInBounds_toArray, List.set_cons_zero, List.set_cons_succ]
                refine wpAnyH_ready (rs := [10]) (by kernel_rfl) (by simp) ?_
                refine AllReadyH.cons (o := { dst := some 34, op := .call { callee := .builtin .append, args := #[.tmp 25, .tmp 33], argTypes := #[27, 27] }, type := _, pos := _, after := _, guard := none }) rfl (fun K hK => ?_) AllReadyH.nil
                refine wp_append_es1 (.tmp 25) (.tmp 33) (w.heap.size + 1) _ _ ps rfl (HK1.out.go HB15.out).e (by have := HK1.out.x.lt; have := HB15.out.size; omega) _ (.slice sa sn sc) ⟨r, -1⟩ rfl HC15.out.1 HC15.out.2.1 HE15.out.1 (fun g hg _ => ⟨(HE15.out.2 g hg).1, (HE15.out.2 g hg).2.1⟩) (by rw [HLE.out]; omega) ?_
                intro v' W16 he hg g5
                obtain ⟨ta, tn, tc, rfl⟩ : ∃ a n c, v' = .slice a n c := by
                  obtain ⟨a, c, e, _⟩ := he.es
                  exact ⟨_, _, _, e⟩
                have HP := Lib.hid ((HK1.out.go HB15.out).put hg he g5 (fun g hg _ => (HE15.out.2 g hg).2.2))
                have HQ2 := Lib.hid ((HK1.out.go HB15.out).place hg)
                clear he hg g5
                refine hK.out _ _ ?_ (fun hHeld => ?_)
                · exact (HRC.out _ HQ2.out.2.2).1
                clear hK K
                try simp only [Act.put, List.setIfInBounds_toArray, List.set_cons_zero, List.set_cons_succ]
                refine wpAnyH_take (i := 11) (oi := { dst := some 35, op := .fieldAddr 30 (.tmp 4) 2, type := _, pos := _, after := _, guard := none }) (v := .pointer (some ⟨bp, 0 + 2, none⟩)) rfl (by kernel_rfl) (by kernel_rfl) (by kernel_rfl) (fun _ _ _ h => h) (Or.inl ⟨by rfl, fun wh hSw => ?_⟩) hHeld ?_
                · (first | exact congrArg _ hSw | (dsimp only at hSw; go_simp))
                try simp only [Act.put, List.setIfInBounds_toArray, List.set_cons_zero, List.set_cons_succ]
                refine wpAnyH_ready (rs := [12]) (by kernel_rfl) (by simp) ?_
                refine AllReadyH.cons (o := { dst := none, op := .store 27 (.tmp 35) (.tmp 34), type := _, pos := _, after := _, guard := none }) rfl (fun K hK => ?_) AllReadyH.nil
                obtain ⟨z0, z1, _⟩ := HQ2.out
                go_simp
                refine hK.out _ _ ?_ (fun hHeld => ?_)
                · exact (HRC.out _ HP.out.bel).1
                clear hK K
                try simp only [Act.put, List.setIfInBounds_toArray, List.set_cons_zero, List.set_cons_succ]
                clear z0 z1
                refine wpAnyH_done (by kernel_rfl) ?_ _
                have HKF : Hid (KLoop w (W16.setCell ⟨bp, 2, none⟩ (.slice ta tn tc)) (.slice ua un uc) B0 B1 b1 bp (.slice ta tn tc) (.slice (some ⟨b3, 0, none⟩) 0 0) (newE (rs.take (k + 1))) (ps ++ [(.slice sa sn sc, -1)])) := Lib.hid (by rw [newE_snoc (by have := HNN.out; omega), ← HR.out]; exact HP.out)
                go_wp2_with fail
                go_roundw
                case rel => exact ⟨k + 1, _, _, by omega, by go_num, HKF, HOK2⟩
                case measure => simp [intOf]; omega
              · obtain ⟨W18, hW⟩ : ∃ W18, W18 = W13.alloc (.cells #[.slice sa sn sc, .int .i64 (-1)] 37) := ⟨_, rfl⟩
                have HC18 : Hid (W18.cell? ⟨W13.heap.size, 0, none⟩ = some (.slice sa sn sc) ∧ W18.cell? ⟨W13.heap.size, 1, none⟩ = some (.int .i64 (-1)) ∧ Below W13.heap.size W13 W18) := Lib.hid (by rw [hW]; exact ⟨new_cell rfl, new_cell rfl, (Below.refl _ _).alloc (Nat.le_refl _) _⟩)
                have HB18 := Lib.hid (HB13.out.trans (HC18.out.2.2.mono HB13.out.size))
                have HE18 : Hid (Strs W18 (.slice sa sn sc) r ∧ ∀ g, (Value.slice sa sn sc).ownBlock = some g → g < W18.heap.size ∧ (Value.slice va vn vc).ownBlock ≠ some g ∧ g ≠ bp ∧ w.heap.size < g) := Lib.hid (HFR.out wz _ _ _ HBz.out.size HO13.out HC18.out.2.2)
                have HW := Lib.hid hW
                clear hW
                go_simp
                rw [← HW.out]
                clear HW
                refine hK.out _ _ ?_ (fun hHeld => ?_)
                · exact (HRCW.out _ HB18.out).1
                clear hK K
                try simp only [Act.put, List.setIfInBounds_toArray, List.set_cons_zero, List.set_cons_succ]
                refine wpAnyH_ready (rs := [1]) (by kernel_rfl) (by simp) ?_
                refine AllReadyH.cons (o := { dst := some 25, op := .load 27 (.tmp 24), type := _, pos := _, after := _, guard := none }) rfl (fun K hK => ?_) AllReadyH.nil
                obtain ⟨_, _, _, c2, _⟩ := (HK1.out.go HB18.out).c
                go_simp
                refine hK.out _ _ ?_ (fun hHeld => ?_)
                · exact (HRCW.out _ HB18.out).1
                clear hK K
                try simp only [Act.put, List.setIfInBounds_toArray, List.set_cons_zero, List.set_cons_succ]
                clear c2
                refine wpAnyH_ready (rs := [10]) (by kernel_rfl) (by simp) ?_
                refine AllReadyH.cons (o := { dst := some 34, op := .call { callee := .builtin .append, args := #[.tmp 25, .tmp 33], argTypes := #[27, 27] }, type := _, pos := _, after := _, guard := none }) rfl (fun K hK => ?_) AllReadyH.nil
                refine wp_append_es1 (.tmp 25) (.tmp 33) (w.heap.size + 1) _ _ ps rfl (HK1.out.go HB18.out).e (by have := HK1.out.x.lt; have := HB18.out.size; omega) _ (.slice sa sn sc) ⟨r, -1⟩ rfl HC18.out.1 HC18.out.2.1 HE18.out.1 (fun g hg _ => ⟨(HE18.out.2 g hg).1, (HE18.out.2 g hg).2.1⟩) (by rw [HLE.out]; omega) ?_
                intro v' W20 he hg g5
                obtain ⟨ta, tn, tc, rfl⟩ : ∃ a n c, v' = .slice a n c := by
                  obtain ⟨a, c, e, _⟩ := he.es
                  exact ⟨_, _, _, e⟩
                have HP := Lib.hid ((HK1.out.go HB18.out).put hg he g5 (fun g hg _ => (HE18.out.2 g hg).2.2))
                have HQ2 := Lib.hid ((HK1.out.go HB18.out).place hg)
                clear he hg g5
                refine hK.out _ _ ?_ (fun hHeld => ?_)
                · exact (HRC.out _ HQ2.out.2.2).1
                clear hK K
                try simp only [Act.put, List.setIfInBounds_toArray, List.set_cons_zero, List.set_cons_succ]
                refine wpAnyH_take (i := 11) (oi := { dst := some 35, op := .fieldAddr 30 (.tmp 4) 2, type := _, pos := _, after := _, guard := none }) (v := .pointer (some ⟨bp, 0 + 2, none⟩)) rfl (by kernel_rfl) (by kernel_rfl) (by kernel_rfl) (fun _ _ _ h => h) (Or.inl ⟨by rfl, fun wh hSw => ?_⟩) hHeld ?_
                · (first | exact congrArg _ hSw | (dsimp only at hSw; go_simp))
                try simp only [Act.put, List.setIfInBounds_toArray, List.set_cons_zero, List.set_cons_succ]
                refine wpAnyH_ready (rs := [12]) (by kernel_rfl) (by simp) ?_
                refine AllReadyH.cons (o := { dst := none, op := .store 27 (.tmp 35) (.tmp 34), type := _, pos := _, after := _, guard := none }) rfl (fun K hK => ?_) AllReadyH.nil
                obtain ⟨z0, z1, _⟩ := HQ2.out
                go_simp
                refine hK.out _ _ ?_ (fun hHeld => ?_)
                · exact (HRC.out _ HP.out.bel).1
                clear hK K
                try simp only [Act.put, List.setIfInBounds_toArray, List.set_cons_zero, List.set_cons_succ]
                clear z0 z1
                refine wpAnyH_done (by kernel_rfl) ?_ _
                have HKF : Hid (KLoop w (W20.setCell ⟨bp, 2, none⟩ (.slice ta tn tc)) (.slice ua un uc) B0 B1 b1 bp (.slice ta tn tc) (.slice (some ⟨b3, 0, none⟩) 0 0) (newE (rs.take (k + 1))) (ps ++ [(.slice sa sn sc, -1)])) := Lib.hid (by rw [newE_snoc (by have := HNN.out; omega), ← HR.out]; exact HP.out)
                go_wp2_with fail
                go_roundw
                case rel => exact ⟨k + 1, _, _, by omega, by go_num, HKF, HOK2⟩
                case measure => simp [intOf]; omega
      · have e : k = n := by omega
        rw [e] at HK HOK
        have hge : ¬ (k : Int) < n := by omega
        obtain ⟨_, x0, x1, x2, x3⟩ := HK.out.x
        have g0 := (HK.out.xt 0 (by omega)).2
        have g1 := (HK.out.xt 1 (by omega)).2
        have g2 := (HK.out.xt 2 (by omega)).2
        have g3 := (HK.out.xt 3 (by omega)).2
        simp only [Nat.zero_add] at g0 g1 g2 g3
        rw [← HXE.out] at x0 x1 x2 x3 g0 g1 g2 g3
        obtain ⟨_, y0, y1, y2, y3⟩ := HK.out.c
        by_cases h3 : n = 3
        · have h3' : (n : Int) = 3 := by omega
          go_wp2_with fail
          have HRA : Hid (World.rangeAt ((((wr.setCell ⟨X, 0, none⟩ (.slice ua un uc)).setCell ⟨X, 1, none⟩ (.slice (some ⟨b1, 0, none⟩) 12 12)).setCell ⟨X, 2, none⟩ (.slice va vn vc)).setCell ⟨X, 3, none⟩ (.slice (some ⟨b3, 0, none⟩) 0 0)) X 0 [.slice ua un uc, .slice (some ⟨b1, 0, none⟩) 12 12, .slice va vn vc, .slice (some ⟨b3, 0, none⟩) 0 0]) := Lib.hid (World.rangeAt_setCells_same wr X 0 [.slice ua un uc, .slice (some ⟨b1, 0, none⟩) 12 12, .slice va vn vc, .slice (some ⟨b3, 0, none⟩) 0 0] (by rw [HXE.out]; exact HK.out.xt))
          refine bodyPost_ret (results_cell_mid rfl _ _ X 0 [.slice ua un uc, .slice (some ⟨b1, 0, none⟩) 12 12, .slice va vn vc, .slice (some ⟨b3, 0, none⟩) 0 0] _ rfl HRA.out Tryz.underlying30 rfl (by kernel_rfl)) rfl ?_
          rw [HRR.out]
          have hko : knewOk rs = true := by
            unfold knewOk
            rw [Bool.and_eq_true, decide_eq_true_eq, List.all_eq_true]
            refine ⟨fun x hx => ?_, by have := HNN.out; omega⟩
            obtain ⟨i, hi, rfl⟩ := List.getElem_of_mem hx
            have := HOK.out i (by have := HNN.out; omega)
            rwa [getD_lt hi] at this
          have hkn : knew rs = ⟨mem0, List.replicate 12 iz, newE (rs.take n), []⟩ := by unfold knew newE; rw [if_pos hko, HNN.out, List.take_length]
          rw [hko, hkn]
          have hres := HK.out.res (b3 := b3) (by rw [← HXE.out]; exact grown_set4 wr X (.slice ua un uc) (.slice (some ⟨b1, 0, none⟩) 12 12) (.slice va vn vc) (.slice (some ⟨b3, 0, none⟩) 0 0))
          exact ⟨_, _, _, _, rfl, hres.1, hres.2⟩
        · have h3' : ¬ (n : Int) = 3 := by omega
          go_wp2_with fail
          have HRA : Hid (World.rangeAt ((((wr.setCell ⟨X, 0, none⟩ (sl0)).setCell ⟨X, 1, none⟩ (sl0)).setCell ⟨X, 2, none⟩ (sl0)).setCell ⟨X, 3, none⟩ (sl0)) X 0 [sl0, sl0, sl0, sl0]) := Lib.hid (World.rangeAt_setCells_same wr X 0 [sl0, sl0, sl0, sl0] (by rw [HXE.out]; exact HK.out.xt))
          refine bodyPost_ret (results_cell_mid rfl _ _ X 0 [sl0, sl0, sl0, sl0] _ rfl HRA.out Tryz.underlying30 rfl (by kernel_rfl)) rfl ?_
          rw [HRR.out]
          have hko : knewOk rs = false := by
            unfold knewOk
            rw [Bool.and_eq_false_iff]
            right
            rw [decide_eq_false_iff_not]
            have := HNN.out
            omega
          have hkn : knew rs = kz := by unfold knew; rw [hko]; simp
          rw [hko, hkn]
          exact ⟨_, _, _, _, rfl, ks_none _, (HK.out.res (b3 := b3) (by rw [← HXE.out]; exact grown_set4 _ X _ _ _ _)).2⟩)
  have s01235 : Hid (∀ (l : Array Bool) (W : World) (u : Value) (B0 B1 : Nat) (b1 : Nat) (b2 : Nat) (b3 : Nat) (bp : Nat), l = #[true, true, true, true, false, true, false] → Hid (NK w0 W (some (u, B0, B1)) (some b1) (some b2) (some bp)) → G 2 l { tmps := #[.slice a n ca, undef, .pointer (some ⟨X, 0, none⟩), .bool false, .pointer (some ⟨bp, 0, none⟩), undef, u, .slice (some ⟨b1, 0, none⟩) 12 12, .slice (some ⟨b2, 0, none⟩) 0 0, .slice (some ⟨b3, 0, none⟩) 0 0, undef, undef, undef, undef, undef, undef, undef, undef, undef, undef, undef, undef, undef, undef, undef, undef, undef, undef, undef, undef, undef, undef, undef, undef, undef, undef, undef, undef, undef, undef, undef], defers := [] } W) := Lib.hid (by
    intro l W u B0 B1 b1 b2 b3 bp hl HN
    subst hl
    rw [HG.out]
    have hHeld : True := trivial
    obtain ⟨ua, un, uc, rfl⟩ : ∃ a n c, u = .slice a n c := by
      obtain ⟨a, cap, A, C, e, _⟩ := (HN.out.fm u B0 B1 rfl).1
      exact ⟨_, _, _, e⟩
    refine wpAnyH_take (i := 4) (oi := { dst := some 10, op := .build 30 #[(0, .tmp 6), (1, .tmp 7), (2, .tmp 8), (3, .tmp 9)], type := _, pos := _, after := _, guard := none }) (v := .agg #[.slice ua un uc, .slice (some ⟨b1, 0, none⟩) 12 12, .slice (some ⟨b2, 0, none⟩) 0 0, .slice (some ⟨b3, 0, none⟩) 0 0]) rfl (by kernel_rfl) (by kernel_rfl) (by kernel_rfl) (fun _ _ _ h => h) (Or.inl ⟨by rfl, fun wh hSw => ?_⟩) hHeld ?_
    · go_simp
    try simp only [Act.put, List.setIfInBounds_toArray, List.set_cons_zero, List.set_cons_succ]
    refine (HG.out _ _ _ _).mp ?_
    exact sF.out _ _ (.slice ua un uc) B0 B1 b1 b2 b3 bp (by kernel_rfl) HN)
  have s0123 : Hid (∀ (l : Array Bool) (W : World) (u : Value) (B0 B1 : Nat) (b1 : Nat) (b2 : Nat) (b3 : Nat), l = #[true, true, true, true, false, false, false] → Hid (NK w0 W (some (u, B0, B1)) (some b1) (some b2) (none)) → G 3 l { tmps := #[.slice a n ca, undef, .pointer (some ⟨X, 0, none⟩), .bool false, undef, undef, u, .slice (some ⟨b1, 0, none⟩) 12 12, .slice (some ⟨b2, 0, none⟩) 0 0, .slice (some ⟨b3, 0, none⟩) 0 0, undef, undef, undef, undef, undef, undef, undef, undef, undef, undef, undef, undef, undef, undef, undef, undef, undef, undef, undef, undef, undef, undef, undef, undef, undef, undef, undef, undef, undef, undef, undef], defers := [] } W) := Lib.hid (by
    intro l W u B0 B1 b1 b2 b3 hl HN
    subst hl
    rw [HG.out]
    have hHeld : True := trivial
    obtain ⟨ua, un, uc, rfl⟩ : ∃ a n c, u = .slice a n c := by
      obtain ⟨a, cap, A, C, e, _⟩ := (HN.out.fm u B0 B1 rfl).1
      exact ⟨_, _, _, e⟩
    refine wpAnyH_take (i := 4) (oi := { dst := some 10, op := .build 30 #[(0, .tmp 6), (1, .tmp 7), (2, .tmp 8), (3, .tmp 9)], type := _, pos := _, after := _, guard := none }) (v := .agg #[.slice ua un uc, .slice (some ⟨b1, 0, none⟩) 12 12, .slice (some ⟨b2, 0, none⟩) 0 0, .slice (some ⟨b3, 0, none⟩) 0 0]) rfl (by kernel_rfl) (by kernel_rfl) (by kernel_rfl) (fun _ _ _ h => h) (Or.inl ⟨by rfl, fun wh hSw => ?_⟩) hHeld ?_
    · go_simp
    try simp only [Act.put, List.setIfInBounds_toArray, List.set_cons_zero, List.set_cons_succ]
    refine wpAnyH_ready (rs := [5]) (by kernel_rfl) (by simp) ?_
    refine AllReadyH.cons (o := { dst := some 4, op := .alloc 30, type := _, pos := _, after := _, guard := none }) rfl (fun K hK => ?_) AllReadyH.nil
    have HN2 := Lib.hid HN.out.putP
    go_simp
    refine hK.out _ _ ?_ (fun hHeld => ?_)
    · trivial
    clear hK K
    try simp only [Act.put, List.setIfInBounds_toArray, List.set_cons_zero, List.set_cons_succ]
    refine (HG.out _ _ _ _).mp ?_
    exact sF.out _ _ (.slice ua un uc) B0 B1 b1 b2 b3 W.heap.size (by kernel_rfl) HN2)
  have s0125 : Hid (∀ (l : Array Bool) (W : World) (u : Value) (B0 B1 : Nat) (b1 : Nat) (b2 : Nat) (bp : Nat), l = #[true, true, true, false, false, true, false] → Hid (NK w0 W (some (u, B0, B1)) (some b1) (some b2) (some bp)) → G 3 l { tmps := #[.slice a n ca, undef, .pointer (some ⟨X, 0, none⟩), .bool false, .pointer (some ⟨bp, 0, none⟩), undef, u, .slice (some ⟨b1, 0, none⟩) 12 12, .slice (some ⟨b2, 0, none⟩) 0 0, undef, undef, undef, undef, undef, undef, undef, undef, undef, undef, undef, undef, undef, undef, undef, undef, undef, undef, undef, undef, undef, undef, undef, undef, undef, undef, undef, undef, undef, undef, undef, undef], defers := [] } W) := Lib.hid (by
    intro l W u B0 B1 b1 b2 bp hl HN
    subst hl
    rw [HG.out]
    have hHeld : True := trivial
    obtain ⟨ua, un, uc, rfl⟩ : ∃ a n c, u = .slice a n c := by
      obtain ⟨a, cap, A, C, e, _⟩ := (HN.out.fm u B0 B1 rfl).1
      exact ⟨_, _, _, e⟩
    refine wpAnyH_ready (rs := [3]) (by kernel_rfl) (by simp) ?_
    refine AllReadyH.cons (o := { dst := some 9, op := .buildSlice 28 0 #[], type := _, pos := _, after := _, guard := none }) rfl (fun K hK => ?_) AllReadyH.nil
    have HN2 := Lib.hid (HN.out.go ((Below.refl _ _).alloc (Nat.le_refl _) (.cells #[] 62)))
    go_simp
    refine hK.out _ _ ?_ (fun hHeld => ?_)
    · trivial
    clear hK K
    try simp only [Act.put, List.setIfInBounds_toArray, List.set_cons_zero, List.set_cons_succ]
    refine (HG.out _ _ _ _).mp ?_
    exact s01235.out _ _ (.slice ua un uc) B0 B1 b1 b2 W.heap.size bp (by kernel_rfl) HN2)
  have s0135 : Hid (∀ (l : Array Bool) (W : World) (u : Value) (B0 B1 : Nat) (b1 : Nat) (b3 : Nat) (bp : Nat), l = #[true, true, false, true, false, true, false] → Hid (NK w0 W (some (u, B0, B1)) (some b1) (none) (some bp)) → G 3 l { tmps := #[.slice a n ca, undef, .pointer (some ⟨X, 0, none⟩), .bool false, .pointer (some ⟨bp, 0, none⟩), undef, u, .slice (some ⟨b1, 0, none⟩) 12 12, undef, .slice (some ⟨b3, 0, none⟩) 0 0, undef, undef, undef, undef, undef, undef, undef, undef, undef, undef, undef, undef, undef, undef, undef, undef, undef, undef, undef, undef, undef, undef, undef, undef, undef, undef, undef, undef, undef, undef, undef], defers := [] } W) := Lib.hid (by
    intro l W u B0 B1 b1 b3 bp hl HN
    subst hl
    rw [HG.out]
    have hHeld : True := trivial
    obtain ⟨ua, un, uc, rfl⟩ : ∃ a n c, u = .slice a n c := by
      obtain ⟨a, cap, A, C, e, _⟩ := (HN.out.fm u B0 B1 rfl).1
      exact ⟨_, _, _, e⟩
    refine wpAnyH_ready (rs := [2]) (by kernel_rfl) (by simp) ?_
    refine AllReadyH.cons (o := { dst := some 8, op := .buildSlice 27 0 #[], type := _, pos := _, after := _, guard := none }) rfl (fun K hK => ?_) AllReadyH.nil
    have HN2 := Lib.hid HN.out.putE
    go_simp
    refine hK.out _ _ ?_ (fun hHeld => ?_)
    · trivial
    clear hK K
    try simp only [Act.put, List.setIfInBounds_toArray, List.set_cons_zero, List.set_cons_succ]
    refine (HG.out _ _ _ _).mp ?_
    exact s01235.out _ _ (.slice ua un uc) B0 B1 b1 W.heap.size b3 bp (by kernel_rfl) HN2)
  have s0235 : Hid (∀ (l : Array Bool) (W : World) (u : Value) (B0 B1 : Nat) (b2 : Nat) (b3 : Nat) (bp : Nat), l = #[true, false, true, true, false, true, false] → Hid (NK w0 W (some (u, B0, B1)) (none) (some b2) (some bp)) → G 3 l { tmps := #[.slice a n ca, undef, .pointer (some ⟨X, 0, none⟩), .bool false, .pointer (some ⟨bp, 0, none⟩), undef, u, undef, .slice (some ⟨b2, 0, none⟩) 0 0, .slice (some ⟨b3, 0, none⟩) 0 0, undef, undef, undef, undef, undef, undef, undef, undef, undef, undef, undef, undef, undef, undef, undef, undef, undef, undef, undef, undef, undef, undef, undef, undef, undef, undef, undef, undef, undef, undef, undef], defers := [] } W) := Lib.hid (by
    intro l W u B0 B1 b2 b3 bp hl HN
    subst hl
    rw [HG.out]
    have hHeld : True := trivial
    obtain ⟨ua, un, uc, rfl⟩ : ∃ a n c, u = .slice a n c := by
      obtain ⟨a, cap, A, C, e, _⟩ := (HN.out.fm u B0 B1 rfl).1
      exact ⟨_, _, _, e⟩
    refine wpAnyH_ready (rs := [1]) (by kernel_rfl) (by simp) ?_
    refine AllReadyH.cons (o := { dst := some 7, op := .makeSlice 26 (.const (.int .i64 12)) (.const (.int .i64 12)), type := _, pos := _, after := _, guard := none }) rfl (fun K hK => ?_) AllReadyH.nil
    obtain ⟨w2, hr, hi, hl, hb⟩ := make_infos W
    have HN2 := Lib.hid (HN.out.putI hb hi hl)
    clear hi hl hb
    go_simp
    refine hK.out _ _ ?_ (fun hHeld => ?_)
    · trivial
    clear hr
    clear hK K
    try simp only [Act.put, List.setIfInBounds_toArray, List.set_cons_zero, List.set_cons_succ]
    refine (HG.out _ _ _ _).mp ?_
    exact s01235.out _ _ (.slice ua un uc) B0 B1 W.heap.size b2 b3 bp (by kernel_rfl) HN2)
  have s1235 : Hid (∀ (l : Array Bool) (W : World) (b1 : Nat) (b2 : Nat) (b3 : Nat) (bp : Nat), l = #[false, true, true, true, false, true, false] → Hid (NK w0 W (none) (some b1) (some b2) (some bp)) → G 3 l { tmps := #[.slice a n ca, undef, .pointer (some ⟨X, 0, none⟩), .bool false, .pointer (some ⟨bp, 0, none⟩), undef, undef, .slice (some ⟨b1, 0, none⟩) 12 12, .slice (some ⟨b2, 0, none⟩) 0 0, .slice (some ⟨b3, 0, none⟩) 0 0, undef, undef, undef, undef, undef, undef, undef, undef, undef, undef, undef, undef, undef, undef, undef, undef, undef, undef, undef, undef, undef, undef, undef, undef, undef, undef, undef, undef, undef, undef, undef], defers := [] } W) := Lib.hid (by
    intro l W b1 b2 b3 bp hl HN
    subst hl
    rw [HG.out]
    have hHeld : True := trivial
    refine wpAnyH_ready (rs := [0]) (by kernel_rfl) (by simp) ?_
    refine AllReadyH.cons (o := { dst := some 6, op := .call { callee := .value (.func 16), args := #[], argTypes := #[] }, type := _, pos := _, after := _, guard := none }) rfl (fun K hK => ?_) AllReadyH.nil
    go_simp
    refine (l2New_any W).mono ?_
    rintro _ w2 ⟨u, rfl, hm, hb⟩
    have HN2 := Lib.hid (HN.out.putM hb hm)
    clear hm hb
    try go_simp
    refine hK.out _ _ ?_ (fun hHeld => ?_)
    · trivial
    clear hK K
    try simp only [Act.put, List.setIfInBounds_toArray, List.set_cons_zero, List.set_cons_succ]
    refine (HG.out _ _ _ _).mp ?_
    exact s01235.out _ _ u W.heap.size w2.heap.size b1 b2 b3 bp (by kernel_rfl) HN2)
  have s012 : Hid (∀ (l : Array Bool) (W : World) (u : Value) (B0 B1 : Nat) (b1 : Nat) (b2 : Nat), l = #[true, true, true, false, false, false, false] → Hid (NK w0 W (some (u, B0, B1)) (some b1) (some b2) (none)) → G 4 l { tmps := #[.slice a n ca, undef, .pointer (some ⟨X, 0, none⟩), .bool false, undef, undef, u, .slice (some ⟨b1, 0, none⟩) 12 12, .slice (some ⟨b2, 0, none⟩) 0 0, undef, undef, undef, undef, undef, undef, undef, undef, undef, undef, undef, undef, undef, undef, undef, undef, undef, undef, undef, undef, undef, undef, undef, undef, undef, undef, undef, undef, undef, undef, undef, undef], defers := [] } W) := Lib.hid (by
    intro l W u B0 B1 b1 b2 hl HN
    subst hl
    rw [HG.out]
    have hHeld : True := trivial
    obtain ⟨ua, un, uc, rfl⟩ : ∃ a n c, u = .slice a n c := by
      obtain ⟨a, cap, A, C, e, _⟩ := (HN.out.fm u B0 B1 rfl).1
      exact ⟨_, _, _, e⟩
    refine wpAnyH_ready (rs := [3, 5]) (by kernel_rfl) (by simp) ?_
    refine AllReadyH.cons (o := { dst := some 9, op := .buildSlice 28 0 #[], type := _, pos := _, after := _, guard := none }) rfl (fun K hK => ?_) (AllReadyH.cons (o := { dst := some 4, op := .alloc 30, type := _, pos := _, after := _, guard := none }) rfl (fun K hK => ?_) AllReadyH.nil)
    · have HN2 := Lib.hid (HN.out.go ((Below.refl _ _).alloc (Nat.le_refl _) (.cells #[] 62)))
      go_simp
      refine hK.out _ _ ?_ (fun hHeld => ?_)
      · trivial
      clear hK K
      try simp only [Act.put, List.setIfInBounds_toArray, List.set_cons_zero, List.set_cons_succ]
      refine (HG.out _ _ _ _).mp ?_
      exact s0123.out _ _ (.slice ua un uc) B0 B1 b1 b2 W.heap.size (by kernel_rfl) HN2
    · have HN2 := Lib.hid HN.out.putP
      go_simp
      refine hK.out _ _ ?_ (fun hHeld => ?_)
      · trivial
      clear hK K
      try simp only [Act.put, List.setIfInBounds_toArray, List.set_cons_zero, List.set_cons_succ]
      refine (HG.out _ _ _ _).mp ?_
      exact s0125.out _ _ (.slice ua un uc) B0 B1 b1 b2 W.heap.size (by kernel_rfl) HN2)
  have s013 : Hid (∀ (l : Array Bool) (W : World) (u : Value) (B0 B1 : Nat) (b1 : Nat) (b3 : Nat), l = #[true, true, false, true, false, false, false] → Hid (NK w0 W (some (u, B0, B1)) (some b1) (none) (none)) → G 4 l { tmps := #[.slice a n ca, undef, .pointer (some ⟨X, 0, none⟩), .bool false, undef, undef, u, .slice (some ⟨b1, 0, none⟩) 12 12, undef, .slice (some ⟨b3, 0, none⟩) 0 0, undef, undef, undef, undef, undef, undef, undef, undef, undef, undef, undef, undef, undef, undef, undef, undef, undef, undef, undef, undef, undef, undef, undef, undef, undef, undef, undef, undef, undef, undef, undef], defers := [] } W) := Lib.hid (by
    intro l W u B0 B1 b1 b3 hl HN
    subst hl
    rw [HG.out]
    have hHeld : True := trivial
    obtain ⟨ua, un, uc, rfl⟩ : ∃ a n c, u = .slice a n c := by
      obtain ⟨a, cap, A, C, e, _⟩ := (HN.out.fm u B0 B1 rfl).1
      exact ⟨_, _, _, e⟩
    refine wpAnyH_ready (rs := [2, 5]) (by kernel_rfl) (by simp) ?_
    refine AllReadyH.cons (o := { dst := some 8, op := .buildSlice 27 0 #[], type := _, pos := _, after := _, guard := none }) rfl (fun K hK => ?_) (AllReadyH.cons (o := { dst := some 4, op := .alloc 30, type := _, pos := _, after := _, guard := none }) rfl (fun K hK => ?_) AllReadyH.nil)
    · have HN2 := Lib.hid HN.out.putE
      go_simp
      refine hK.out _ _ ?_ (fun hHeld => ?_)
      · trivial
      clear hK K
      try simp only [Act.put, List.setIfInBounds_toArray, List.set_cons_zero, List.set_cons_succ]
      refine (HG.out _ _ _ _).mp ?_
      exact s0123.out _ _ (.slice ua un uc) B0 B1 b1 W.heap.size b3 (by kernel_rfl) HN2
    · have HN2 := Lib.hid HN.out.putP
      go_simp
      refine hK.out _ _ ?_ (fun hHeld => ?_)
      · trivial
      clear hK K
      try simp only [Act.put, List.setIfInBounds_toArray, List.set_cons_zero, List.set_cons_succ]
      refine (HG.out _ _ _ _).mp ?_
      exact s0135.out _ _ (.slice ua un uc) B0 B1 b1 b3 W.heap.size (by kernel_rfl) HN2)
  have s015 : Hid (∀ (l : Array Bool) (W : World) (u : Value) (B0 B1 : Nat) (b1 : Nat) (bp : Nat), l = #[true, true, false, false, false, true, false] → Hid (NK w0 W (some (u, B0, B1)) (some b1) (none) (some bp)) → G 4 l { tmps := #[.slice a n ca, undef, .pointer (some ⟨X, 0, none⟩), .bool false, .pointer (some ⟨bp, 0, none⟩), undef, u, .slice (some ⟨b1, 0, none⟩) 12 12, undef, undef, undef, undef, undef, undef, undef, undef, undef, undef, undef, undef, undef, undef, undef, undef, undef, undef, undef, undef, undef, undef, undef, undef, undef, undef, undef, undef, undef, undef, undef, undef, undef], defers := [] } W) := Lib.hid (by
    intro l W u B0 B1 b1 bp hl HN
    subst hl
    rw [HG.out]
    have hHeld : True := trivial
    obtain ⟨ua, un, uc, rfl⟩ : ∃ a n c, u = .slice a n c := by
      obtain ⟨a, cap, A, C, e, _⟩ := (HN.out.fm u B0 B1 rfl).1
      exact ⟨_, _, _, e⟩
    refine wpAnyH_ready (rs := [2, 3]) (by kernel_rfl) (by simp) ?_
    refine AllReadyH.cons (o := { dst := some 8, op := .buildSlice 27 0 #[], type := _, pos := _, after := _, guard := none }) rfl (fun K hK => ?_) (AllReadyH.cons (o := { dst := some 9, op := .buildSlice 28 0 #[], type := _, pos := _, after := _, guard := none }) rfl (fun K hK => ?_) AllReadyH.nil)
    · have HN2 := Lib.hid HN.out.putE
      go_simp
      refine hK.out _ _ ?_ (fun hHeld => ?_)
      · trivial
      clear hK K
      try simp only [Act.put, List.setIfInBounds_toArray, List.set_cons_zero, List.set_cons_succ]
      refine (HG.out _ _ _ _).mp ?_
      exact s0125.out _ _ (.slice ua un uc) B0 B1 b1 W.heap.size bp (by kernel_rfl) HN2
    · have HN2 := Lib.hid (HN.out.go ((Below.refl _ _).alloc (Nat.le_refl _) (.cells #[] 62)))
      go_simp
      refine hK.out _ _ ?_ (fun hHeld => ?_)
      · trivial
      clear hK K
      try simp only [Act.put, List.setIfInBounds_toArray, List.set_cons_zero, List.set_cons_succ]
      refine (HG.out _ _ _ _).mp ?_
      exact s0135.out _ _ (.slice ua un uc) B0 B1 b1 W.heap.size bp (by kernel_rfl) HN2)
  have s023 : Hid (∀ (l : Array Bool) (W : World) (u : Value) (B0 B1 : Nat) (b2 : Nat) (b3 : Nat), l = #[true, false, true, true, false, false, false] → Hid (NK w0 W (some (u, B0, B1)) (none) (some b2) (none)) → G 4 l { tmps := #[.slice a n ca, undef, .pointer (some ⟨X, 0, none⟩), .bool false, undef, undef, u, undef, .slice (some ⟨b2, 0, none⟩) 0 0, .slice (some ⟨b3, 0, none⟩) 0 0, undef, undef, undef, undef, undef, undef, undef, undef, undef, undef, undef, undef, undef, undef, undef, undef, undef, undef, undef, undef, undef, undef, undef, undef, undef, undef, undef, undef, undef, undef, undef], defers := [] } W) := Lib.hid (by
    intro l W u B0 B1 b2 b3 hl HN
    subst hl
    rw [HG.out]
    have hHeld : True := trivial
    obtain ⟨ua, un, uc, rfl⟩ : ∃ a n c, u = .slice a n c := by
      obtain ⟨a, cap, A, C, e, _⟩ := (HN.out.fm u B0 B1 rfl).1
      exact ⟨_, _, _, e⟩
    refine wpAnyH_ready (rs := [1, 5]) (by kernel_rfl) (by simp) ?_
    refine AllReadyH.cons (o := { dst := some 7, op := .makeSlice 26 (.const (.int .i64 12)) (.const (.int .i64 12)), type := _, pos := _, after := _, guard := none }) rfl (fun K hK => ?_) (AllReadyH.cons (o := { dst := some 4, op := .alloc 30, type := _, pos := _, after := _, guard := none }) rfl (fun K hK => ?_) AllReadyH.nil)
    · obtain ⟨w2, hr, hi, hl, hb⟩ := make_infos W
      have HN2 := Lib.hid (HN.out.putI hb hi hl)
      clear hi hl hb
      go_simp
      refine hK.out _ _ ?_ (fun hHeld => ?_)
      · trivial
      clear hr
      clear hK K
      try simp only [Act.put, List.setIfInBounds_toArray, List.set_cons_zero, List.set_cons_succ]
      refine (HG.out _ _ _ _).mp ?_
      exact s0123.out _ _ (.slice ua un uc) B0 B1 W.heap.size b2 b3 (by kernel_rfl) HN2
    · have HN2 := Lib.hid HN.out.putP
      go_simp
      refine hK.out _ _ ?_ (fun hHeld => ?_)
      · trivial
      clear hK K
      try simp only [Act.put, List.setIfInBounds_toArray, List.set_cons_zero, List.set_cons_succ]
      refine (HG.out _ _ _ _).mp ?_
      exact s0235.out _ _ (.slice ua un uc) B0 B1 b2 b3 W.heap.size (by kernel_rfl) HN2)
  have s025 : Hid (∀ (l : Array Bool) (W : World) (u : Value) (B0 B1 : Nat) (b2 : Nat) (bp : Nat), l = #[true, false, true, false, false, true, false] → Hid (NK w0 W (some (u, B0, B1)) (none) (some b2) (some bp)) → G 4 l { tmps := #[.slice a n ca, undef, .pointer (some ⟨X, 0, none⟩), .bool false, .pointer (some ⟨bp, 0, none⟩), undef, u, undef, .slice (some ⟨b2, 0, none⟩) 0 0, undef, undef, undef, undef, undef, undef, undef, undef, undef, undef, undef, undef, undef, undef, undef, undef, undef, undef, undef, undef, undef, undef, undef, undef, undef, undef, undef, undef, undef, undef, undef, undef], defers := [] } W) := Lib.hid (by
    intro l W u B0 B1 b2 bp hl HN
    subst hl
    rw [HG.out]
    have hHeld : True := trivial
    obtain ⟨ua, un, uc, rfl⟩ : ∃ a n c, u = .slice a n c := by
      obtain ⟨a, cap, A, C, e, _⟩ := (HN.out.fm u B0 B1 rfl).1
      exact ⟨_, _, _, e⟩
    refine wpAnyH_ready (rs := [1, 3]) (by kernel_rfl) (by simp) ?_
    refine AllReadyH.cons (o := { dst := some 7, op := .makeSlice 26 (.const (.int .i64 12)) (.const (.int .i64 12)), type := _, pos := _, after := _, guard := none }) rfl (fun K hK => ?_) (AllReadyH.cons (o := { dst := some 9, op := .buildSlice 28 0 #[], type := _, pos := _, after := _, guard := none }) rfl (fun K hK => ?_) AllReadyH.nil)
    · obtain ⟨w2, hr, hi, hl, hb⟩ := make_infos W
      have HN2 := Lib.hid (HN.out.putI hb hi hl)
      clear hi hl hb
      go_simp
      refine hK.out _ _ ?_ (fun hHeld => ?_)
      · trivial
      clear hr
      clear hK K
      try simp only [Act.put, List.setIfInBounds_toArray, List.set_cons_zero, List.set_cons_succ]
      refine (HG.out _ _ _ _).mp ?_
      exact s0125.out _ _ (.slice ua un uc) B0 B1 W.heap.size b2 bp (by kernel_rfl) HN2
    · have HN2 := Lib.hid (HN.out.go ((Below.refl _ _).alloc (Nat.le_refl _) (.cells #[] 62)))
      go_simp
      refine hK.out _ _ ?_ (fun hHeld => ?_)
      · trivial
      clear hK K
      try simp only [Act.put, List.setIfInBounds_toArray, List.set_cons_zero, List.set_cons_succ]
      refine (HG.out _ _ _ _).mp ?_
      exact s0235.out _ _ (.slice ua un uc) B0 B1 b2 W.heap.size bp (by kernel_rfl) HN2)
  have s035 : Hid (∀ (l : Array Bool) (W : World) (u : Value) (B0 B1 : Nat) (b3 : Nat) (bp : Nat), l = #[true, false, false, true, false, true, false] → Hid (NK w0 W (some (u, B0, B1)) (none) (none) (some bp)) → G 4 l { tmps := #[.slice a n ca, undef, .pointer (some ⟨X, 0, none⟩), .bool false, .pointer (some ⟨bp, 0, none⟩), undef, u, undef, undef, .slice (some ⟨b3, 0, none⟩) 0 0, undef, undef, undef, undef, undef, undef, undef, undef, undef, undef, undef, undef, undef, undef, undef, undef, undef, undef, undef, undef, undef, undef, undef, undef, undef, undef, undef, undef, undef, undef, undef], defers := [] } W) := Lib.hid (by
    intro l W u B0 B1 b3 bp hl HN
    subst hl
    rw [HG.out]
    have hHeld : True := trivial
    obtain ⟨ua, un, uc, rfl⟩ : ∃ a n c, u = .slice a n c := by
      obtain ⟨a, cap, A, C, e, _⟩ := (HN.out.fm u B0 B1 rfl).1
      exact ⟨_, _, _, e⟩
    refine wpAnyH_ready (rs := [1, 2]) (by kernel_rfl) (by simp) ?_
    refine AllReadyH.cons (o := { dst := some 7, op := .makeSlice 26 (.const (.int .i64 12)) (.const (.int .i64 12)), type := _, pos := _, after := _, guard := none }) rfl (fun K hK => ?_) (AllReadyH.cons (o := { dst := some 8, op := .buildSlice 27 0 #[], type := _, pos := _, after := _, guard := none }) rfl (fun K hK => ?_) AllReadyH.nil)
    · obtain ⟨w2, hr, hi, hl, hb⟩ := make_infos W
      have HN2 := Lib.hid (HN.out.putI hb hi hl)
      clear hi hl hb
      go_simp
      refine hK.out _ _ ?_ (fun hHeld => ?_)
      · trivial
      clear hr
      clear hK K
      try simp only [Act.put, List.setIfInBounds_toArray, List.set_cons_zero, List.set_cons_succ]
      refine (HG.out _ _ _ _).mp ?_
      exact s0135.out _ _ (.slice ua un uc) B0 B1 W.heap.size b3 bp (by kernel_rfl) HN2
    · have HN2 := Lib.hid HN.out.putE
      go_simp
      refine hK.out _ _ ?_ (fun hHeld => ?_)
      · trivial
      clear hK K
      try simp only [Act.put, List.setIfInBounds_toArray, List.set_cons_zero, List.set_cons_succ]
      refine (HG.out _ _ _ _).mp ?_
      exact s0235.out _ _ (.slice ua un uc) B0 B1 W.heap.size b3 bp (by kernel_rfl) HN2)
  have s123 : Hid (∀ (l : Array Bool) (W : World) (b1 : Nat) (b2 : Nat) (b3 : Nat), l = #[false, true, true, true, false, false, false] → Hid (NK w0 W (none) (some b1) (some b2) (none)) → G 4 l { tmps := #[.slice a n ca, undef, .pointer (some ⟨X, 0, none⟩), .bool false, undef, undef, undef, .slice (some ⟨b1, 0, none⟩) 12 12, .slice (some ⟨b2, 0, none⟩) 0 0, .slice (some ⟨b3, 0, none⟩) 0 0, undef, undef, undef, undef, undef, undef, undef, undef, undef, undef, undef, undef, undef, undef, undef, undef, undef, undef, undef, undef, undef, undef, undef, undef, undef, undef, undef, undef, undef, undef, undef], defers := [] } W) := Lib.hid (by
    intro l W b1 b2 b3 hl HN
    subst hl
    rw [HG.out]
    have hHeld : True := trivial
    refine wpAnyH_ready (rs := [0, 5]) (by kernel_rfl) (by simp) ?_
    refine AllReadyH.cons (o := { dst := some 6, op := .call { callee := .value (.func 16), args := #[], argTypes := #[] }, type := _, pos := _, after := _, guard := none }) rfl (fun K hK => ?_) (AllReadyH.cons (o := { dst := some 4, op := .alloc 30, type := _, pos := _, after := _, guard := none }) rfl (fun K hK => ?_) AllReadyH.nil)
    · go_simp
      refine (l2New_any W).mono ?_
      rintro _ w2 ⟨u, rfl, hm, hb⟩
      have HN2 := Lib.hid (HN.out.putM hb hm)
      clear hm hb
      try go_simp
      refine hK.out _ _ ?_ (fun hHeld => ?_)
      · trivial
      clear hK K
      try simp only [Act.put, List.setIfInBounds_toArray, List.set_cons_zero, List.set_cons_succ]
      refine (HG.out _ _ _ _).mp ?_
      exact s0123.out _ _ u W.heap.size w2.heap.size b1 b2 b3 (by kernel_rfl) HN2
    · have HN2 := Lib.hid HN.out.putP
      go_simp
      refine hK.out _ _ ?_ (fun hHeld => ?_)
      · trivial
      clear hK K
      try simp only [Act.put, List.setIfInBounds_toArray, List.set_cons_zero, List.set_cons_succ]
      refine (HG.out _ _ _ _).mp ?_
      exact s1235.out _ _ b1 b2 b3 W.heap.size (by kernel_rfl) HN2)
  have s125 : Hid (∀ (l : Array Bool) (W : World) (b1 : Nat) (b2 : Nat) (bp : Nat), l = #[false, true, true, false, false, true, false] → Hid (NK w0 W (none) (some b1) (some b2) (some bp)) → G 4 l { tmps := #[.slice a n ca, undef, .pointer (some ⟨X, 0, none⟩), .bool false, .pointer (some ⟨bp, 0, none⟩), undef, undef, .slice (some ⟨b1, 0, none⟩) 12 12, .slice (some ⟨b2, 0, none⟩) 0 0, undef, undef, undef, undef, undef, undef, undef, undef, undef, undef, undef, undef, undef, undef, undef, undef, undef, undef, undef, undef, undef, undef, undef, undef, undef, undef, undef, undef, undef, undef, undef, undef], defers := [] } W) := Lib.hid (by
    intro l W b1 b2 bp hl HN
    subst hl
    rw [HG.out]
    have hHeld : True := trivial
    refine wpAnyH_ready (rs := [0, 3]) (by kernel_rfl) (by simp) ?_
    refine AllReadyH.cons (o := { dst := some 6, op := .call { callee := .value (.func 16), args := #[], argTypes := #[] }, type := _, pos := _, after := _, guard := none }) rfl (fun K hK => ?_) (AllReadyH.cons (o := { dst := some 9, op := .buildSlice 28 0 #[], type := _, pos := _, after := _, guard := none }) rfl (fun K hK => ?_) AllReadyH.nil)
    · go_simp
      refine (l2New_any W).mono ?_
      rintro _ w2 ⟨u, rfl, hm, hb⟩
      have HN2 := Lib.hid (HN.out.putM hb hm)
      clear hm hb
      try go_simp
      refine hK.out _ _ ?_ (fun hHeld => ?_)
      · trivial
      clear hK K
      try simp only [Act.put, List.setIfInBounds_toArray, List.set_cons_zero, List.set_cons_succ]
      refine (HG.out _ _ _ _).mp ?_
      exact s0125.out _ _ u W.heap.size w2.heap.size b1 b2 bp (by kernel_rfl) HN2
    · have HN2 := Lib.hid (HN.out.go ((Below.refl _ _).alloc (Nat.le_refl _) (.cells #[] 62)))
      go_simp
      refine hK.out _ _ ?_ (fun hHeld => ?_)
      · trivial
      clear hK K
      try simp only [Act.put, List.setIfInBounds_toArray, List.set_cons_zero, List.set_cons_succ]
      refine (HG.out _ _ _ _).mp ?_
      exact s1235.out _ _ b1 b2 W.heap.size bp (by kernel_rfl) HN2)
  have s135 : Hid (∀ (l : Array Bool) (W : World) (b1 : Nat) (b3 : Nat) (bp : Nat), l = #[false, true, false, true, false, true, false] → Hid (NK w0 W (none) (some b1) (none) (some bp)) → G 4 l { tmps := #[.slice a n ca, undef, .pointer (some ⟨X, 0, none⟩), .bool false, .pointer (some ⟨bp, 0, none⟩), undef, undef, .slice (some ⟨b1, 0, none⟩) 12 12, undef, .slice (some ⟨b3, 0, none⟩) 0 0, undef, undef, undef, undef, undef, undef, undef, undef, undef, undef, undef, undef, undef, undef, undef, undef, undef, undef, undef, undef, undef, undef, undef, undef, undef, undef, undef, undef, undef, undef, undef], defers := [] } W) := Lib.hid (by
    intro l W b1 b3 bp hl HN
    subst hl
    rw [HG.out]
    have hHeld : True := trivial
    refine wpAnyH_ready (rs := [0, 2]) (by kernel_rfl) (by simp) ?_
    refine AllReadyH.cons (o := { dst := some 6, op := .call { callee := .value (.func 16), args := #[], argTypes := #[] }, type := _, pos := _, after := _, guard := none }) rfl (fun K hK => ?_) (AllReadyH.cons (o := { dst := some 8, op := .buildSlice 27 0 #[], type := _, pos := _, after := _, guard := none }) rfl (fun K hK => ?_) AllReadyH.nil)
    · go_simp
      refine (l2New_any W).mono ?_
      rintro _ w2 ⟨u, rfl, hm, hb⟩
      have HN2 := Lib.hid (HN.out.putM hb hm)
      clear hm hb
      try go_simp
      refine hK.out _ _ ?_ (fun hHeld => ?_)
      · trivial
      clear hK K
      try simp only [Act.put, List.setIfInBounds_toArray, List.set_cons_zero, List.set_cons_succ]
      refine (HG.out _ _ _ _).mp ?_
      exact s0135.out _ _ u W.heap.size w2.heap.size b1 b3 bp (by kernel_rfl) HN2
    · have HN2 := Lib.hid HN.out.putE
      go_simp
      refine hK.out _ _ ?_ (fun hHeld => ?_)
      · trivial
      clear hK K
      try simp only [Act.put, List.setIfInBounds_toArray, List.set_cons_zero, List.set_cons_succ]
      refine (HG.out _ _ _ _).mp ?_
      exact s1235.out _ _ b1 W.heap.size b3 bp (by kernel_rfl) HN2)
  have s235 : Hid (∀ (l : Array Bool) (W : World) (b2 : Nat) (b3 : Nat) (bp : Nat), l = #[false, false, true, true, false, true, false] → Hid (NK w0 W (none) (none) (some b2) (some bp)) → G 4 l { tmps := #[.slice a n ca, undef, .pointer (some ⟨X, 0, none⟩), .bool false, .pointer (some ⟨bp, 0, none⟩), undef, undef, undef, .slice (some ⟨b2, 0, none⟩) 0 0, .slice (some ⟨b3, 0, none⟩) 0 0, undef, undef, undef, undef, undef, undef, undef, undef, undef, undef, undef, undef, undef, undef, undef, undef, undef, undef, undef, undef, undef, undef, undef, undef, undef, undef, undef, undef, undef, undef, undef], defers := [] } W) := Lib.hid (by
    intro l W b2 b3 bp hl HN
    subst hl
    rw [HG.out]
    have hHeld : True := trivial
    refine wpAnyH_ready (rs := [0, 1]) (by kernel_rfl) (by simp) ?_
    refine AllReadyH.cons (o := { dst := some 6, op := .call { callee := .value (.func 16), args := #[], argTypes := #[] }, type := _, pos := _, after := _, guard := none }) rfl (fun K hK => ?_) (AllReadyH.cons (o := { dst := some 7, op := .makeSlice 26 (.const (.int .i64 12)) (.const (.int .i64 12)), type := _, pos := _, after := _, guard := none }) rfl (fun K hK => ?_) AllReadyH.nil)
    · go_simp
      refine (l2New_any W).mono ?_
      rintro _ w2 ⟨u, rfl, hm, hb⟩
      have HN2 := Lib.hid (HN.out.putM hb hm)
      clear hm hb
      try go_simp
      refine hK.out _ _ ?_ (fun hHeld => ?_)
      · trivial
      clear hK K
      try simp only [Act.put, List.setIfInBounds_toArray, List.set_cons_zero, List.set_cons_succ]
      refine (HG.out _ _ _ _).mp ?_
      exact s0235.out _ _ u W.heap.size w2.heap.size b2 b3 bp (by kernel_rfl) HN2
    · obtain ⟨w2, hr, hi, hl, hb⟩ := make_infos W
      have HN2 := Lib.hid (HN.out.putI hb hi hl)
      clear hi hl hb
      go_simp
      refine hK.out _ _ ?_ (fun hHeld => ?_)
      · trivial
      clear hr
      clear hK K
      try simp only [Act.put, List.setIfInBounds_toArray, List.set_cons_zero, List.set_cons_succ]
      refine (HG.out _ _ _ _).mp ?_
      exact s1235.out _ _ W.heap.size b2 b3 bp (by kernel_rfl) HN2)
  have s01 : Hid (∀ (l : Array Bool) (W : World) (u : Value) (B0 B1 : Nat) (b1 : Nat), l = #[true, true, false, false, false, false, false] → Hid (NK w0 W (some (u, B0, B1)) (some b1) (none) (none)) → G 5 l { tmps := #[.slice a n ca, undef, .pointer (some ⟨X, 0, none⟩), .bool false, undef, undef, u, .slice (some ⟨b1, 0, none⟩) 12 12, undef, undef, undef, undef, undef, undef, undef, undef, undef, undef, undef, undef, undef, undef, undef, undef, undef, undef, undef, undef, undef, undef, undef, undef, undef, undef, undef, undef, undef, undef, undef, undef, undef], defers := [] } W) := Lib.hid (by
    intro l W u B0 B1 b1 hl HN
    subst hl
    rw [HG.out]
    have hHeld : True := trivial
    obtain ⟨ua, un, uc, rfl⟩ : ∃ a n c, u = .slice a n c := by
      obtain ⟨a, cap, A, C, e, _⟩ := (HN.out.fm u B0 B1 rfl).1
      exact ⟨_, _, _, e⟩
    refine wpAnyH_ready (rs := [2, 3, 5]) (by kernel_rfl) (by simp) ?_
    refine AllReadyH.cons (o := { dst := some 8, op := .buildSlice 27 0 #[], type := _, pos := _, after := _, guard := none }) rfl (fun K hK => ?_) (AllReadyH.cons (o := { dst := some 9, op := .buildSlice 28 0 #[], type := _, pos := _, after := _, guard := none }) rfl (fun K hK => ?_) (AllReadyH.cons (o := { dst := some 4, op := .alloc 30, type := _, pos := _, after := _, guard := none }) rfl (fun K hK => ?_) AllReadyH.nil))
    · have HN2 := Lib.hid HN.out.putE
      go_simp
      refine hK.out _ _ ?_ (fun hHeld => ?_)
      · trivial
      clear hK K
      try simp only [Act.put, List.setIfInBounds_toArray, List.set_cons_zero, List.set_cons_succ]
      refine (HG.out _ _ _ _).mp ?_
      exact s012.out _ _ (.slice ua un uc) B0 B1 b1 W.heap.size (by kernel_rfl) HN2
    · have HN2 := Lib.hid (HN.out.go ((Below.refl _ _).alloc (Nat.le_refl _) (.cells #[] 62)))
      go_simp
      refine hK.out _ _ ?_ (fun hHeld => ?_)
      · trivial
      clear hK K
      try simp only [Act.put, List.setIfInBounds_toArray, List.set_cons_zero, List.set_cons_succ]
      refine (HG.out _ _ _ _).mp ?_
      exact s013.out _ _ (.slice ua un uc) B0 B1 b1 W.heap.size (by kernel_rfl) HN2
    · have HN2 := Lib.hid HN.out.putP
      go_simp
      refine hK.out _ _ ?_ (fun hHeld => ?_)
      · trivial
      clear hK K
      try simp only [Act.put, List.setIfInBounds_toArray, List.set_cons_zero, List.set_cons_succ]
      refine (HG.out _ _ _ _).mp ?_
      exact s015.out _ _ (.slice ua un uc) B0 B1 b1 W.heap.size (by kernel_rfl) HN2)
  have s02 : Hid (∀ (l : Array Bool) (W : World) (u : Value) (B0 B1 : Nat) (b2 : Nat), l = #[true, false, true, false, false, false, false] → Hid (NK w0 W (some (u, B0, B1)) (none) (some b2) (none)) → G 5 l { tmps := #[.slice a n ca, undef, .pointer (some ⟨X, 0, none⟩), .bool false, undef, undef, u, undef, .slice (some ⟨b2, 0, none⟩) 0 0, undef, undef, undef, undef, undef, undef, undef, undef, undef, undef, undef, undef, undef, undef, undef, undef, undef, undef, undef, undef, undef, undef, undef, undef, undef, undef, undef, undef, undef, undef, undef, undef], defers := [] } W) := Lib.hid (by
    intro l W u B0 B1 b2 hl HN
    subst hl
    rw [HG.out]
    have hHeld : True := trivial
    obtain ⟨ua, un, uc, rfl⟩ : ∃ a n c, u = .slice a n c := by
      obtain ⟨a, cap, A, C, e, _⟩ := (HN.out.fm u B0 B1 rfl).1
      exact ⟨_, _, _, e⟩
    refine wpAnyH_ready (rs := [1, 3, 5]) (by kernel_rfl) (by simp) ?_
    refine AllReadyH.cons (o := { dst := some 7, op := .makeSlice 26 (.const (.int .i64 12)) (.const (.int .i64 12)), type := _, pos := _, after := _, guard := none }) rfl (fun K hK => ?_) (AllReadyH.cons (o := { dst := some 9, op := .buildSlice 28 0 #[], type := _, pos := _, after := _, guard := none }) rfl (fun K hK => ?_) (AllReadyH.cons (o := { dst := some 4, op := .alloc 30, type := _, pos := _, after := _, guard := none }) rfl (fun K hK => ?_) AllReadyH.nil))
    · obtain ⟨w2, hr, hi, hl, hb⟩ := make_infos W
      have HN2 := Lib.hid (HN.out.putI hb hi hl)
      clear hi hl hb
      go_simp
      refine hK.out _ _ ?_ (fun hHeld => ?_)
      · trivial
      clear hr
      clear hK K
      try simp only [Act.put, List.setIfInBounds_toArray, List.set_cons_zero, List.set_cons_succ]
      refine (HG.out _ _ _ _).mp ?_
      exact s012.out _ _ (.slice ua un uc) B0 B1 W.heap.size b2 (by kernel_rfl) HN2
    · have HN2 := Lib.hid (HN.out.go ((Below.refl _ _).alloc (Nat.le_refl _) (.cells #[] 62)))
      go_simp
      refine hK.out _ _ ?_ (fun hHeld => ?_)
      · trivial
      clear hK K
      try simp only [Act.put, List.setIfInBounds_toArray, List.set_cons_zero, List.set_cons_succ]
      refine (HG.out _ _ _ _).mp ?_
      exact s023.out _ _ (.slice ua un uc) B0 B1 b2 W.heap.size (by kernel_rfl) HN2
    · have HN2 := Lib.hid HN.out.putP
      go_simp
      refine hK.out _ _ ?_ (fun hHeld => ?_)
      · trivial
      clear hK K
      try simp only [Act.put, List.setIfInBounds_toArray, List.set_cons_zero, List.set_cons_succ]
      refine (HG.out _ _ _ _).mp ?_
      exact s025.out _ _ (.slice ua un uc) B0 B1 b2 W.heap.size (by kernel_rfl) HN2)
  have s03 : Hid (∀ (l : Array Bool) (W : World) (u : Value) (B0 B1 : Nat) (b3 : Nat), l = #[true, false, false, true, false, false, false] → Hid (NK w0 W (some (u, B0, B1)) (none) (none) (none)) → G 5 l { tmps := #[.slice a n ca, undef, .pointer (some ⟨X, 0, none⟩), .bool false, undef, undef, u, undef, undef, .slice (some ⟨b3, 0, none⟩) 0 0, undef, undef, undef, undef, undef, undef, undef, undef, undef, undef, undef, undef, undef, undef, undef, undef, undef, undef, undef, undef, undef, undef, undef, undef, undef, undef, undef, undef, undef, undef, undef], defers := [] } W) := Lib.hid (by
    intro l W u B0 B1 b3 hl HN
    subst hl
    rw [HG.out]
    have hHeld : True := trivial
    obtain ⟨ua, un, uc, rfl⟩ : ∃ a n c, u = .slice a n c := by
      obtain ⟨a, cap, A, C, e, _⟩ := (HN.out.fm u B0 B1 rfl).1
      exact ⟨_, _, _, e⟩
    refine wpAnyH_ready (rs := [1, 2, 5]) (by kernel_rfl) (by simp) ?_
    refine AllReadyH.cons (o := { dst := some 7, op := .makeSlice 26 (.const (.int .i64 12)) (.const (.int .i64 12)), type := _, pos := _, after := _, guard := none }) rfl (fun K hK => ?_) (AllReadyH.cons (o := { dst := some 8, op := .buildSlice 27 0 #[], type := _, pos := _, after := _, guard := none }) rfl (fun K hK => ?_) (AllReadyH.cons (o := { dst := some 4, op := .alloc 30, type := _, pos := _, after := _, guard := none }) rfl (fun K hK => ?_) AllReadyH.nil))
    · obtain ⟨w2, hr, hi, hl, hb⟩ := make_infos W
      have HN2 := Lib.hid (HN.out.putI hb hi hl)
      clear hi hl hb
      go_simp
      refine hK.out _ _ ?_ (fun hHeld => ?_)
      · trivial
      clear hr
      clear hK K
      try simp only [Act.put, List.setIfInBounds_toArray, List.set_cons_zero, List.set_cons_succ]
      refine (HG.out _ _ _ _).mp ?_
      exact s013.out _ _ (.slice ua un uc) B0 B1 W.heap.size b3 (by kernel_rfl) HN2
    · have HN2 := Lib.hid HN.out.putE
      go_simp
      refine hK.out _ _ ?_ (fun hHeld => ?_)
      · trivial
      clear hK K
      try simp only [Act.put, List.setIfInBounds_toArray, List.set_cons_zero, List.set_cons_succ]
      refine (HG.out _ _ _ _).mp ?_
      exact s023.out _ _ (.slice ua un uc) B0 B1 W.heap.size b3 (by kernel_rfl) HN2
    · have HN2 := Lib.hid HN.out.putP
      go_simp
      refine hK.out _ _ ?_ (fun hHeld => ?_)
      · trivial
      clear hK K
      try simp only [Act.put, List.setIfInBounds_toArray, List.set_cons_zero, List.set_cons_succ]
      refine (HG.out _ _ _ _).mp ?_
      exact s035.out _ _ (.slice ua un uc) B0 B1 b3 W.heap.size (by kernel_rfl) HN2)
  have s05 : Hid (∀ (l : Array Bool) (W : World) (u : Value) (B0 B1 : Nat) (bp : Nat), l = #[true, false, false, false, false, true, false] → Hid (NK w0 W (some (u, B0, B1)) (none) (none) (some bp)) → G 5 l { tmps := #[.slice a n ca, undef, .pointer (some ⟨X, 0, none⟩), .bool false, .pointer (some ⟨bp, 0, none⟩), undef, u, undef, undef, undef, undef, undef, undef, undef, undef, undef, undef, undef, undef, undef, undef, undef, undef, undef, undef, undef, undef, undef, undef, undef, undef, undef, undef, undef, undef, undef, undef, undef, undef, undef, undef], defers := [] } W) := Lib.hid (by
    intro l W u B0 B1 bp hl HN
    subst hl
    rw [HG.out]
    have hHeld : True := trivial
    obtain ⟨ua, un, uc, rfl⟩ : ∃ a n c, u = .slice a n c := by
      obtain ⟨a, cap, A, C, e, _⟩ := (HN.out.fm u B0 B1 rfl).1
      exact ⟨_, _, _, e⟩
    refine wpAnyH_ready (rs := [1, 2, 3]) (by kernel_rfl) (by simp) ?_
    refine AllReadyH.cons (o := { dst := some 7, op := .makeSlice 26 (.const (.int .i64 12)) (.const (.int .i64 12)), type := _, pos := _, after := _, guard := none }) rfl (fun K hK => ?_) (AllReadyH.cons (o := { dst := some 8, op := .buildSlice 27 0 #[], type := _, pos := _, after := _, guard := none }) rfl (fun K hK => ?_) (AllReadyH.cons (o := { dst := some 9, op := .buildSlice 28 0 #[], type := _, pos := _, after := _, guard := none }) rfl (fun K hK => ?_) AllReadyH.nil))
    · obtain ⟨w2, hr, hi, hl, hb⟩ := make_infos W
      have HN2 := Lib.hid (HN.out.putI hb hi hl)
      clear hi hl hb
      go_simp
      refine hK.out _ _ ?_ (fun hHeld => ?_)
      · trivial
      clear hr
      clear hK K
      try simp only [Act.put, List.setIfInBounds_toArray, List.set_cons_zero, List.set_cons_succ]
      refine (HG.out _ _ _ _).mp ?_
      exact s015.out _ _ (.slice ua un uc) B0 B1 W.heap.size bp (by kernel_rfl) HN2
    · have HN2 := Lib.hid HN.out.putE
      go_simp
      refine hK.out _ _ ?_ (fun hHeld => ?_)
      · trivial
      clear hK K
      try simp only [Act.put, List.setIfInBounds_toArray, List.set_cons_zero, List.set_cons_succ]
      refine (HG.out _ _ _ _).mp ?_
      exact s025.out _ _ (.slice ua un uc) B0 B1 W.heap.size bp (by kernel_rfl) HN2
    · have HN2 := Lib.hid (HN.out.go ((Below.refl _ _).alloc (Nat.le_refl _) (.cells #[] 62)))
      go_simp
      refine hK.out _ _ ?_ (fun hHeld => ?_)
      · trivial
      clear hK K
      try simp only [Act.put, List.setIfInBounds_toArray, List.set_cons_zero, List.set_cons_succ]
      refine (HG.out _ _ _ _).mp ?_
      exact s035.out _ _ (.slice ua un uc) B0 B1 W.heap.size bp (by kernel_rfl) HN2)
  have s12 : Hid (∀ (l : Array Bool) (W : World) (b1 : Nat) (b2 : Nat), l = #[false, true, true, false, false, false, false] → Hid (NK w0 W (none) (some b1) (some b2) (none)) → G 5 l { tmps := #[.slice a n ca, undef, .pointer (some ⟨X, 0, none⟩), .bool false, undef, undef, undef, .slice (some ⟨b1, 0, none⟩) 12 12, .slice (some ⟨b2, 0, none⟩) 0 0, undef, undef, undef, undef, undef, undef, undef, undef, undef, undef, undef, undef, undef, undef, undef, undef, undef, undef, undef, undef, undef, undef, undef, undef, undef, undef, undef, undef, undef, undef, undef, undef], defers := [] } W) := Lib.hid (by
    intro l W b1 b2 hl HN
    subst hl
    rw [HG.out]
    have hHeld : True := trivial
    refine wpAnyH_ready (rs := [0, 3, 5]) (by kernel_rfl) (by simp) ?_
    refine AllReadyH.cons (o := { dst := some 6, op := .call { callee := .value (.func 16), args := #[], argTypes := #[] }, type := _, pos := _, after := _, guard := none }) rfl (fun K hK => ?_) (AllReadyH.cons (o := { dst := some 9, op := .buildSlice 28 0 #[], type := _, pos := _, after := _, guard := none }) rfl (fun K hK => ?_) (AllReadyH.cons (o := { dst := some 4, op := .alloc 30, type := _, pos := _, after := _, guard := none }) rfl (fun K hK => ?_) AllReadyH.nil))
    · go_simp
      refine (l2New_any W).mono ?_
      rintro _ w2 ⟨u, rfl, hm, hb⟩
      have HN2 := Lib.hid (HN.out.putM hb hm)
      clear hm hb
      try go_simp
      refine hK.out _ _ ?_ (fun hHeld => ?_)
      · trivial
      clear hK K
      try simp only [Act.put, List.setIfInBounds_toArray, List.set_cons_zero, List.set_cons_succ]
      refine (HG.out _ _ _ _).mp ?_
      exact s012.out _ _ u W.heap.size w2.heap.size b1 b2 (by kernel_rfl) HN2
    · have HN2 := Lib.hid (HN.out.go ((Below.refl _ _).alloc (Nat.le_refl _) (.cells #[] 62)))
      go_simp
      refine hK.out _ _ ?_ (fun hHeld => ?_)
      · trivial
      clear hK K
      try simp only [Act.put, List.setIfInBounds_toArray, List.set_cons_zero, List.set_cons_succ]
      refine (HG.out _ _ _ _).mp ?_
      exact s123.out _ _ b1 b2 W.heap.size (by kernel_rfl) HN2
    · have HN2 := Lib.hid HN.out.putP
      go_simp
      refine hK.out _ _ ?_ (fun hHeld => ?_)
      · trivial
      clear hK K
      try simp only [Act.put, List.setIfInBounds_toArray, List.set_cons_zero, List.set_cons_succ]
      refine (HG.out _ _ _ _).mp ?_
      exact s125.out _ _ b1 b2 W.heap.size (by kernel_rfl) HN2)
  have s13 : Hid (∀ (l : Array Bool) (W : World) (b1 : Nat) (b3 : Nat), l = #[false, true, false, true, false, false, false] → Hid (NK w0 W (none) (some b1) (none) (none)) → G 5 l { tmps := #[.slice a n ca, undef, .pointer (some ⟨X, 0, none⟩), .bool false, undef, undef, undef, .slice (some ⟨b1, 0, none⟩) 12 12, undef, .slice (some ⟨b3, 0, none⟩) 0 0, undef, undef, undef, undef, undef, undef, undef, undef, undef, undef, undef, undef, undef, undef, undef, undef, undef, undef, undef, undef, undef, undef, undef, undef, undef, undef, undef, undef, undef, undef, undef], defers := [] } W) := Lib.hid (by
    intro l W b1 b3 hl HN
    subst hl
    rw [HG.out]
    have hHeld : True := trivial
    refine wpAnyH_ready (rs := [0, 2, 5]) (by kernel_rfl) (by simp) ?_
    refine AllReadyH.cons (o := { dst := some 6, op := .call { callee := .value (.func 16), args := #[], argTypes := #[] }, type := _, pos := _, after := _, guard := none }) rfl (fun K hK => ?_) (AllReadyH.cons (o := { dst := some 8, op := .buildSlice 27 0 #[], type := _, pos := _, after := _, guard := none }) rfl (fun K hK => ?_) (AllReadyH.cons (o := { dst := some 4, op := .alloc 30, type := _, pos := _, after := _, guard := none }) rfl (fun K hK => ?_) AllReadyH.nil))
    · go_simp
      refine (l2New_any W).mono ?_
      rintro _ w2 ⟨u, rfl, hm, hb⟩
      have HN2 := Lib.hid (HN.out.putM hb hm)
      clear hm hb
      try go_simp
      refine hK.out _ _ ?_ (fun hHeld => ?_)
      · trivial
      clear hK K
      try simp only [Act.put, List.setIfInBounds_toArray, List.set_cons_zero, List.set_cons_succ]
      refine (HG.out _ _ _ _).mp ?_
      exact s013.out _ _ u W.heap.size w2.heap.size b1 b3 (by kernel_rfl) HN2
    · have HN2 := Lib.hid HN.out.putE
      go_simp
      refine hK.out _ _ ?_ (fun hHeld => ?_)
      · trivial
      clear hK K
      try simp only [Act.put, List.setIfInBounds_toArray, List.set_cons_zero, List.set_cons_succ]
      refine (HG.out _ _ _ _).mp ?_
      exact s123.out _ _ b1 W.heap.size b3 (by kernel_rfl) HN2
    · have HN2 := Lib.hid HN.out.putP
      go_simp
      refine hK.out _ _ ?_ (fun hHeld => ?_)
      · trivial
      clear hK K
      try simp only [Act.put, List.setIfInBounds_toArray, List.set_cons_zero, List.set_cons_succ]
      refine (HG.out _ _ _ _).mp ?_
      exact s135.out _ _ b1 b3 W.heap.size (by kernel_rfl) HN2)
  have s15 : Hid (∀ (l : Array Bool) (W : World) (b1 : Nat) (bp : Nat), l = #[false, true, false, false, false, true, false] → Hid (NK w0 W (none) (some b1) (none) (some bp)) → G 5 l { tmps := #[.slice a n ca, undef, .pointer (some ⟨X, 0, none⟩), .bool false, .pointer (some ⟨bp, 0, none⟩), undef, undef, .slice (some ⟨b1, 0, none⟩) 12 12, undef, undef, undef, undef, undef, undef, undef, undef, undef, undef, undef, undef, undef, undef, undef, undef, undef, undef, undef, undef, undef, undef, undef, undef, undef, undef, undef, undef, undef, undef, undef, undef, undef], defers := [] } W) := Lib.hid (by
    intro l W b1 bp hl HN
    subst hl
    rw [HG.out]
    have hHeld : True := trivial
    refine wpAnyH_ready (rs := [0, 2, 3]) (by kernel_rfl) (by simp) ?_
    refine AllReadyH.cons (o := { dst := some 6, op := .call { callee := .value (.func 16), args := #[], argTypes := #[] }, type := _, pos := _, after := _, guard := none }) rfl (fun K hK => ?_) (AllReadyH.cons (o := { dst := some 8, op := .buildSlice 27 0 #[], type := _, pos := _, after := _, guard := none }) rfl (fun K hK => ?_) (AllReadyH.cons (o := { dst := some 9, op := .buildSlice 28 0 #[], type := _, pos := _, after := _, guard := none }) rfl (fun K hK => ?_) AllReadyH.nil))
    · go_simp
      refine (l2New_any W).mono ?_
      rintro _ w2 ⟨u, rfl, hm, hb⟩
      have HN2 := Lib.hid (HN.out.putM hb hm)
      clear hm hb
      try go_simp
      refine hK.out _ _ ?_ (fun hHeld => ?_)
      · trivial
      clear hK K
      try simp only [Act.put, List.setIfInBounds_toArray, List.set_cons_zero, List.set_cons_succ]
      refine (HG.out _ _ _ _).mp ?_
      exact s015.out _ _ u W.heap.size w2.heap.size b1 bp (by kernel_rfl) HN2
    · have HN2 := Lib.hid HN.out.putE
      go_simp
      refine hK.out _ _ ?_ (fun hHeld => ?_)
      · trivial
      clear hK K
      try simp only [Act.put, List.setIfInBounds_toArray, List.set_cons_zero, List.set_cons_succ]
      refine (HG.out _ _ _ _).mp ?_
      exact s125.out _ _ b1 W.heap.size bp (by kernel_rfl) HN2
    · have HN2 := Lib.hid (HN.out.go ((Below.refl _ _).alloc (Nat.le_refl _) (.cells #[] 62)))
      go_simp
      refine hK.out _ _ ?_ (fun hHeld => ?_)
      · trivial
      clear hK K
      try simp only [Act.put, List.setIfInBounds_toArray, List.set_cons_zero, List.set_cons_succ]
      refine (HG.out _ _ _ _).mp ?_
      exact s135.out _ _ b1 W.heap.size bp (by kernel_rfl) HN2)
  have s23 : Hid (∀ (l : Array Bool) (W : World) (b2 : Nat) (b3 : Nat), l = #[false, false, true, true, false, false, false] → Hid (NK w0 W (none) (none) (some b2) (none)) → G 5 l { tmps := #[.slice a n ca, undef, .pointer (some ⟨X, 0, none⟩), .bool false, undef, undef, undef, undef, .slice (some ⟨b2, 0, none⟩) 0 0, .slice (some ⟨b3, 0, none⟩) 0 0, undef, undef, undef, undef, undef, undef, undef, undef, undef, undef, undef, undef, undef, undef, undef, undef, undef, undef, undef, undef, undef, undef, undef, undef, undef, undef, undef, undef, undef, undef, undef], defers := [] } W) := Lib.hid (by
    intro l W b2 b3 hl HN
    subst hl
    rw [HG.out]
    have hHeld : True := trivial
    refine wpAnyH_ready (rs := [0, 1, 5]) (by kernel_rfl) (by simp) ?_
    refine AllReadyH.cons (o := { dst := some 6, op := .call { callee := .value (.func 16), args := #[], argTypes := #[] }, type := _, pos := _, after := _, guard := none }) rfl (fun K hK => ?_) (AllReadyH.cons (o := { dst := some 7, op := .makeSlice 26 (.const (.int .i64 12)) (.const (.int .i64 12)), type := _, pos := _, after := _, guard := none }) rfl (fun K hK => ?_) (AllReadyH.cons (o := { dst := some 4, op := .alloc 30, type := _, pos := _, after := _, guard := none }) rfl (fun K hK => ?_) AllReadyH.nil))
    · go_simp
      refine (l2New_any W).mono ?_
      rintro _ w2 ⟨u, rfl, hm, hb⟩
      have HN2 := Lib.hid (HN.out.putM hb hm)
      clear hm hb
      try go_simp
      refine hK.out _ _ ?_ (fun hHeld => ?_)
      · trivial
      clear hK K
      try simp only [Act.put, List.setIfInBounds_toArray, List.set_cons_zero, List.set_cons_succ]
      refine (HG.out _ _ _ _).mp ?_
      exact s023.out _ _ u W.heap.size w2.heap.size b2 b3 (by kernel_rfl) HN2
    · obtain ⟨w2, hr, hi, hl, hb⟩ := make_infos W
      have HN2 := Lib.hid (HN.out.putI hb hi hl)
      clear hi hl hb
      go_simp
      refine hK.out _ _ ?_ (fun hHeld => ?_)
      · trivial
      clear hr
      clear hK K
      try simp only [Act.put, List.setIfInBounds_toArray, List.set_cons_zero, List.set_cons_succ]
      refine (HG.out _ _ _ _).mp ?_
      exact s123.out _ _ W.heap.size b2 b3 (by kernel_rfl) HN2
    · have HN2 := Lib.hid HN.out.putP
      go_simp
      refine hK.out _ _ ?_ (fun hHeld => ?_)
      · trivial
      clear hK K
      try simp only [Act.put, List.setIfInBounds_toArray, List.set_cons_zero, List.set_cons_succ]
      refine (HG.out _ _ _ _).mp ?_
      exact s235.out _ _ b2 b3 W.heap.size (by kernel_rfl) HN2)
  have s25 : Hid (∀ (l : Array Bool) (W : World) (b2 : Nat) (bp : Nat), l = #[false, false, true, false, false, true, false] → Hid (NK w0 W (none) (none) (some b2) (some bp)) → G 5 l { tmps := #[.slice a n ca, undef, .pointer (some ⟨X, 0, none⟩), .bool false, .pointer (some ⟨bp, 0, none⟩), undef, undef, undef, .slice (some ⟨b2, 0, none⟩) 0 0, undef, undef, undef, undef, undef, undef, undef, undef, undef, undef, undef, undef, undef, undef, undef, undef, undef, undef, undef, undef, undef, undef, undef, undef, undef, undef, undef, undef, undef, undef, undef, undef], defers := [] } W) := Lib.hid (by
    intro l W b2 bp hl HN
    subst hl
    rw [HG.out]
    have hHeld : True := trivial
    refine wpAnyH_ready (rs := [0, 1, 3]) (by kernel_rfl) (by simp) ?_
    refine AllReadyH.cons (o := { dst := some 6, op := .call { callee := .value (.func 16), args := #[], argTypes := #[] }, type := _, pos := _, after := _, guard := none }) rfl (fun K hK => ?_) (AllReadyH.cons (o := { dst := some 7, op := .makeSlice 26 (.const (.int .i64 12)) (.const (.int .i64 12)), type := _, pos := _, after := _, guard := none }) rfl (fun K hK => ?_) (AllReadyH.cons (o := { dst := some 9, op := .buildSlice 28 0 #[], type := _, pos := _, after := _, guard := none }) rfl (fun K hK => ?_) AllReadyH.nil))
    · go_simp
      refine (l2New_any W).mono ?_
      rintro _ w2 ⟨u, rfl, hm, hb⟩
      have HN2 := Lib.hid (HN.out.putM hb hm)
      clear hm hb
      try go_simp
      refine hK.out _ _ ?_ (fun hHeld => ?_)
      · trivial
      clear hK K
      try simp only [Act.put, List.setIfInBounds_toArray, List.set_cons_zero, List.set_cons_succ]
      refine (HG.out _ _ _ _).mp ?_
      exact s025.out _ _ u W.heap.size w2.heap.size b2 bp (by kernel_rfl) HN2
    · obtain ⟨w2, hr, hi, hl, hb⟩ := make_infos W
      have HN2 := Lib.hid (HN.out.putI hb hi hl)
      clear hi hl hb
      go_simp
      refine hK.out _ _ ?_ (fun hHeld => ?_)
      · trivial
      clear hr
      clear hK K
      try simp only [Act.put, List.setIfInBounds_toArray, List.set_cons_zero, List.set_cons_succ]
      refine (HG.out _ _ _ _).mp ?_
      exact s125.out _ _ W.heap.size b2 bp (by kernel_rfl) HN2
    · have HN2 := Lib.hid (HN.out.go ((Below.refl _ _).alloc (Nat.le_refl _) (.cells #[] 62)))
      go_simp
      refine hK.out _ _ ?_ (fun hHeld => ?_)
      · trivial
      clear hK K
      try simp only [Act.put, List.setIfInBounds_toArray, List.set_cons_zero, List.set_cons_succ]
      refine (HG.out _ _ _ _).mp ?_
      exact s235.out _ _ b2 W.heap.size bp (by kernel_rfl) HN2)
  have s35 : Hid (∀ (l : Array Bool) (W : World) (b3 : Nat) (bp : Nat), l = #[false, false, false, true, false, true, false] → Hid (NK w0 W (none) (none) (none) (some bp)) → G 5 l { tmps := #[.slice a n ca, undef, .pointer (some ⟨X, 0, none⟩), .bool false, .pointer (some ⟨bp, 0, none⟩), undef, undef, undef, undef, .slice (some ⟨b3, 0, none⟩) 0 0, undef, undef, undef, undef, undef, undef, undef, undef, undef, undef, undef, undef, undef, undef, undef, undef, undef, undef, undef, undef, undef, undef, undef, undef, undef, undef, undef, undef, undef, undef, undef], defers := [] } W) := Lib.hid (by
    intro l W b3 bp hl HN
    subst hl
    rw [HG.out]
    have hHeld : True := trivial
    refine wpAnyH_ready (rs := [0, 1, 2]) (by kernel_rfl) (by simp) ?_
    refine AllReadyH.cons (o := { dst := some 6, op := .call { callee := .value (.func 16), args := #[], argTypes := #[] }, type := _, pos := _, after := _, guard := none }) rfl (fun K hK => ?_) (AllReadyH.cons (o := { dst := some 7, op := .makeSlice 26 (.const (.int .i64 12)) (.const (.int .i64 12)), type := _, pos := _, after := _, guard := none }) rfl (fun K hK => ?_) (AllReadyH.cons (o := { dst := some 8, op := .buildSlice 27 0 #[], type := _, pos := _, after := _, guard := none }) rfl (fun K hK => ?_) AllReadyH.nil))
    · go_simp
      refine (l2New_any W).mono ?_
      rintro _ w2 ⟨u, rfl, hm, hb⟩
      have HN2 := Lib.hid (HN.out.putM hb hm)
      clear hm hb
      try go_simp
      refine hK.out _ _ ?_ (fun hHeld => ?_)
      · trivial
      clear hK K
      try simp only [Act.put, List.setIfInBounds_toArray, List.set_cons_zero, List.set_cons_succ]
      refine (HG.out _ _ _ _).mp ?_
      exact s035.out _ _ u W.heap.size w2.heap.size b3 bp (by kernel_rfl) HN2
    · obtain ⟨w2, hr, hi, hl, hb⟩ := make_infos W
      have HN2 := Lib.hid (HN.out.putI hb hi hl)
      clear hi hl hb
      go_simp
      refine hK.out _ _ ?_ (fun hHeld => ?_)
      · trivial
      clear hr
      clear hK K
      try simp only [Act.put, List.setIfInBounds_toArray, List.set_cons_zero, List.set_cons_succ]
      refine (HG.out _ _ _ _).mp ?_
      exact s135.out _ _ W.heap.size b3 bp (by kernel_rfl) HN2
    · have HN2 := Lib.hid HN.out.putE
      go_simp
      refine hK.out _ _ ?_ (fun hHeld => ?_)
      · trivial
      clear hK K
      try simp only [Act.put, List.setIfInBounds_toArray, List.set_cons_zero, List.set_cons_succ]
      refine (HG.out _ _ _ _).mp ?_
      exact s235.out _ _ W.heap.size b3 bp (by kernel_rfl) HN2)
  have s0 : Hid (∀ (l : Array Bool) (W : World) (u : Value) (B0 B1 : Nat), l = #[true, false, false, false, false, false, false] → Hid (NK w0 W (some (u, B0, B1)) (none) (none) (none)) → G 6 l { tmps := #[.slice a n ca, undef, .pointer (some ⟨X, 0, none⟩), .bool false, undef, undef, u, undef, undef, undef, undef, undef, undef, undef, undef, undef, undef, undef, undef, undef, undef, undef, undef, undef, undef, undef, undef, undef, undef, undef, undef, undef, undef, undef, undef, undef, undef, undef, undef, undef, undef], defers := [] } W) := Lib.hid (by
    intro l W u B0 B1 hl HN
    subst hl
    rw [HG.out]
    have hHeld : True := trivial
    obtain ⟨ua, un, uc, rfl⟩ : ∃ a n c, u = .slice a n c := by
      obtain ⟨a, cap, A, C, e, _⟩ := (HN.out.fm u B0 B1 rfl).1
      exact ⟨_, _, _, e⟩
    refine wpAnyH_ready (rs := [1, 2, 3, 5]) (by kernel_rfl) (by simp) ?_
    refine AllReadyH.cons (o := { dst := some 7, op := .makeSlice 26 (.const (.int .i64 12)) (.const (.int .i64 12)), type := _, pos := _, after := _, guard := none }) rfl (fun K hK => ?_) (AllReadyH.cons (o := { dst := some 8, op := .buildSlice 27 0 #[], type := _, pos := _, after := _, guard := none }) rfl (fun K hK => ?_) (AllReadyH.cons (o := { dst := some 9, op := .buildSlice 28 0 #[], type := _, pos := _, after := _, guard := none }) rfl (fun K hK => ?_) (AllReadyH.cons (o := { dst := some 4, op := .alloc 30, type := _, pos := _, after := _, guard := none }) rfl (fun K hK => ?_) AllReadyH.nil)))
    · obtain ⟨w2, hr, hi, hl, hb⟩ := make_infos W
      have HN2 := Lib.hid (HN.out.putI hb hi hl)
      clear hi hl hb
      go_simp
      refine hK.out _ _ ?_ (fun hHeld => ?_)
      · trivial
      clear hr
      clear hK K
      try simp only [Act.put, List.setIfInBounds_toArray, List.set_cons_zero, List.set_cons_succ]
      refine (HG.out _ _ _ _).mp ?_
      exact s01.out _ _ (.slice ua un uc) B0 B1 W.heap.size (by kernel_rfl) HN2
    · have HN2 := Lib.hid HN.out.putE
      go_simp
      refine hK.out _ _ ?_ (fun hHeld => ?_)
      · trivial
      clear hK K
      try simp only [Act.put, List.setIfInBounds_toArray, List.set_cons_zero, List.set_cons_succ]
      refine (HG.out _ _ _ _).mp ?_
      exact s02.out _ _ (.slice ua un uc) B0 B1 W.heap.size (by kernel_rfl) HN2
    · have HN2 := Lib.hid (HN.out.go ((Below.refl _ _).alloc (Nat.le_refl _) (.cells #[] 62)))
      go_simp
      refine hK.out _ _ ?_ (fun hHeld => ?_)
      · trivial
      clear hK K
      try simp only [Act.put, List.setIfInBounds_toArray, List.set_cons_zero, List.set_cons_succ]
      refine (HG.out _ _ _ _).mp ?_
      exact s03.out _ _ (.slice ua un uc) B0 B1 W.heap.size (by kernel_rfl) HN2
    · have HN2 := Lib.hid HN.out.putP
      go_simp
      refine hK.out _ _ ?_ (fun hHeld => ?_)
      · trivial
      clear hK K
      try simp only [Act.put, List.setIfInBounds_toArray, List.set_cons_zero, List.set_cons_succ]
      refine (HG.out _ _ _ _).mp ?_
      exact s05.out _ _ (.slice ua un uc) B0 B1 W.heap.size (by kernel_rfl) HN2)
  have s1 : Hid (∀ (l : Array Bool) (W : World) (b1 : Nat), l = #[false, true, false, false, false, false, false] → Hid (NK w0 W (none) (some b1) (none) (none)) → G 6 l { tmps := #[.slice a n ca, undef, .pointer (some ⟨X, 0, none⟩), .bool false, undef, undef, undef, .slice (some ⟨b1, 0, none⟩) 12 12, undef, undef, undef, undef, undef, undef, undef, undef, undef, undef, undef, undef, undef, undef, undef, undef, undef, undef, undef, undef, undef, undef, undef, undef, undef, undef, undef, undef, undef, undef, undef, undef, undef], defers := [] } W) := Lib.hid (by
    intro l W b1 hl HN
    subst hl
    rw [HG.out]
    have hHeld : True := trivial
    refine wpAnyH_ready (rs := [0, 2, 3, 5]) (by kernel_rfl) (by simp) ?_
    refine AllReadyH.cons (o := { dst := some 6, op := .call { callee := .value (.func 16), args := #[], argTypes := #[] }, type := _, pos := _, after := _, guard := none }) rfl (fun K hK => ?_) (AllReadyH.cons (o := { dst := some 8, op := .buildSlice 27 0 #[], type := _, pos := _, after := _, guard := none }) rfl (fun K hK => ?_) (AllReadyH.cons (o := { dst := some 9, op := .buildSlice 28 0 #[], type := _, pos := _, after := _, guard := none }) rfl (fun K hK => ?_) (AllReadyH.cons (o := { dst := some 4, op := .alloc 30, type := _, pos := _, after := _, guard := none }) rfl (fun K hK => ?_) AllReadyH.nil)))
    · go_simp
      refine (l2New_any W).mono ?_
      rintro _ w2 ⟨u, rfl, hm, hb⟩
      have HN2 := Lib.hid (HN.out.putM hb hm)
      clear hm hb
      try go_simp
      refine hK.out _ _ ?_ (fun hHeld => ?_)
      · trivial
      clear hK K
      try simp only [Act.put, List.setIfInBounds_toArray, List.set_cons_zero, List.set_cons_succ]
      refine (HG.out _ _ _ _).mp ?_
      exact s01.out _ _ u W.heap.size w2.heap.size b1 (by kernel_rfl) HN2
    · have HN2 := Lib.hid HN.out.putE
      go_simp
      refine hK.out _ _ ?_ (fun hHeld => ?_)
      · trivial
      clear hK K
      try simp only [Act.put, List.setIfInBounds_toArray, List.set_cons_zero, List.set_cons_succ]
      refine (HG.out _ _ _ _).mp ?_
      exact s12.out _ _ b1 W.heap.size (by kernel_rfl) HN2
    · have HN2 := Lib.hid (HN.out.go ((Below.refl _ _).alloc (Nat.le_refl _) (.cells #[] 62)))
      go_simp
      refine hK.out _ _ ?_ (fun hHeld => ?_)
      · trivial
      clear hK K
      try simp only [Act.put, List.setIfInBounds_toArray, List.set_cons_zero, List.set_cons_succ]
      refine (HG.out _ _ _ _).mp ?_
      exact s13.out _ _ b1 W.heap.size (by kernel_rfl) HN2
    · have HN2 := Lib.hid HN.out.putP
      go_simp
      refine hK.out _ _ ?_ (fun hHeld => ?_)
      · trivial
      clear hK K
      try simp only [Act.put, List.setIfInBounds_toArray, List.set_cons_zero, List.set_cons_succ]
      refine (HG.out _ _ _ _).mp ?_
      exact s15.out _ _ b1 W.heap.size (by kernel_rfl) HN2)
  have s2 : Hid (∀ (l : Array Bool) (W : World) (b2 : Nat), l = #[false, false, true, false, false, false, false] → Hid (NK w0 W (none) (none) (some b2) (none)) → G 6 l { tmps := #[.slice a n ca, undef, .pointer (some ⟨X, 0, none⟩), .bool false, undef, undef, undef, undef, .slice (some ⟨b2, 0, none⟩) 0 0, undef, undef, undef, undef, undef, undef, undef, undef, undef, undef, undef, undef, undef, undef, undef, undef, undef, undef, undef, undef, undef, undef, undef, undef, undef, undef, undef, undef, undef, undef, undef, undef], defers := [] } W) := Lib.hid (by
    intro l W b2 hl HN
    subst hl
    rw [HG.out]
    have hHeld : True := trivial
    refine wpAnyH_ready (rs := [0, 1, 3, 5]) (by kernel_rfl) (by simp) ?_
    refine AllReadyH.cons (o := { dst := some 6, op := .call { callee := .value (.func 16), args := #[], argTypes := #[] }, type := _, pos := _, after := _, guard := none }) rfl (fun K hK => ?_) (AllReadyH.cons (o := { dst := some 7, op := .makeSlice 26 (.const (.int .i64 12)) (.const (.int .i64 12)), type := _, pos := _, after := _, guard := none }) rfl (fun K hK => ?_) (AllReadyH.cons (o := { dst := some 9, op := .buildSlice 28 0 #[], type := _, pos := _, after := _, guard := none }) rfl (fun K hK => ?_) (AllReadyH.cons (o := { dst := some 4, op := .alloc 30, type := _, pos := _, after := _, guard := none }) rfl (fun K hK => ?_) AllReadyH.nil)))
    · go_simp
      refine (l2New_any W).mono ?_
      rintro _ w2 ⟨u, rfl, hm, hb⟩
      have HN2 := Lib.hid (HN.out.putM hb hm)
      clear hm hb
      try go_simp
      refine hK.out _ _ ?_ (fun hHeld => ?_)
      · trivial
      clear hK K
      try simp only [Act.put, List.setIfInBounds_toArray, List.set_cons_zero, List.set_cons_succ]
      refine (HG.out _ _ _ _).mp ?_
      exact s02.out _ _ u W.heap.size w2.heap.size b2 (by kernel_rfl) HN2
    · obtain ⟨w2, hr, hi, hl, hb⟩ := make_infos W
      have HN2 := Lib.hid (HN.out.putI hb hi hl)
      clear hi hl hb
      go_simp
      refine hK.out _ _ ?_ (fun hHeld => ?_)
      · trivial
      clear hr
      clear hK K
      try simp only [Act.put, List.setIfInBounds_toArray, List.set_cons_zero, List.set_cons_succ]
      refine (HG.out _ _ _ _).mp ?_
      exact s12.out _ _ W.heap.size b2 (by kernel_rfl) HN2
    · have HN2 := Lib.hid (HN.out.go ((Below.refl _ _).alloc (Nat.le_refl _) (.cells #[] 62)))
      go_simp
      refine hK.out _ _ ?_ (fun hHeld => ?_)
      · trivial
      clear hK K
      try simp only [Act.put, List.setIfInBounds_toArray, List.set_cons_zero, List.set_cons_succ]
      refine (HG.out _ _ _ _).mp ?_
      exact s23.out _ _ b2 W.heap.size (by kernel_rfl) HN2
    · have HN2 := Lib.hid HN.out.putP
      go_simp
      refine hK.out _ _ ?_ (fun hHeld => ?_)
      · trivial
      clear hK K
      try simp only [Act.put, List.setIfInBounds_toArray, List.set_cons_zero, List.set_cons_succ]
      refine (HG.out _ _ _ _).mp ?_
      exact s25.out _ _ b2 W.heap.size (by kernel_rfl) HN2)
  have s3 : Hid (∀ (l : Array Bool) (W : World) (b3 : Nat), l = #[false, false, false, true, false, false, false] → Hid (NK w0 W (none) (none) (none) (none)) → G 6 l { tmps := #[.slice a n ca, undef, .pointer (some ⟨X, 0, none⟩), .bool false, undef, undef, undef, undef, undef, .slice (some ⟨b3, 0, none⟩) 0 0, undef, undef, undef, undef, undef, undef, undef, undef, undef, undef, undef, undef, undef, undef, undef, undef, undef, undef, undef, undef, undef, undef, undef, undef, undef, undef, undef, undef, undef, undef, undef], defers := [] } W) := Lib.hid (by
    intro l W b3 hl HN
    subst hl
    rw [HG.out]
    have hHeld : True := trivial
    refine wpAnyH_ready (rs := [0, 1, 2, 5]) (by kernel_rfl) (by simp) ?_
    refine AllReadyH.cons (o := { dst := some 6, op := .call { callee := .value (.func 16), args := #[], argTypes := #[] }, type := _, pos := _, after := _, guard := none }) rfl (fun K hK => ?_) (AllReadyH.cons (o := { dst := some 7, op := .makeSlice 26 (.const (.int .i64 12)) (.const (.int .i64 12)), type := _, pos := _, after := _, guard := none }) rfl (fun K hK => ?_) (AllReadyH.cons (o := { dst := some 8, op := .buildSlice 27 0 #[], type := _, pos := _, after := _, guard := none }) rfl (fun K hK => ?_) (AllReadyH.cons (o := { dst := some 4, op := .alloc 30, type := _, pos := _, after := _, guard := none }) rfl (fun K hK => ?_) AllReadyH.nil)))
    · go_simp
      refine (l2New_any W).mono ?_
      rintro _ w2 ⟨u, rfl, hm, hb⟩
      have HN2 := Lib.hid (HN.out.putM hb hm)
      clear hm hb
      try go_simp
      refine hK.out _ _ ?_ (fun hHeld => ?_)
      · trivial
      clear hK K
      try simp only [Act.put, List.setIfInBounds_toArray, List.set_cons_zero, List.set_cons_succ]
      refine (HG.out _ _ _ _).mp ?_
      exact s03.out _ _ u W.heap.size w2.heap.size b3 (by kernel_rfl) HN2
    · obtain ⟨w2, hr, hi, hl, hb⟩ := make_infos W
      have HN2 := Lib.hid (HN.out.putI hb hi hl)
      clear hi hl hb
      go_simp
      refine hK.out _ _ ?_ (fun hHeld => ?_)
      · trivial
      clear hr
      clear hK K
      try simp only [Act.put, List.setIfInBounds_toArray, List.set_cons_zero, List.set_cons_succ]
      refine (HG.out _ _ _ _).mp ?_
      exact s13.out _ _ W.heap.size b3 (by kernel_rfl) HN2
    · have HN2 := Lib.hid HN.out.putE
      go_simp
      refine hK.out _ _ ?_ (fun hHeld => ?_)
      · trivial
      clear hK K
      try simp only [Act.put, List.setIfInBounds_toArray, List.set_cons_zero, List.set_cons_succ]
      refine (HG.out _ _ _ _).mp ?_
      exact s23.out _ _ W.heap.size b3 (by kernel_rfl) HN2
    · have HN2 := Lib.hid HN.out.putP
      go_simp
      refine hK.out _ _ ?_ (fun hHeld => ?_)
      · trivial
      clear hK K
      try simp only [Act.put, List.setIfInBounds_toArray, List.set_cons_zero, List.set_cons_succ]
      refine (HG.out _ _ _ _).mp ?_
      exact s35.out _ _ b3 W.heap.size (by kernel_rfl) HN2)
  have s5 : Hid (∀ (l : Array Bool) (W : World) (bp : Nat), l = #[false, false, false, false, false, true, false] → Hid (NK w0 W (none) (none) (none) (some bp)) → G 6 l { tmps := #[.slice a n ca, undef, .pointer (some ⟨X, 0, none⟩), .bool false, .pointer (some ⟨bp, 0, none⟩), undef, undef, undef, undef, undef, undef, undef, undef, undef, undef, undef, undef, undef, undef, undef, undef, undef, undef, undef, undef, undef, undef, undef, undef, undef, undef, undef, undef, undef, undef, undef, undef, undef, undef, undef, undef], defers := [] } W) := Lib.hid (by
    intro l W bp hl HN
    subst hl
    rw [HG.out]
    have hHeld : True := trivial
    refine wpAnyH_ready (rs := [0, 1, 2, 3]) (by kernel_rfl) (by simp) ?_
    refine AllReadyH.cons (o := { dst := some 6, op := .call { callee := .value (.func 16), args := #[], argTypes := #[] }, type := _, pos := _, after := _, guard := none }) rfl (fun K hK => ?_) (AllReadyH.cons (o := { dst := some 7, op := .makeSlice 26 (.const (.int .i64 12)) (.const (.int .i64 12)), type := _, pos := _, after := _, guard := none }) rfl (fun K hK => ?_) (AllReadyH.cons (o := { dst := some 8, op := .buildSlice 27 0 #[], type := _, pos := _, after := _, guard := none }) rfl (fun K hK => ?_) (AllReadyH.cons (o := { dst := some 9, op := .buildSlice 28 0 #[], type := _, pos := _, after := _, guard := none }) rfl (fun K hK => ?_) AllReadyH.nil)))
    · go_simp
      refine (l2New_any W).mono ?_
      rintro _ w2 ⟨u, rfl, hm, hb⟩
      have HN2 := Lib.hid (HN.out.putM hb hm)
      clear hm hb
      try go_simp
      refine hK.out _ _ ?_ (fun hHeld => ?_)
      · trivial
      clear hK K
      try simp only [Act.put, List.setIfInBounds_toArray, List.set_cons_zero, List.set_cons_succ]
      refine (HG.out _ _ _ _).mp ?_
      exact s05.out _ _ u W.heap.size w2.heap.size bp (by kernel_rfl) HN2
    · obtain ⟨w2, hr, hi, hl, hb⟩ := make_infos W
      have HN2 := Lib.hid (HN.out.putI hb hi hl)
      clear hi hl hb
      go_simp
      refine hK.out _ _ ?_ (fun hHeld => ?_)
      · trivial
      clear hr
      clear hK K
      try simp only [Act.put, List.setIfInBounds_toArray, List.set_cons_zero, List.set_cons_succ]
      refine (HG.out _ _ _ _).mp ?_
      exact s15.out _ _ W.heap.size bp (by kernel_rfl) HN2
    · have HN2 := Lib.hid HN.out.putE
      go_simp
      refine hK.out _ _ ?_ (fun hHeld => ?_)
      · trivial
      clear hK K
      try simp only [Act.put, List.setIfInBounds_toArray, List.set_cons_zero, List.set_cons_succ]
      refine (HG.out _ _ _ _).mp ?_
      exact s25.out _ _ W.heap.size bp (by kernel_rfl) HN2
    · have HN2 := Lib.hid (HN.out.go ((Below.refl _ _).alloc (Nat.le_refl _) (.cells #[] 62)))
      go_simp
      refine hK.out _ _ ?_ (fun hHeld => ?_)
      · trivial
      clear hK K
      try simp only [Act.put, List.setIfInBounds_toArray, List.set_cons_zero, List.set_cons_succ]
      refine (HG.out _ _ _ _).mp ?_
      exact s35.out _ _ W.heap.size bp (by kernel_rfl) HN2)
  have sN : Hid (∀ (l : Array Bool) (W : World) , l = #[false, false, false, false, false, false, false] → Hid (NK w0 W (none) (none) (none) (none)) → G 7 l { tmps := #[.slice a n ca, undef, .pointer (some ⟨X, 0, none⟩), .bool false, undef, undef, undef, undef, undef, undef, undef, undef, undef, undef, undef, undef, undef, undef, undef, undef, undef, undef, undef, undef, undef, undef, undef, undef, undef, undef, undef, undef, undef, undef, undef, undef, undef, undef, undef, undef, undef], defers := [] } W) := Lib.hid (by
    intro l W  hl HN
    subst hl
    rw [HG.out]
    have hHeld : True := trivial
    refine wpAnyH_ready (rs := [0, 1, 2, 3, 5]) (by kernel_rfl) (by simp) ?_
    refine AllReadyH.cons (o := { dst := some 6, op := .call { callee := .value (.func 16), args := #[], argTypes := #[] }, type := _, pos := _, after := _, guard := none }) rfl (fun K hK => ?_) (AllReadyH.cons (o := { dst := some 7, op := .makeSlice 26 (.const (.int .i64 12)) (.const (.int .i64 12)), type := _, pos := _, after := _, guard := none }) rfl (fun K hK => ?_) (AllReadyH.cons (o := { dst := some 8, op := .buildSlice 27 0 #[], type := _, pos := _, after := _, guard := none }) rfl (fun K hK => ?_) (AllReadyH.cons (o := { dst := some 9, op := .buildSlice 28 0 #[], type := _, pos := _, after := _, guard := none }) rfl (fun K hK => ?_) (AllReadyH.cons (o := { dst := some 4, op := .alloc 30, type := _, pos := _, after := _, guard := none }) rfl (fun K hK => ?_) AllReadyH.nil))))
    · go_simp
      refine (l2New_any W).mono ?_
      rintro _ w2 ⟨u, rfl, hm, hb⟩
      have HN2 := Lib.hid (HN.out.putM hb hm)
      clear hm hb
      try go_simp
      refine hK.out _ _ ?_ (fun hHeld => ?_)
      · trivial
      clear hK K
      try simp only [Act.put, List.setIfInBounds_toArray, List.set_cons_zero, List.set_cons_succ]
      refine (HG.out _ _ _ _).mp ?_
      exact s0.out _ _ u W.heap.size w2.heap.size (by kernel_rfl) HN2
    · obtain ⟨w2, hr, hi, hl, hb⟩ := make_infos W
      have HN2 := Lib.hid (HN.out.putI hb hi hl)
      clear hi hl hb
      go_simp
      refine hK.out _ _ ?_ (fun hHeld => ?_)
      · trivial
      clear hr
      clear hK K
      try simp only [Act.put, List.setIfInBounds_toArray, List.set_cons_zero, List.set_cons_succ]
      refine (HG.out _ _ _ _).mp ?_
      exact s1.out _ _ W.heap.size (by kernel_rfl) HN2
    · have HN2 := Lib.hid HN.out.putE
      go_simp
      refine hK.out _ _ ?_ (fun hHeld => ?_)
      · trivial
      clear hK K
      try simp only [Act.put, List.setIfInBounds_toArray, List.set_cons_zero, List.set_cons_succ]
      refine (HG.out _ _ _ _).mp ?_
      exact s2.out _ _ W.heap.size (by kernel_rfl) HN2
    · have HN2 := Lib.hid (HN.out.go ((Below.refl _ _).alloc (Nat.le_refl _) (.cells #[] 62)))
      go_simp
      refine hK.out _ _ ?_ (fun hHeld => ?_)
      · trivial
      clear hK K
      try simp only [Act.put, List.setIfInBounds_toArray, List.set_cons_zero, List.set_cons_succ]
      refine (HG.out _ _ _ _).mp ?_
      exact s3.out _ _ W.heap.size (by kernel_rfl) HN2
    · have HN2 := Lib.hid HN.out.putP
      go_simp
      refine hK.out _ _ ?_ (fun hHeld => ?_)
      · trivial
      clear hK K
      try simp only [Act.put, List.setIfInBounds_toArray, List.set_cons_zero, List.set_cons_succ]
      refine (HG.out _ _ _ _).mp ?_
      exact s5.out _ _ W.heap.size (by kernel_rfl) HN2)
  exact sN.out _ _ (by kernel_rfl) (Lib.hid (NK.start (Below.refl _ _).drew))
end Go.Proofs.YthfdkenidfnmgaaGreat
namespace Go.Proofs.YthfdkenidfnmgaaGreat
open Go.ChangeShapes Go.WideShapes Go.ChangeAt Go.RowKit
set_option linter.unusedVariables false
set_option linter.unusedSimpArgs false
set_option maxRecDepth 100000
theorem tsInfo : (Tryz.prog.info? 35).map (fun i => (i.zero, i.size, i.bytes)) = some (some (.slice none 0 0), 1, 24) := by kernel_rfl
structure OwnBT (w0 : World) (B k : Nat) (w : World) (v : Value) (xss : List (List Bs)) (ps : List Value) (w' : World) : Prop where
  own : w'.ownsRow w.heap.size 35 1 v xss.length ps
  nn : v ≠ .slice none 0 0
  rdr : Rdr w0 w' B k
  grow : w.grownBy w' (some B)
  B0 : B < w.heap.size
  len : ps.length = xss.length
  row : ∀ i, i < xss.length → ∃ g c, ps.getD i sl0 = .slice (some ⟨g, 0, none⟩) (xss.getD i []).length c ∧ Strs w' (.slice (some ⟨g, 0, none⟩) (xss.getD i []).length c) (xss.getD i []) ∧ w.heap.size ≤ g ∧ g < w'.heap.size ∧ v.ownBlock ≠ some g
theorem OwnBT.start {w0 w : World} {B k : Nat} (hR : Rdr w0 w B k) : OwnBT w0 B k w (.slice (some ⟨w.heap.size, 0, none⟩) 0 0) [] [] (w.alloc (.cells #[] 35)) :=
  ⟨World.ownsRow_made w #[] 0 (Nat.le_refl _) (Nat.zero_le _) rfl, (fun h => by cases h), rdr_alloc hR _, galloc _ _ _, rdr_lt hR, rfl, fun i hi => absurd hi (Nat.not_lt_zero _)⟩
theorem OwnBT.drew {w0 w w' w2 : World} {B k k' : Nat} {v : Value} {xss : List (List Bs)} {ps : List Value} (h : OwnBT w0 B k w v xss ps w') (hR : Rdr w0 w2 B k') (hg : w'.grownBy w2 (some B)) : OwnBT w0 B k' w v xss ps w2 :=
  ⟨own_grown h.own hg h.B0, h.nn, hR, gtrans h.grow hg, h.B0, h.len, fun i hi => by
    obtain ⟨g, c, e, hs, h1, h2, h3⟩ := h.row i hi
    refine ⟨g, c, e, hs.keptG hg (fun g' hg' _ e2 => ?_), h1, Nat.lt_of_lt_of_le h2 hg.size, h3⟩
    injection hg' with hg'
    injection e2 with e2
    have := h.B0
    have h4 : g = g' := hg'
    omega⟩
theorem OwnBT.mono {w0 w w' : World} {B k k' : Nat} {v : Value} {xss : List (List Bs)} {ps : List Value} (h : OwnBT w0 B k w v xss ps w') (hk : k ≤ k') : OwnBT w0 B k' w v xss ps w' := ⟨h.own, h.nn, rdr_mono h.rdr hk, h.grow, h.B0, h.len, h.row⟩
theorem OwnBT.form {w0 w w' : World} {B k : Nat} {v : Value} {xss : List (List Bs)} {ps : List Value} (h : OwnBT w0 B k w v xss ps w') : ∃ g cap, v = .slice (some ⟨g, 0, none⟩) xss.length cap := by
  rcases h.own.2 with ⟨e, _⟩ | ⟨g, cap, cur, e, hb, _, hnc, hcm, _⟩
  · exact absurd e h.nn
  · exact ⟨g, cap, e⟩
theorem OwnBT.sss {w0 w w' : World} {B k : Nat} {v : Value} {xss : List (List Bs)} {ps : List Value} (h : OwnBT w0 B k w v xss ps w') : SssN w' v xss := by
  rcases h.own.2 with ⟨e, hz⟩ | ⟨g, cap, cur, e, hb, hbl, hnc, hcm, hcs, htk⟩
  · exact absurd e h.nn
  · refine ⟨some ⟨g, 0, none⟩, cap, e, hnc, hcm, fun i hi => ?_⟩
    obtain ⟨g', c', e2, hs, _⟩ := h.row i hi
    have hc := h.own.cells (g := g) (by rw [e]; rfl) i (ps.getD i sl0) (by rw [getD_lt (by rw [h.len]; exact hi)]; exact List.getElem?_eq_getElem _)
    rw [add0] at hc
    exact ⟨g, 0, _, rfl, by rw [Nat.zero_add]; exact hc, by rw [e2]; exact hs, by rw [e2]; exact nilOk_some⟩
theorem wp_append_bt1 {a : Act} {w : World} {K : Act → World → Prop} {Q : Exit → Act → World → Prop} {dst : Option Nat} {tt : TypeId} {pos : String} {after : Array Edge} {gd : Option (Nat × Bool)} (s x : Operand)
    (w0 wz : World) (B k : Nat) (v : Value) (xss : List (List Bs)) (ps : List Value) (hs : a.eval s = v) (hown : OwnBT w0 B k wz v xss ps w) (b g c : Nat) (y : List Bs) (hx : a.eval x = .slice (some ⟨b, 0, none⟩) 1 1)
    (h0 : w.cell? ⟨b, 0, none⟩ = some (.slice (some ⟨g, 0, none⟩) y.length c)) (hu : Strs w (.slice (some ⟨g, 0, none⟩) y.length c) y) (hg0 : wz.heap.size ≤ g) (hg1 : g < w.heap.size) (hg2 : v.ownBlock ≠ some g) (hl : xss.length ≤ 1000000)
    (h : ∀ v' w', OwnBT w0 B k wz v' (xss ++ [y]) (ps ++ [.slice (some ⟨g, 0, none⟩) y.length c]) w' → K (a.put dst v') w') :
    Oper.wp Tryz.prog { dst := dst, op := .call { callee := .builtin .append, args := #[s, x], argTypes := #[23, 23] }, type := tt, pos := pos, after := after, guard := gd } a w K Q := by
  obtain ⟨i0, hi, hz0, hz1, hz2⟩ := info_parts tsInfo
  have hnews : ∀ j z, ([.slice (some ⟨g, 0, none⟩) y.length c] : List Value)[j]? = some z → w.cell? ((⟨b, 0, none⟩ : Addr).add j) = some z := by
    intro j z hj
    have hjl : j < 1 := (List.getElem?_eq_some_iff.1 hj).1
    obtain rfl : j = 0 := by omega
    rw [addN, Nat.zero_add]
    cases hj
    exact h0
  have hone : ∀ z ∈ ([.slice (some ⟨g, 0, none⟩) y.length c] : List Value), z.oneCell' = true := by
    intro z hz
    rw [List.mem_singleton.1 hz]; rfl
  obtain ⟨v', w', hr, g2, g3, g4, g5⟩ := run_append_own_at (P := Tryz.prog) w wz.heap.size 23 tt 35 i0 (.slice none 0 0) 1 24 Tryz.underlying23 hi hz0 hz1 hz2 rfl (by decide) v xss.length _ hown.own ⟨b, 0, none⟩ 1 1 [.slice (some ⟨g, 0, none⟩) y.length c] rfl hnews hone (by unfold maxLen; omega) (by omega) hown.grow.size
  have hB0 := hown.B0
  have hob : ∀ b, v.ownBlock = some b → wz.heap.size ≤ b := fun b hb => (hown.own.lt b hb).1
  have hlt := rdr_lt hown.rdr
  have hrow : ∀ (r : List Bs) (g' c' : Nat), Strs w (.slice (some ⟨g', 0, none⟩) r.length c') r → wz.heap.size ≤ g' → g' < w.heap.size → v.ownBlock ≠ some g' → Strs w' (.slice (some ⟨g', 0, none⟩) r.length c') r ∧ g' < w'.heap.size ∧ v'.ownBlock ≠ some g' := fun r g' c' hs' k0 k1 k2 => by
    refine ⟨hs'.keptG g3 (fun q hq _ e2 => k2 ?_), Nat.lt_of_lt_of_le k1 g3.size, fun e => ?_⟩
    · rw [e2]; exact hq.symm
    · rcases g5 with g5 | g5
      · exact k2 (g5 ▸ e)
      · rw [g5] at e
        injection e with e
        omega
  have hk := h v' w' ⟨by rw [List.length_append]; exact g2, fun e => hown.nn (g4.1 e).1, ?_, ?_, hB0, by rw [List.length_append, List.length_append, hown.len]; rfl, fun i hi => ?_⟩
  · unfold Oper.wp execOp
    simp only [resolve, invoke, builtin, Sem.run_bind, Sem.run_pure, Result.andThen_ok, List.map_toArray, List.map_cons, List.map_nil, hs, hx, hr]
    exact hk
  · obtain ⟨a', len, cap, zs, p, hr', hp, hh, hbb, hB⟩ := hown.rdr
    refine ⟨a', len, cap, zs, p, hr', hp, (g3.block B hlt (fun e => by have := hob B e.symm; omega)).trans hh, hbb.grown g3 hbb.size (fun b hb => by have := hob b hb; have := hown.grow.size; omega), hB⟩
  · exact ⟨g3.os.trans hown.grow.os, g3.tape.trans hown.grow.tape, g3.output.trans hown.grow.output, Nat.le_trans hown.grow.size g3.size, fun i hi hne => (g3.block i (Nat.lt_of_lt_of_le hi hown.grow.size) (fun e => by have := hob i e.symm; omega)).trans (hown.grow.block i hi hne)⟩
  · rw [List.length_append, List.length_singleton] at hi
    have hpl := hown.len
    by_cases hl2 : i < xss.length
    · rw [getD_snoc_lt (by omega), getD_snoc_lt hl2]
      obtain ⟨g', c', e, hs', k0, k1, k2⟩ := hown.row i hl2
      obtain ⟨r1, r2, r3⟩ := hrow _ g' c' hs' k0 k1 k2
      exact ⟨g', c', e, r1, k0, r2, r3⟩
    · rw [getD_snoc_at (by omega), getD_snoc_at (by omega)]
      obtain ⟨r1, r2, r3⟩ := hrow _ g c hu hg0 hg1 hg2
      exact ⟨g, c, rfl, r1, hg0, r2, r3⟩
theorem wpList_append_bt1 {ops : Array Oper} {rest : List Oper} {a : Act} {w : World} {Q : Exit → Act → World → Prop} {dst : Option Nat} {tt : TypeId} {pos : String} {after : Array Edge} (s x : Operand)
    (w0 wz : World) (B k : Nat) (v : Value) (xss : List (List Bs)) (ps : List Value) (hs : a.eval s = v) (hown : OwnBT w0 B k wz v xss ps w) (b g c : Nat) (y : List Bs) (hx : a.eval x = .slice (some ⟨b, 0, none⟩) 1 1)
    (h0 : w.cell? ⟨b, 0, none⟩ = some (.slice (some ⟨g, 0, none⟩) y.length c)) (hu : Strs w (.slice (some ⟨g, 0, none⟩) y.length c) y) (hg0 : wz.heap.size ≤ g) (hg1 : g < w.heap.size) (hg2 : v.ownBlock ≠ some g) (hl : xss.length ≤ 1000000)
    (h : ∀ v' w', OwnBT w0 B k wz v' (xss ++ [y]) (ps ++ [.slice (some ⟨g, 0, none⟩) y.length c]) w' → wpList Tryz.prog ops Q rest (a.put dst v') w') :
    wpList Tryz.prog ops Q ({ dst := dst, op := .call { callee := .builtin .append, args := #[s, x], argTypes := #[23, 23] }, type := tt, pos := pos, after := after, guard := none } :: rest) a w :=
  wpList_plain rfl fun K hK => wp_append_bt1 s x w0 wz B k v xss ps hs hown b g c y hx h0 hu hg0 hg1 hg2 hl (fun v' w' h1 => hK _ _ (h v' w' h1))
def DrewKN (W : World) (e : Ending) (w' : World) : Prop := ∃ g c xss, e = .returned (.slice (some ⟨g, 0, none⟩) xss.length c) ∧ SssN w' (.slice (some ⟨g, 0, none⟩) xss.length c) xss ∧ xss.length ≤ 5 ∧ (∀ x ∈ xss, x.length ≤ 8 ∧ ∀ y ∈ x, shortP y) ∧ Below W.heap.size W w'
set_option maxHeartbeats 1000000 in
theorem drawKernelNew_any (W : World) (a : Option Addr) (len cap : Nat) (zs : List Int) (hr : Row .u8 W a len cap zs) :
    Calls Tryz.prog 4 #[.slice a len cap] W (DrewKN W) := by
  go_enter Tryz.func4, Tryz.ntmps4
  go_wp2_with fail
  refine (open_any W a len cap zs hr).mono ?_
  clear hr
  rintro e w1 ⟨rfl, hR1⟩
  have HS := Lib.hid (OwnBT.start hR1)
  clear hR1
  go_wp2_with fail
  refine (pick_any W _ _ _ _ HS.out.rdr (by omega) (by omega)).mono ?_
  rintro e w2 ⟨m, h0, h1, rfl, hR2, hO2⟩
  have HS2 := Lib.hid (HS.out.drew hR2 hO2.grown)
  clear HS hR2 hO2
  by_cases hm : m = 0
  · subst hm
    go_wp2_with fail
    refine (pick_any W _ _ _ _ HS2.out.rdr (by omega) (by omega)).mono ?_
    rintro e w2' ⟨m2, h20, h21, rfl, hR3, hO3⟩
    have HS3 := Lib.hid (HS2.out.drew hR3 hO3.grown)
    clear HS2 hR3 hO3
    go_wp2_with fail
    have HB0 : Hid (2 ≤ 20) := Lib.hid (by omega)
    go_loopw [4, 6] (fun c i wr => ∃ (j : Nat) (xss : List (List Bs)) (ps : List Value), (j : Int) ≤ m2 ∧ i = .int .i64 j ∧ xss.length = j ∧ Hid (∀ x ∈ xss, x.length ≤ 8 ∧ ∀ y ∈ x, shortP y) ∧ Hid (OwnBT W W.heap.size (2 + 100 * j) w1 c xss ps wr)) (fun _ i _ => (m2 : Int).toNat - (intOf i).toNat)
    case atStart => exact ⟨0, [], [], by omega, rfl, rfl, Lib.hid (fun y hy => by cases hy), Lib.hid (HS3.out.mono (by omega))⟩
    case round =>
      obtain ⟨j, xss, ps, hj, rfl, hxl, HX, HREL⟩ := hrel
      by_cases hlt : (j : Int) < m2
      · have HXL := Lib.hid hxl
        clear hxl
        go_wp2_with fail
        refine (rights_any W _ _ _ HREL.out.rdr (by omega)).mono ?_
        rintro e w3 ⟨v3, ys, rfl, hys, hO3⟩
        have HO := Lib.hid hO3
        have HYS := Lib.hid hys
        have HS3 := Lib.hid (HREL.out.drew hO3.rdr hO3.grow)
        obtain ⟨g, cap, rfl, -, -, hg⟩ := hO3.form
        have HG : Hid (w1.heap.size ≤ g ∧ g < w3.heap.size ∧ u4.ownBlock ≠ some g) := Lib.hid ⟨by have := HREL.out.grow.size; omega, (hO3.own.lt g rfl).2, fun e => by have := (HREL.out.own.lt g e).2; omega⟩
        clear hO3 hys hg
        have HS4 := Lib.hid (HS3.out.drew (rdr_alloc HS3.out.rdr (.cells #[.slice (some ⟨g, 0, none⟩) ys.length cap] 35)) (galloc _ _ _))
        have HST : Hid (Strs (w3.alloc (.cells #[.slice (some ⟨g, 0, none⟩) ys.length cap] 35)) (.slice (some ⟨g, 0, none⟩) ys.length cap) ys) := Lib.hid (HO.out.strs.below ((Below.refl _ _).alloc (Nat.le_refl _) _))
        have HSZ : Hid (g < (w3.alloc (.cells #[.slice (some ⟨g, 0, none⟩) ys.length cap] 35)).heap.size) := Lib.hid (by have := HG.out.2.1; simp; omega)
        go_wp2_with (first | (at_builtin; refine wpList_append_bt1 (.tmp 20) (.tmp 23) W w1 W.heap.size (2 + 100 * j + 100) _ xss ps rfl HS4.out w3.heap.size g cap ys rfl (new_cell rfl) HST.out HG.out.1 HSZ.out HG.out.2.2 (by have := HXL.out; omega) ?_; intro v5 w5 he) | fail)
        have HE := Lib.hid he
        clear he
        go_wp2_with fail
        go_roundw
        case rel => exact ⟨j + 1, xss ++ [ys], _, by omega, by go_num, by rw [List.length_append, HXL.out]; rfl, Lib.hid (fun x hx => by
          rcases List.mem_append.1 hx with h | h
          · exact HX.out x h
          · rw [List.mem_singleton.1 h]; exact HYS.out), Lib.hid (HE.out.mono (by omega))⟩
        case measure => simp [intOf]; omega
      · have hjm : (j : Int) = m2 := by omega
        obtain ⟨g, cap, he⟩ := HREL.out.form
        rw [he] at HREL ⊢
        go_wp2_with fail
        go_ret
        exact ⟨g, cap, xss, by rw [hxl]; rfl, HREL.out.sss, by omega, HX.out, rdr_below HREL.out.rdr⟩
  · have hne : (m == 0) = false := by simpa using hm
    go_wp2_with fail
    have HB0 : Hid (2 ≤ 20) := Lib.hid (by omega)
    go_loopw [4, 6] (fun c i wr => ∃ (j : Nat) (xss : List (List Bs)) (ps : List Value), (j : Int) ≤ 3 ∧ i = .int .i64 j ∧ xss.length = j ∧ Hid (∀ x ∈ xss, x.length ≤ 8 ∧ ∀ y ∈ x, shortP y) ∧ Hid (OwnBT W W.heap.size (2 + 100 * j) w1 c xss ps wr)) (fun _ i _ => (3 : Int).toNat - (intOf i).toNat)
    case atStart => exact ⟨0, [], [], by omega, rfl, rfl, Lib.hid (fun y hy => by cases hy), Lib.hid (HS2.out.mono (by omega))⟩
    case round =>
      obtain ⟨j, xss, ps, hj, rfl, hxl, HX, HREL⟩ := hrel
      by_cases hlt : (j : Int) < 3
      · have HXL := Lib.hid hxl
        clear hxl
        go_wp2_with fail
        refine (rights_any W _ _ _ HREL.out.rdr (by omega)).mono ?_
        rintro e w3 ⟨v3, ys, rfl, hys, hO3⟩
        have HO := Lib.hid hO3
        have HYS := Lib.hid hys
        have HS3 := Lib.hid (HREL.out.drew hO3.rdr hO3.grow)
        obtain ⟨g, cap, rfl, -, -, hg⟩ := hO3.form
        have HG : Hid (w1.heap.size ≤ g ∧ g < w3.heap.size ∧ u4.ownBlock ≠ some g) := Lib.hid ⟨by have := HREL.out.grow.size; omega, (hO3.own.lt g rfl).2, fun e => by have := (HREL.out.own.lt g e).2; omega⟩
        clear hO3 hys hg
        have HS4 := Lib.hid (HS3.out.drew (rdr_alloc HS3.out.rdr (.cells #[.slice (some ⟨g, 0, none⟩) ys.length cap] 35)) (galloc _ _ _))
        have HST : Hid (Strs (w3.alloc (.cells #[.slice (some ⟨g, 0, none⟩) ys.length cap] 35)) (.slice (some ⟨g, 0, none⟩) ys.length cap) ys) := Lib.hid (HO.out.strs.below ((Below.refl _ _).alloc (Nat.le_refl _) _))
        have HSZ : Hid (g < (w3.alloc (.cells #[.slice (some ⟨g, 0, none⟩) ys.length cap] 35)).heap.size) := Lib.hid (by have := HG.out.2.1; simp; omega)
        go_wp2_with (first | (at_builtin; refine wpList_append_bt1 (.tmp 20) (.tmp 23) W w1 W.heap.size (2 + 100 * j + 100) _ xss ps rfl HS4.out w3.heap.size g cap ys rfl (new_cell rfl) HST.out HG.out.1 HSZ.out HG.out.2.2 (by have := HXL.out; omega) ?_; intro v5 w5 he) | fail)
        have HE := Lib.hid he
        clear he
        go_wp2_with fail
        go_roundw
        case rel => exact ⟨j + 1, xss ++ [ys], _, by omega, by go_num, by rw [List.length_append, HXL.out]; rfl, Lib.hid (fun x hx => by
          rcases List.mem_append.1 hx with h | h
          · exact HX.out x h
          · rw [List.mem_singleton.1 h]; exact HYS.out), Lib.hid (HE.out.mono (by omega))⟩
        case measure => simp [intOf]; omega
      · have hjm : (j : Int) = 3 := by omega
        obtain ⟨g, cap, he⟩ := HREL.out.form
        rw [he] at HREL ⊢
        go_wp2_with fail
        go_ret
        exact ⟨g, cap, xss, by rw [hxl]; rfl, HREL.out.sss, by omega, HX.out, rdr_below HREL.out.rdr⟩
end Go.Proofs.YthfdkenidfnmgaaGreat
namespace Go.Proofs.YthfdkenidfnmgaaGreat
open Go.ChangeShapes Go.WideShapes Go.ChangeAt Go.RowKit
set_option linter.unusedVariables false
set_option linter.unusedSimpArgs false
set_option maxRecDepth 100000
structure OwnEW (B : Nat) (W : World) (v : Value) (E : List EV) (ps : List (Value × Int)) (lo hi : Nat → Nat) : Prop where
  e : OwnE B W v E ps
  rw : ∀ i, i < E.length → B ≤ lo i ∧ hi i ≤ W.heap.size ∧ StrsW W (lo i) (hi i) (ps.getD i pz).1 (E.getD i ez).r
  rd : ∀ j, j < E.length → ∀ i, i < j → hi i ≤ lo j
  vd : ∀ g, v.ownBlock = some g → ∀ i, i < E.length → g < lo i ∨ hi i ≤ g
theorem OwnEW.start {B : Nat} {W : World} {v : Value} (h : OwnE B W v [] []) : OwnEW B W v [] [] (fun _ => 0) (fun _ => 0) :=
  ⟨h, fun i hi => absurd hi (Nat.not_lt_zero _), fun j hj => absurd hj (Nat.not_lt_zero _), fun g hg i hi => absurd hi (Nat.not_lt_zero _)⟩
theorem OwnEW.go {B : Nat} {w w' : World} {v : Value} {E : List EV} {ps : List (Value × Int)} {lo hi : Nat → Nat} (h : OwnEW B w v E ps lo hi) (hb : Below w.heap.size w w') : OwnEW B w' v E ps lo hi :=
  ⟨h.e.go hb, fun i hi => ⟨(h.rw i hi).1, Nat.le_trans (h.rw i hi).2.1 hb.size, (h.rw i hi).2.2.below hb (h.rw i hi).2.1⟩, h.rd, h.vd⟩
theorem OwnEW.put {B : Nat} {W W' : World} {v v' u : Value} {E : List EV} {ps : List (Value × Int)} {lo hi : Nat → Nat} {y : EV} {l h' : Nat} (h : OwnEW B W v E ps lo hi) (hg : W.grownBy W' v.ownBlock)
    (he : OwnE B W' v' (E ++ [y]) (ps ++ [(u, y.t)])) (g5 : v'.ownBlock = v.ownBlock ∨ v'.ownBlock = some W.heap.size) (hu : StrsW W l h' u y.r) (hl : B ≤ l) (hh : h' ≤ W.heap.size)
    (hd : ∀ i, i < E.length → hi i ≤ l) (hv : ∀ g, v.ownBlock = some g → g < l ∨ h' ≤ g) : OwnEW B W' v' (E ++ [y]) (ps ++ [(u, y.t)]) (updF lo E.length l) (updF hi E.length h') := by
  have hlen := h.e.len
  have hgs := hg.size
  refine ⟨he, fun i hi' => ?_, fun j hj i hi' => ?_, fun g e i hi' => ?_⟩
  · rw [List.length_append, List.length_singleton] at hi'
    unfold updF
    by_cases hlt : i < E.length
    · rw [if_neg (by omega), if_neg (by omega), getD_snoc_lt (by omega), getD_snoc_lt hlt]
      obtain ⟨h1, h2, h3⟩ := h.rw i hlt
      exact ⟨h1, by omega, h3.of_blocks (fun b h0 h4 => hg.block b (by omega) (fun e => by have := h.vd b e.symm i hlt; omega))⟩
    · rw [if_pos (by omega), if_pos (by omega), getD_snoc_at (by omega), getD_snoc_at (by omega)]
      exact ⟨hl, by omega, hu.of_blocks (fun b h0 h4 => hg.block b (by omega) (fun e => by have := hv b e.symm; omega))⟩
  · rw [List.length_append, List.length_singleton] at hj
    unfold updF
    by_cases hlt : j < E.length
    · rw [if_neg (by omega), if_neg (by omega)]
      exact h.rd j hlt i hi'
    · rw [if_neg (by omega), if_pos (by omega)]
      exact hd i (by omega)
  · rw [List.length_append, List.length_singleton] at hi'
    unfold updF
    by_cases hlt : i < E.length
    · rw [if_neg (by omega), if_neg (by omega)]
      rcases g5 with g5 | g5
      · exact h.vd g (g5 ▸ e) i hlt
      · rw [g5] at e
        injection e with e
        have := (h.rw i hlt).2.1
        exact .inr (by omega)
    · rw [if_pos (by omega), if_pos (by omega)]
      rcases g5 with g5 | g5
      · exact hv g (g5 ▸ e)
      · rw [g5] at e
        injection e with e
        exact .inr (by omega)
def sAddr : Value → Option Addr
  | .slice a _ _ => a
  | _ => none
def sCap : Value → Nat
  | .slice _ _ c => c
  | _ => 0
theorem OwnEW.esW {B : Nat} {w : World} {v : Value} {E : List EV} {ps : List (Value × Int)} {lo hi : Nat → Nat} (h : OwnEW B w v E ps lo hi) : EsW w B w.heap.size v E := by
  rcases h.e.own.2 with ⟨e, hz⟩ | ⟨g, cap, cur, rfl, hb, hbl, hnc, hcm, hcs, htk⟩
  · have : E = [] := List.length_eq_zero_iff.1 hz
    subst this
    rw [e]
    exact esW_none
  · have hlt := (Array.getElem?_eq_some_iff.1 hbl).1
    have hform : ∀ j, j < E.length → (ps.getD j pz).1 = .slice (sAddr (ps.getD j pz).1) (E.getD j ez).r.length (sCap (ps.getD j pz).1) ∧ (E.getD j ez).r.length ≤ sCap (ps.getD j pz).1 ∧ sCap (ps.getD j pz).1 ≤ maxLen ∧
        ∀ i, i < (E.getD j ez).r.length → ∃ g p, sAddr (ps.getD j pz).1 = some ⟨g, p, none⟩ ∧ lo j ≤ g ∧ g < hi j ∧ w.cell? ⟨g, p + i, none⟩ = some (.string ⟨((E.getD j ez).r.getD i []).toArray⟩) ∧ w.frozen? ⟨g, p + i, none⟩ = false := fun j hj => by
      obtain ⟨a, c, e, h1, h2, h3⟩ := (h.rw j hj).2.2
      rw [e]
      exact ⟨rfl, h1, h2, h3⟩
    have hc : ∀ i j v, i < E.length → j < 2 → [(ps.getD i pz).1, Value.int .i64 (ps.getD i pz).2][j]? = some v → w.cell? ⟨g, 0 + (i * 2 + j), none⟩ = some v := fun i j v hi hj hv => by
      have := h.e.own.cells (g := g) rfl (i * 2 + j) v (by rw [ecC_get ps (by rw [h.e.len]; exact hi) hj]; exact hv)
      rw [add0] at this
      rwa [Nat.zero_add]
    refine ⟨some ⟨g, 0, none⟩, cap, fun j => sAddr (ps.getD j pz).1, fun j => sCap (ps.getD j pz).1, rfl, hnc, hcm, ⟨fun j hj => ?_, fun j hj i hi' => ?_, fun j hj j' hj' hne h0 h0' g1 p1 g2 p2 e1 e2 => ?_⟩, fun j hj => ?_⟩
    · obtain ⟨f1, f2, f3, _⟩ := hform j hj
      have := hc j 0 _ hj (by omega) rfl
      rw [f1] at this
      exact ⟨g, 0, rfl, hb, hlt, this, f2, f3, frozen_of_row w g _ cur _ hbl⟩
    · obtain ⟨_, _, _, f4⟩ := hform j hj
      obtain ⟨g1, p1, e1, k1, k2, k3, k4⟩ := f4 i hi'
      obtain ⟨r1, r2, _⟩ := h.rw j hj
      refine ⟨g1, p1, e1, by omega, by omega, k3, k4, fun b o eb => ?_⟩
      injection eb with eb
      injection eb with eb _
      have := h.vd g rfl j hj
      omega
    · obtain ⟨_, _, _, f4⟩ := hform j hj
      obtain ⟨_, _, _, f4'⟩ := hform j' hj'
      obtain ⟨a1, q1, m1, k1, k2, _⟩ := f4 0 h0
      obtain ⟨a2, q2, m2, k3, k4, _⟩ := f4' 0 h0'
      have e1' := e1.symm.trans m1
      have e2' := e2.symm.trans m2
      injection e1' with e1'
      injection e1' with e1' _
      injection e2' with e2'
      injection e2' with e2' _
      subst e1' e2'
      rcases Nat.lt_or_gt_of_ne hne with hlt' | hlt'
      · have := h.rd j' hj' j hlt'
        omega
      · have := h.rd j hj j' hlt'
        omega
    · have := hc j 1 _ hj (by omega) rfl
      rw [(h.e.row j hj).1] at this
      exact ⟨g, 0, rfl, hb, hlt, this, frozen_of_row w g _ cur _ hbl⟩
end Go.Proofs.YthfdkenidfnmgaaGreat
namespace Go.Proofs.YthfdkenidfnmgaaGreat
open Go.ChangeShapes Go.WideShapes Go.ChangeAt Go.RowKit Go.Maps Go.Shelf
set_option linter.unusedVariables false
set_option linter.unusedSimpArgs false
set_option maxRecDepth 100000
abbrev ISL : Prop := ∀ (w : World) (b : Nat) (xs : List Bs), SetAt w b xs → rvs xs = true → Calls Tryz.prog 43 #[.map (some b)] w (NewS xs w)
def NewE (E : List EV) (w : World) (e : Ending) (w' : World) : Prop := ∃ v, e = .returned v ∧ EsW w' w.heap.size w'.heap.size v E ∧ Below w.heap.size w w'
theorem StrsW.own {w : World} {B0 B1 : Nat} {v : Value} {xs : List Bs} (h : StrsW w B0 B1 v xs) : ∀ g, v.ownBlock = some g → xs.length ≠ 0 → B0 ≤ g ∧ g < B1 := by
  obtain ⟨a, c, rfl, h1, h2, h3⟩ := h
  intro g hg hz
  obtain ⟨g', p, rfl, k1, k2, _⟩ := h3 0 (by omega)
  injection hg with hg
  subst hg
  exact ⟨k1, k2⟩
set_option maxHeartbeats 4000000 in
theorem envList_any (hL : ISL) (w : World) (E : List EV) (bs : Nat → Nat) (hE : E.length = 3) (hr : ∀ j, j < 3 → rvs (E.getD j ez).r = true ∧ SetAt w (bs j) (E.getD j ez).r) :
    Calls Tryz.prog 31 #[.agg (mapC (fun j => some (bs j)) (fun j => (E.getD j ez).t)).toArray] w (NewE E w) := by
  obtain ⟨i0, hi, hz0, hz1, hz2⟩ := info_parts evInfo
  have HI := Lib.hid hi
  have HZ0 := Lib.hid hz0
  have HZ1 := Lib.hid hz1
  have HZ2 := Lib.hid hz2
  have HRR := Lib.hid hr
  have HN := Lib.hid hE
  clear hi hz0 hz1 hz2 hr hE
  have HIX := Lib.hid (fun k (hk : k < 3) W => run_index_arr (P := Tryz.prog) 50 3 48 2 Tryz.underlying50 agg_env size_env (mapC (fun j => some (bs j)) (fun j => (E.getD j ez).t)).toArray k hk W)
  obtain ⟨L, hLL⟩ : ∃ L, L = mapC (fun j => some (bs j)) (fun j => (E.getD j ez).t) := ⟨_, rfl⟩
  have HLL : Hid (L.length = 6) := Lib.hid (by rw [hLL]; rfl)
  rw [← hLL] at HIX ⊢
  have HLE := Lib.hid hLL
  clear hLL
  obtain ⟨R, HR0⟩ : ∃ R : Ending → World → Prop, Hid (R = NewE E w) := ⟨_, Lib.hid rfl⟩
  rw [← HR0.out]
  go_enter Tryz.func31, Tryz.ntmps31
  go_wp2_with (first
    | ((with_reducible refine box_is 50 (.tmp 0) ?_); refine box_arr 50 (.tmp 0) L.toArray rfl ?_)
    | ((with_reducible refine make_is 27 (.const (.int .i64 0)) (.const (.int .i64 3)) ?_); refine wpList_make_own _ rfl (.const (.int .i64 0)) (.const (.int .i64 3)) 27 rfl w.heap.size 37 i0 (.agg #[.slice none 0 0, .int .i64 0]) 2 Tryz.underlying27 HI.out HZ0.out HZ1.out .i64 .i64 3 3 rfl rfl rfl (by rw [HZ2.out]; omega) (by unfold maxLen; omega) (by simp) ?_; intro wm hown hgrow; have hrng : wm.rangeAt w.heap.size 0 L := range_blocks (range_row (heap_alloc_new w (.cells L.toArray 50))) (hgrow.block _ (by simp) (by simp)))
    | ((with_reducible refine load_is 50 (.tmp 1) ?_); refine load_arr 50 (.tmp 1) w.heap.size 0 L _ rfl hrng Tryz.underlying50 rfl (info_envs HLL.out) ?_))
  have HS : Hid (∃ ps lo hi, OwnEW w.heap.size wm (.slice (some ⟨w.heap.size + 1, 0, none⟩) 0 3) (E.take 0) ps lo hi ∧ Below w.heap.size w wm) := Lib.hid (by
    have hown' : wm.ownsRow w.heap.size 37 2 (.slice (some ⟨w.heap.size + 1, 0, none⟩) 0 3) 0 [] := by simpa using hown
    exact ⟨[], _, _, OwnEW.start ⟨hown', rfl, fun i hi => absurd hi (Nat.not_lt_zero _), fun i hi => absurd hi (Nat.not_lt_zero _)⟩, ((Below.refl _ _).alloc (Nat.le_refl _) _).grown hgrow (by simp) (fun k hk => by cases hk)⟩)
  clear hown hgrow hrng
  go_loopw [3, 8] (fun u i wr => ∃ (k : Nat) (ps : List (Value × Int)) (lo hi : Nat → Nat), k ≤ 3 ∧ i = .int .i64 k ∧ Hid (OwnEW w.heap.size wr u (E.take k) ps lo hi ∧ Below w.heap.size w wr)) (fun _ i _ => 3 - (intOf i).toNat)
  case atStart =>
    obtain ⟨ps, lo, hi, h⟩ := HS.out
    exact ⟨0, ps, lo, hi, Nat.zero_le _, rfl, Lib.hid h⟩
  case round =>
    obtain ⟨k, ps, lo, hi, hk, rfl, HO⟩ := hrel
    by_cases hlt : k < 3
    · have hlt' : (k : Int) < 3 := by omega
      obtain ⟨ua, un, uc, rfl⟩ : ∃ a n c, u3 = .slice a n c := by
        obtain ⟨a, c, e, _⟩ := HO.out.1.e.es
        exact ⟨_, _, _, e⟩
      obtain ⟨y, hy⟩ : ∃ y, y = E.getD k ez := ⟨_, rfl⟩
      have hix : ∀ W, (Instr.index 50 (.agg L.toArray) (.int .i64 k)).run Tryz.prog W = .ok (.agg #[.map (some (bs k)), .int .i64 y.t]) W := fun W => by
        rw [HIX.out k hlt W, HLE.out, hy]
        rcases (by omega : k = 0 ∨ k = 1 ∨ k = 2) with rfl | rfl | rfl <;> rfl
      have HY := Lib.hid hy
      have HTK : Hid ((E.take k).length = k) := Lib.hid (by rw [List.length_take]; have := HN.out; omega)
      obtain ⟨w4, hw4⟩ : ∃ w4, w4 = wr.alloc (.cells #[.map (some (bs k)), .int .i64 y.t] 48) := ⟨_, rfl⟩
      have HB4 : Hid (Below wr.heap.size wr w4) := Lib.hid (by rw [hw4]; exact (Below.refl _ _).alloc (Nat.le_refl _) _)
      have HW4S : Hid (wr.heap.size < w4.heap.size) := Lib.hid (by rw [hw4]; simp)
      have HKC : Hid (∀ Q, Below w4.heap.size w4 Q → Q.cell? ⟨wr.heap.size, 0, none⟩ = some (.map (some (bs k))) ∧ Q.cell? ⟨wr.heap.size, 1, none⟩ = some (.int .i64 y.t)) := Lib.hid (fun Q hQ =>
        ⟨(hQ.cell (p := ⟨wr.heap.size, 0, none⟩) HW4S.out).trans (by rw [hw4]; exact new_cell rfl), (hQ.cell (p := ⟨wr.heap.size, 1, none⟩) HW4S.out).trans (by rw [hw4]; exact new_cell rfl)⟩)
      have HCL : Hid (∀ Q, Below w4.heap.size w4 Q → Calls Tryz.prog 43 #[.map (some (bs k))] Q (NewS y.r Q)) := Lib.hid (fun Q hQ => by
        rw [HY.out]
        exact hL Q (bs k) _ ((HRR.out k hlt).2.below ((HO.out.2.trans (HB4.out.mono HO.out.2.size)).trans (hQ.mono (by have h1 := HO.out.2.size; have h2 := HB4.out.size; omega)))) (HRR.out k hlt).1)
      unfold NewS at HCL
      have HFR : Hid (∀ (Q : World) (l h' : Nat) (rv : Value), StrsW Q l h' rv y.r → w4.heap.size ≤ l → ∀ {W2 : World}, h' ≤ W2.heap.size → ∀ g, rv.ownBlock = some g → y.r.length ≠ 0 → g < W2.heap.size ∧ (Value.slice ua un uc).ownBlock ≠ some g) := Lib.hid (fun Q l h' rv hs hl W2 hw g hg hz => by
        obtain ⟨h1, h2⟩ := hs.own g hg hz
        have h3 := HB4.out.size
        exact ⟨by omega, fun e => by have := (HO.out.1.e.own.lt g e).2; omega⟩)
      have HW4 := Lib.hid hw4
      clear hw4 hy
      go_wp2_with fail
      rw [← HW4.out]
      try go_wp2_with fail
      refine wp_region_held_drew (S := fun w' => w'.cell? ⟨wr.heap.size, 0, none⟩ = some (.map (some (bs k))) ∧ w'.cell? ⟨wr.heap.size, 1, none⟩ = some (.int .i64 y.t)) (by kernel_rfl) (HKC.out _ (Below.refl _ _).drew) (fun hHeld => ?_)
      refine anyH_gen _ (fun wz hgen => ?_)
      have HBz : Hid (Below w4.heap.size w4 wz) := Lib.hid (by rw [hgen]; exact (Below.refl _ _).drew)
      rw [← hgen] at hHeld
      clear hgen
      refine wpAnyH_take (i := 0) (oi := { dst := some 11, op := .move (.tmp 3), type := _, pos := _, after := _, guard := none }) (v := .slice ua un uc) rfl (by kernel_rfl) (by kernel_rfl) (by kernel_rfl) (fun _ _ _ h => h) (Or.inl ⟨by rfl, fun wh hSw => ?_⟩) hHeld ?_
      · (obtain ⟨k0, k1⟩ := hSw; go_simp)
      try simp only [Act.put, List.setIfInBounds_toArray, List.set_cons_zero, List.set_cons_succ]
      refine wpAnyH_take (i := 1) (oi := { dst := some 12, op := .fieldAddr 48 (.tmp 5) 0, type := _, pos := _, after := _, guard := none }) (v := .pointer (some ⟨wr.heap.size, 0, none⟩)) rfl (by kernel_rfl) (by kernel_rfl) (by kernel_rfl) (fun _ _ _ h => h) (Or.inl ⟨by rfl, fun wh hSw => ?_⟩) hHeld ?_
      · (obtain ⟨k0, k1⟩ := hSw; go_simp)
      try simp only [Act.put, List.setIfInBounds_toArray, List.set_cons_zero, List.set_cons_succ]
      refine wpAnyH_take (i := 2) (oi := { dst := some 13, op := .load 46 (.tmp 12), type := _, pos := _, after := _, guard := none }) (v := .map (some (bs k))) rfl (by kernel_rfl) (by kernel_rfl) (by kernel_rfl) (fun _ _ _ h => h) (Or.inl ⟨by rfl, fun wh hSw => ?_⟩) hHeld ?_
      · (obtain ⟨k0, k1⟩ := hSw; go_simp)
      try simp only [Act.put, List.setIfInBounds_toArray, List.set_cons_zero, List.set_cons_succ]
      refine wpAnyH_take (i := 4) (oi := { dst := some 15, op := .fieldAddr 48 (.tmp 5) 1, type := _, pos := _, after := _, guard := none }) (v := .pointer (some ⟨wr.heap.size, 0 + 1, none⟩)) rfl (by kernel_rfl) (by kernel_rfl) (by kernel_rfl) (fun _ _ _ h => h) (Or.inl ⟨by rfl, fun wh hSw => ?_⟩) hHeld ?_
      · (obtain ⟨k0, k1⟩ := hSw; go_simp)
      try simp only [Act.put, List.setIfInBounds_toArray, List.set_cons_zero, List.set_cons_succ]
      refine wpAnyH_take (i := 5) (oi := { dst := some 16, op := .load 3 (.tmp 15), type := _, pos := _, after := _, guard := none }) (v := .int .i64 y.t) rfl (by kernel_rfl) (by kernel_rfl) (by kernel_rfl) (fun _ _ _ h => h) (Or.inl ⟨by rfl, fun wh hSw => ?_⟩) hHeld ?_
      · (obtain ⟨k0, k1⟩ := hSw; go_simp)
      try simp only [Act.put, List.setIfInBounds_toArray, List.set_cons_zero, List.set_cons_succ]
      refine wpAnyH_ready (rs := [3]) (by kernel_rfl) (by simp) ?_
      refine AllReadyH.cons (o := { dst := some 14, op := .call { callee := .value (.func 43), args := #[.tmp 13], argTypes := #[46] }, type := _, pos := _, after := _, guard := none }) rfl (fun K hK => ?_) AllReadyH.nil
      go_simp
      refine (HCL.out wz HBz.out).mono ?_
      rintro _ W1 ⟨rv, rfl, hs, hb⟩
      obtain ⟨sa, sn, sc, rfl⟩ : ∃ a n c, rv = .slice a n c := by
        obtain ⟨a, c, e, _⟩ := hs
        exact ⟨_, _, _, e⟩
      have HS1 := Lib.hid hs
      have HZ1b := Lib.hid hb
      have HB1 := Lib.hid (HBz.out.trans (hb.mono HBz.out.size))
      clear hs hb
      try go_simp
      refine hK.out _ _ ?_ (fun hHeld => ?_)
      · exact HKC.out _ HB1.out
      clear hK K
      try simp only [Act.put, List.setIfInBounds_toArray, List.set_cons_zero, List.set_cons_succ]
      refine wpAnyH_take (i := 6) (oi := { dst := some 17, op := .build 37 #[(0, .tmp 14), (1, .tmp 16)], type := _, pos := _, after := _, guard := none }) (v := .agg #[.slice sa sn sc, .int .i64 y.t]) rfl (by kernel_rfl) (by kernel_rfl) (by kernel_rfl) (fun _ _ _ h => h) (Or.inl ⟨by rfl, fun wh hSw => ?_⟩) hHeld ?_
      · (obtain ⟨k0, k1⟩ := hSw; go_simp)
      try simp only [Act.put, List.setIfInBounds_toArray, List.set_cons_zero, List.set_cons_succ]
      refine wpAnyH_ready (rs := [7]) (by kernel_rfl) (by simp) ?_
      refine AllReadyH.cons (o := { dst := some 18, op := .buildSlice 27 1 #[(0, .tmp 17)], type := _, pos := _, after := _, guard := none }) rfl (fun K hK => ?_) AllReadyH.nil
      go_simp
      obtain ⟨W2, hW⟩ : ∃ W2, W2 = W1.alloc (.cells #[.slice sa sn sc, .int .i64 y.t] 37) := ⟨_, rfl⟩
      have HC2 : Hid (W2.cell? ⟨W1.heap.size, 0, none⟩ = some (.slice sa sn sc) ∧ W2.cell? ⟨W1.heap.size, 1, none⟩ = some (.int .i64 y.t) ∧ Below W1.heap.size W1 W2) := Lib.hid (by rw [hW]; exact ⟨new_cell rfl, new_cell rfl, (Below.refl _ _).alloc (Nat.le_refl _) _⟩)
      have HB2 := Lib.hid (HB1.out.trans (HC2.out.2.2.mono HB1.out.size))
      have HW := Lib.hid hW
      clear hW
      go_simp
      rw [← HW.out]
      clear HW
      refine hK.out _ _ ?_ (fun hHeld => ?_)
      · exact HKC.out _ HB2.out
      clear hK K
      try simp only [Act.put, List.setIfInBounds_toArray, List.set_cons_zero, List.set_cons_succ]
      refine wpAnyH_ready (rs := [8]) (by kernel_rfl) (by simp) ?_
      refine AllReadyH.cons (o := { dst := some 19, op := .call { callee := .builtin .append, args := #[.tmp 11, .tmp 18], argTypes := #[27, 27] }, type := _, pos := _, after := _, guard := none }) rfl (fun K hK => ?_) AllReadyH.nil
      have HO2 := Lib.hid ((HO.out.1.go HB4.out).go HB2.out)
      refine wp_append_es1 (.tmp 11) (.tmp 18) w.heap.size _ _ ps rfl HO2.out.e (by have h1 := HO.out.2.size; have h2 := HB4.out.size; have h3 := HB2.out.size; omega) _ (.slice sa sn sc) y rfl HC2.out.1 HC2.out.2.1 (HS1.out.below HC2.out.2.2 (Nat.le_refl _)).strs (fun g hg hz => HFR.out _ _ _ _ HS1.out (by have h2 := HBz.out.size; exact h2) HC2.out.2.2.size g hg hz) (by rw [HTK.out]; omega) ?_
      intro v' W3 he hg g5
      obtain ⟨ta, tn, tc, rfl⟩ : ∃ a n c, v' = .slice a n c := by
        obtain ⟨a, c, e, _⟩ := he.es
        exact ⟨_, _, _, e⟩
      have HF : Hid (OwnEW w.heap.size W3 (.slice ta tn tc) (E.take (k + 1)) (ps ++ [(.slice sa sn sc, y.t)]) (updF lo (E.take k).length wz.heap.size) (updF hi (E.take k).length W1.heap.size) ∧ Below w.heap.size w W3) := Lib.hid (by
        have h0 := HO.out.2.size
        have h1 := HB4.out.size
        have h2 := HBz.out.size
        have h3 := HZ1b.out.size
        have h4 := HC2.out.2.2.size
        have hbel : Below w.heap.size w W2 := (HO.out.2.trans (HB4.out.mono h0)).trans (HB2.out.mono (by omega))
        rw [take_snoc_getD E k ez (by have := HN.out; omega), ← HY.out]
        exact ⟨HO2.out.put hg he g5 (HS1.out.below HC2.out.2.2 (Nat.le_refl _)) (by omega) h4 (fun i hi' => by have := (HO.out.1.rw i hi').2.1; omega) (fun g e => .inl (by have := (HO.out.1.e.own.lt g e).2; omega)), hbel.grown hg (by omega) (fun g e => (HO.out.1.e.own.lt g e).1)⟩)
      have HS3 : Hid (W3.cell? ⟨wr.heap.size, 0, none⟩ = some (.map (some (bs k))) ∧ W3.cell? ⟨wr.heap.size, 1, none⟩ = some (.int .i64 y.t)) := Lib.hid (by
        have hne : some wr.heap.size ≠ (Value.slice ua un uc).ownBlock := fun e => Nat.lt_irrefl _ (HO.out.1.e.own.lt _ e.symm).2
        have hlt4 : wr.heap.size < W2.heap.size := by have h1 := HW4S.out; have h3 := HB2.out.size; omega
        have hbk := hg.block _ hlt4 hne
        obtain ⟨k0, k1⟩ := HKC.out _ HB2.out
        exact ⟨(World.cell?_of_block hbk).trans k0, (World.cell?_of_block hbk).trans k1⟩)
      clear he hg g5
      refine hK.out _ _ ?_ (fun hHeld => ?_)
      · exact HS3.out
      clear hK K
      try simp only [Act.put, List.setIfInBounds_toArray, List.set_cons_zero, List.set_cons_succ]
      refine wpAnyH_take (i := 9) (oi := { dst := some 3, op := .assign (.tmp 19), type := _, pos := _, after := _, guard := none }) (v := .slice ta tn tc) rfl (by kernel_rfl) (by kernel_rfl) (by kernel_rfl) (fun _ _ _ h => h) (Or.inl ⟨by rfl, fun wh hSw => ?_⟩) hHeld ?_
      · (obtain ⟨k0, k1⟩ := hSw; go_simp)
      try simp only [Act.put, List.setIfInBounds_toArray, List.set_cons_zero, List.set_cons_succ]
      refine wpAnyH_done (by kernel_rfl) ?_ _
      go_wp2_with fail
      go_roundw
      case rel => exact ⟨k + 1, _, _, _, by omega, by go_num, HF⟩
      case measure => simp [intOf]; omega
    · have e : k = 3 := by omega
      rw [e] at HO
      have hge : ¬ (k : Int) < 3 := by omega
      go_wp2_with fail
      rw [HR0.out]
      have htk : E.take 3 = E := by rw [← HN.out, List.take_length]
      refine ⟨_, rfl, ?_, HO.out.2⟩
      have := HO.out.1.esW
      rwa [htk] at this
end Go.Proofs.YthfdkenidfnmgaaGreat
namespace Go.Proofs.YthfdkenidfnmgaaGreat
open Go.Shelf
set_option maxRecDepth 100000
def layKeysT_ren : Go.Shelf.Ren := ⟨fun | 7 => 66 | 10 => 82 | n => n,
  fun | 23 => 46 | 26 => 9 | 3 => 4 | 28 => 129 | 0 => 0 | 27 => 128 | 33 => 93 | 4 => 4 | n => n,
  fun n => n⟩
theorem layKeysT : SlLaysZ.n7 Tryz.prog layKeysT_ren := {
  mixed := by kernel_rfl,
  f7 := ⟨Tryz.f66.name, by decide, Tryz.func66.trans (congrArg some (by kernel_rfl))⟩,
  f10 := ⟨Tryz.f82.name, by decide, Tryz.func82.trans (congrArg some (by kernel_rfl))⟩,
  t0 := Tryz.underlying0,
  a0 := Tryz.isAgg0,
  z0 := Tryz.sizeOf0,
  v0 := Tryz.zeroValue0,
  t4 := Tryz.underlying4,
  a4 := Tryz.isAgg4,
  z4 := Tryz.sizeOf4,
  v4 := Tryz.zeroValue4,
  t23 := Tryz.underlying46,
  a23 := Tryz.isAgg46,
  z23 := Tryz.sizeOf46,
  v23 := Tryz.zeroValue46,
  t26 := Tryz.underlying9,
  a26 := Tryz.isAgg9,
  z26 := Tryz.sizeOf9,
  v26 := Tryz.zeroValue9,
  t27 := Tryz.underlying128,
  a27 := Tryz.isAgg128,
  z27 := Tryz.sizeOf128,
  v27 := Tryz.zeroValue128,
  t28 := Tryz.underlying129,
  a28 := Tryz.isAgg129,
  z28 := Tryz.sizeOf129,
  v28 := Tryz.zeroValue129,
  t33 := Tryz.underlying93,
  a33 := Tryz.isAgg93,
  z33 := Tryz.sizeOf93,
  v33 := Tryz.zeroValue93 }
def laySortedT_ren : Go.Shelf.Ren := ⟨fun | 6 => 65 | 8 => 80 | 9 => 81 | 11 => 95 | 13 => 97 | 12 => 96 | 23 => 114 | 24 => 115 | 14 => 105 | 15 => 106 | 16 => 107 | 17 => 108 | 18 => 109 | 19 => 110 | 20 => 111 | 21 => 112 | 22 => 113 | 25 => 119 | 26 => 120 | 27 => 121 | 28 => 122 | 29 => 123 | 30 => 124 | 31 => 126 | n => n,
  fun | 26 => 9 | 28 => 129 | 24 => 35 | 0 => 0 | 3 => 3 | 37 => 168 | 48 => 178 | 50 => 180 | 4 => 4 | 40 => 171 | 39 => 170 | 45 => 142 | 5 => 5 | 9 => 9 | 51 => 182 | 55 => 186 | 57 => 189 | 58 => 190 | 33 => 93 | n => n,
  fun n => n⟩
theorem laySortedT : SlLaysZ.n6 Tryz.prog laySortedT_ren := {
  mixed := by kernel_rfl,
  f6 := ⟨Tryz.f65.name, by decide, Tryz.func65.trans (congrArg some (by kernel_rfl))⟩,
  f8 := ⟨Tryz.f80.name, by decide, Tryz.func80.trans (congrArg some (by kernel_rfl))⟩,
  f11 := ⟨Tryz.f95.name, by decide, Tryz.func95.trans (congrArg some (by kernel_rfl))⟩,
  t0 := Tryz.underlying0,
  a0 := Tryz.isAgg0,
  z0 := Tryz.sizeOf0,
  v0 := Tryz.zeroValue0,
  t24 := Tryz.underlying35,
  a24 := Tryz.isAgg35,
  z24 := Tryz.sizeOf35,
  v24 := Tryz.zeroValue35,
  t26 := Tryz.underlying9,
  a26 := Tryz.isAgg9,
  z26 := Tryz.sizeOf9,
  v26 := Tryz.zeroValue9,
  t28 := Tryz.underlying129,
  a28 := Tryz.isAgg129,
  z28 := Tryz.sizeOf129,
  v28 := Tryz.zeroValue129,
  i26 := by kernel_rfl }
def laySortT_ren : Go.Shelf.Ren := ⟨fun | 6 => 81 | 8 => 97 | 9 => 96 | 19 => 114 | 20 => 115 | 21 => 105 | 22 => 106 | 23 => 107 | 24 => 108 | 25 => 109 | 26 => 110 | 27 => 111 | 28 => 112 | 29 => 113 | 36 => 119 | 31 => 120 | 32 => 121 | 37 => 122 | 38 => 123 | 39 => 124 | 41 => 126 | n => n,
  fun | 27 => 35 | 29 => 9 | 3 => 3 | 32 => 168 | 26 => 35 | 0 => 0 | 44 => 178 | 46 => 180 | 4 => 4 | 36 => 171 | 35 => 170 | 41 => 142 | 5 => 5 | 9 => 9 | 53 => 182 | 57 => 186 | 63 => 189 | 64 => 190 | n => n,
  fun n => n⟩
theorem laySortT : SlLaysM.n6 Tryz.prog laySortT_ren := {
  mixed := by kernel_rfl,
  f6 := ⟨Tryz.f81.name, by decide, Tryz.func81.trans (congrArg some (by kernel_rfl))⟩,
  f8 := Tryz.func97.trans (congrArg some (by kernel_rfl)),
  f9 := ⟨Tryz.f96.name, by decide, Tryz.func96.trans (congrArg some (by kernel_rfl))⟩,
  f19 := Tryz.func114.trans (congrArg some (by kernel_rfl)),
  f20 := Tryz.func115.trans (congrArg some (by kernel_rfl)),
  f21 := ⟨Tryz.f105.name, by decide, Tryz.func105.trans (congrArg some (by kernel_rfl))⟩,
  f22 := ⟨Tryz.f106.name, by decide, Tryz.func106.trans (congrArg some (by kernel_rfl))⟩,
  f23 := ⟨Tryz.f107.name, by decide, Tryz.func107.trans (congrArg some (by kernel_rfl))⟩,
  f24 := ⟨Tryz.f108.name, by decide, Tryz.func108.trans (congrArg some (by kernel_rfl))⟩,
  f25 := ⟨Tryz.f109.name, by decide, Tryz.func109.trans (congrArg some (by kernel_rfl))⟩,
  f26 := ⟨Tryz.f110.name, by decide, Tryz.func110.trans (congrArg some (by kernel_rfl))⟩,
  f27 := ⟨Tryz.f111.name, by decide, Tryz.func111.trans (congrArg some (by kernel_rfl))⟩,
  f28 := ⟨Tryz.f112.name, by decide, Tryz.func112.trans (congrArg some (by kernel_rfl))⟩,
  f29 := ⟨Tryz.f113.name, by decide, Tryz.func113.trans (congrArg some (by kernel_rfl))⟩,
  f31 := Tryz.func120.trans (congrArg some (by kernel_rfl)),
  f32 := Tryz.func121.trans (congrArg some (by kernel_rfl)),
  f36 := ⟨Tryz.f119.name, by decide, Tryz.func119.trans (congrArg some (by kernel_rfl))⟩,
  f37 := ⟨Tryz.f122.name, by decide, Tryz.func122.trans (congrArg some (by kernel_rfl))⟩,
  f38 := ⟨Tryz.f123.name, by decide, Tryz.func123.trans (congrArg some (by kernel_rfl))⟩,
  f39 := ⟨Tryz.f124.name, by decide, Tryz.func124.trans (congrArg some (by kernel_rfl))⟩,
  f41 := ⟨Tryz.f126.name, by decide, Tryz.func126.trans (congrArg some (by kernel_rfl))⟩,
  t0 := Tryz.underlying0,
  a0 := Tryz.isAgg0,
  z0 := Tryz.sizeOf0,
  v0 := Tryz.zeroValue0,
  t3 := Tryz.underlying3,
  a3 := Tryz.isAgg3,
  z3 := Tryz.sizeOf3,
  v3 := Tryz.zeroValue3,
  t4 := Tryz.underlying4,
  a4 := Tryz.isAgg4,
  z4 := Tryz.sizeOf4,
  v4 := Tryz.zeroValue4,
  t5 := Tryz.underlying5,
  a5 := Tryz.isAgg5,
  z5 := Tryz.sizeOf5,
  v5 := Tryz.zeroValue5,
  t9 := Tryz.underlying9,
  a9 := Tryz.isAgg9,
  z9 := Tryz.sizeOf9,
  v9 := Tryz.zeroValue9,
  t26 := Tryz.underlying35,
  a26 := Tryz.isAgg35,
  z26 := Tryz.sizeOf35,
  v26 := Tryz.zeroValue35,
  t27 := Tryz.underlying35,
  a27 := Tryz.isAgg35,
  z27 := Tryz.sizeOf35,
  v27 := Tryz.zeroValue35,
  t29 := Tryz.underlying9,
  a29 := Tryz.isAgg9,
  z29 := Tryz.sizeOf9,
  v29 := Tryz.zeroValue9,
  t32 := Tryz.underlying168,
  a32 := Tryz.isAgg168,
  z32 := Tryz.sizeOf168,
  v32 := Tryz.zeroValue168,
  t35 := Tryz.underlying170,
  a35 := Tryz.isAgg170,
  z35 := Tryz.sizeOf170,
  v35 := Tryz.zeroValue170,
  t36 := Tryz.underlying171,
  a36 := Tryz.isAgg171,
  z36 := Tryz.sizeOf171,
  v36 := Tryz.zeroValue171,
  t41 := Tryz.underlying142,
  a41 := Tryz.isAgg142,
  z41 := Tryz.sizeOf142,
  v41 := Tryz.zeroValue142,
  t44 := Tryz.underlying178,
  a44 := Tryz.isAgg178,
  z44 := Tryz.sizeOf178,
  v44 := Tryz.zeroValue178,
  t46 := Tryz.underlying180,
  a46 := Tryz.isAgg180,
  z46 := Tryz.sizeOf180,
  v46 := Tryz.zeroValue180,
  t53 := Tryz.underlying182,
  a53 := Tryz.isAgg182,
  z53 := Tryz.sizeOf182,
  v53 := Tryz.zeroValue182,
  t57 := Tryz.underlying186,
  a57 := Tryz.isAgg186,
  z57 := Tryz.sizeOf186,
  v57 := Tryz.zeroValue186,
  t63 := Tryz.underlying189,
  a63 := Tryz.isAgg189,
  z63 := Tryz.sizeOf189,
  v63 := Tryz.zeroValue189,
  t64 := Tryz.underlying190,
  a64 := Tryz.isAgg190,
  z64 := Tryz.sizeOf190,
  v64 := Tryz.zeroValue190 }
end Go.Proofs.YthfdkenidfnmgaaGreat
namespace Go.Proofs.YthfdkenidfnmgaaGreat
open Go.ChangeShapes Go.WideShapes Go.ChangeAt Go.RowKit Go.Maps Go.Sort Go.Shelf
set_option linter.unusedVariables false
set_option linter.unusedSimpArgs false
set_option maxRecDepth 100000
theorem sortsS (m : Nat) : AnyZ.SortsIn Tryz.prog laySortedT_ren Fence.wide m :=
  ⟨fun blk off cap ss W hH hblk hsz => callsIn_wide.2 (AnyM.slices_Sort_string laySortT blk off cap ss W hH hblk hsz),
   fun p cap W => callsIn_wide.2 (AnyM.slices_Sort_string_none laySortT p cap W)⟩
theorem maps_Keys (mb : Option Nat) (W : World) : CallsIn Fence.wide 5 Tryz.prog 66 #[.map mb] W fun e w' => e = .returned (.func (.func 82) #[] #[.pointer (some ⟨W.heap.size, 0, none⟩)]) ∧ w' = W.alloc (.cells #[.map mb] 46) :=
  AnyZ.keys_in layKeysT Fence.wide 5 trivial rfl mb W
set_option maxHeartbeats 1000000 in
theorem sorted_Keys {H : Type} (b nn : Nat) (D0 : DataW H) (R : Value → Option (DataW H × List MemPlace)) (w : World) (hown : w.ownsMap Tryz.prog 9 R b nn D0) (hmax : Maps.size D0 ≤ maxLen) (hbytes : Maps.size D0 * 16 ≤ 140737488355328) :
    CallsIn Fence.wide 5 Tryz.prog 65 #[.func (.func 82) #[] #[.pointer (some ⟨w.heap.size, 0, none⟩)]] (w.alloc (.cells #[.map (some b)] 46)) fun e w' => ∃ (v : Value) (ss : List (List UInt8)), e = .returned v ∧ ss.Perm (strKeys D0) ∧
      w'.ownsRow (w.alloc (.cells #[.map (some b)] 46)).heap.size 9 1 v ss.length ((ss.mergeSort (fun x y => decide (x ≤ y))).map encStr) ∧ (v = .slice none 0 0 ↔ ss = []) ∧ Below (w.alloc (.cells #[.map (some b)] 46)).heap.size (w.alloc (.cells #[.map (some b)] 46)) w' := by
  have hbl := hown.lt
  have hseq : SeqGives Fence.wide 2 Tryz.prog 82 #[.pointer (some ⟨w.heap.size, 0, none⟩)] encStr (fun ss => ss.Perm (strKeys D0)) (Maps.size D0) (w.alloc (.cells #[.map (some b)] 46)) :=
    AnyZ.keys_gives (ρ := layKeysT_ren) { layKeysT with } Fence.wide _ trivial rfl (by omega) w.heap.size b nn D0 _ (by simp) (by simp) (by
      obtain ⟨es, clock, hb, Ft, hs, hD⟩ := hown
      exact ⟨es, clock, (Below.heap_alloc _ _ b hbl).trans hb, Ft, hs, hD⟩)
  exact AnyZ.sorted_in laySortedT Fence.wide 5 trivial trivial trivial trivial rfl (by omega) (sortsS _) (enters_of Tryz.func81 (by kernel_rfl) rfl) 82 #[.pointer (some ⟨w.heap.size, 0, none⟩)] trivial (enters_of Tryz.func82 (by kernel_rfl) rfl) _ _ hmax hbytes _ hseq
set_option maxHeartbeats 1000000 in
theorem setList_any (w : World) (b : Nat) (xs ys : List Bs) (h : SetAt w b xs) (hp : xs.Perm ys) (ha : Asc ys) (hl : ys.length ≤ 1000) :
    Calls Tryz.prog 43 #[.map (some b)] w (NewS ys w) := by
  obtain ⟨nn, D0, hnn, hown, hs⟩ := h.perm hp
  have hz := hs.size
  have hmax : Maps.size D0 ≤ maxLen := by unfold maxLen; omega
  have hbytes : Maps.size D0 * 16 ≤ 140737488355328 := by omega
  have HL := Lib.hid (fun ss hp => hs.sorted ha (ss := ss) hp)
  have HP := Lib.hid (perm_str hs)
  have HO := Lib.hid hown
  refine (callsIn_wide (n := 6)).1 ?_
  have hfK : Fence.wide.fn 66 := trivial
  have hfS : Fence.wide.fn 65 := trivial
  clear hs hz
  refine callsIn_of_wp Tryz.func43 rfl trivial ?_ rfl
  simp only [Tryz.ntmps43, List.size_toArray, List.length_cons, List.length_nil, Nat.reduceAdd, Nat.reduceSub, Array.replicate_succ, Array.replicate_zero, List.push_toArray, List.append_toArray, List.nil_append, List.cons_append]
  gi_wp2_with (first
    | (gi_at_call 66; refine (maps_Keys _ _).mono ?_; rintro e w' ⟨rfl, rfl⟩)
    | (gi_at_call 65; refine (sorted_Keys b nn D0 _ w HO.out hmax hbytes).mono ?_; rintro e w' ⟨v, ss, rfl, hS, hrow, hnil, hb⟩))
  go_ret
  have e1 := HL.out ss hS
  have e2 : ss.length = ys.length := (hS.trans HP.out).length_eq
  rw [e1, e2] at hrow
  have hb2 : Below w.heap.size w w' := ((Below.refl _ w).alloc (Nat.le_refl _) _).trans (hb.mono (by simp))
  refine ⟨v, rfl, ?_, hb2⟩
  exact StrsW.of_ownsRow (ownsRow_base_a hrow (by simp))
theorem isl_any (w : World) (b : Nat) (xs : List Bs) (h : SetAt w b xs) (hv : rvs xs = true) : Calls Tryz.prog 43 #[.map (some b)] w (NewS xs w) :=
  setList_any w b xs xs h (List.Perm.refl _) (rvs_asc hv) (by have := (rvs_iff.1 hv).2; omega)
end Go.Proofs.YthfdkenidfnmgaaGreat
namespace Go.Proofs.YthfdkenidfnmgaaGreat
open Go.ChangeShapes Go.WideShapes Go.ChangeAt Go.RowKit Go.Maps Go.Shelf
set_option linter.unusedVariables false
set_option linter.unusedSimpArgs false
set_option maxRecDepth 100000
def NewK (K : KV) (w : World) (e : Ending) (w' : World) : Prop :=
  ∃ (vm vi ve vc : Value) (B0 B1 B2 B3 B4 : Nat), e = .returned (kV vm vi ve vc) ∧ w.heap.size ≤ B0 ∧ B0 ≤ B1 ∧ B1 ≤ B2 ∧ B2 ≤ B3 ∧ B3 ≤ B4 ∧ B4 ≤ w'.heap.size ∧ KsW w' B0 B1 B2 B3 B4 vm vi ve vc K ∧ Below w.heap.size w w'
set_option maxHeartbeats 4000000 in
theorem state_any (w : World) (M : List (List Int)) (I : List IV) (E : List EV) (bs : Nat → Nat) (A : Nat → CV) (f c : Nat) (L : List Value) (h : KL w M I E bs (ringC A f c) L) (hv : ∀ j, j < 3 → rvs (E.getD j ez).r = true) (hf : f < 4) (hc : c ≤ 4) :
    Calls Tryz.prog 15 #[.agg L.toArray] w (NewK ⟨M, I, E, rlist A f c⟩ w) := by
  obtain ⟨R, HR0⟩ : ∃ R : Ending → World → Prop, Hid (R = NewK ⟨M, I, E, rlist A f c⟩ w) := ⟨_, Lib.hid rfl⟩
  rw [← HR0.out]
  obtain ⟨X, hX⟩ : ∃ X, X = w.heap.size := ⟨_, rfl⟩
  obtain ⟨W0, hW0⟩ : ∃ W0, W0 = (w.alloc (.cells L.toArray 67)).alloc (.cells #[sl0, sl0, sl0, sl0] 30) := ⟨_, rfl⟩
  have HB0 : Hid (Below w.heap.size w W0 ∧ X + 1 < W0.heap.size ∧ w.heap.size ≤ X) := Lib.hid (by rw [hW0, hX]; exact ⟨((Below.refl _ _).alloc (Nat.le_refl _) _).alloc (by simp) _, by simp, Nat.le_refl _⟩)
  have HK : Hid (KC W0 X M I E bs (ringC A f c) L) := Lib.hid ⟨h.below HB0.out.1, by
    rw [hW0, hX]
    have h1 := range_row (heap_alloc_new w (.cells L.toArray 67))
    exact range_blocks (by simpa using h1) (Below.heap_alloc _ _ _ (by simp))⟩
  have HKB : Hid (KB4 W0 (X + 1) sl0 sl0 sl0 sl0 ∧ W0.there (X + 1) 0 4) := Lib.hid (by
    have e : X + 1 = (w.alloc (.cells L.toArray 67)).heap.size := by rw [hX]; simp
    rw [hW0, e]
    exact ⟨KB4.new _ _ _ _ _ _, there_row (heap_alloc_new _ _) (Nat.le_refl _)⟩)
  have HC1 : Hid (∀ Q, Calls Tryz.prog 29 #[.agg (flatL M).toArray] Q (ToMat M Q)) := Lib.hid (fun Q => lists_any (mem_len h.m) (fun i hi => mem_row h.m hi))
  have HC2 : Hid (∀ Q, Calls Tryz.prog 30 #[.agg (isC I).toArray] Q (NewV I Q)) := Lib.hid (fun Q => ilist_any Q I (isok_len h.i))
  have HC3 : Hid (∀ Q, Below W0.heap.size W0 Q → Calls Tryz.prog 31 #[.agg (mapC (fun j => some (bs j)) (fun j => (E.getD j ez).t)).toArray] Q (NewE E Q)) := Lib.hid (fun Q hQ => envList_any isl_any Q E bs h.n (fun j hj => ⟨hv j hj, ((h.set j hj).below HB0.out.1).below hQ⟩))
  have HC4 : Hid (∀ Q, Calls Tryz.prog 32 #[ringV A f c] Q (NewC (rlist A f c) Q)) := Lib.hid (fun Q => ringList_any Q A f c hf hc)
  unfold ToMat at HC1
  unfold NewV at HC2
  unfold NewE at HC3
  unfold NewC at HC4
  obtain ⟨LM, hLM⟩ : ∃ LM, LM = flatL M := ⟨_, rfl⟩
  obtain ⟨LI, hLI⟩ : ∃ LI, LI = isC I := ⟨_, rfl⟩
  obtain ⟨LE, hLE⟩ : ∃ LE, LE = mapC (fun j => some (bs j)) (fun j => (E.getD j ez).t) := ⟨_, rfl⟩
  obtain ⟨LR, hLR⟩ : ∃ LR, LR = ringC A f c := ⟨_, rfl⟩
  have HLEN : Hid (LM.length = 48 ∧ LI.length = 36 ∧ LE.length = 6 ∧ LR.length = 18) := Lib.hid (by rw [hLM, hLI, hLE, hLR]; exact ⟨flat_len h.m, isC_36 (isok_len h.i), rfl, rfl⟩)
  have HRG : Hid (∀ Q, Below W0.heap.size W0 Q → Q.rangeAt X 0 LM ∧ Q.rangeAt X 48 LI ∧ Q.rangeAt X 84 LE ∧ Q.rangeAt X 90 LR) := Lib.hid (fun Q hQ => by
    have hk := HK.out.below hQ
    rw [hLM, hLI, hLE, hLR]
    exact ⟨hk.mem, hk.inf, hk.env, hk.ring⟩)
  have e4 : ringV A f c = .agg LR.toArray := by subst hLR; rfl
  rw [e4] at HC4
  rw [← hLM] at HC1
  rw [← hLI] at HC2
  rw [← hLE] at HC3
  have HW0 := Lib.hid hW0
  have HX := Lib.hid hX
  clear e4 hLM hLI hLE hLR h hv hf hc hW0 hX
  go_enter Tryz.func15, Tryz.ntmps15
  go_wp2_with (first
    | ((with_reducible refine box_is 67 (.tmp 0) ?_); refine box_arr 67 (.tmp 0) L.toArray rfl ?_))
  rw [← HX.out, ← HW0.out]
  refine wp_region_held_drew (S := fun w' => w'.rangeAt X 0 LM ∧ w'.rangeAt X 48 LI ∧ w'.rangeAt X 84 LE ∧ w'.rangeAt X 90 LR) (by kernel_rfl) (HRG.out _ (Below.refl _ _).drew) (fun hHeld => ?_)
  refine anyH_gen _ (fun wz hgen => ?_)
  have HBz : Hid (Below W0.heap.size W0 wz) := Lib.hid (by rw [hgen]; exact (Below.refl _ _).drew)
  rw [← hgen] at hHeld
  clear hgen
  have HAA : Hid (∀ Q, Below W0.heap.size W0 Q → Q.rangeAt X 0 LM ∧ Q.rangeAt X 48 LI ∧ Q.rangeAt X 84 LE ∧ Q.rangeAt X 90 LR) := HRG
  refine wpAnyH_take (i := 0) (oi := { dst := some 3, op := .fieldAddr 67 (.tmp 1) 0, type := _, pos := _, after := _, guard := none }) (v := .pointer (some ⟨X, 0, none⟩)) rfl (by kernel_rfl) (by kernel_rfl) (by kernel_rfl) (fun _ _ _ h => h) (Or.inl ⟨by rfl, fun wh hSw => ?_⟩) hHeld ?_
  · (dsimp only at hSw; go_simp)
  try simp only [Act.put, List.setIfInBounds_toArray, List.set_cons_zero, List.set_cons_succ]
  refine wpAnyH_take (i := 1) (oi := { dst := some 4, op := .load 56 (.tmp 3), type := _, pos := _, after := _, guard := none }) (v := .agg LM.toArray) rfl (by kernel_rfl) (by kernel_rfl) (by kernel_rfl) (fun _ _ _ h => h) (Or.inl ⟨by rfl, fun wh hSw => ?_⟩) hHeld ?_
  · (exact load_run 56 X 0 LM _ hSw.1 Tryz.underlying56 rfl (info_mem HLEN.out.1))
  try simp only [Act.put, List.setIfInBounds_toArray, List.set_cons_zero, List.set_cons_succ]
  refine wpAnyH_take (i := 3) (oi := { dst := some 6, op := .fieldAddr 67 (.tmp 1) 1, type := _, pos := _, after := _, guard := none }) (v := .pointer (some ⟨X, 48, none⟩)) rfl (by kernel_rfl) (by kernel_rfl) (by kernel_rfl) (fun _ _ _ h => h) (Or.inl ⟨by rfl, fun wh hSw => ?_⟩) hHeld ?_
  · (dsimp only at hSw; go_simp)
  try simp only [Act.put, List.setIfInBounds_toArray, List.set_cons_zero, List.set_cons_succ]
  refine wpAnyH_take (i := 4) (oi := { dst := some 7, op := .load 60 (.tmp 6), type := _, pos := _, after := _, guard := none }) (v := .agg LI.toArray) rfl (by kernel_rfl) (by kernel_rfl) (by kernel_rfl) (fun _ _ _ h => h) (Or.inl ⟨by rfl, fun wh hSw => ?_⟩) hHeld ?_
  · (exact load_run 60 X 48 LI _ hSw.2.1 Tryz.underlying60 rfl (info_infos HLEN.out.2.1))
  try simp only [Act.put, List.setIfInBounds_toArray, List.set_cons_zero, List.set_cons_succ]
  refine wpAnyH_take (i := 6) (oi := { dst := some 9, op := .fieldAddr 67 (.tmp 1) 2, type := _, pos := _, after := _, guard := none }) (v := .pointer (some ⟨X, 84, none⟩)) rfl (by kernel_rfl) (by kernel_rfl) (by kernel_rfl) (fun _ _ _ h => h) (Or.inl ⟨by rfl, fun wh hSw => ?_⟩) hHeld ?_
  · (dsimp only at hSw; go_simp)
  try simp only [Act.put, List.setIfInBounds_toArray, List.set_cons_zero, List.set_cons_succ]
  refine wpAnyH_take (i := 7) (oi := { dst := some 10, op := .load 50 (.tmp 9), type := _, pos := _, after := _, guard := none }) (v := .agg LE.toArray) rfl (by kernel_rfl) (by kernel_rfl) (by kernel_rfl) (fun _ _ _ h => h) (Or.inl ⟨by rfl, fun wh hSw => ?_⟩) hHeld ?_
  · (exact load_run 50 X 84 LE _ hSw.2.2.1 Tryz.underlying50 rfl (info_envs HLEN.out.2.2.1))
  try simp only [Act.put, List.setIfInBounds_toArray, List.set_cons_zero, List.set_cons_succ]
  refine wpAnyH_take (i := 9) (oi := { dst := some 12, op := .fieldAddr 67 (.tmp 1) 3, type := _, pos := _, after := _, guard := none }) (v := .pointer (some ⟨X, 90, none⟩)) rfl (by kernel_rfl) (by kernel_rfl) (by kernel_rfl) (fun _ _ _ h => h) (Or.inl ⟨by rfl, fun wh hSw => ?_⟩) hHeld ?_
  · (dsimp only at hSw; go_simp)
  try simp only [Act.put, List.setIfInBounds_toArray, List.set_cons_zero, List.set_cons_succ]
  refine wpAnyH_take (i := 10) (oi := { dst := some 13, op := .load 65 (.tmp 12), type := _, pos := _, after := _, guard := none }) (v := .agg LR.toArray) rfl (by kernel_rfl) (by kernel_rfl) (by kernel_rfl) (fun _ _ _ h => h) (Or.inl ⟨by rfl, fun wh hSw => ?_⟩) hHeld ?_
  · (exact load_run 65 X 90 LR _ hSw.2.2.2 Tryz.underlying65 rfl (ring_info HLEN.out.2.2.2))
  try simp only [Act.put, List.setIfInBounds_toArray, List.set_cons_zero, List.set_cons_succ]
  refine wpAnyH_ready (rs := [2]) (by kernel_rfl) (by simp) ?_
  refine AllReadyH.cons (o := { dst := some 5, op := .call { callee := .value (.func 29), args := #[.tmp 4], argTypes := #[56] }, type := _, pos := _, after := _, guard := none }) rfl (fun K hK => ?_) AllReadyH.nil
  go_simp
  refine (HC1.out wz).mono ?_
  rintro _ W1 ⟨vm, rfl, hs, hb⟩
  obtain ⟨ma, mn, mc, rfl⟩ : ∃ a n c, vm = .slice a n c := by
    obtain ⟨a, cap, A, C, e, _⟩ := hs
    exact ⟨_, _, _, e⟩
  have HSm := Lib.hid hs
  have HBm : Hid (Below wz.heap.size wz W1) := Lib.hid hb
  have HAm : Hid (Below W0.heap.size W0 W1) := Lib.hid (HBz.out.trans (HBm.out.mono HBz.out.size))
  clear hs hb
  try go_simp
  refine hK.out _ _ ?_ (fun hHeld => ?_)
  · exact HAA.out _ HAm.out
  clear hK K
  try simp only [Act.put, List.setIfInBounds_toArray, List.set_cons_zero, List.set_cons_succ]
  refine wpAnyH_ready (rs := [5]) (by kernel_rfl) (by simp) ?_
  refine AllReadyH.cons (o := { dst := some 8, op := .call { callee := .value (.func 30), args := #[.tmp 7], argTypes := #[60] }, type := _, pos := _, after := _, guard := none }) rfl (fun K hK => ?_) AllReadyH.nil
  go_simp
  refine (HC2.out W1).mono ?_
  rintro _ W2 ⟨vi, rfl, hs, hb⟩
  obtain ⟨ia, in_, ic, rfl⟩ : ∃ a n c, vi = .slice a n c := by
    obtain ⟨a, cap, e, _⟩ := hs
    exact ⟨_, _, _, e⟩
  have HSi := Lib.hid hs
  have HBi : Hid (Below W1.heap.size W1 W2) := Lib.hid hb
  have HAi : Hid (Below W0.heap.size W0 W2) := Lib.hid (HAm.out.trans (HBi.out.mono HAm.out.size))
  clear hs hb
  try go_simp
  refine hK.out _ _ ?_ (fun hHeld => ?_)
  · exact HAA.out _ HAi.out
  clear hK K
  try simp only [Act.put, List.setIfInBounds_toArray, List.set_cons_zero, List.set_cons_succ]
  refine wpAnyH_ready (rs := [8]) (by kernel_rfl) (by simp) ?_
  refine AllReadyH.cons (o := { dst := some 11, op := .call { callee := .value (.func 31), args := #[.tmp 10], argTypes := #[50] }, type := _, pos := _, after := _, guard := none }) rfl (fun K hK => ?_) AllReadyH.nil
  go_simp
  refine (HC3.out W2 HAi.out).mono ?_
  rintro _ W3 ⟨ve, rfl, hs, hb⟩
  obtain ⟨ea, en, ec, rfl⟩ : ∃ a n c, ve = .slice a n c := by
    obtain ⟨a, cap, A, C, e, _⟩ := hs
    exact ⟨_, _, _, e⟩
  have HSe := Lib.hid hs
  have HBe : Hid (Below W2.heap.size W2 W3) := Lib.hid hb
  have HAe : Hid (Below W0.heap.size W0 W3) := Lib.hid (HAi.out.trans (HBe.out.mono HAi.out.size))
  clear hs hb
  try go_simp
  refine hK.out _ _ ?_ (fun hHeld => ?_)
  · exact HAA.out _ HAe.out
  clear hK K
  try simp only [Act.put, List.setIfInBounds_toArray, List.set_cons_zero, List.set_cons_succ]
  refine wpAnyH_ready (rs := [11]) (by kernel_rfl) (by simp) ?_
  refine AllReadyH.cons (o := { dst := some 14, op := .call { callee := .value (.func 32), args := #[.tmp 13], argTypes := #[65] }, type := _, pos := _, after := _, guard := none }) rfl (fun K hK => ?_) AllReadyH.nil
  go_simp
  refine (HC4.out W3).mono ?_
  rintro _ W4 ⟨vc, rfl, hown⟩
  obtain ⟨ca, cn, cc, rfl⟩ : ∃ a n c, vc = .slice a n c := by
    obtain ⟨a, cap, e, _⟩ := CsW.of_own hown
    exact ⟨_, _, _, e⟩
  have HSc := Lib.hid (CsW.of_own hown)
  have HBc : Hid (Below W3.heap.size W3 W4) := Lib.hid hown.bel
  have HAc : Hid (Below W0.heap.size W0 W4) := Lib.hid (HAe.out.trans (HBc.out.mono HAe.out.size))
  clear hown
  try go_simp
  refine hK.out _ _ ?_ (fun hHeld => ?_)
  · exact HAA.out _ HAc.out
  clear hK K
  try simp only [Act.put, List.setIfInBounds_toArray, List.set_cons_zero, List.set_cons_succ]
  refine wpAnyH_take (i := 12) (oi := { dst := some 15, op := .build 30 #[(0, .tmp 5), (1, .tmp 8), (2, .tmp 11), (3, .tmp 14)], type := _, pos := _, after := _, guard := none }) (v := .agg #[.slice ma mn mc, .slice ia in_ ic, .slice ea en ec, .slice ca cn cc]) rfl (by kernel_rfl) (by kernel_rfl) (by kernel_rfl) (fun _ _ _ h => h) (Or.inl ⟨by rfl, fun wh hSw => ?_⟩) hHeld ?_
  · (dsimp only at hSw; go_simp)
  try simp only [Act.put, List.setIfInBounds_toArray, List.set_cons_zero, List.set_cons_succ]
  refine wpAnyH_ready (rs := [13]) (by kernel_rfl) (by simp) ?_
  refine AllReadyH.cons (o := { dst := none, op := .store 30 (.tmp 2) (.tmp 15), type := _, pos := _, after := _, guard := none }) rfl (fun K hK => ?_) AllReadyH.nil
  go_simp
  have HXN : Hid (∀ a b c d, ((((W4.setCell ⟨X + 1, 0, none⟩ a).setCell ⟨X + 1, 1, none⟩ b).setCell ⟨X + 1, 2, none⟩ c).setCell ⟨X + 1, 3, none⟩ d).heap[X]? = W4.heap[X]?) := Lib.hid (fun a b c d => (grown_set4 W4 (X + 1) a b c d).block X (by have h1 := HAc.out.size; have h2 := HB0.out.2.1; omega) (fun e => by injection e with e; omega))
  obtain ⟨_, c0, c1, c2, c3⟩ := HKB.out.1.go HAc.out
  have htt := there_blocks HKB.out.2 (HAc.out.block (X + 1) HB0.out.2.1)
  have f0 := (htt 0 (by omega)).2
  have f1 := (htt 1 (by omega)).2
  have f2 := (htt 2 (by omega)).2
  have f3 := (htt 3 (by omega)).2
  simp only [Nat.zero_add] at f0 f1 f2 f3
  have HRA : Hid (World.rangeAt ((((W4.setCell ⟨X + 1, 0, none⟩ (.slice ma mn mc)).setCell ⟨X + 1, 1, none⟩ (.slice ia in_ ic)).setCell ⟨X + 1, 2, none⟩ (.slice ea en ec)).setCell ⟨X + 1, 3, none⟩ (.slice ca cn cc)) (X + 1) 0 [.slice ma mn mc, .slice ia in_ ic, .slice ea en ec, .slice ca cn cc]) := Lib.hid (World.rangeAt_setCells_same W4 (X + 1) 0 [.slice ma mn mc, .slice ia in_ ic, .slice ea en ec, .slice ca cn cc] htt)
  clear htt
  go_simp
  refine hK.out _ _ ?_ (fun hHeld => ?_)
  · exact ((HRG.out _ HAc.out).imp (fun h => range_blocks h (HXN.out _ _ _ _)) (fun h => ⟨range_blocks h.1 (HXN.out _ _ _ _), range_blocks h.2.1 (HXN.out _ _ _ _), range_blocks h.2.2 (HXN.out _ _ _ _)⟩))
  clear hK K
  try simp only [Act.put, List.setIfInBounds_toArray, List.set_cons_zero, List.set_cons_succ]
  refine wpAnyH_done (by kernel_rfl) ?_ _
  have HFIN : Hid (wz.heap.size ≤ W1.heap.size ∧ W1.heap.size ≤ W2.heap.size ∧ W2.heap.size ≤ W3.heap.size ∧ W3.heap.size ≤ W4.heap.size ∧ W4.heap.size ≤ ((((W4.setCell ⟨X + 1, 0, none⟩ (.slice ma mn mc)).setCell ⟨X + 1, 1, none⟩ (.slice ia in_ ic)).setCell ⟨X + 1, 2, none⟩ (.slice ea en ec)).setCell ⟨X + 1, 3, none⟩ (.slice ca cn cc)).heap.size ∧ KsW ((((W4.setCell ⟨X + 1, 0, none⟩ (.slice ma mn mc)).setCell ⟨X + 1, 1, none⟩ (.slice ia in_ ic)).setCell ⟨X + 1, 2, none⟩ (.slice ea en ec)).setCell ⟨X + 1, 3, none⟩ (.slice ca cn cc)) wz.heap.size W1.heap.size W2.heap.size W3.heap.size W4.heap.size (.slice ma mn mc) (.slice ia in_ ic) (.slice ea en ec) (.slice ca cn cc) ⟨M, I, E, rlist A f c⟩ ∧ Below w.heap.size w ((((W4.setCell ⟨X + 1, 0, none⟩ (.slice ma mn mc)).setCell ⟨X + 1, 1, none⟩ (.slice ia in_ ic)).setCell ⟨X + 1, 2, none⟩ (.slice ea en ec)).setCell ⟨X + 1, 3, none⟩ (.slice ca cn cc))) := Lib.hid (by
    have hg := grown_set4 W4 (X + 1) (.slice ma mn mc) (.slice ia in_ ic) (.slice ea en ec) (.slice ca cn cc)
    have z0 := HB0.out.2.1
    have z1 := HBz.out.size
    have z2 := HBm.out.size
    have z3 := HBi.out.size
    have z4 := HBe.out.size
    have z5 := HBc.out.size
    have hbl : ∀ b, wz.heap.size ≤ b → b < W4.heap.size → ((((W4.setCell ⟨X + 1, 0, none⟩ (.slice ma mn mc)).setCell ⟨X + 1, 1, none⟩ (.slice ia in_ ic)).setCell ⟨X + 1, 2, none⟩ (.slice ea en ec)).setCell ⟨X + 1, 3, none⟩ (.slice ca cn cc)).heap[b]? = W4.heap[b]? := fun b h0 h1 => hg.block b h1 (fun e => by injection e with e; omega)
    refine ⟨z2, z3, z4, z5, hg.size, ⟨?_, ?_, ?_, ?_⟩, ((HB0.out.1.trans (HAc.out.mono HB0.out.1.size))).grown hg (by have := HB0.out.1.size; omega) (fun k e => by injection e with e; have := HB0.out.2.2; omega)⟩
    · exact (((HSm.out.of_blocks (fun b _ h1 => HBi.out.block b (by omega))).of_blocks (fun b _ h1 => HBe.out.block b (by omega))).of_blocks (fun b _ h1 => HBc.out.block b (by omega))).of_blocks (fun b h0 h1 => hbl b (by omega) (by omega))
    · exact ((HSi.out.of_blocks (fun b _ h1 => HBe.out.block b (by omega))).of_blocks (fun b _ h1 => HBc.out.block b (by omega))).of_blocks (fun b h0 h1 => hbl b (by omega) (by omega))
    · exact (HSe.out.of_blocks (fun b _ h1 => HBc.out.block b (by omega))).of_blocks (fun b h0 h1 => hbl b (by omega) (by omega))
    · exact HSc.out.of_blocks (fun b h0 h1 => hbl b (by omega) (by omega)))
  go_wp2_with fail
  refine bodyPost_ret (results_one_mid rfl _ _ (X + 1) 0 [.slice ma mn mc, .slice ia in_ ic, .slice ea en ec, .slice ca cn cc] _ rfl HRA.out Tryz.underlying30 rfl (by kernel_rfl)) rfl ?_
  rw [HR0.out]
  exact ⟨(.slice ma mn mc), (.slice ia in_ ic), (.slice ea en ec), (.slice ca cn cc), wz.heap.size, _, _, _, _, rfl, by have h1 := HB0.out.1.size; have h2 := HBz.out.size; omega, HFIN.out.1, HFIN.out.2.1, HFIN.out.2.2.1, HFIN.out.2.2.2.1, HFIN.out.2.2.2.2.1, HFIN.out.2.2.2.2.2.1, HFIN.out.2.2.2.2.2.2⟩
end Go.Proofs.YthfdkenidfnmgaaGreat
namespace Go.Proofs.YthfdkenidfnmgaaGreat
open Go.ChangeShapes Go.WideShapes Go.ChangeAt Go.RowKit Go.Maps Go.Shelf
set_option linter.unusedVariables false
set_option linter.unusedSimpArgs false
set_option maxRecDepth 100000
theorem run_build_kernel_envs (C : List Value) (hC : C.length = 6) (w : World) : (Instr.build 67 #[(2, .agg C.toArray)]).run Tryz.prog w = .ok (.agg (Z84 ++ (C ++ ringC A0 0 0)).toArray) w := by
  have hb : ∀ Z : Value, Tryz.prog.built 67 [(2, Z)] = Instr.fill ((#[(0, 48), (48, 36), (84, 6), (90, 18)] : Array (Nat × Nat))[·]?) Z108.toArray [(2, Z)] := fun Z => by kernel_rfl
  refine run_build w _ _ _ ((hb _).trans ?_)
  rw [show Z108.toArray = (Z84 ++ (mapC (fun _ => none) (fun _ => 0) ++ ringC A0 0 0)).toArray from rfl, fill_step (p := Z84) (c := C) (s := 6) rfl rfl hC (by rw [hC, List.length_append]; show 6 ≤ 6 + 18; omega), hC]
  rw [Instr.fill, show (mapC (fun _ => none) (fun _ => 0) ++ ringC A0 0 0).drop 6 = ringC A0 0 0 from rfl, List.append_assoc]
theorem build_run1 {P : Program} {ops : Array Oper} {rest : List Oper} {a : Act} {w : World} {Q : Exit → Act → World → Prop} {dst : Option Nat} {tt : TypeId} {pos : String} {after : Array Edge} (t : TypeId) (i : Nat) (x : Operand) (vx : Value) (hx : a.eval x = vx)
    (z : Array Value) (hz : ∀ w, (Instr.build t #[(i, vx)]).run P w = .ok (.agg z) w)
    (h : wpList P ops Q rest (a.put dst (.agg z)) w) : wpList P ops Q ({ dst := dst, op := .build t #[(i, x)], type := tt, pos := pos, after := after, guard := none } :: rest) a w :=
  build_run t _ z (fun w => by
    have e : (#[(i, x)] : Array (Nat × Operand)).map (fun (i, x) => (i, a.eval x)) = #[(i, vx)] := by simp [hx]
    rw [e]; exact hz w) h
theorem Strs.own {w : World} {v : Value} {xs : List Bs} (h : Strs w v xs) : ∀ g, v.ownBlock = some g → xs.length ≠ 0 → g < w.heap.size := by
  obtain ⟨a, c, rfl, h1, h2, h3⟩ := h
  intro g hg hz
  obtain ⟨g', p, rfl, hc⟩ := h3 0 (by omega)
  injection hg with hg
  subst hg
  exact cell_lt hc
theorem envB_newE (rs : List (List Bs)) : envB (newE rs) = knewOk rs := by
  unfold envB newE knewOk
  rw [List.all_map, List.length_map]
  rfl
def NewKW (rs : List (List Bs)) (w : World) (e : Ending) (w' : World) : Prop :=
  ∃ v0 v1 v2 v3, e = .returned (.tuple #[kV v0 v1 v2 v3, .bool (knewOk rs)]) ∧ Ks w' v0 v1 v2 v3 (knew rs) ∧ Below w.heap.size w w' ∧
    (knewOk rs = false → v0 = sl0 ∧ v1 = sl0 ∧ v2 = sl0 ∧ v3 = sl0) ∧ (knewOk rs = true → ∃ B0 B1 B2 B3 B4, w.heap.size ≤ B0 ∧ B0 ≤ B1 ∧ B1 ≤ B2 ∧ B2 ≤ B3 ∧ B3 ≤ B4 ∧ B4 ≤ w'.heap.size ∧ KsW w' B0 B1 B2 B3 B4 v0 v1 v2 v3 (knew rs))
end Go.Proofs.YthfdkenidfnmgaaGreat
