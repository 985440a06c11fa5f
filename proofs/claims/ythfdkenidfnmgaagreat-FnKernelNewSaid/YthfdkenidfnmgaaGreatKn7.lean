/- What the proofs stand on, part 7. -/
import Derived.Test.YthfdkenidfnmgaaGreatRows
import Derived.Test.YthfdkenidfnmgaaGreatKn6
set_option linter.unusedSimpArgs false
set_option linter.unusedVariables false
namespace Go.Proofs.YthfdkenidfnmgaaGreat
open Go.ChangeShapes Go.WideShapes Go.ChangeAt Go.RowKit Go.Maps Go.Shelf
set_option linter.unusedVariables false
set_option linter.unusedSimpArgs false
set_option maxRecDepth 100000
set_option maxHeartbeats 4000000 in
theorem iKernelNew_any (w : World) (v : Value) (rs : List (List Bs)) (h : Sss w v rs) (hs : ∀ x ∈ rs, Short x) (hn : rs.length ≤ 1000000) :
    Calls Tryz.prog 5 #[v] w (NewKW rs w) := by
  obtain ⟨a, ca, rfl, hla, hma, hxa⟩ := h
  unfold maxLen at hma
  obtain ⟨n, hN⟩ : ∃ n, n = rs.length := ⟨_, rfl⟩
  rw [← hN] at hla hxa hn ⊢
  have HNN := Lib.hid hN
  have HXX := Lib.hid hxa
  have HS3 : Hid (Short3 (newE rs)) := Lib.hid (fun x hx => by
    obtain ⟨r, hr, rfl⟩ := List.mem_map.1 hx
    exact hs r hr)
  obtain ⟨R, HR0⟩ : ∃ R : Ending → World → Prop, Hid (R = NewKW rs w) := ⟨_, Lib.hid rfl⟩
  rw [← HR0.out]
  obtain ⟨X, hX⟩ : ∃ X, X = w.heap.size := ⟨_, rfl⟩
  obtain ⟨w0, hw0⟩ : ∃ w0, w0 = w.alloc (.cells #[sl0, sl0, sl0, sl0] 30) := ⟨_, rfl⟩
  have HB1 : Hid (Below w.heap.size w w0 ∧ w0.heap.size = w.heap.size + 1 ∧ KB4 w0 X sl0 sl0 sl0 sl0 ∧ w0.there X 0 4) := Lib.hid (by rw [hw0, hX]; exact ⟨(Below.refl _ _).alloc (Nat.le_refl _) _, by simp, KB4.new w _ _ _ _ _, there_row (heap_alloc_new w _) (Nat.le_refl _)⟩)
  have HXE := Lib.hid hX
  have HW0 := Lib.hid hw0
  clear hN hxa hs hX hw0
  go_enter Tryz.func5, Tryz.ntmps5
  go_wp2_with fail
  rw [← HXE.out, ← HW0.out]
  go_loopw [4, 11] (fun u i wr => ∃ (k : Nat) (ps : List (Value × Int)), k ≤ n ∧ i = .int .i64 k ∧ Hid (OwnE (w.heap.size + 1) wr u (newE (rs.take k)) ps ∧ Below w0.heap.size w0 wr)) (fun _ i _ => n - (intOf i).toNat)
  case atStart => exact ⟨0, [], Nat.zero_le _, rfl, Lib.hid ⟨by rw [show newE (rs.take 0) = [] from by simp [newE]]; exact OwnE.nil _ _, Below.refl _ _⟩⟩
  case round =>
    obtain ⟨k, ps, hk, rfl, HO⟩ := hrel
    by_cases hlt : k < n
    · have hlt' : (k : Int) < n := by omega
      have hk0 : (0 : Int) ≤ (k : Int) := by omega
      obtain ⟨b, o, ru, rfl, hc0, hu⟩ := HXX.out k hlt
      have hbw : Below w.heap.size w wr := HB1.out.1.trans (HO.out.2.mono (by have := HB1.out.2.1; omega))
      have hcr := (hbw.cell (p := ⟨b, o + k, none⟩) (cell_lt hc0)).trans hc0
      obtain ⟨ra, rn, rc, rfl⟩ : ∃ a n c, ru = .slice a n c := by
        obtain ⟨a, c, e, _⟩ := hu
        exact ⟨_, _, _, e⟩
      have HO1 : Hid (OwnE (w.heap.size + 1) (wr.alloc (.cells #[.slice ra rn rc, .int .i64 (-1)] 37)) u4 (newE (rs.take k)) ps) := Lib.hid (HO.out.1.go ((Below.refl _ _).alloc (Nat.le_refl _) _))
      have HSZ : Hid (w.heap.size + 1 ≤ (wr.alloc (.cells #[.slice ra rn rc, .int .i64 (-1)] 37)).heap.size ∧ (newE (rs.take k)).length ≤ 1000000) := Lib.hid ⟨by have h1 := HO.out.2.size; have h2 := HB1.out.2.1; simp; omega, by rw [newE_len (by have := HNN.out; omega)]; omega⟩
      have HCC : Hid ((wr.alloc (.cells #[.slice ra rn rc, .int .i64 (-1)] 37)).cell? ⟨wr.heap.size, 0, none⟩ = some (.slice ra rn rc) ∧ (wr.alloc (.cells #[.slice ra rn rc, .int .i64 (-1)] 37)).cell? ⟨wr.heap.size, 1, none⟩ = some (.int .i64 (⟨rs.getD k [], -1⟩ : EV).t) ∧
          Strs (wr.alloc (.cells #[.slice ra rn rc, .int .i64 (-1)] 37)) (.slice ra rn rc) (⟨rs.getD k [], -1⟩ : EV).r) := Lib.hid ⟨new_cell rfl, new_cell rfl, (hu.below hbw).below ((Below.refl _ _).alloc (Nat.le_refl _) _)⟩
      have HAU : Hid (∀ g, (Value.slice ra rn rc).ownBlock = some g → (⟨rs.getD k [], -1⟩ : EV).r.length ≠ 0 → g < (wr.alloc (.cells #[.slice ra rn rc, .int .i64 (-1)] 37)).heap.size ∧ u4.ownBlock ≠ some g) := Lib.hid (fun g hg hz => by
        have h1 := hu.own g hg hz
        have h2 := hbw.size
        exact ⟨by simp; omega, fun e => by have := (HO.out.1.own.lt g e).1; omega⟩)
      clear hc0 hu hbw
      go_wp2_with (at_builtin; refine wpList_append_es1 (.tmp 15) (.tmp 18) (w.heap.size + 1) _ _ ps rfl HO1.out HSZ.out.1 wr.heap.size (.slice ra rn rc) ⟨rs.getD k [], -1⟩ rfl HCC.out.1 HCC.out.2.1 HCC.out.2.2 HAU.out HSZ.out.2 ?_; intro v' w2 he hg g5)
      have HE : Hid (OwnE (w.heap.size + 1) w2 v' (newE (rs.take (k + 1))) (ps ++ [(.slice ra rn rc, -1)]) ∧ Below w0.heap.size w0 w2) := Lib.hid ⟨by rw [newE_snoc (by have := HNN.out; omega)]; exact he,
        (HO.out.2.alloc HO.out.2.size _).grown hg (by have := HO.out.2.size; simp; omega) (fun g e => by have h1 := (HO.out.1.own.lt g e).1; have h2 := HB1.out.2.1; omega)⟩
      clear he hg g5 hcr
      go_wp2_with fail
      go_roundw
      case rel => exact ⟨k + 1, _, by omega, by go_num, HE⟩
      case measure => simp [intOf]; omega
    · have e : k = n := by omega
      rw [e] at HO
      have hge : ¬ (k : Int) < n := by omega
      have HO2 : Hid (Es wr u4 (newE rs)) := Lib.hid (by
        have := HO.out.1.es
        rwa [HNN.out, List.take_length] at this)
      obtain ⟨q, hq⟩ : ∃ q, q = envB (newE rs) := ⟨_, rfl⟩
      have HEV := Lib.hid (environmentsOf_any wr u4 (newE rs) HO2.out HS3.out)
      unfold EnvR at HEV
      rw [← hq] at HEV
      have HQ : Hid (q = knewOk rs) := Lib.hid (by rw [hq, envB_newE])
      clear hq
      go_wp2_with fail
      refine HEV.out.mono ?_
      rintro _ w2 ⟨Y, rfl, hYl, hYo, hb, hYs⟩
      obtain ⟨Y2, hY2⟩ : ∃ Y2, Y2 = w2.heap.size := ⟨_, rfl⟩
      obtain ⟨ze, hze⟩ : ∃ z, z = mapC (fun _ => none) (fun _ => 0) := ⟨_, rfl⟩
      have ZE : Hid (∀ w, (zeroValue 50).run Tryz.prog w = .ok (.agg ze.toArray) w) := Lib.hid (fun w => by rw [hze]; exact Tryz.zeroValue50 w)
      have HZL : Hid (ze.length = 6) := Lib.hid (by rw [hze]; rfl)
      obtain ⟨W3, hW3⟩ : ∃ W3, W3 = (w2.alloc (.cells ze.toArray 50)).setCells Y2 0 Y := ⟨_, rfl⟩
      have HTH : Hid ((w2.alloc (.cells ze.toArray 50)).there Y2 0 Y.toArray.size) := Lib.hid (by rw [hY2]; exact there_row (heap_alloc_new w2 _) (by simp only [List.size_toArray]; have := HZL.out; omega))
      have HYL := Lib.hid hYl
      have HYO := Lib.hid hYo
      have HYS : Hid (Y.toArray.size = 6) := Lib.hid (by simpa using hYl)
      have HRY : Hid (W3.rangeAt Y2 0 Y) := Lib.hid (by rw [hW3]; exact World.rangeAt_setCells_same _ _ _ _ (by simpa using HTH.out))
      have HB2 : Hid (Below wr.heap.size wr W3) := Lib.hid (by
        rw [hW3]
        exact Below.setCells (Below.refl _ _) _ (by rw [hY2]; exact hb.size) _ _ _ (hb.alloc hb.size _))
      have HB3 : Hid (Below w0.heap.size w0 W3) := Lib.hid (HO.out.2.trans (HB2.out.mono HO.out.2.size))
      have HYB : Hid (q = true → ∃ bs : Nat → Nat, Y = mapC (fun j => some (bs j)) (fun j => ((newE rs).getD j ez).t) ∧ ∀ j, j < 3 → SetAt W3 (bs j) ((newE rs).getD j ez).r) := Lib.hid (fun hh => by
        obtain ⟨bs, e1, e2⟩ := hYs hh
        refine ⟨bs, e1, fun j hj => ?_⟩
        rw [hW3]
        exact (e2 j hj).below (Below.setCells (Below.refl _ _) _ (by rw [hY2]; exact Nat.le_refl _) _ _ _ ((Below.refl _ _).alloc (Nat.le_refl _) _)))
      have HY2 := Lib.hid hY2
      have HW3 := Lib.hid hW3
      clear hYl hYo hb hYs hY2 hze hW3
      obtain ⟨_, x0, x1, x2, x3⟩ := HB1.out.2.2.1.go HB3.out
      have htt := there_blocks HB1.out.2.2.2 (HB3.out.block X HB1.out.2.2.1.lt)
      have g0 := (htt 0 (by omega)).2
      have g1 := (htt 1 (by omega)).2
      have g2 := (htt 2 (by omega)).2
      have g3 := (htt 3 (by omega)).2
      have HTT := Lib.hid htt
      simp only [Nat.zero_add] at g0 g1 g2 g3
      clear htt
      cases q with
      | false =>
        go_wp2_with (first | ((with_reducible refine alloc_is 50 ?_); refine alloc_arr 50 ze.toArray ZE.out ?_; rw [← HY2.out]) | ((with_reducible refine store_is 50 (.tmp 7) (.tmp 24) ?_); refine store_arr 50 (.tmp 7) (.tmp 24) Y2 0 Y.toArray rfl rfl HTH.out (info_envs HYS.out) HYO.out ?_; rw [show Y.toArray.toList = Y from rfl, ← HW3.out]) | fail)
        have HRA : Hid (World.rangeAt ((((W3.setCell ⟨X, 0, none⟩ sl0).setCell ⟨X, 1, none⟩ sl0).setCell ⟨X, 2, none⟩ sl0).setCell ⟨X, 3, none⟩ sl0) X 0 [sl0, sl0, sl0, sl0]) := Lib.hid (World.rangeAt_setCells_same W3 X 0 [sl0, sl0, sl0, sl0] HTT.out)
        refine bodyPost_ret (results_cell_mid rfl _ _ X 0 [sl0, sl0, sl0, sl0] _ rfl HRA.out Tryz.underlying30 rfl (by kernel_rfl)) rfl ?_
        rw [HR0.out]
        have hko := HQ.out.symm
        have hkn : knew rs = kz := by unfold knew; rw [hko]; simp
        unfold NewKW
        rw [hko, hkn]
        exact ⟨_, _, _, _, rfl, ks_none _, (HB1.out.1.trans (HB3.out.mono HB1.out.1.size)).grown (grown_set4 W3 X _ _ _ _) (by have h1 := HB1.out.1.size; have h2 := HB3.out.size; omega) (fun g e => by injection e with e; have := HXE.out; omega), fun _ => ⟨rfl, rfl, rfl, rfl⟩, fun e => by cases e⟩
      | true =>
        obtain ⟨bs, hY, hset⟩ := HYB.out rfl
        have hko : knewOk rs = true := HQ.out.symm
        have hev : envB (newE rs) = true := by rw [envB_newE, hko]
        have hlen : (newE rs).length = 3 := by
          unfold envB at hev
          rw [Bool.and_eq_true, decide_eq_true_eq] at hev
          exact hev.2
        have hrv : ∀ j, j < 3 → rvs ((newE rs).getD j ez).r = true := fun j hj => by
          unfold envB at hev
          rw [Bool.and_eq_true] at hev
          exact List.all_eq_true.1 hev.1 _ (by rw [getD_lt (by omega)]; exact List.getElem_mem _)
        have hkn : knew rs = ⟨mem0, List.replicate 12 iz, newE rs, []⟩ := by unfold knew newE; rw [if_pos hko]
        have HST := Lib.hid (state_any W3 mem0 (List.replicate 12 iz) (newE rs) bs A0 0 0 (Z84 ++ (Y ++ ringC A0 0 0)) ⟨mem0_ok, z12_ok, hlen, by rw [hY]; unfold kC Z84; rw [List.append_assoc]; rfl, rfl, ringC_one _ _ _, hset⟩ hrv (by omega) (by omega))
        unfold NewK at HST
        rw [show rlist A0 0 0 = [] from rfl, ← hkn] at HST
        have HKO := Lib.hid hko
        obtain ⟨LB, hLB⟩ : ∃ L, L = Z84 ++ (Y ++ ringC A0 0 0) := ⟨_, rfl⟩
        have HBK : Hid (∀ w, (Instr.build 67 #[(2, .agg Y.toArray)]).run Tryz.prog w = .ok (.agg LB.toArray) w) := Lib.hid (by rw [hLB]; exact run_build_kernel_envs Y HYL.out)
        rw [← hLB] at HST
        clear hY hset hko hev hlen hrv hkn hLB
        go_wp2_with (first | ((with_reducible refine alloc_is 50 ?_); refine alloc_arr 50 ze.toArray ZE.out ?_; rw [← HY2.out]) | ((with_reducible refine store_is 50 (.tmp 7) (.tmp 24) ?_); refine store_arr 50 (.tmp 7) (.tmp 24) Y2 0 Y.toArray rfl rfl HTH.out (info_envs HYS.out) HYO.out ?_; rw [show Y.toArray.toList = Y from rfl, ← HW3.out]) | ((with_reducible refine load_is 50 (.tmp 7) ?_); refine load_arr 50 (.tmp 7) Y2 0 Y _ rfl HRY.out Tryz.underlying50 rfl (info_envs HYL.out) ?_) | (refine build_run1 67 2 (.tmp 29) (.agg Y.toArray) rfl LB.toArray HBK.out ?_) | fail)
        refine HST.out.mono ?_
        rintro _ w4 ⟨vm, vi, ve, vc, B0, B1, B2, B3, B4, rfl, h0, h1, h2, h3, h4, h5, hk, hb⟩
        obtain ⟨ma, mn, mc, rfl⟩ : ∃ a n c, vm = .slice a n c := by
          obtain ⟨a, cap, A, C, e, _⟩ := hk.m
          exact ⟨_, _, _, e⟩
        obtain ⟨ia, ni, ic, rfl⟩ : ∃ a n c, vi = .slice a n c := by
          obtain ⟨a, cap, e, _⟩ := hk.i
          exact ⟨_, _, _, e⟩
        obtain ⟨ea, en, ec, rfl⟩ : ∃ a n c, ve = .slice a n c := by
          obtain ⟨a, cap, A, C, e, _⟩ := hk.e
          exact ⟨_, _, _, e⟩
        obtain ⟨ca, cn, cc, rfl⟩ : ∃ a n c, vc = .slice a n c := by
          obtain ⟨a, cap, e, _⟩ := hk.c
          exact ⟨_, _, _, e⟩
        have HK4 := Lib.hid hk
        have HB4 := Lib.hid (HB3.out.trans (hb.mono HB3.out.size))
        have HLS := Lib.hid (And.intro h0 (And.intro h1 (And.intro h2 (And.intro h3 (And.intro h4 h5)))))
        have HBS := Lib.hid hb
        clear hk hb h0 h1 h2 h3 h4 h5 x0 x1 x2 x3 g0 g1 g2 g3
        obtain ⟨_, x0, x1, x2, x3⟩ := HB1.out.2.2.1.go HB4.out
        have htt := there_blocks HB1.out.2.2.2 (HB4.out.block X HB1.out.2.2.1.lt)
        have g0 := (htt 0 (by omega)).2
        have g1 := (htt 1 (by omega)).2
        have g2 := (htt 2 (by omega)).2
        have g3 := (htt 3 (by omega)).2
        have HT4 := Lib.hid htt
        simp only [Nat.zero_add] at g0 g1 g2 g3
        clear htt
        go_wp2_with fail
        have HRA : Hid (World.rangeAt ((((w4.setCell ⟨X, 0, none⟩ (.slice ma mn mc)).setCell ⟨X, 1, none⟩ (.slice ia ni ic)).setCell ⟨X, 2, none⟩ (.slice ea en ec)).setCell ⟨X, 3, none⟩ (.slice ca cn cc)) X 0 [.slice ma mn mc, .slice ia ni ic, .slice ea en ec, .slice ca cn cc]) := Lib.hid (World.rangeAt_setCells_same w4 X 0 [.slice ma mn mc, .slice ia ni ic, .slice ea en ec, .slice ca cn cc] HT4.out)
        refine bodyPost_ret (results_cell_mid rfl _ _ X 0 [.slice ma mn mc, .slice ia ni ic, .slice ea en ec, .slice ca cn cc] _ rfl HRA.out Tryz.underlying30 rfl (by kernel_rfl)) rfl ?_
        rw [HR0.out]
        unfold NewKW
        rw [HKO.out]
        have hg := grown_set4 w4 X (.slice ma mn mc) (.slice ia ni ic) (.slice ea en ec) (.slice ca cn cc)
        obtain ⟨h0, h1, h2, h3, h4, h5⟩ := HLS.out
        have z0 := HB1.out.2.1
        have z1 := HXE.out
        have z2 := HB3.out.size
        have hbl : ∀ b, B0 ≤ b → b < w4.heap.size → ((((w4.setCell ⟨X, 0, none⟩ (.slice ma mn mc)).setCell ⟨X, 1, none⟩ (.slice ia ni ic)).setCell ⟨X, 2, none⟩ (.slice ea en ec)).setCell ⟨X, 3, none⟩ (.slice ca cn cc)).heap[b]? = w4.heap[b]? := fun b k0 k1 => hg.block b k1 (fun e => by injection e with e; omega)
        have hks : KsW ((((w4.setCell ⟨X, 0, none⟩ (.slice ma mn mc)).setCell ⟨X, 1, none⟩ (.slice ia ni ic)).setCell ⟨X, 2, none⟩ (.slice ea en ec)).setCell ⟨X, 3, none⟩ (.slice ca cn cc)) B0 B1 B2 B3 B4 (.slice ma mn mc) (.slice ia ni ic) (.slice ea en ec) (.slice ca cn cc) (knew rs) :=
          ⟨HK4.out.m.of_blocks (fun b k0 k1 => hbl b (by omega) (by omega)), HK4.out.i.of_blocks (fun b k0 k1 => hbl b (by omega) (by omega)), HK4.out.e.of_blocks (fun b k0 k1 => hbl b (by omega) (by omega)), HK4.out.c.of_blocks (fun b k0 k1 => hbl b (by omega) (by omega))⟩
        have hgs := hg.size
        exact ⟨_, _, _, _, rfl, hks.ks, (HB1.out.1.trans (HB4.out.mono HB1.out.1.size)).grown hg (by have h7 := HB4.out.size; omega) (fun g e => by injection e with e; omega), fun e => (by cases e), fun _ => ⟨B0, B1, B2, B3, B4, by omega, h1, h2, h3, h4, by omega, hks⟩⟩
end Go.Proofs.YthfdkenidfnmgaaGreat
namespace Go.Proofs.YthfdkenidfnmgaaGreat
open Go.ChangeShapes Go.WideShapes Go.ChangeAt Go.RowKit
set_option linter.unusedVariables false
set_option linter.unusedSimpArgs false
set_option maxRecDepth 100000
theorem sameEnvs_any (w : World) (va vb : Value) (xs ys : List EV) (ha : Es w va xs) (hb : Es w vb ys) :
    Calls Tryz.prog 20 #[va, vb] w (BRes (decide (xs = ys)) w) := by
  obtain ⟨a, ca, rfl, hla, hma, hxa⟩ := ha
  obtain ⟨b, cb, rfl, hlb, hmb, hxb⟩ := hb
  unfold maxLen at hma hmb
  obtain ⟨r, hr⟩ : ∃ r, r = decide (xs = ys) := ⟨_, rfl⟩
  have HR := Lib.hid hr
  rw [← hr]
  clear hr
  by_cases hl : xs.length = ys.length
  · obtain ⟨n, hn⟩ : ∃ n, n = xs.length := ⟨_, rfl⟩
    have hn2 : ys.length = n := by omega
    rw [← hn] at hla hxa ⊢
    rw [hn2] at hlb hxb ⊢
    have HN := Lib.hid hn
    have HN2 := Lib.hid hn2
    have HA := Lib.hid hxa
    have HB := Lib.hid hxb
    clear hn hn2 hl hxa hxb
    go_enter Tryz.func20, Tryz.ntmps20
    go_wp2
    go_loopw [5] (fun i wr => ∃ k : Nat, k ≤ n ∧ i = .int .i64 k ∧ Hid (xs.take k = ys.take k) ∧ Hid (Below w.heap.size w wr)) (fun i _ => n - (intOf i).toNat)
    case atStart => exact ⟨0, Nat.zero_le _, rfl, Lib.hid rfl, Lib.hid (Below.refl _ _)⟩
    case round =>
      obtain ⟨k, hk, rfl, HT, HBW⟩ := hrel
      by_cases hlt : k < n
      · obtain ⟨ba, oa, ua, rfl, hca0, hda0, hia⟩ := HA.out k hlt
        obtain ⟨bb, ob, ub, rfl, hcb0, hdb0, hib⟩ := HB.out k hlt
        have hba := cell_lt hca0
        have hbb := cell_lt hcb0
        have hba1 := cell_lt hda0
        have hbb1 := cell_lt hdb0
        have HC : Hid (Calls Tryz.prog 8 #[ua, ub] wr.drew (fun e w' => e = .returned (.bool (decide ((xs.getD k ez).r = (ys.getD k ez).r))) ∧ Below wr.drew.heap.size wr.drew w')) := Lib.hid ((sameTexts_any wr.drew ua ub _ _ (hia.below HBW.out.drew) (hib.below HBW.out.drew)).mono fun e w' hh => reads_below hh)
        generalize hx : xs.getD k ez = x at HC hda0
        generalize hy : ys.getD k ez = y at HC hdb0
        have HX := Lib.hid hx
        have HY := Lib.hid hy
        have FA0 := Lib.hid hca0
        have FA1 := Lib.hid hda0
        have FB0 := Lib.hid hcb0
        have FB1 := Lib.hid hdb0
        have FS : Hid (∀ w', Below w.heap.size w w' → w'.cell? ⟨ba, oa + k * 2, none⟩ = some ua ∧ w'.cell? ⟨ba, oa + k * 2 + 1, none⟩ = some (.int .i64 x.t) ∧ w'.cell? ⟨bb, ob + k * 2, none⟩ = some ub ∧ w'.cell? ⟨bb, ob + k * 2 + 1, none⟩ = some (.int .i64 y.t)) := Lib.hid (fun w' hw => ⟨(hw.cell hba).trans FA0.out, (hw.cell hba1).trans FA1.out, (hw.cell hbb).trans FB0.out, (hw.cell hbb1).trans FB1.out⟩)
        clear hx hy hia hib hca0 hda0 hcb0 hdb0 hba hbb hba1 hbb1
        have hlt' : (k : Int) < (n : Int) := by omega
        obtain ⟨q, hq⟩ : ∃ q, q = decide (x.r = y.r) := ⟨_, rfl⟩
        rw [← hq] at HC
        have HQ := Lib.hid hq
        clear hq
        have HXY : Hid (x = y ↔ x.t = y.t ∧ q = true) := Lib.hid (by rw [ev_ext, HQ.out, decide_eq_true_eq, and_comm])
        by_cases ht : x.t = y.t
        · have HT2 := Lib.hid ht
          have ht' : (x.t != y.t) = false := by simpa using ht
          clear ht
          cases q with
          | true =>
            have HE : Hid (x = y) := Lib.hid (HXY.out.2 ⟨HT2.out, rfl⟩)
            go_wp2_with fail
            refine wp_region_held_drew (S := fun w' => w'.cell? ⟨ba, oa + k * 2, none⟩ = some ua ∧ w'.cell? ⟨ba, oa + k * 2 + 1, none⟩ = some (.int .i64 x.t) ∧ w'.cell? ⟨bb, ob + k * 2, none⟩ = some ub ∧ w'.cell? ⟨bb, ob + k * 2 + 1, none⟩ = some (.int .i64 y.t)) (by kernel_rfl) (FS.out _ HBW.out.drew) (fun hHeld => ?_)
            refine wpAnyH_take (i := 0) (oi := { dst := some 17, op := .move (.tmp 0), type := _, pos := _, after := _, guard := none }) (v := .slice (some ⟨ba, oa, none⟩) n ca) rfl (by kernel_rfl) (by kernel_rfl) (by kernel_rfl) (fun _ _ _ h => h) (Or.inl ⟨by rfl, fun wh hSw => ?_⟩) hHeld ?_
            · (obtain ⟨s0, s1, t0, t1⟩ := hSw; go_simp)
            try simp only [Act.put, List.setIfInBounds_toArray, List.set_cons_zero, List.set_cons_succ]
            refine wpAnyH_take (i := 1) (oi := { dst := some 18, op := .move (.tmp 5), type := _, pos := _, after := _, guard := none }) (v := .int .i64 (k : Int)) rfl (by kernel_rfl) (by kernel_rfl) (by kernel_rfl) (fun _ _ _ h => h) (Or.inl ⟨by rfl, fun wh hSw => ?_⟩) hHeld ?_
            · (obtain ⟨s0, s1, t0, t1⟩ := hSw; go_simp)
            try simp only [Act.put, List.setIfInBounds_toArray, List.set_cons_zero, List.set_cons_succ]
            refine wpAnyH_take (i := 2) (oi := { dst := some 19, op := .indexAddr 27 (.tmp 17) (.tmp 18), type := _, pos := _, after := _, guard := none }) (v := .pointer (some ⟨ba, oa + k * 2, none⟩)) rfl (by kernel_rfl) (by kernel_rfl) (by kernel_rfl) (fun _ _ _ h => h) (Or.inl ⟨by rfl, fun wh hSw => ?_⟩) hHeld ?_
            · (obtain ⟨s0, s1, t0, t1⟩ := hSw; go_simp)
            try simp only [Act.put, List.setIfInBounds_toArray, List.set_cons_zero, List.set_cons_succ]
            refine wpAnyH_take (i := 3) (oi := { dst := some 20, op := .fieldAddr 37 (.tmp 19) 1, type := _, pos := _, after := _, guard := none }) (v := .pointer (some ⟨ba, oa + k * 2 + 1, none⟩)) rfl (by kernel_rfl) (by kernel_rfl) (by kernel_rfl) (fun _ _ _ h => h) (Or.inl ⟨by rfl, fun wh hSw => ?_⟩) hHeld ?_
            · (obtain ⟨s0, s1, t0, t1⟩ := hSw; go_simp)
            try simp only [Act.put, List.setIfInBounds_toArray, List.set_cons_zero, List.set_cons_succ]
            refine wpAnyH_take (i := 4) (oi := { dst := some 21, op := .load 3 (.tmp 20), type := _, pos := _, after := _, guard := none }) (v := .int .i64 x.t) rfl (by kernel_rfl) (by kernel_rfl) (by kernel_rfl) (fun _ _ _ h => h) (Or.inl ⟨by rfl, fun wh hSw => ?_⟩) hHeld ?_
            · (obtain ⟨s0, s1, t0, t1⟩ := hSw; go_simp)
            try simp only [Act.put, List.setIfInBounds_toArray, List.set_cons_zero, List.set_cons_succ]
            refine wpAnyH_take (i := 5) (oi := { dst := some 22, op := .move (.tmp 1), type := _, pos := _, after := _, guard := none }) (v := .slice (some ⟨bb, ob, none⟩) n cb) rfl (by kernel_rfl) (by kernel_rfl) (by kernel_rfl) (fun _ _ _ h => h) (Or.inl ⟨by rfl, fun wh hSw => ?_⟩) hHeld ?_
            · (obtain ⟨s0, s1, t0, t1⟩ := hSw; go_simp)
            try simp only [Act.put, List.setIfInBounds_toArray, List.set_cons_zero, List.set_cons_succ]
            refine wpAnyH_take (i := 6) (oi := { dst := some 23, op := .move (.tmp 5), type := _, pos := _, after := _, guard := none }) (v := .int .i64 (k : Int)) rfl (by kernel_rfl) (by kernel_rfl) (by kernel_rfl) (fun _ _ _ h => h) (Or.inl ⟨by rfl, fun wh hSw => ?_⟩) hHeld ?_
            · (obtain ⟨s0, s1, t0, t1⟩ := hSw; go_simp)
            try simp only [Act.put, List.setIfInBounds_toArray, List.set_cons_zero, List.set_cons_succ]
            refine wpAnyH_take (i := 7) (oi := { dst := some 24, op := .indexAddr 27 (.tmp 22) (.tmp 23), type := _, pos := _, after := _, guard := none }) (v := .pointer (some ⟨bb, ob + k * 2, none⟩)) rfl (by kernel_rfl) (by kernel_rfl) (by kernel_rfl) (fun _ _ _ h => h) (Or.inl ⟨by rfl, fun wh hSw => ?_⟩) hHeld ?_
            · (obtain ⟨s0, s1, t0, t1⟩ := hSw; go_simp)
            try simp only [Act.put, List.setIfInBounds_toArray, List.set_cons_zero, List.set_cons_succ]
            refine wpAnyH_take (i := 8) (oi := { dst := some 25, op := .fieldAddr 37 (.tmp 24) 1, type := _, pos := _, after := _, guard := none }) (v := .pointer (some ⟨bb, ob + k * 2 + 1, none⟩)) rfl (by kernel_rfl) (by kernel_rfl) (by kernel_rfl) (fun _ _ _ h => h) (Or.inl ⟨by rfl, fun wh hSw => ?_⟩) hHeld ?_
            · (obtain ⟨s0, s1, t0, t1⟩ := hSw; go_simp)
            try simp only [Act.put, List.setIfInBounds_toArray, List.set_cons_zero, List.set_cons_succ]
            refine wpAnyH_take (i := 9) (oi := { dst := some 26, op := .load 3 (.tmp 25), type := _, pos := _, after := _, guard := none }) (v := .int .i64 y.t) rfl (by kernel_rfl) (by kernel_rfl) (by kernel_rfl) (fun _ _ _ h => h) (Or.inl ⟨by rfl, fun wh hSw => ?_⟩) hHeld ?_
            · (obtain ⟨s0, s1, t0, t1⟩ := hSw; go_simp)
            try simp only [Act.put, List.setIfInBounds_toArray, List.set_cons_zero, List.set_cons_succ]
            refine wpAnyH_take (i := 10) (oi := { dst := some 27, op := .binOp .neq 3 (.tmp 21) (.tmp 26) 3, type := _, pos := _, after := _, guard := none }) (v := .bool false) rfl (by kernel_rfl) (by kernel_rfl) (by kernel_rfl) (fun _ _ _ h => h) (Or.inl ⟨by rfl, fun wh hSw => ?_⟩) hHeld ?_
            · (obtain ⟨s0, s1, t0, t1⟩ := hSw; go_simp)
            try simp only [Act.put, List.setIfInBounds_toArray, List.set_cons_zero, List.set_cons_succ]
            refine wpAnyH_take (i := 11) (oi := { dst := some 28, op := .move (.tmp 27), type := _, pos := _, after := _, guard := none }) (v := .bool false) rfl (by kernel_rfl) (by kernel_rfl) (by kernel_rfl) (fun _ _ _ h => h) (Or.inl ⟨by rfl, fun wh hSw => ?_⟩) hHeld ?_
            · (obtain ⟨s0, s1, t0, t1⟩ := hSw; go_simp)
            try simp only [Act.put, List.setIfInBounds_toArray, List.set_cons_zero, List.set_cons_succ]
            refine wpAnyH_take (i := 12) (oi := { dst := some 29, op := .move (.tmp 0), type := _, pos := _, after := _, guard := some (11, false) }) (v := .slice (some ⟨ba, oa, none⟩) n ca) rfl (by kernel_rfl) (by kernel_rfl) (by kernel_rfl) (fun _ _ _ h => h) (Or.inl ⟨by rfl, fun wh hSw => ?_⟩) hHeld ?_
            · (obtain ⟨s0, s1, t0, t1⟩ := hSw; go_simp)
            try simp only [Act.put, List.setIfInBounds_toArray, List.set_cons_zero, List.set_cons_succ]
            refine wpAnyH_take (i := 13) (oi := { dst := some 30, op := .move (.tmp 5), type := _, pos := _, after := _, guard := some (11, false) }) (v := .int .i64 (k : Int)) rfl (by kernel_rfl) (by kernel_rfl) (by kernel_rfl) (fun _ _ _ h => h) (Or.inl ⟨by rfl, fun wh hSw => ?_⟩) hHeld ?_
            · (obtain ⟨s0, s1, t0, t1⟩ := hSw; go_simp)
            try simp only [Act.put, List.setIfInBounds_toArray, List.set_cons_zero, List.set_cons_succ]
            refine wpAnyH_take (i := 14) (oi := { dst := some 31, op := .indexAddr 27 (.tmp 29) (.tmp 30), type := _, pos := _, after := _, guard := some (11, false) }) (v := .pointer (some ⟨ba, oa + k * 2, none⟩)) rfl (by kernel_rfl) (by kernel_rfl) (by kernel_rfl) (fun _ _ _ h => h) (Or.inl ⟨by rfl, fun wh hSw => ?_⟩) hHeld ?_
            · (obtain ⟨s0, s1, t0, t1⟩ := hSw; go_simp)
            try simp only [Act.put, List.setIfInBounds_toArray, List.set_cons_zero, List.set_cons_succ]
            refine wpAnyH_take (i := 15) (oi := { dst := some 32, op := .fieldAddr 37 (.tmp 31) 0, type := _, pos := _, after := _, guard := some (11, false) }) (v := .pointer (some ⟨ba, oa + k * 2, none⟩)) rfl (by kernel_rfl) (by kernel_rfl) (by kernel_rfl) (fun _ _ _ h => h) (Or.inl ⟨by rfl, fun wh hSw => ?_⟩) hHeld ?_
            · (obtain ⟨s0, s1, t0, t1⟩ := hSw; go_simp)
            try simp only [Act.put, List.setIfInBounds_toArray, List.set_cons_zero, List.set_cons_succ]
            refine wpAnyH_take (i := 16) (oi := { dst := some 33, op := .load 35 (.tmp 32), type := _, pos := _, after := _, guard := some (11, false) }) (v := ua) rfl (by kernel_rfl) (by kernel_rfl) (by kernel_rfl) (fun _ _ _ h => h) (Or.inl ⟨by rfl, fun wh hSw => ?_⟩) hHeld ?_
            · (obtain ⟨s0, s1, t0, t1⟩ := hSw; go_simp)
            try simp only [Act.put, List.setIfInBounds_toArray, List.set_cons_zero, List.set_cons_succ]
            refine wpAnyH_take (i := 17) (oi := { dst := some 34, op := .move (.tmp 1), type := _, pos := _, after := _, guard := some (11, false) }) (v := .slice (some ⟨bb, ob, none⟩) n cb) rfl (by kernel_rfl) (by kernel_rfl) (by kernel_rfl) (fun _ _ _ h => h) (Or.inl ⟨by rfl, fun wh hSw => ?_⟩) hHeld ?_
            · (obtain ⟨s0, s1, t0, t1⟩ := hSw; go_simp)
            try simp only [Act.put, List.setIfInBounds_toArray, List.set_cons_zero, List.set_cons_succ]
            refine wpAnyH_take (i := 18) (oi := { dst := some 35, op := .move (.tmp 5), type := _, pos := _, after := _, guard := some (11, false) }) (v := .int .i64 (k : Int)) rfl (by kernel_rfl) (by kernel_rfl) (by kernel_rfl) (fun _ _ _ h => h) (Or.inl ⟨by rfl, fun wh hSw => ?_⟩) hHeld ?_
            · (obtain ⟨s0, s1, t0, t1⟩ := hSw; go_simp)
            try simp only [Act.put, List.setIfInBounds_toArray, List.set_cons_zero, List.set_cons_succ]
            refine wpAnyH_take (i := 19) (oi := { dst := some 36, op := .indexAddr 27 (.tmp 34) (.tmp 35), type := _, pos := _, after := _, guard := some (11, false) }) (v := .pointer (some ⟨bb, ob + k * 2, none⟩)) rfl (by kernel_rfl) (by kernel_rfl) (by kernel_rfl) (fun _ _ _ h => h) (Or.inl ⟨by rfl, fun wh hSw => ?_⟩) hHeld ?_
            · (obtain ⟨s0, s1, t0, t1⟩ := hSw; go_simp)
            try simp only [Act.put, List.setIfInBounds_toArray, List.set_cons_zero, List.set_cons_succ]
            refine wpAnyH_take (i := 20) (oi := { dst := some 37, op := .fieldAddr 37 (.tmp 36) 0, type := _, pos := _, after := _, guard := some (11, false) }) (v := .pointer (some ⟨bb, ob + k * 2, none⟩)) rfl (by kernel_rfl) (by kernel_rfl) (by kernel_rfl) (fun _ _ _ h => h) (Or.inl ⟨by rfl, fun wh hSw => ?_⟩) hHeld ?_
            · (obtain ⟨s0, s1, t0, t1⟩ := hSw; go_simp)
            try simp only [Act.put, List.setIfInBounds_toArray, List.set_cons_zero, List.set_cons_succ]
            refine wpAnyH_take (i := 21) (oi := { dst := some 38, op := .load 35 (.tmp 37), type := _, pos := _, after := _, guard := some (11, false) }) (v := ub) rfl (by kernel_rfl) (by kernel_rfl) (by kernel_rfl) (fun _ _ _ h => h) (Or.inl ⟨by rfl, fun wh hSw => ?_⟩) hHeld ?_
            · (obtain ⟨s0, s1, t0, t1⟩ := hSw; go_simp)
            try simp only [Act.put, List.setIfInBounds_toArray, List.set_cons_zero, List.set_cons_succ]
            refine wpAnyH_ready (rs := [22]) (by kernel_rfl) (by simp) ?_
            refine AllReadyH.cons (o := { dst := some 39, op := .call { callee := .value (.func 8), args := #[.tmp 33, .tmp 38], argTypes := #[35, 35] }, type := _, pos := _, after := _, guard := some (11, false) }) rfl (fun K hK => ?_) AllReadyH.nil
            go_simp
            refine HC.out.mono ?_
            rintro e w1 ⟨rfl, hb1⟩
            have HB1 := Lib.hid ((HBW.out.drew).trans (hb1.mono HBW.out.size))
            clear hb1
            try go_simp
            refine hK.out _ _ ?_ (fun hHeld => ?_)
            · exact FS.out _ HB1.out
            clear hK K
            try simp only [Act.put, List.setIfInBounds_toArray, List.set_cons_zero, List.set_cons_succ]
            refine wpAnyH_take (i := 23) (oi := { dst := some 40, op := .unOp .not 4 (.tmp 39), type := _, pos := _, after := _, guard := some (11, false) }) (v := .bool false) rfl (by kernel_rfl) (by kernel_rfl) (by kernel_rfl) (fun _ _ _ h => h) (Or.inl ⟨by rfl, fun wh hSw => ?_⟩) hHeld ?_
            · (obtain ⟨s0, s1, t0, t1⟩ := hSw; go_simp)
            try simp only [Act.put, List.setIfInBounds_toArray, List.set_cons_zero, List.set_cons_succ]
            refine wpAnyH_take (i := 24) (oi := { dst := some 41, op := .pick (.tmp 28) (.const (.bool true)) (.tmp 40), type := _, pos := _, after := _, guard := none }) (v := .bool false) rfl (by kernel_rfl) (by kernel_rfl) (by kernel_rfl) (fun _ _ _ h => h) (Or.inl ⟨by rfl, fun wh hSw => ?_⟩) hHeld ?_
            · (obtain ⟨s0, s1, t0, t1⟩ := hSw; go_simp)
            try simp only [Act.put, List.setIfInBounds_toArray, List.set_cons_zero, List.set_cons_succ]
            refine wpAnyH_done (by kernel_rfl) ?_ _
            go_wp2
            go_roundw
            case rel => exact ⟨k + 1, by omega, by go_num, Lib.hid (take_eq_succ (d := ez) (HN.out.symm.trans HN2.out.symm) (by have := HN.out; omega) HT.out (HX.out.trans (HE.out.trans HY.out.symm))), HB1⟩
            case measure => simp [intOf]; omega
          | false =>
            have HE : Hid (¬ x = y) := Lib.hid (fun hh => by cases (HXY.out.1 hh).2)
            go_wp2_with fail
            refine wp_region_held_drew (S := fun w' => w'.cell? ⟨ba, oa + k * 2, none⟩ = some ua ∧ w'.cell? ⟨ba, oa + k * 2 + 1, none⟩ = some (.int .i64 x.t) ∧ w'.cell? ⟨bb, ob + k * 2, none⟩ = some ub ∧ w'.cell? ⟨bb, ob + k * 2 + 1, none⟩ = some (.int .i64 y.t)) (by kernel_rfl) (FS.out _ HBW.out.drew) (fun hHeld => ?_)
            refine wpAnyH_take (i := 0) (oi := { dst := some 17, op := .move (.tmp 0), type := _, pos := _, after := _, guard := none }) (v := .slice (some ⟨ba, oa, none⟩) n ca) rfl (by kernel_rfl) (by kernel_rfl) (by kernel_rfl) (fun _ _ _ h => h) (Or.inl ⟨by rfl, fun wh hSw => ?_⟩) hHeld ?_
            · (obtain ⟨s0, s1, t0, t1⟩ := hSw; go_simp)
            try simp only [Act.put, List.setIfInBounds_toArray, List.set_cons_zero, List.set_cons_succ]
            refine wpAnyH_take (i := 1) (oi := { dst := some 18, op := .move (.tmp 5), type := _, pos := _, after := _, guard := none }) (v := .int .i64 (k : Int)) rfl (by kernel_rfl) (by kernel_rfl) (by kernel_rfl) (fun _ _ _ h => h) (Or.inl ⟨by rfl, fun wh hSw => ?_⟩) hHeld ?_
            · (obtain ⟨s0, s1, t0, t1⟩ := hSw; go_simp)
            try simp only [Act.put, List.setIfInBounds_toArray, List.set_cons_zero, List.set_cons_succ]
            refine wpAnyH_take (i := 2) (oi := { dst := some 19, op := .indexAddr 27 (.tmp 17) (.tmp 18), type := _, pos := _, after := _, guard := none }) (v := .pointer (some ⟨ba, oa + k * 2, none⟩)) rfl (by kernel_rfl) (by kernel_rfl) (by kernel_rfl) (fun _ _ _ h => h) (Or.inl ⟨by rfl, fun wh hSw => ?_⟩) hHeld ?_
            · (obtain ⟨s0, s1, t0, t1⟩ := hSw; go_simp)
            try simp only [Act.put, List.setIfInBounds_toArray, List.set_cons_zero, List.set_cons_succ]
            refine wpAnyH_take (i := 3) (oi := { dst := some 20, op := .fieldAddr 37 (.tmp 19) 1, type := _, pos := _, after := _, guard := none }) (v := .pointer (some ⟨ba, oa + k * 2 + 1, none⟩)) rfl (by kernel_rfl) (by kernel_rfl) (by kernel_rfl) (fun _ _ _ h => h) (Or.inl ⟨by rfl, fun wh hSw => ?_⟩) hHeld ?_
            · (obtain ⟨s0, s1, t0, t1⟩ := hSw; go_simp)
            try simp only [Act.put, List.setIfInBounds_toArray, List.set_cons_zero, List.set_cons_succ]
            refine wpAnyH_take (i := 4) (oi := { dst := some 21, op := .load 3 (.tmp 20), type := _, pos := _, after := _, guard := none }) (v := .int .i64 x.t) rfl (by kernel_rfl) (by kernel_rfl) (by kernel_rfl) (fun _ _ _ h => h) (Or.inl ⟨by rfl, fun wh hSw => ?_⟩) hHeld ?_
            · (obtain ⟨s0, s1, t0, t1⟩ := hSw; go_simp)
            try simp only [Act.put, List.setIfInBounds_toArray, List.set_cons_zero, List.set_cons_succ]
            refine wpAnyH_take (i := 5) (oi := { dst := some 22, op := .move (.tmp 1), type := _, pos := _, after := _, guard := none }) (v := .slice (some ⟨bb, ob, none⟩) n cb) rfl (by kernel_rfl) (by kernel_rfl) (by kernel_rfl) (fun _ _ _ h => h) (Or.inl ⟨by rfl, fun wh hSw => ?_⟩) hHeld ?_
            · (obtain ⟨s0, s1, t0, t1⟩ := hSw; go_simp)
            try simp only [Act.put, List.setIfInBounds_toArray, List.set_cons_zero, List.set_cons_succ]
            refine wpAnyH_take (i := 6) (oi := { dst := some 23, op := .move (.tmp 5), type := _, pos := _, after := _, guard := none }) (v := .int .i64 (k : Int)) rfl (by kernel_rfl) (by kernel_rfl) (by kernel_rfl) (fun _ _ _ h => h) (Or.inl ⟨by rfl, fun wh hSw => ?_⟩) hHeld ?_
            · (obtain ⟨s0, s1, t0, t1⟩ := hSw; go_simp)
            try simp only [Act.put, List.setIfInBounds_toArray, List.set_cons_zero, List.set_cons_succ]
            refine wpAnyH_take (i := 7) (oi := { dst := some 24, op := .indexAddr 27 (.tmp 22) (.tmp 23), type := _, pos := _, after := _, guard := none }) (v := .pointer (some ⟨bb, ob + k * 2, none⟩)) rfl (by kernel_rfl) (by kernel_rfl) (by kernel_rfl) (fun _ _ _ h => h) (Or.inl ⟨by rfl, fun wh hSw => ?_⟩) hHeld ?_
            · (obtain ⟨s0, s1, t0, t1⟩ := hSw; go_simp)
            try simp only [Act.put, List.setIfInBounds_toArray, List.set_cons_zero, List.set_cons_succ]
            refine wpAnyH_take (i := 8) (oi := { dst := some 25, op := .fieldAddr 37 (.tmp 24) 1, type := _, pos := _, after := _, guard := none }) (v := .pointer (some ⟨bb, ob + k * 2 + 1, none⟩)) rfl (by kernel_rfl) (by kernel_rfl) (by kernel_rfl) (fun _ _ _ h => h) (Or.inl ⟨by rfl, fun wh hSw => ?_⟩) hHeld ?_
            · (obtain ⟨s0, s1, t0, t1⟩ := hSw; go_simp)
            try simp only [Act.put, List.setIfInBounds_toArray, List.set_cons_zero, List.set_cons_succ]
            refine wpAnyH_take (i := 9) (oi := { dst := some 26, op := .load 3 (.tmp 25), type := _, pos := _, after := _, guard := none }) (v := .int .i64 y.t) rfl (by kernel_rfl) (by kernel_rfl) (by kernel_rfl) (fun _ _ _ h => h) (Or.inl ⟨by rfl, fun wh hSw => ?_⟩) hHeld ?_
            · (obtain ⟨s0, s1, t0, t1⟩ := hSw; go_simp)
            try simp only [Act.put, List.setIfInBounds_toArray, List.set_cons_zero, List.set_cons_succ]
            refine wpAnyH_take (i := 10) (oi := { dst := some 27, op := .binOp .neq 3 (.tmp 21) (.tmp 26) 3, type := _, pos := _, after := _, guard := none }) (v := .bool false) rfl (by kernel_rfl) (by kernel_rfl) (by kernel_rfl) (fun _ _ _ h => h) (Or.inl ⟨by rfl, fun wh hSw => ?_⟩) hHeld ?_
            · (obtain ⟨s0, s1, t0, t1⟩ := hSw; go_simp)
            try simp only [Act.put, List.setIfInBounds_toArray, List.set_cons_zero, List.set_cons_succ]
            refine wpAnyH_take (i := 11) (oi := { dst := some 28, op := .move (.tmp 27), type := _, pos := _, after := _, guard := none }) (v := .bool false) rfl (by kernel_rfl) (by kernel_rfl) (by kernel_rfl) (fun _ _ _ h => h) (Or.inl ⟨by rfl, fun wh hSw => ?_⟩) hHeld ?_
            · (obtain ⟨s0, s1, t0, t1⟩ := hSw; go_simp)
            try simp only [Act.put, List.setIfInBounds_toArray, List.set_cons_zero, List.set_cons_succ]
            refine wpAnyH_take (i := 12) (oi := { dst := some 29, op := .move (.tmp 0), type := _, pos := _, after := _, guard := some (11, false) }) (v := .slice (some ⟨ba, oa, none⟩) n ca) rfl (by kernel_rfl) (by kernel_rfl) (by kernel_rfl) (fun _ _ _ h => h) (Or.inl ⟨by rfl, fun wh hSw => ?_⟩) hHeld ?_
            · (obtain ⟨s0, s1, t0, t1⟩ := hSw; go_simp)
            try simp only [Act.put, List.setIfInBounds_toArray, List.set_cons_zero, List.set_cons_succ]
            refine wpAnyH_take (i := 13) (oi := { dst := some 30, op := .move (.tmp 5), type := _, pos := _, after := _, guard := some (11, false) }) (v := .int .i64 (k : Int)) rfl (by kernel_rfl) (by kernel_rfl) (by kernel_rfl) (fun _ _ _ h => h) (Or.inl ⟨by rfl, fun wh hSw => ?_⟩) hHeld ?_
            · (obtain ⟨s0, s1, t0, t1⟩ := hSw; go_simp)
            try simp only [Act.put, List.setIfInBounds_toArray, List.set_cons_zero, List.set_cons_succ]
            refine wpAnyH_take (i := 14) (oi := { dst := some 31, op := .indexAddr 27 (.tmp 29) (.tmp 30), type := _, pos := _, after := _, guard := some (11, false) }) (v := .pointer (some ⟨ba, oa + k * 2, none⟩)) rfl (by kernel_rfl) (by kernel_rfl) (by kernel_rfl) (fun _ _ _ h => h) (Or.inl ⟨by rfl, fun wh hSw => ?_⟩) hHeld ?_
            · (obtain ⟨s0, s1, t0, t1⟩ := hSw; go_simp)
            try simp only [Act.put, List.setIfInBounds_toArray, List.set_cons_zero, List.set_cons_succ]
            refine wpAnyH_take (i := 15) (oi := { dst := some 32, op := .fieldAddr 37 (.tmp 31) 0, type := _, pos := _, after := _, guard := some (11, false) }) (v := .pointer (some ⟨ba, oa + k * 2, none⟩)) rfl (by kernel_rfl) (by kernel_rfl) (by kernel_rfl) (fun _ _ _ h => h) (Or.inl ⟨by rfl, fun wh hSw => ?_⟩) hHeld ?_
            · (obtain ⟨s0, s1, t0, t1⟩ := hSw; go_simp)
            try simp only [Act.put, List.setIfInBounds_toArray, List.set_cons_zero, List.set_cons_succ]
            refine wpAnyH_take (i := 16) (oi := { dst := some 33, op := .load 35 (.tmp 32), type := _, pos := _, after := _, guard := some (11, false) }) (v := ua) rfl (by kernel_rfl) (by kernel_rfl) (by kernel_rfl) (fun _ _ _ h => h) (Or.inl ⟨by rfl, fun wh hSw => ?_⟩) hHeld ?_
            · (obtain ⟨s0, s1, t0, t1⟩ := hSw; go_simp)
            try simp only [Act.put, List.setIfInBounds_toArray, List.set_cons_zero, List.set_cons_succ]
            refine wpAnyH_take (i := 17) (oi := { dst := some 34, op := .move (.tmp 1), type := _, pos := _, after := _, guard := some (11, false) }) (v := .slice (some ⟨bb, ob, none⟩) n cb) rfl (by kernel_rfl) (by kernel_rfl) (by kernel_rfl) (fun _ _ _ h => h) (Or.inl ⟨by rfl, fun wh hSw => ?_⟩) hHeld ?_
            · (obtain ⟨s0, s1, t0, t1⟩ := hSw; go_simp)
            try simp only [Act.put, List.setIfInBounds_toArray, List.set_cons_zero, List.set_cons_succ]
            refine wpAnyH_take (i := 18) (oi := { dst := some 35, op := .move (.tmp 5), type := _, pos := _, after := _, guard := some (11, false) }) (v := .int .i64 (k : Int)) rfl (by kernel_rfl) (by kernel_rfl) (by kernel_rfl) (fun _ _ _ h => h) (Or.inl ⟨by rfl, fun wh hSw => ?_⟩) hHeld ?_
            · (obtain ⟨s0, s1, t0, t1⟩ := hSw; go_simp)
            try simp only [Act.put, List.setIfInBounds_toArray, List.set_cons_zero, List.set_cons_succ]
            refine wpAnyH_take (i := 19) (oi := { dst := some 36, op := .indexAddr 27 (.tmp 34) (.tmp 35), type := _, pos := _, after := _, guard := some (11, false) }) (v := .pointer (some ⟨bb, ob + k * 2, none⟩)) rfl (by kernel_rfl) (by kernel_rfl) (by kernel_rfl) (fun _ _ _ h => h) (Or.inl ⟨by rfl, fun wh hSw => ?_⟩) hHeld ?_
            · (obtain ⟨s0, s1, t0, t1⟩ := hSw; go_simp)
            try simp only [Act.put, List.setIfInBounds_toArray, List.set_cons_zero, List.set_cons_succ]
            refine wpAnyH_take (i := 20) (oi := { dst := some 37, op := .fieldAddr 37 (.tmp 36) 0, type := _, pos := _, after := _, guard := some (11, false) }) (v := .pointer (some ⟨bb, ob + k * 2, none⟩)) rfl (by kernel_rfl) (by kernel_rfl) (by kernel_rfl) (fun _ _ _ h => h) (Or.inl ⟨by rfl, fun wh hSw => ?_⟩) hHeld ?_
            · (obtain ⟨s0, s1, t0, t1⟩ := hSw; go_simp)
            try simp only [Act.put, List.setIfInBounds_toArray, List.set_cons_zero, List.set_cons_succ]
            refine wpAnyH_take (i := 21) (oi := { dst := some 38, op := .load 35 (.tmp 37), type := _, pos := _, after := _, guard := some (11, false) }) (v := ub) rfl (by kernel_rfl) (by kernel_rfl) (by kernel_rfl) (fun _ _ _ h => h) (Or.inl ⟨by rfl, fun wh hSw => ?_⟩) hHeld ?_
            · (obtain ⟨s0, s1, t0, t1⟩ := hSw; go_simp)
            try simp only [Act.put, List.setIfInBounds_toArray, List.set_cons_zero, List.set_cons_succ]
            refine wpAnyH_ready (rs := [22]) (by kernel_rfl) (by simp) ?_
            refine AllReadyH.cons (o := { dst := some 39, op := .call { callee := .value (.func 8), args := #[.tmp 33, .tmp 38], argTypes := #[35, 35] }, type := _, pos := _, after := _, guard := some (11, false) }) rfl (fun K hK => ?_) AllReadyH.nil
            go_simp
            refine HC.out.mono ?_
            rintro e w1 ⟨rfl, hb1⟩
            have HB1 := Lib.hid ((HBW.out.drew).trans (hb1.mono HBW.out.size))
            clear hb1
            try go_simp
            refine hK.out _ _ ?_ (fun hHeld => ?_)
            · exact FS.out _ HB1.out
            clear hK K
            try simp only [Act.put, List.setIfInBounds_toArray, List.set_cons_zero, List.set_cons_succ]
            refine wpAnyH_take (i := 23) (oi := { dst := some 40, op := .unOp .not 4 (.tmp 39), type := _, pos := _, after := _, guard := some (11, false) }) (v := .bool true) rfl (by kernel_rfl) (by kernel_rfl) (by kernel_rfl) (fun _ _ _ h => h) (Or.inl ⟨by rfl, fun wh hSw => ?_⟩) hHeld ?_
            · (obtain ⟨s0, s1, t0, t1⟩ := hSw; go_simp)
            try simp only [Act.put, List.setIfInBounds_toArray, List.set_cons_zero, List.set_cons_succ]
            refine wpAnyH_take (i := 24) (oi := { dst := some 41, op := .pick (.tmp 28) (.const (.bool true)) (.tmp 40), type := _, pos := _, after := _, guard := none }) (v := .bool true) rfl (by kernel_rfl) (by kernel_rfl) (by kernel_rfl) (fun _ _ _ h => h) (Or.inl ⟨by rfl, fun wh hSw => ?_⟩) hHeld ?_
            · (obtain ⟨s0, s1, t0, t1⟩ := hSw; go_simp)
            try simp only [Act.put, List.setIfInBounds_toArray, List.set_cons_zero, List.set_cons_succ]
            refine wpAnyH_done (by kernel_rfl) ?_ _
            go_wp2
            go_ret
            exact ⟨by rw [HR.out, decide_eq_false (ne_of_getD (d := ez) (k := k) (fun h => HE.out (HX.out.symm.trans (h.trans HY.out))))]; rfl, HB1.out⟩
        · have HE : Hid (¬ x = y) := Lib.hid (fun hh => ht (HXY.out.1 hh).1)
          have ht' : (x.t != y.t) = true := by simpa using ht
          clear ht
          go_wp2_with fail
          refine wp_region_held_drew (S := fun w' => w'.cell? ⟨ba, oa + k * 2, none⟩ = some ua ∧ w'.cell? ⟨ba, oa + k * 2 + 1, none⟩ = some (.int .i64 x.t) ∧ w'.cell? ⟨bb, ob + k * 2, none⟩ = some ub ∧ w'.cell? ⟨bb, ob + k * 2 + 1, none⟩ = some (.int .i64 y.t)) (by kernel_rfl) (FS.out _ HBW.out.drew) (fun hHeld => ?_)
          refine wpAnyH_take (i := 0) (oi := { dst := some 17, op := .move (.tmp 0), type := _, pos := _, after := _, guard := none }) (v := .slice (some ⟨ba, oa, none⟩) n ca) rfl (by kernel_rfl) (by kernel_rfl) (by kernel_rfl) (fun _ _ _ h => h) (Or.inl ⟨by rfl, fun wh hSw => ?_⟩) hHeld ?_
          · (obtain ⟨s0, s1, t0, t1⟩ := hSw; go_simp)
          try simp only [Act.put, List.setIfInBounds_toArray, List.set_cons_zero, List.set_cons_succ]
          refine wpAnyH_take (i := 1) (oi := { dst := some 18, op := .move (.tmp 5), type := _, pos := _, after := _, guard := none }) (v := .int .i64 (k : Int)) rfl (by kernel_rfl) (by kernel_rfl) (by kernel_rfl) (fun _ _ _ h => h) (Or.inl ⟨by rfl, fun wh hSw => ?_⟩) hHeld ?_
          · (obtain ⟨s0, s1, t0, t1⟩ := hSw; go_simp)
          try simp only [Act.put, List.setIfInBounds_toArray, List.set_cons_zero, List.set_cons_succ]
          refine wpAnyH_take (i := 2) (oi := { dst := some 19, op := .indexAddr 27 (.tmp 17) (.tmp 18), type := _, pos := _, after := _, guard := none }) (v := .pointer (some ⟨ba, oa + k * 2, none⟩)) rfl (by kernel_rfl) (by kernel_rfl) (by kernel_rfl) (fun _ _ _ h => h) (Or.inl ⟨by rfl, fun wh hSw => ?_⟩) hHeld ?_
          · (obtain ⟨s0, s1, t0, t1⟩ := hSw; go_simp)
          try simp only [Act.put, List.setIfInBounds_toArray, List.set_cons_zero, List.set_cons_succ]
          refine wpAnyH_take (i := 3) (oi := { dst := some 20, op := .fieldAddr 37 (.tmp 19) 1, type := _, pos := _, after := _, guard := none }) (v := .pointer (some ⟨ba, oa + k * 2 + 1, none⟩)) rfl (by kernel_rfl) (by kernel_rfl) (by kernel_rfl) (fun _ _ _ h => h) (Or.inl ⟨by rfl, fun wh hSw => ?_⟩) hHeld ?_
          · (obtain ⟨s0, s1, t0, t1⟩ := hSw; go_simp)
          try simp only [Act.put, List.setIfInBounds_toArray, List.set_cons_zero, List.set_cons_succ]
          refine wpAnyH_take (i := 4) (oi := { dst := some 21, op := .load 3 (.tmp 20), type := _, pos := _, after := _, guard := none }) (v := .int .i64 x.t) rfl (by kernel_rfl) (by kernel_rfl) (by kernel_rfl) (fun _ _ _ h => h) (Or.inl ⟨by rfl, fun wh hSw => ?_⟩) hHeld ?_
          · (obtain ⟨s0, s1, t0, t1⟩ := hSw; go_simp)
          try simp only [Act.put, List.setIfInBounds_toArray, List.set_cons_zero, List.set_cons_succ]
          refine wpAnyH_take (i := 5) (oi := { dst := some 22, op := .move (.tmp 1), type := _, pos := _, after := _, guard := none }) (v := .slice (some ⟨bb, ob, none⟩) n cb) rfl (by kernel_rfl) (by kernel_rfl) (by kernel_rfl) (fun _ _ _ h => h) (Or.inl ⟨by rfl, fun wh hSw => ?_⟩) hHeld ?_
          · (obtain ⟨s0, s1, t0, t1⟩ := hSw; go_simp)
          try simp only [Act.put, List.setIfInBounds_toArray, List.set_cons_zero, List.set_cons_succ]
          refine wpAnyH_take (i := 6) (oi := { dst := some 23, op := .move (.tmp 5), type := _, pos := _, after := _, guard := none }) (v := .int .i64 (k : Int)) rfl (by kernel_rfl) (by kernel_rfl) (by kernel_rfl) (fun _ _ _ h => h) (Or.inl ⟨by rfl, fun wh hSw => ?_⟩) hHeld ?_
          · (obtain ⟨s0, s1, t0, t1⟩ := hSw; go_simp)
          try simp only [Act.put, List.setIfInBounds_toArray, List.set_cons_zero, List.set_cons_succ]
          refine wpAnyH_take (i := 7) (oi := { dst := some 24, op := .indexAddr 27 (.tmp 22) (.tmp 23), type := _, pos := _, after := _, guard := none }) (v := .pointer (some ⟨bb, ob + k * 2, none⟩)) rfl (by kernel_rfl) (by kernel_rfl) (by kernel_rfl) (fun _ _ _ h => h) (Or.inl ⟨by rfl, fun wh hSw => ?_⟩) hHeld ?_
          · (obtain ⟨s0, s1, t0, t1⟩ := hSw; go_simp)
          try simp only [Act.put, List.setIfInBounds_toArray, List.set_cons_zero, List.set_cons_succ]
          refine wpAnyH_take (i := 8) (oi := { dst := some 25, op := .fieldAddr 37 (.tmp 24) 1, type := _, pos := _, after := _, guard := none }) (v := .pointer (some ⟨bb, ob + k * 2 + 1, none⟩)) rfl (by kernel_rfl) (by kernel_rfl) (by kernel_rfl) (fun _ _ _ h => h) (Or.inl ⟨by rfl, fun wh hSw => ?_⟩) hHeld ?_
          · (obtain ⟨s0, s1, t0, t1⟩ := hSw; go_simp)
          try simp only [Act.put, List.setIfInBounds_toArray, List.set_cons_zero, List.set_cons_succ]
          refine wpAnyH_take (i := 9) (oi := { dst := some 26, op := .load 3 (.tmp 25), type := _, pos := _, after := _, guard := none }) (v := .int .i64 y.t) rfl (by kernel_rfl) (by kernel_rfl) (by kernel_rfl) (fun _ _ _ h => h) (Or.inl ⟨by rfl, fun wh hSw => ?_⟩) hHeld ?_
          · (obtain ⟨s0, s1, t0, t1⟩ := hSw; go_simp)
          try simp only [Act.put, List.setIfInBounds_toArray, List.set_cons_zero, List.set_cons_succ]
          refine wpAnyH_take (i := 10) (oi := { dst := some 27, op := .binOp .neq 3 (.tmp 21) (.tmp 26) 3, type := _, pos := _, after := _, guard := none }) (v := .bool true) rfl (by kernel_rfl) (by kernel_rfl) (by kernel_rfl) (fun _ _ _ h => h) (Or.inl ⟨by rfl, fun wh hSw => ?_⟩) hHeld ?_
          · (obtain ⟨s0, s1, t0, t1⟩ := hSw; go_simp)
          try simp only [Act.put, List.setIfInBounds_toArray, List.set_cons_zero, List.set_cons_succ]
          refine wpAnyH_take (i := 11) (oi := { dst := some 28, op := .move (.tmp 27), type := _, pos := _, after := _, guard := none }) (v := .bool true) rfl (by kernel_rfl) (by kernel_rfl) (by kernel_rfl) (fun _ _ _ h => h) (Or.inl ⟨by rfl, fun wh hSw => ?_⟩) hHeld ?_
          · (obtain ⟨s0, s1, t0, t1⟩ := hSw; go_simp)
          try simp only [Act.put, List.setIfInBounds_toArray, List.set_cons_zero, List.set_cons_succ]
          refine wpAnyH_take (i := 12) (oi := { dst := some 29, op := .move (.tmp 0), type := _, pos := _, after := _, guard := some (11, false) }) (v := undef) rfl (by kernel_rfl) (by kernel_rfl) (by kernel_rfl) (fun _ _ _ h => h) (Or.inr ⟨by rfl, rfl⟩) hHeld ?_
          try simp only [Act.put, List.setIfInBounds_toArray, List.set_cons_zero, List.set_cons_succ]
          refine wpAnyH_take (i := 13) (oi := { dst := some 30, op := .move (.tmp 5), type := _, pos := _, after := _, guard := some (11, false) }) (v := undef) rfl (by kernel_rfl) (by kernel_rfl) (by kernel_rfl) (fun _ _ _ h => h) (Or.inr ⟨by rfl, rfl⟩) hHeld ?_
          try simp only [Act.put, List.setIfInBounds_toArray, List.set_cons_zero, List.set_cons_succ]
          refine wpAnyH_take (i := 14) (oi := { dst := some 31, op := .indexAddr 27 (.tmp 29) (.tmp 30), type := _, pos := _, after := _, guard := some (11, false) }) (v := undef) rfl (by kernel_rfl) (by kernel_rfl) (by kernel_rfl) (fun _ _ _ h => h) (Or.inr ⟨by rfl, rfl⟩) hHeld ?_
          try simp only [Act.put, List.setIfInBounds_toArray, List.set_cons_zero, List.set_cons_succ]
          refine wpAnyH_take (i := 15) (oi := { dst := some 32, op := .fieldAddr 37 (.tmp 31) 0, type := _, pos := _, after := _, guard := some (11, false) }) (v := undef) rfl (by kernel_rfl) (by kernel_rfl) (by kernel_rfl) (fun _ _ _ h => h) (Or.inr ⟨by rfl, rfl⟩) hHeld ?_
          try simp only [Act.put, List.setIfInBounds_toArray, List.set_cons_zero, List.set_cons_succ]
          refine wpAnyH_take (i := 16) (oi := { dst := some 33, op := .load 35 (.tmp 32), type := _, pos := _, after := _, guard := some (11, false) }) (v := undef) rfl (by kernel_rfl) (by kernel_rfl) (by kernel_rfl) (fun _ _ _ h => h) (Or.inr ⟨by rfl, rfl⟩) hHeld ?_
          try simp only [Act.put, List.setIfInBounds_toArray, List.set_cons_zero, List.set_cons_succ]
          refine wpAnyH_take (i := 17) (oi := { dst := some 34, op := .move (.tmp 1), type := _, pos := _, after := _, guard := some (11, false) }) (v := undef) rfl (by kernel_rfl) (by kernel_rfl) (by kernel_rfl) (fun _ _ _ h => h) (Or.inr ⟨by rfl, rfl⟩) hHeld ?_
          try simp only [Act.put, List.setIfInBounds_toArray, List.set_cons_zero, List.set_cons_succ]
          refine wpAnyH_take (i := 18) (oi := { dst := some 35, op := .move (.tmp 5), type := _, pos := _, after := _, guard := some (11, false) }) (v := undef) rfl (by kernel_rfl) (by kernel_rfl) (by kernel_rfl) (fun _ _ _ h => h) (Or.inr ⟨by rfl, rfl⟩) hHeld ?_
          try simp only [Act.put, List.setIfInBounds_toArray, List.set_cons_zero, List.set_cons_succ]
          refine wpAnyH_take (i := 19) (oi := { dst := some 36, op := .indexAddr 27 (.tmp 34) (.tmp 35), type := _, pos := _, after := _, guard := some (11, false) }) (v := undef) rfl (by kernel_rfl) (by kernel_rfl) (by kernel_rfl) (fun _ _ _ h => h) (Or.inr ⟨by rfl, rfl⟩) hHeld ?_
          try simp only [Act.put, List.setIfInBounds_toArray, List.set_cons_zero, List.set_cons_succ]
          refine wpAnyH_take (i := 20) (oi := { dst := some 37, op := .fieldAddr 37 (.tmp 36) 0, type := _, pos := _, after := _, guard := some (11, false) }) (v := undef) rfl (by kernel_rfl) (by kernel_rfl) (by kernel_rfl) (fun _ _ _ h => h) (Or.inr ⟨by rfl, rfl⟩) hHeld ?_
          try simp only [Act.put, List.setIfInBounds_toArray, List.set_cons_zero, List.set_cons_succ]
          refine wpAnyH_take (i := 21) (oi := { dst := some 38, op := .load 35 (.tmp 37), type := _, pos := _, after := _, guard := some (11, false) }) (v := undef) rfl (by kernel_rfl) (by kernel_rfl) (by kernel_rfl) (fun _ _ _ h => h) (Or.inr ⟨by rfl, rfl⟩) hHeld ?_
          try simp only [Act.put, List.setIfInBounds_toArray, List.set_cons_zero, List.set_cons_succ]
          refine wpAnyH_take (i := 22) (oi := { dst := some 39, op := .call { callee := .value (.func 8), args := #[.tmp 33, .tmp 38], argTypes := #[35, 35] }, type := _, pos := _, after := _, guard := some (11, false) }) (v := undef) rfl (by kernel_rfl) (by kernel_rfl) (by kernel_rfl) (fun _ _ _ h => h) (Or.inr ⟨by rfl, rfl⟩) hHeld ?_
          try simp only [Act.put, List.setIfInBounds_toArray, List.set_cons_zero, List.set_cons_succ]
          refine wpAnyH_take (i := 23) (oi := { dst := some 40, op := .unOp .not 4 (.tmp 39), type := _, pos := _, after := _, guard := some (11, false) }) (v := undef) rfl (by kernel_rfl) (by kernel_rfl) (by kernel_rfl) (fun _ _ _ h => h) (Or.inr ⟨by rfl, rfl⟩) hHeld ?_
          try simp only [Act.put, List.setIfInBounds_toArray, List.set_cons_zero, List.set_cons_succ]
          refine wpAnyH_take (i := 24) (oi := { dst := some 41, op := .pick (.tmp 28) (.const (.bool true)) (.tmp 40), type := _, pos := _, after := _, guard := none }) (v := .bool true) rfl (by kernel_rfl) (by kernel_rfl) (by kernel_rfl) (fun _ _ _ h => h) (Or.inl ⟨by rfl, fun wh hSw => ?_⟩) hHeld ?_
          · (obtain ⟨s0, s1, t0, t1⟩ := hSw; go_simp)
          try simp only [Act.put, List.setIfInBounds_toArray, List.set_cons_zero, List.set_cons_succ]
          refine wpAnyH_done (by kernel_rfl) ?_ _
          go_wp2
          go_ret
          exact ⟨by rw [HR.out, decide_eq_false (ne_of_getD (d := ez) (k := k) (fun h => HE.out (HX.out.symm.trans (h.trans HY.out))))]; rfl, HBW.out.drew⟩
      · go_wp2
        go_ret
        exact ⟨by rw [HR.out, decide_eq_true (eq_of_take (HN.out.symm.trans HN2.out.symm) (by have := HN.out; omega) HT.out)]; rfl, HBW.out⟩
  · have hne : ((xs.length : Int) != (ys.length : Int)) = true := by simp; omega
    have HL := Lib.hid hl
    clear hl
    go_enter Tryz.func20, Tryz.ntmps20
    go_wp2
    go_ret
    exact ⟨by rw [HR.out, decide_eq_false (fun h => HL.out (by rw [h]))]; rfl, Below.refl _ _⟩
end Go.Proofs.YthfdkenidfnmgaaGreat
namespace Go.Proofs.YthfdkenidfnmgaaGreat
open Go.ChangeShapes Go.WideShapes Go.ChangeAt Go.RowKit
set_option linter.unusedVariables false
set_option linter.unusedSimpArgs false
set_option maxRecDepth 100000
theorem sameKernel_any (w : World) (vm vi ve vc um ui ue uc : Value) (K L : KV) (h : Ks w vm vi ve vc K) (k : Ks w um ui ue uc L) (r : Bool) (hr : r = true ↔ K = L) :
    Calls Tryz.prog 7 #[kV vm vi ve vc, kV um ui ue uc] w (BRes r w) := by
  obtain ⟨M, I, E, C⟩ := K
  obtain ⟨M', I', E', C'⟩ := L
  have HA : Hid (∀ o1 o2, Below w.heap.size w ((w.alloc o1).alloc o2)) := Lib.hid (fun o1 o2 => ((Below.refl _ _).alloc (Nat.le_refl _) _).alloc (by simp) _)
  obtain ⟨p1, hp1⟩ : ∃ p, p = decide (M = M') := ⟨_, rfl⟩
  obtain ⟨p2, hp2⟩ : ∃ p, p = decide (I = I') := ⟨_, rfl⟩
  obtain ⟨p3, hp3⟩ : ∃ p, p = decide (E = E') := ⟨_, rfl⟩
  obtain ⟨p4, hp4⟩ : ∃ p, p = decide (C = C') := ⟨_, rfl⟩
  have HR : Hid (r = (p1 && p2 && p3 && p4)) := Lib.hid (by
    rw [Bool.eq_iff_iff, hr, hp1, hp2, hp3, hp4]
    simp only [KV.mk.injEq, Bool.and_eq_true, decide_eq_true_eq]
    exact ⟨fun ⟨a, b, c, d⟩ => ⟨⟨⟨a, b⟩, c⟩, d⟩, fun ⟨⟨⟨a, b⟩, c⟩, d⟩ => ⟨a, b, c, d⟩⟩)
  have HM : Hid (∀ W, Below w.heap.size w W → Calls Tryz.prog 18 #[vm, um] W (fun e w' => e = .returned (.bool p1) ∧ Below W.heap.size W w')) := Lib.hid (fun W hW => by
    rw [hp1]
    exact (sameMemory_any W vm um M M' (h.m.below hW) (k.m.below hW)).mono fun e w' hh => reads_below hh)
  have HI : Hid (∀ W, Below w.heap.size w W → Calls Tryz.prog 19 #[vi, ui] W (fun e w' => e = .returned (.bool p2) ∧ Below W.heap.size W w')) := Lib.hid (fun W hW => by
    rw [hp2]
    exact sameInfos_any W vi ui I I' (h.i.below hW) (k.i.below hW))
  have HE : Hid (∀ W, Below w.heap.size w W → Calls Tryz.prog 20 #[ve, ue] W (fun e w' => e = .returned (.bool p3) ∧ Below W.heap.size W w')) := Lib.hid (fun W hW => by
    rw [hp3]
    exact sameEnvs_any W ve ue E E' (h.e.below hW) (k.e.below hW))
  have HCC : Hid (∀ W, Below w.heap.size w W → Calls Tryz.prog 21 #[vc, uc] W (fun e w' => e = .returned (.bool p4) ∧ Below W.heap.size W w')) := Lib.hid (fun W hW => by
    rw [hp4]
    exact sameCache_any W vc uc C C' (h.c.below hW) (k.c.below hW))
  have HQ : Hid (∀ t s W', Below (w.heap.size + 1 + 1) ((w.alloc (.cells #[vm, vi, ve, vc] t)).alloc (.cells #[um, ui, ue, uc] s)) W' → (W'.cell? ⟨w.heap.size, 1, none⟩ = some vi ∧ W'.cell? ⟨w.heap.size, 2, none⟩ = some ve ∧ W'.cell? ⟨w.heap.size, 3, none⟩ = some vc) ∧ W'.cell? ⟨w.heap.size + 1, 1, none⟩ = some ui ∧ W'.cell? ⟨w.heap.size + 1, 2, none⟩ = some ue ∧ W'.cell? ⟨w.heap.size + 1, 3, none⟩ = some uc) := Lib.hid (fun t s W' hb => by
    have a : ∀ j v, (#[vm, vi, ve, vc] : Array Value)[j]? = some v → W'.cell? ⟨w.heap.size, j, none⟩ = some v := fun j v hj => (hb.cell (p := ⟨w.heap.size, j, none⟩) (by show w.heap.size < _; omega)).trans (by rw [World.cell?_alloc_past _ _ _ (by simp)]; exact new_cell hj)
    have b : ∀ j v, (#[um, ui, ue, uc] : Array Value)[j]? = some v → W'.cell? ⟨w.heap.size + 1, j, none⟩ = some v := fun j v hj => (hb.cell (p := ⟨w.heap.size + 1, j, none⟩) (by show w.heap.size + 1 < _; omega)).trans (by
      have := new_cell (w := w.alloc (.cells #[vm, vi, ve, vc] t)) (t := s) hj
      rwa [World.size_alloc] at this)
    exact ⟨⟨a 1 _ rfl, a 2 _ rfl, a 3 _ rfl⟩, b 1 _ rfl, b 2 _ rfl, b 3 _ rfl⟩)
  have HS : Hid (∀ o1 o2, ((w.alloc o1).alloc o2).heap.size = w.heap.size + 1 + 1) := Lib.hid (fun o1 o2 => by simp)
  clear h k hr hp1 hp2 hp3 hp4
  go_enter Tryz.func7, Tryz.ntmps7
  go_wp2_with fail
  refine (HM.out _ (HA.out _ _)).mono ?_
  rintro e w1 ⟨rfl, hb1⟩
  rw [HS.out] at hb1
  have HB1 : Hid (Below w.heap.size w w1) := Lib.hid ((HA.out _ _).trans (hb1.mono (by omega)))
  have HD1 := Lib.hid hb1
  obtain ⟨⟨q1, q2, q3⟩, s1, s2, s3⟩ := HQ.out _ _ _ hb1
  clear hb1
  cases p1 with
  | false =>
    go_wp2_with fail
    go_ret
    exact ⟨by rw [HR.out]; rfl, HB1.out⟩
  | true =>
    go_wp2_with fail
    refine (HI.out _ HB1.out).mono ?_
    rintro e w2 ⟨rfl, hb2⟩
    have HB2 : Hid (Below w.heap.size w w2) := Lib.hid (HB1.out.trans (hb2.mono HB1.out.size))
    have HD2 := Lib.hid (HD1.out.trans (hb2.mono (by have := HD1.out.size; rw [HS.out] at this; exact this)))
    clear q1 q2 q3 s1 s2 s3 hb2
    obtain ⟨⟨q1, q2, q3⟩, s1, s2, s3⟩ := HQ.out _ _ _ HD2.out
    cases p2 with
    | false =>
      go_wp2_with fail
      go_ret
      exact ⟨by rw [HR.out]; rfl, HB2.out⟩
    | true =>
      go_wp2_with fail
      refine (HE.out _ HB2.out).mono ?_
      rintro e w3 ⟨rfl, hb3⟩
      have HB3 : Hid (Below w.heap.size w w3) := Lib.hid (HB2.out.trans (hb3.mono HB2.out.size))
      have HD3 := Lib.hid (HD2.out.trans (hb3.mono (by have := HD2.out.size; rw [HS.out] at this; exact this)))
      clear q1 q2 q3 s1 s2 s3 hb3
      obtain ⟨⟨q1, q2, q3⟩, s1, s2, s3⟩ := HQ.out _ _ _ HD3.out
      cases p3 with
      | false =>
        go_wp2_with fail
        go_ret
        exact ⟨by rw [HR.out]; rfl, HB3.out⟩
      | true =>
        go_wp2_with fail
        refine (HCC.out _ HB3.out).mono ?_
        rintro e w4 ⟨rfl, hb4⟩
        have HB4 : Hid (Below w.heap.size w w4) := Lib.hid (HB3.out.trans (hb4.mono HB3.out.size))
        clear q1 q2 q3 s1 s2 s3 hb4
        cases p4 with
        | false =>
          go_wp2_with fail
          go_ret
          exact ⟨by rw [HR.out]; rfl, HB4.out⟩
        | true =>
          go_wp2_with fail
          go_ret
          exact ⟨by rw [HR.out]; rfl, HB4.out⟩
end Go.Proofs.YthfdkenidfnmgaaGreat
namespace Go.Proofs.YthfdkenidfnmgaaGreat
open Go.ChangeShapes Go.WideShapes Go.ChangeAt Go.RowKit
set_option linter.unusedVariables false
set_option linter.unusedSimpArgs false
set_option maxRecDepth 100000
theorem ks_forms {w : World} {vm vi ve vc : Value} {K : KV} (h : Ks w vm vi ve vc K) : ∃ ma mc ia ic ea ec ca cc, vm = .slice ma K.m.length mc ∧ vi = .slice ia K.i.length ic ∧ ve = .slice ea K.e.length ec ∧ vc = .slice ca K.c.length cc := by
  obtain ⟨ma, mc, e1, _⟩ := h.m
  obtain ⟨ia, ic, e2, _⟩ := h.i
  obtain ⟨ea, ec, e3, _⟩ := h.e
  obtain ⟨ca, cc, e4, _⟩ := h.c
  exact ⟨ma, mc, ia, ic, ea, ec, ca, cc, e1, e2, e3, e4⟩
theorem knew_env {rs : List (List Bs)} (h : knewOk rs = true) {j : Nat} (hj : j < 3) : (knew rs).e.getD j ez = ⟨rs.getD j [], -1⟩ := by
  have h' := h
  unfold knewOk at h'
  rw [Bool.and_eq_true, decide_eq_true_eq] at h'
  unfold knew
  rw [if_pos h]
  show (rs.map (fun r => (⟨r, -1⟩ : EV))).getD j ez = _
  rw [getD_lt (by rw [List.length_map]; omega), List.getElem_map, getD_lt (by omega)]
theorem knew_lens {rs : List (List Bs)} (h : knewOk rs = true) : (knew rs).e.length = 3 ∧ (knew rs).c.length = 0 ∧ rs.length = 3 ∧ (knew rs).i = List.replicate 12 iz := by
  have h' := h
  unfold knewOk at h'
  rw [Bool.and_eq_true, decide_eq_true_eq] at h'
  unfold knew
  rw [if_pos h]
  exact ⟨by show (rs.map _).length = 3; rw [List.length_map]; exact h'.2, rfl, h'.2, rfl⟩
theorem neBB (b : Bool) : (b != b) = false := by simp
theorem beqB (b : Bool) : (b == b) = true := by simp
set_option maxHeartbeats 8000000 in
theorem kernelNew_walk (W : World) (a : Option Addr) (len cap : Nat) (zs : List Int) (hr : Row .u8 W a len cap zs) :
    Calls Tryz.prog 3 #[.slice a len cap] W fun e w' => e = .returned (.bool true) ∧ Below W.heap.size W w' := by
  have hm := row_len hr
  by_cases hL : 1048576 < len
  · have hL1 : (1048576 : Int) < (len : Int) := by omega
    clear hr
    go_enter Tryz.func3, Tryz.ntmps3
    go_wp2_with fail
    go_ret
    exact ⟨rfl, Below.refl _ _⟩
  have hL1 : decide ((1048576 : Int) < (len : Int)) = false := by simp; omega
  have hL2 : decide (1048576 < len) = false := by simp; omega
  go_enter Tryz.func3, Tryz.ntmps3
  go_wp2_with fail
  refine (drawKernelNew_any W a len cap zs hr).mono ?_
  clear hr
  rintro e w1 ⟨g, c, rs, rfl, hsn, hl5, hx, hb1⟩
  have HSN := Lib.hid hsn
  have HSS : Hid (∀ x ∈ rs, Short x) := Lib.hid (fun x hxx => shortP_short (hx x hxx).2)
  have HB1 := Lib.hid hb1
  have HL5 := Lib.hid hl5
  have HXL : Hid (∀ x ∈ rs, x.length ≤ 1000000) := Lib.hid (fun x hxx => by have := (hx x hxx).1; omega)
  obtain ⟨rn, hrn⟩ : ∃ n, n = rs.length := ⟨_, rfl⟩
  rw [← hrn] at HSN HL5 ⊢
  have HRN := Lib.hid hrn
  have HSSS : Hid (Sss w1 (.slice (some ⟨g, 0, none⟩) rn c) rs) := Lib.hid (by
    obtain ⟨a', c', e, h1, h2, h3⟩ := HSN.out
    exact ⟨a', c', e, h1, h2, fun i hi => by
      obtain ⟨b, o, u, e2, hc, hu, _⟩ := h3 i hi
      exact ⟨b, o, u, e2, hc, hu⟩⟩)
  have HIK := Lib.hid (iKernelNew_any w1 _ rs HSSS.out HSS.out (by have := HRN.out; have := HL5.out; omega))
  have HKS : Hid (knewOk rs = true → KOk (knew rs)) := Lib.hid knew_ok
  have HLN : Hid (knewOk rs = true → (knew rs).e.length = 3 ∧ (knew rs).c.length = 0 ∧ rs.length = 3 ∧ (knew rs).i = List.replicate 12 iz) := Lib.hid knew_lens
  have HEN : Hid (knewOk rs = true → ∀ j, j < 3 → (knew rs).e.getD j ez = ⟨rs.getD j [], -1⟩) := Lib.hid (fun h j hj => knew_env h hj)
  have HSC : Hid (∀ w2 v, Below w1.heap.size w1 w2 → v = .slice (some ⟨g, 0, none⟩) rn c → Calls Tryz.prog 6 #[v] w2 (NewKB (knew rs) (knewOk rs) w2)) := Lib.hid (fun w2 v hb e => sKernelNew_any w2 v rs (by rw [e]; exact HSN.out.below hb) HSS.out (by have := HRN.out; have := HL5.out; omega) HXL.out)
  have HSH3 : Hid (knewOk rs = true → Short3 (knew rs).e) := Lib.hid (fun h x hx => by
    unfold knew at hx
    rw [if_pos h] at hx
    obtain ⟨r, hr, rfl⟩ := List.mem_map.1 hx
    exact HSS.out r hr)
  unfold NewKW at HIK
  unfold NewKB at HSC
  obtain ⟨q, hq⟩ : ∃ q, q = knewOk rs := ⟨_, rfl⟩
  rw [← hq] at HIK HKS HLN HEN HSC HSH3
  obtain ⟨K, hK⟩ : ∃ K, K = knew rs := ⟨_, rfl⟩
  rw [← hK] at HIK HKS HLN HEN HSC HSH3
  have hqq := neBB q
  have hqe := beqB q
  clear hsn hl5 hx hb1 hrn hq hK hL hm HSS HXL
  go_wp2_with fail
  refine HIK.out.mono ?_
  rintro e w2 ⟨v0, v1, v2, v3, rfl, hks, hb2, -, -⟩
  obtain ⟨ma, mc, ia, ic, ea, ec, ca, cc, rfl, rfl, rfl, rfl⟩ := ks_forms hks
  have HKA := Lib.hid hks
  have HB2 := Lib.hid hb2
  clear hks hb2 HIK
  obtain ⟨X, hX⟩ : ∃ X, X = w2.heap.size := ⟨_, rfl⟩
  obtain ⟨w3, hw3⟩ : ∃ w3, w3 = w2.alloc (.cells #[.slice ma K.m.length mc, .slice ia K.i.length ic, .slice ea K.e.length ec, .slice ca K.c.length cc] 30) := ⟨_, rfl⟩
  have HK13 : Hid (KB4 w3 X (.slice ma K.m.length mc) (.slice ia K.i.length ic) (.slice ea K.e.length ec) (.slice ca K.c.length cc)) := Lib.hid (by rw [hw3, hX]; exact KB4.new ..)
  have HB23 : Hid (Below w2.heap.size w2 w3) := Lib.hid (by rw [hw3]; exact (Below.refl _ _).alloc (Nat.le_refl _) _)
  have HKA3 := Lib.hid (HKA.out.below HB23.out)
  have HB3 : Hid (Below w1.heap.size w1 w3) := Lib.hid (HB2.out.trans (HB23.out.mono HB2.out.size))
  have HXE := Lib.hid hX
  have HW3 := Lib.hid hw3
  clear hX hw3 HKA
  go_wp2_with fail
  rw [← HXE.out, ← HW3.out]
  refine (HSC.out w3 _ HB3.out rfl).mono ?_
  rintro e w4 ⟨u0, u1, u2, u3, rfl, hks, hb4⟩
  obtain ⟨ma', mc', ia', ic', ea', ec', ca', cc', rfl, rfl, rfl, rfl⟩ := ks_forms hks
  have HKB := Lib.hid hks
  have HKA4 := Lib.hid (HKA3.out.below hb4)
  have HK14 := Lib.hid (HK13.out.go hb4)
  have HB4 := Lib.hid (HB3.out.trans (hb4.mono HB3.out.size))
  clear hks hb4 HSC HKA3 HK13
  obtain ⟨Y, hY⟩ : ∃ Y, Y = w4.heap.size := ⟨_, rfl⟩
  obtain ⟨w5, hw5⟩ : ∃ w5, w5 = w4.alloc (.cells #[.slice ma' K.m.length mc', .slice ia' K.i.length ic', .slice ea' K.e.length ec', .slice ca' K.c.length cc'] 30) := ⟨_, rfl⟩
  have HK25 : Hid (KB4 w5 Y (.slice ma' K.m.length mc') (.slice ia' K.i.length ic') (.slice ea' K.e.length ec') (.slice ca' K.c.length cc')) := Lib.hid (by rw [hw5, hY]; exact KB4.new ..)
  have HB45 : Hid (Below w4.heap.size w4 w5) := Lib.hid (by rw [hw5]; exact (Below.refl _ _).alloc (Nat.le_refl _) _)
  have HKA5 := Lib.hid (HKA4.out.below HB45.out)
  have HKB5 := Lib.hid (HKB.out.below HB45.out)
  have HK15 := Lib.hid (HK14.out.go HB45.out)
  have HB5 := Lib.hid (HB4.out.trans (HB45.out.mono HB4.out.size))
  have HYE := Lib.hid hY
  have HW5 := Lib.hid hw5
  obtain ⟨x0, x1, x2, x3⟩ := HK14.out.cells
  have hxw := HK14.out.lt
  clear hY hw5 HKA4 HKB HK14
  have HSK := Lib.hid (sameKernel_any w5 _ _ _ _ _ _ _ _ K K HKA5.out HKB5.out true (by simp))
  go_wp2_with fail
  rw [← HYE.out, ← HW5.out]
  refine HSK.out.mono ?_
  rintro e w6 ⟨rfl, hb6⟩
  have HKA6 := Lib.hid (HKA5.out.below hb6)
  have HK16 := Lib.hid (HK15.out.go hb6)
  have HK26 := Lib.hid (HK25.out.go hb6)
  have HKB6 := Lib.hid (HKB5.out.below hb6)
  have HB6 := Lib.hid (HB5.out.trans (hb6.mono HB5.out.size))
  clear hb6 HSK x0 x1 x2 x3 hxw HKA5 HKB5 HK15 HK25
  obtain ⟨x0, x1, x2, x3⟩ := HK16.out.cells
  obtain ⟨y0, y1, y2, y3⟩ := HK26.out.cells
  cases q with
  | false =>
    have HSK := Lib.hid (sameKernel_any w6 _ _ _ _ _ _ _ _ K K HKA6.out HKB6.out true (by simp))
    go_wp2_with fail
    refine HSK.out.mono ?_
    rintro e w7 ⟨rfl, hb7⟩
    have HB7 := Lib.hid (HB1.out.trans ((HB6.out.trans (hb7.mono HB6.out.size)).mono HB1.out.size))
    clear hb7
    go_wp2_with fail
    go_ret
    exact ⟨rfl, HB7.out⟩
  | true =>
    go_wp2_with fail
    obtain ⟨hel, hcl, hrl, hki⟩ := HLN.out trivial
    have hrn3 : rn = 3 := by have := HRN.out; omega
    have HEN2 := Lib.hid (HEN.out trivial)
    have HIV := Lib.hid (fun (wr : World) (h : Below w6.heap.size w6 wr) => ikvalid_any wr _ _ _ _ K (HKA6.out.below h) (by rw [hki]; exact fun x hx => by rw [List.eq_of_mem_replicate hx]; exact Nat.zero_le _) (HSH3.out trivial))
    have HKV : Hid (kvalid K = true) := Lib.hid (kvalid_iff.2 (HKS.out trivial))
    have HIF := Lib.hid (fun (wr : World) (h : Below w6.heap.size w6 wr) => iif_any wr _ K.i (HKA6.out.i.below h) (by rw [hki]; exact fun x hx => by rw [List.eq_of_mem_replicate hx]; exact Nat.zero_le _))
    have HF12 : Hid (ifree K.i = 12) := Lib.hid (by rw [hki]; decide)
    rw [HKV.out] at HIV
    rw [HF12.out] at HIF
    unfold NRes at HIF
    have HE3 : Hid (∀ k, k < 3 → ∃ be oe ue, ea = some ⟨be, oe, none⟩ ∧ w6.cell? ⟨be, oe + k * 2, none⟩ = some ue ∧ w6.cell? ⟨be, oe + k * 2 + 1, none⟩ = some (.int .i64 (-1)) ∧ Strs w6 ue (rs.getD k [])) := Lib.hid (fun k hk => by
      obtain ⟨a', c', e, _, _, h3⟩ := HKA6.out.e
      obtain ⟨be, oe, ue, e2, c0, c1, hu⟩ := h3 k (by omega)
      rw [HEN2.out k hk] at c1 hu
      injection e with e _ _
      exact ⟨be, oe, ue, by rw [e, e2], c0, c1, hu⟩)
    have HR3 : Hid (∀ k, k < 3 → ∃ o u, (⟨g, 0, none⟩ : Addr) = ⟨g, o, none⟩ ∧ w1.cell? ⟨g, o + k, none⟩ = some u ∧ Strs w1 u (rs.getD k [])) := Lib.hid (fun k hk => by
      obtain ⟨a', c', e, _, _, h3⟩ := HSN.out
      obtain ⟨b, o, u, e2, hc, hu, _⟩ := h3 k (by omega)
      injection e with e _ _
      rw [e2] at e
      injection e with e
      injection e with e1 e3
      exact ⟨o, u, by rw [← e3], by rw [e1]; exact hc, hu⟩)
    subst hrn3
    rw [hel, hcl] at HK16 HIV
    rw [hel, hcl]
    obtain ⟨in_, hin⟩ : ∃ n, n = K.i.length := ⟨_, rfl⟩
    obtain ⟨mn, hmn⟩ : ∃ n, n = K.m.length := ⟨_, rfl⟩
    rw [← hin] at HK16 HIV HIF ⊢
    rw [← hmn] at HK16 HIV ⊢
    clear hel hcl hrl hki hin hmn HKA6 HKB6 HK26 y0 y1 y2 y3 x0 x1 x2 x3
    go_loopw [8] (fun i wr => ∃ k : Nat, k ≤ 3 ∧ i = .int .i64 k ∧ Hid (Below w6.heap.size w6 wr)) (fun i _ => 3 - (intOf i).toNat)
    case atStart => exact ⟨0, by omega, rfl, Lib.hid (Below.refl _ _)⟩
    case round =>
      obtain ⟨k, hk, rfl, HBr⟩ := hrel
      by_cases hlt : k < 3
      · have hlt' : (k : Int) < 3 := by omega
        have hk0 : (0 : Int) ≤ (k : Int) := by omega
        obtain ⟨be, oe, ue, rfl, c0, c1, hue⟩ := HE3.out k hlt
        obtain ⟨o, ru, ho, d0, hru⟩ := HR3.out k hlt
        injection ho with _ ho
        subst ho
        rw [Nat.zero_add] at d0
        obtain ⟨x0, x1, x2, x3⟩ := (HK16.out.go HBr.out).cells
        have HBW1 := Lib.hid (HB6.out.trans (HBr.out.mono HB6.out.size))
        have HST := Lib.hid (fun (Q : World) (hq : Below wr.heap.size wr Q) => sameTexts_any Q ue ru _ _ (hue.below (HBr.out.trans (hq.mono HBr.out.size))) (hru.below (HBW1.out.trans (hq.mono HBW1.out.size))))
        have HC : Hid (∀ Q, Below wr.heap.size wr Q → Q.cell? ⟨X, 2, none⟩ = some (.slice (some ⟨be, oe, none⟩) 3 ec) ∧ Q.cell? ⟨be, oe + k * 2, none⟩ = some ue ∧ Q.cell? ⟨be, oe + k * 2 + 1, none⟩ = some (.int .i64 (-1)) ∧ Q.cell? ⟨g, k, none⟩ = some ru) := Lib.hid (fun Q hq => ⟨(hq.cell (p := ⟨X, 2, none⟩) (cell_lt x2)).trans x2, ((HBr.out.trans (hq.mono HBr.out.size)).cell (p := ⟨be, oe + k * 2, none⟩) (cell_lt c0)).trans c0, ((HBr.out.trans (hq.mono HBr.out.size)).cell (p := ⟨be, oe + k * 2 + 1, none⟩) (cell_lt c1)).trans c1, ((HBW1.out.trans (hq.mono HBW1.out.size)).cell (p := ⟨g, k, none⟩) (cell_lt d0)).trans d0⟩)
        rw [show decide (rs.getD k [] = rs.getD k []) = true from by simp] at HST
        obtain ⟨fe, fl, fc, rfl⟩ : ∃ a n c, ue = .slice a n c := by obtain ⟨a, c, e, _⟩ := hue; exact ⟨_, _, _, e⟩
        obtain ⟨ge, gl, gc, rfl⟩ : ∃ a n c, ru = .slice a n c := by obtain ⟨a, c, e, _⟩ := hru; exact ⟨_, _, _, e⟩
        clear hue hru c0 c1 d0 x0 x1 x2 x3
        go_wp2_with fail
        refine wp_region_held_drew (S := fun w' => w'.cell? ⟨X, 2, none⟩ = some (.slice (some ⟨be, oe, none⟩) 3 ec) ∧ w'.cell? ⟨be, oe + k * 2, none⟩ = some (.slice fe fl fc) ∧ w'.cell? ⟨be, oe + k * 2 + 1, none⟩ = some (.int .i64 (-1)) ∧ w'.cell? ⟨g, k, none⟩ = some (.slice ge gl gc)) (by kernel_rfl) (HC.out _ (Below.refl _ _).drew) (fun hHeld => ?_)
        refine anyH_gen _ (fun QA hgen => ?_)
        have HBA := Lib.hid (by rw [hgen]; exact (Below.refl wr.heap.size wr).drew : Below wr.heap.size wr QA)
        rw [← hgen] at hHeld
        clear hgen
        refine wpAnyH_take (i := 0) (oi := { dst := some 49, op := .fieldAddr 30 (.tmp 4) 2, type := _, pos := _, after := _, guard := none }) (v := .pointer (some ⟨X, 2, none⟩)) rfl (by kernel_rfl) (by kernel_rfl) (by kernel_rfl) (fun _ _ _ h => h) (Or.inl ⟨by rfl, fun wh hSw => ?_⟩) hHeld ?_
        · (obtain ⟨s0, s1, s2, s3⟩ := hSw; go_simp)
        try simp only [Act.put, List.setIfInBounds_toArray, List.set_cons_zero, List.set_cons_succ]
        refine wpAnyH_take (i := 1) (oi := { dst := some 50, op := .load 27 (.tmp 49), type := _, pos := _, after := _, guard := none }) (v := .slice (some ⟨be, oe, none⟩) 3 ec) rfl (by kernel_rfl) (by kernel_rfl) (by kernel_rfl) (fun _ _ _ h => h) (Or.inl ⟨by rfl, fun wh hSw => ?_⟩) hHeld ?_
        · (obtain ⟨s0, s1, s2, s3⟩ := hSw; go_simp)
        try simp only [Act.put, List.setIfInBounds_toArray, List.set_cons_zero, List.set_cons_succ]
        refine wpAnyH_take (i := 2) (oi := { dst := some 51, op := .move (.tmp 8), type := _, pos := _, after := _, guard := none }) (v := .int .i64 (k : Int)) rfl (by kernel_rfl) (by kernel_rfl) (by kernel_rfl) (fun _ _ _ h => h) (Or.inl ⟨by rfl, fun wh hSw => ?_⟩) hHeld ?_
        · (obtain ⟨s0, s1, s2, s3⟩ := hSw; go_simp)
        try simp only [Act.put, List.setIfInBounds_toArray, List.set_cons_zero, List.set_cons_succ]
        refine wpAnyH_take (i := 3) (oi := { dst := some 52, op := .indexAddr 27 (.tmp 50) (.tmp 51), type := _, pos := _, after := _, guard := none }) (v := .pointer (some ⟨be, oe + k * 2, none⟩)) rfl (by kernel_rfl) (by kernel_rfl) (by kernel_rfl) (fun _ _ _ h => h) (Or.inl ⟨by rfl, fun wh hSw => ?_⟩) hHeld ?_
        · (obtain ⟨s0, s1, s2, s3⟩ := hSw; go_simp)
        try simp only [Act.put, List.setIfInBounds_toArray, List.set_cons_zero, List.set_cons_succ]
        refine wpAnyH_take (i := 4) (oi := { dst := some 53, op := .fieldAddr 37 (.tmp 52) 0, type := _, pos := _, after := _, guard := none }) (v := .pointer (some ⟨be, oe + k * 2, none⟩)) rfl (by kernel_rfl) (by kernel_rfl) (by kernel_rfl) (fun _ _ _ h => h) (Or.inl ⟨by rfl, fun wh hSw => ?_⟩) hHeld ?_
        · (obtain ⟨s0, s1, s2, s3⟩ := hSw; go_simp)
        try simp only [Act.put, List.setIfInBounds_toArray, List.set_cons_zero, List.set_cons_succ]
        refine wpAnyH_take (i := 5) (oi := { dst := some 54, op := .load 35 (.tmp 53), type := _, pos := _, after := _, guard := none }) (v := .slice fe fl fc) rfl (by kernel_rfl) (by kernel_rfl) (by kernel_rfl) (fun _ _ _ h => h) (Or.inl ⟨by rfl, fun wh hSw => ?_⟩) hHeld ?_
        · (obtain ⟨s0, s1, s2, s3⟩ := hSw; go_simp)
        try simp only [Act.put, List.setIfInBounds_toArray, List.set_cons_zero, List.set_cons_succ]
        refine wpAnyH_take (i := 6) (oi := { dst := some 55, op := .move (.tmp 3), type := _, pos := _, after := _, guard := none }) (v := .slice (some ⟨g, 0, none⟩) 3 c) rfl (by kernel_rfl) (by kernel_rfl) (by kernel_rfl) (fun _ _ _ h => h) (Or.inl ⟨by rfl, fun wh hSw => ?_⟩) hHeld ?_
        · (obtain ⟨s0, s1, s2, s3⟩ := hSw; go_simp)
        try simp only [Act.put, List.setIfInBounds_toArray, List.set_cons_zero, List.set_cons_succ]
        refine wpAnyH_take (i := 7) (oi := { dst := some 56, op := .move (.tmp 8), type := _, pos := _, after := _, guard := none }) (v := .int .i64 (k : Int)) rfl (by kernel_rfl) (by kernel_rfl) (by kernel_rfl) (fun _ _ _ h => h) (Or.inl ⟨by rfl, fun wh hSw => ?_⟩) hHeld ?_
        · (obtain ⟨s0, s1, s2, s3⟩ := hSw; go_simp)
        try simp only [Act.put, List.setIfInBounds_toArray, List.set_cons_zero, List.set_cons_succ]
        refine wpAnyH_take (i := 8) (oi := { dst := some 57, op := .indexAddr 23 (.tmp 55) (.tmp 56), type := _, pos := _, after := _, guard := none }) (v := .pointer (some ⟨g, k, none⟩)) rfl (by kernel_rfl) (by kernel_rfl) (by kernel_rfl) (fun _ _ _ h => h) (Or.inl ⟨by rfl, fun wh hSw => ?_⟩) hHeld ?_
        · (obtain ⟨s0, s1, s2, s3⟩ := hSw; go_simp)
        try simp only [Act.put, List.setIfInBounds_toArray, List.set_cons_zero, List.set_cons_succ]
        refine wpAnyH_take (i := 9) (oi := { dst := some 58, op := .load 35 (.tmp 57), type := _, pos := _, after := _, guard := none }) (v := .slice ge gl gc) rfl (by kernel_rfl) (by kernel_rfl) (by kernel_rfl) (fun _ _ _ h => h) (Or.inl ⟨by rfl, fun wh hSw => ?_⟩) hHeld ?_
        · (obtain ⟨s0, s1, s2, s3⟩ := hSw; go_simp)
        try simp only [Act.put, List.setIfInBounds_toArray, List.set_cons_zero, List.set_cons_succ]
        refine wpAnyH_ready (rs := [10]) (by kernel_rfl) (by simp) ?_
        refine AllReadyH.cons (o := { dst := some 59, op := .call { callee := .value (.func 8), args := #[.tmp 54, .tmp 58], argTypes := #[35, 35] }, type := _, pos := _, after := _, guard := none }) rfl (fun K hK => ?_) AllReadyH.nil
        go_simp
        refine (HST.out QA HBA.out).mono ?_
        rintro _ Q1 ⟨rfl, d, hd⟩
        have HB1 : Hid (Below wr.heap.size wr Q1) := Lib.hid (HBA.out.trans (by rw [hd]; exact below_drewN _ _ _))
        clear hd
        try go_simp
        refine hK.out _ _ ?_ (fun hHeld => ?_)
        · exact HC.out _ HB1.out
        clear hK K
        try simp only [Act.put, List.setIfInBounds_toArray, List.set_cons_zero, List.set_cons_succ]
        refine wpAnyH_take (i := 11) (oi := { dst := some 60, op := .unOp .not 4 (.tmp 59), type := _, pos := _, after := _, guard := none }) (v := .bool false) rfl (by kernel_rfl) (by kernel_rfl) (by kernel_rfl) (fun _ _ _ h => h) (Or.inl ⟨by rfl, fun wh hSw => ?_⟩) hHeld ?_
        · (obtain ⟨s0, s1, s2, s3⟩ := hSw; go_simp)
        try simp only [Act.put, List.setIfInBounds_toArray, List.set_cons_zero, List.set_cons_succ]
        refine wpAnyH_take (i := 12) (oi := { dst := some 61, op := .move (.tmp 60), type := _, pos := _, after := _, guard := none }) (v := .bool false) rfl (by kernel_rfl) (by kernel_rfl) (by kernel_rfl) (fun _ _ _ h => h) (Or.inl ⟨by rfl, fun wh hSw => ?_⟩) hHeld ?_
        · (obtain ⟨s0, s1, s2, s3⟩ := hSw; go_simp)
        try simp only [Act.put, List.setIfInBounds_toArray, List.set_cons_zero, List.set_cons_succ]
        refine wpAnyH_take (i := 13) (oi := { dst := some 62, op := .fieldAddr 30 (.tmp 4) 2, type := _, pos := _, after := _, guard := some (12, false) }) (v := .pointer (some ⟨X, 2, none⟩)) rfl (by kernel_rfl) (by kernel_rfl) (by kernel_rfl) (fun _ _ _ h => h) (Or.inl ⟨by rfl, fun wh hSw => ?_⟩) hHeld ?_
        · (obtain ⟨s0, s1, s2, s3⟩ := hSw; go_simp)
        try simp only [Act.put, List.setIfInBounds_toArray, List.set_cons_zero, List.set_cons_succ]
        refine wpAnyH_take (i := 14) (oi := { dst := some 63, op := .load 27 (.tmp 62), type := _, pos := _, after := _, guard := some (12, false) }) (v := .slice (some ⟨be, oe, none⟩) 3 ec) rfl (by kernel_rfl) (by kernel_rfl) (by kernel_rfl) (fun _ _ _ h => h) (Or.inl ⟨by rfl, fun wh hSw => ?_⟩) hHeld ?_
        · (obtain ⟨s0, s1, s2, s3⟩ := hSw; go_simp)
        try simp only [Act.put, List.setIfInBounds_toArray, List.set_cons_zero, List.set_cons_succ]
        refine wpAnyH_take (i := 15) (oi := { dst := some 64, op := .move (.tmp 8), type := _, pos := _, after := _, guard := some (12, false) }) (v := .int .i64 (k : Int)) rfl (by kernel_rfl) (by kernel_rfl) (by kernel_rfl) (fun _ _ _ h => h) (Or.inl ⟨by rfl, fun wh hSw => ?_⟩) hHeld ?_
        · (obtain ⟨s0, s1, s2, s3⟩ := hSw; go_simp)
        try simp only [Act.put, List.setIfInBounds_toArray, List.set_cons_zero, List.set_cons_succ]
        refine wpAnyH_take (i := 16) (oi := { dst := some 65, op := .indexAddr 27 (.tmp 63) (.tmp 64), type := _, pos := _, after := _, guard := some (12, false) }) (v := .pointer (some ⟨be, oe + k * 2, none⟩)) rfl (by kernel_rfl) (by kernel_rfl) (by kernel_rfl) (fun _ _ _ h => h) (Or.inl ⟨by rfl, fun wh hSw => ?_⟩) hHeld ?_
        · (obtain ⟨s0, s1, s2, s3⟩ := hSw; go_simp)
        try simp only [Act.put, List.setIfInBounds_toArray, List.set_cons_zero, List.set_cons_succ]
        refine wpAnyH_take (i := 17) (oi := { dst := some 66, op := .fieldAddr 37 (.tmp 65) 1, type := _, pos := _, after := _, guard := some (12, false) }) (v := .pointer (some ⟨be, oe + k * 2 + 1, none⟩)) rfl (by kernel_rfl) (by kernel_rfl) (by kernel_rfl) (fun _ _ _ h => h) (Or.inl ⟨by rfl, fun wh hSw => ?_⟩) hHeld ?_
        · (obtain ⟨s0, s1, s2, s3⟩ := hSw; go_simp)
        try simp only [Act.put, List.setIfInBounds_toArray, List.set_cons_zero, List.set_cons_succ]
        refine wpAnyH_take (i := 18) (oi := { dst := some 67, op := .load 3 (.tmp 66), type := _, pos := _, after := _, guard := some (12, false) }) (v := .int .i64 (-1)) rfl (by kernel_rfl) (by kernel_rfl) (by kernel_rfl) (fun _ _ _ h => h) (Or.inl ⟨by rfl, fun wh hSw => ?_⟩) hHeld ?_
        · (obtain ⟨s0, s1, s2, s3⟩ := hSw; go_simp)
        try simp only [Act.put, List.setIfInBounds_toArray, List.set_cons_zero, List.set_cons_succ]
        refine wpAnyH_take (i := 19) (oi := { dst := some 68, op := .binOp .neq 3 (.tmp 67) (.const (.int .i64 (-1))) 3, type := _, pos := _, after := _, guard := some (12, false) }) (v := .bool false) rfl (by kernel_rfl) (by kernel_rfl) (by kernel_rfl) (fun _ _ _ h => h) (Or.inl ⟨by rfl, fun wh hSw => ?_⟩) hHeld ?_
        · (obtain ⟨s0, s1, s2, s3⟩ := hSw; go_simp)
        try simp only [Act.put, List.setIfInBounds_toArray, List.set_cons_zero, List.set_cons_succ]
        refine wpAnyH_take (i := 20) (oi := { dst := some 69, op := .pick (.tmp 61) (.const (.bool true)) (.tmp 68), type := _, pos := _, after := _, guard := none }) (v := .bool false) rfl (by kernel_rfl) (by kernel_rfl) (by kernel_rfl) (fun _ _ _ h => h) (Or.inl ⟨by rfl, fun wh hSw => ?_⟩) hHeld ?_
        · (obtain ⟨s0, s1, s2, s3⟩ := hSw; go_simp)
        try simp only [Act.put, List.setIfInBounds_toArray, List.set_cons_zero, List.set_cons_succ]
        refine wpAnyH_done (by kernel_rfl) ?_ _
        have HBE := Lib.hid (HBr.out.trans (HB1.out.mono HBr.out.size))
        go_wp2_with fail
        go_roundw
        case rel => exact ⟨k + 1, by omega, by go_num, HBE⟩
        case measure => simp [intOf]; omega
      · have e : k = 3 := by omega
        subst e
        obtain ⟨x0, x1, x2, x3⟩ := (HK16.out.go HBr.out).cells
        have HV1 := Lib.hid (HIV.out wr HBr.out)
        go_wp2_with fail
        refine HV1.out.mono ?_
        rintro e w7 ⟨rfl, hb7⟩
        have HB7 := Lib.hid (HBr.out.trans (hb7.mono HBr.out.size))
        clear hb7 x0 x1 x2 x3
        obtain ⟨x0, x1, x2, x3⟩ := (HK16.out.go HB7.out).cells
        have HV2 := Lib.hid (HIF.out w7 HB7.out)
        go_wp2_with fail
        refine HV2.out.mono ?_
        rintro e w8 ⟨rfl, hb8⟩
        have HB8 := Lib.hid (HB7.out.trans (hb8.mono HB7.out.size))
        clear hb8 x0 x1 x2 x3
        obtain ⟨x0, x1, x2, x3⟩ := (HK16.out.go HB8.out).cells
        have HBF := Lib.hid (HB1.out.trans ((HB6.out.trans (HB8.out.mono HB6.out.size)).mono HB1.out.size))
        go_wp2_with fail
        go_ret
        exact ⟨rfl, HBF.out⟩
end Go.Proofs.YthfdkenidfnmgaaGreat
namespace Go.Proofs.YthfdkenidfnmgaaGreat
open Go.ChangeShapes Go.WideShapes Go.ChangeAt Go.RowKit
set_option linter.unusedVariables false
set_option maxRecDepth 100000
theorem row_of_trod {H : Type} {enc : TypeId × Value → H} {P : Program} {w : World} {base : Nat} {held : Bool} {t e : TypeId} {fuel : Nat} {a : Option Addr} {len cap : Nat} {x : DataW H × List MemPlace}
    (ht : P.underlying t = some (.slice e)) (he : P.underlying e = some (.int .u8)) (ce : P.cellsOf e = 1)
    (h : DataW.trod enc P w base (fun _ => true) held fuel t (Value.slice a len cap).cells.toList = some x) : ∃ zs, Row .u8 w a len cap zs := by
  rcases open_ints ht he ce h with ⟨hcs, _⟩ | ⟨x, l, c, zs, hcs, _, hl, hm, hz, _, hcell, hwz⟩
  · simp [Value.cells] at hcs
    obtain ⟨rfl, rfl, rfl⟩ := hcs
    exact ⟨[], .inl ⟨rfl, rfl, rfl, rfl⟩⟩
  · simp [Value.cells] at hcs
    obtain ⟨rfl, rfl, rfl⟩ := hcs
    exact ⟨zs, .inr ⟨_, rfl, hl, hm, by simpa using hz, hcell, hwz⟩⟩
end Go.Proofs.YthfdkenidfnmgaaGreat
