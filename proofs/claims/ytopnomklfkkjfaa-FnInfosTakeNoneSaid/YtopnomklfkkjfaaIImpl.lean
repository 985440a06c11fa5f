/- What the program's functions on what is known of frames answer. -/
import Derived.Test.YtopnomklfkkjfaaID
namespace Go.Proofs.Ytopnomklfkkjfaa
open Go.ChangeShapes Go.WideShapes Go.ChangeAt Go.RowKit
set_option linter.unusedVariables false

/-- a variable of its own that holds the array -/
structure VarI (w : World) (B : Nat) (zs : List IV) (W : World) : Prop where
  bel : Below w.heap.size w W
  lo : w.heap.size ≤ B
  hi : B < W.heap.size
  len : zs.length = 12
  cells : ∀ i, i < 12 → TriW W B (i * 3) (zs.getD i iz)
theorem VarI.range {w W : World} {B : Nat} {zs : List IV} (h : VarI w B zs W) : W.rangeAt B 0 (isC zs) := fun j u hj => is_cells (fun i hi => by
  rw [Nat.zero_add]
  exact (h.cells i (by have := h.len; omega)).at3) j u hj
theorem VarI.after {w W W2 : World} {B : Nat} {zs : List IV} (h : VarI w B zs W) (hb : Below W.heap.size W W2) : VarI w B zs W2 :=
  ⟨h.bel.trans (hb.mono h.bel.size), h.lo, by have := h.hi; have := hb.size; omega, h.len, fun i hi => (h.cells i hi).block (hb.block _ h.hi)⟩
theorem VarI.make {w w1 : World} {zs : List IV} {Z : Array Value} (t : TypeId) (hb : Below w.heap.size w w1) (hZ : Z.size = 36) (hl : zs.length = 12) : (w1.alloc (.cells Z t)).there w1.heap.size 0 36 ∧ VarI w w1.heap.size zs ((w1.alloc (.cells Z t)).setCells w1.heap.size 0 (isC zs)) := by
  have ht : (w1.alloc (.cells Z t)).there w1.heap.size 0 36 := there_row (heap_alloc_new w1 _) (by omega)
  refine ⟨ht, Below.setCells (Below.refl _ _) _ hb.size _ _ _ (hb.alloc hb.size _), hb.size, by rw [size_setCells]; simp, hl, fun i hi => ⟨tri_of_range (World.rangeAt_setCells_same _ _ _ _ (by rw [isC_36 hl]; exact ht)) (by omega), fun j hj => ?_⟩⟩
  rw [World.frozen?_setCells]
  have := (ht (i * 3 + j) (by omega)).2
  rwa [Nat.zero_add] at this
theorem VarI.set {w W : World} {B k : Nat} {zs : List IV} (h : VarI w B zs W) (hk : k < 12) (x : IV) : W.there B (k * 3) 3 ∧ VarI w B (zs.set k x) (W.setCells B (k * 3) (ivC x)) := by
  have ht := (h.cells k hk).there
  refine ⟨ht, Below.setCells (Below.refl _ _) _ h.lo _ _ _ h.bel, h.lo, by rw [size_setCells]; exact h.hi, by rw [List.length_set]; exact h.len, fun i hi => ?_⟩
  rw [set_getD_eq (by have := h.len; omega)]
  split
  · rename_i e
    subst e
    exact TriW.stored ht
  · rename_i e
    exact (h.cells i hi).apart (.inr (by show i * 3 + 3 ≤ k * 3 ∨ k * 3 + 3 ≤ i * 3; omega))
theorem load_run {P : Program} {W : World} (ty : TypeId) (b o : Nat) (cs : List Value) (d : TypeDesc) (hc : W.rangeAt b o cs) (hu : P.underlying ty = some d) (hd : d.isRow = true) (hi : (P.info? ty).map (·.size) = some cs.length) :
    (do let l ← Instr.loadAt ty (.pointer (some ⟨b, o, none⟩)); pure (Next.value l) : Sem Next).run P W = .ok (.value (.agg cs.toArray)) W := by
  simp only [Instr.loadAt, Instr.sureAddr, Sem.run_bind, Sem.run_pure, Result.andThen_ok, run_loadVar_mid W b o ty cs d hc hu hd hi]
theorem frs_mem {ys : List IV} {x : Nat} (h : x ∈ frs ys 0) : x < ys.length := by
  unfold frs at h
  rw [List.drop_zero, List.mem_filter, List.mem_range] at h
  exact h.1

set_option maxRecDepth 100000 in
set_option maxHeartbeats 1000000 in
theorem iiv_any : IIV := by
  intro w v xs h hs
  have HC := Lib.hid (infosOf_any w v xs h hs)
  clear h hs
  obtain ⟨b, hb⟩ : ∃ b, b = isok xs := ⟨_, rfl⟩
  rw [← hb] at HC ⊢
  clear hb
  obtain ⟨Z, hZ⟩ : ∃ Z, Z = (isC z12).toArray := ⟨_, rfl⟩
  have ZM := Lib.hid zero_infos
  have ZS : Hid (Z.size = 36) := Lib.hid (by rw [hZ, List.size_toArray, isC_36 z12_len])
  rw [← hZ] at ZM
  clear hZ
  obtain ⟨zs, hzs⟩ : ∃ zs, zs = arrOf xs := ⟨_, rfl⟩
  rw [← hzs] at HC
  have ZL : Hid (zs.length = 12) := Lib.hid (by rw [hzs]; exact arrOf_len xs)
  have HZS := Lib.hid hzs
  clear hzs
  have HC' : Hid (Calls Try.prog 36 #[v] w (ArrI zs b w)) := HC
  unfold ArrI at HC'
  obtain ⟨L, hL⟩ : ∃ L, L = isC zs := ⟨_, rfl⟩
  have LS : Hid (L.length = 36) := Lib.hid (by rw [hL]; exact isC_36 ZL.out)
  have LZ : Hid (L.toArray.size = 36) := Lib.hid (List.size_toArray.trans LS.out)
  have LO : Hid (L.toArray.all (·.oneCell') = true) := Lib.hid (by rw [hL]; exact isC_all _)
  rw [← hL] at HC'
  have HLE := Lib.hid hL.symm
  clear HC hL
  have HC := HC'
  clear HC'
  go_enter Try.func24, Try.ntmps24
  go_wp2_with fail
  refine HC.out.mono ?_
  rintro e w1 ⟨rfl, hb1⟩
  have HV := Lib.hid (VarI.make 54 hb1 ZS.out ZL.out)
  rw [HLE.out] at HV
  obtain ⟨W, hW⟩ : ∃ W, W = (w1.alloc (.cells Z 54)).setCells w1.heap.size 0 L := ⟨_, rfl⟩
  obtain ⟨B, hB⟩ : ∃ B, B = w1.heap.size := ⟨_, rfl⟩
  rw [← hW, ← hB] at HV
  have HW := Lib.hid hW
  have HBB := Lib.hid hB
  have HT : Hid ((w1.alloc (.cells Z 54)).there w1.heap.size 0 L.toArray.size) := Lib.hid (by rw [LZ.out, ← HBB.out]; exact HV.out.1)
  have HVI := Lib.hid HV.out.2
  clear hb1 hW hB HV
  go_wp2_with (first | ((with_reducible refine alloc_is 54 ?_); refine alloc_arr 54 Z ZM.out ?_) | ((with_reducible refine store_is 54 (.tmp 3) (.tmp 8) ?_); refine store_arr 54 (.tmp 3) (.tmp 8) w1.heap.size 0 L.toArray rfl rfl HT.out (info_infos LZ.out) LO.out ?_; rw [show L.toArray.toList = L from rfl, ← HW.out, ← HBB.out]))
  go_ret
  exact ⟨rfl, HVI.out.bel⟩
set_option maxRecDepth 100000 in
set_option maxHeartbeats 1000000 in
theorem iif_any : IIF := by
  intro w v xs h hs
  have HC := Lib.hid (infosOf_any w v xs h hs)
  clear h hs
  obtain ⟨b, hb⟩ : ∃ b, b = isok xs := ⟨_, rfl⟩
  rw [← hb] at HC
  have HIB := Lib.hid hb
  clear hb
  obtain ⟨Z, hZ⟩ : ∃ Z, Z = (isC z12).toArray := ⟨_, rfl⟩
  have ZM := Lib.hid zero_infos
  have ZS : Hid (Z.size = 36) := Lib.hid (by rw [hZ, List.size_toArray, isC_36 z12_len])
  rw [← hZ] at ZM
  clear hZ
  obtain ⟨zs, hzs⟩ : ∃ zs, zs = arrOf xs := ⟨_, rfl⟩
  rw [← hzs] at HC
  have ZL : Hid (zs.length = 12) := Lib.hid (by rw [hzs]; exact arrOf_len xs)
  have HZS := Lib.hid hzs
  clear hzs
  have HC' : Hid (Calls Try.prog 36 #[v] w (ArrI zs b w)) := HC
  unfold ArrI at HC'
  obtain ⟨L, hL⟩ : ∃ L, L = isC zs := ⟨_, rfl⟩
  have LS : Hid (L.length = 36) := Lib.hid (by rw [hL]; exact isC_36 ZL.out)
  have LZ : Hid (L.toArray.size = 36) := Lib.hid (List.size_toArray.trans LS.out)
  have LO : Hid (L.toArray.all (·.oneCell') = true) := Lib.hid (by rw [hL]; exact isC_all _)
  rw [← hL] at HC'
  have HLE := Lib.hid hL.symm
  clear HC hL
  have HC := HC'
  clear HC'
  obtain ⟨r, hr⟩ : ∃ r, r = ifree xs := ⟨_, rfl⟩
  rw [← hr]
  have HR := Lib.hid hr
  clear hr
  cases b with
  | false =>
    have HR2 : Hid (r = -1) := Lib.hid (by rw [HR.out, ifree, if_neg (by rw [← HIB.out]; simp)])
    clear HR
    go_enter Try.func17, Try.ntmps17
    go_wp2_with fail
    refine HC.out.mono ?_
    rintro e w1 ⟨rfl, hb1⟩
    have HV := Lib.hid (VarI.make 54 hb1 ZS.out ZL.out)
    rw [HLE.out] at HV
    obtain ⟨W, hW⟩ : ∃ W, W = (w1.alloc (.cells Z 54)).setCells w1.heap.size 0 L := ⟨_, rfl⟩
    obtain ⟨B, hB⟩ : ∃ B, B = w1.heap.size := ⟨_, rfl⟩
    rw [← hW, ← hB] at HV
    have HW := Lib.hid hW
    have HBB := Lib.hid hB
    have HT : Hid ((w1.alloc (.cells Z 54)).there w1.heap.size 0 L.toArray.size) := Lib.hid (by rw [LZ.out, ← HBB.out]; exact HV.out.1)
    have HVI := Lib.hid HV.out.2
    clear hb1 hW hB HV
    go_wp2_with (first | ((with_reducible refine alloc_is 54 ?_); refine alloc_arr 54 Z ZM.out ?_) | ((with_reducible refine store_is 54 (.tmp 3) (.tmp 8) ?_); refine store_arr 54 (.tmp 3) (.tmp 8) w1.heap.size 0 L.toArray rfl rfl HT.out (info_infos LZ.out) LO.out ?_; rw [show L.toArray.toList = L from rfl, ← HW.out, ← HBB.out]))
    go_ret
    exact ⟨by rw [HR2.out]; rfl, HVI.out.bel⟩
  | true =>
    have HZX : Hid (zs = xs) := Lib.hid (by rw [HZS.out]; exact arrOf_ok HIB.out.symm)
    have HR2 : Hid (r = ((frs zs 0).length : Int)) := Lib.hid (by rw [HR.out, ifree, if_pos HIB.out.symm, frs_length, HZX.out])
    have HCN : Hid ((frs zs 0).length ≤ 12) := Lib.hid (by rw [frs_length]; have := cnt_le zs; have := ZL.out; omega)
    have HFR := Lib.hid (fun w => ifreeL_any w zs ZL.out)
    rw [HLE.out] at HFR
    clear HR
    go_enter Try.func17, Try.ntmps17
    go_wp2_with fail
    refine HC.out.mono ?_
    rintro e w1 ⟨rfl, hb1⟩
    have HV := Lib.hid (VarI.make 54 hb1 ZS.out ZL.out)
    rw [HLE.out] at HV
    obtain ⟨W, hW⟩ : ∃ W, W = (w1.alloc (.cells Z 54)).setCells w1.heap.size 0 L := ⟨_, rfl⟩
    obtain ⟨B, hB⟩ : ∃ B, B = w1.heap.size := ⟨_, rfl⟩
    rw [← hW, ← hB] at HV
    have HW := Lib.hid hW
    have HBB := Lib.hid hB
    have HT : Hid ((w1.alloc (.cells Z 54)).there w1.heap.size 0 L.toArray.size) := Lib.hid (by rw [LZ.out, ← HBB.out]; exact HV.out.1)
    have HVI := Lib.hid HV.out.2
    clear hb1 hW hB HV
    go_wp2_with (first | ((with_reducible refine alloc_is 54 ?_); refine alloc_arr 54 Z ZM.out ?_) | ((with_reducible refine store_is 54 (.tmp 3) (.tmp 8) ?_); refine store_arr 54 (.tmp 3) (.tmp 8) w1.heap.size 0 L.toArray rfl rfl HT.out (info_infos LZ.out) LO.out ?_; rw [show L.toArray.toList = L from rfl, ← HW.out, ← HBB.out]) | ((with_reducible refine load_is 54 (.tmp 3) ?_); refine load_arr 54 (.tmp 3) B 0 L _ rfl (by rw [← HLE.out]; exact HVI.out.range) Try.underlying54 rfl (info_infos LS.out) ?_))
    refine (HFR.out W).mono ?_
    rintro e w2 ⟨p, rfl, hch, -, hb2⟩
    have B2 := Lib.hid (HVI.out.bel.trans (hb2.mono HVI.out.bel.size))
    have HCT := Lib.hid (icount_any w2 _ p hch HCN.out)
    clear hb2 hch
    go_wp2_with fail
    refine HCT.out.mono ?_
    rintro e w3 ⟨rfl, hb3⟩
    have B3 := Lib.hid (B2.out.trans (hb3.mono B2.out.size))
    clear hb3
    go_wp2_with fail
    go_ret
    exact ⟨by rw [HR2.out]; rfl, B3.out⟩
set_option maxRecDepth 100000 in
set_option maxHeartbeats 1000000 in
theorem iit_any : IIT := by
  intro w v xs s h hs hg
  have HC := Lib.hid (infosOf_any w v xs h hs)
  clear h hs
  have HRV := Lib.hid (fun w => irv_any w s hg)
  obtain ⟨b, hb⟩ : ∃ b, b = isok xs := ⟨_, rfl⟩
  rw [← hb] at HC
  have HIB := Lib.hid hb
  clear hb hg
  obtain ⟨Z, hZ⟩ : ∃ Z, Z = (isC z12).toArray := ⟨_, rfl⟩
  have ZM := Lib.hid zero_infos
  have ZS : Hid (Z.size = 36) := Lib.hid (by rw [hZ, List.size_toArray, isC_36 z12_len])
  rw [← hZ] at ZM
  clear hZ
  obtain ⟨zs, hzs⟩ : ∃ zs, zs = arrOf xs := ⟨_, rfl⟩
  rw [← hzs] at HC
  have ZL : Hid (zs.length = 12) := Lib.hid (by rw [hzs]; exact arrOf_len xs)
  have HZS := Lib.hid hzs
  clear hzs
  have HC' : Hid (Calls Try.prog 36 #[v] w (ArrI zs b w)) := HC
  unfold ArrI at HC'
  obtain ⟨L, hL⟩ : ∃ L, L = isC zs := ⟨_, rfl⟩
  have LS : Hid (L.length = 36) := Lib.hid (by rw [hL]; exact isC_36 ZL.out)
  have LZ : Hid (L.toArray.size = 36) := Lib.hid (List.size_toArray.trans LS.out)
  have LO : Hid (L.toArray.all (·.oneCell') = true) := Lib.hid (by rw [hL]; exact isC_all _)
  rw [← hL] at HC'
  have HLE := Lib.hid hL.symm
  clear HC hL
  have HC := HC'
  clear HC'
  cases b with
  | false =>
    have HR : Hid (tok xs s = false ∧ itake xs s = [] ∧ itakeN xs s = 0) := Lib.hid (by
      have : tok xs s = false := by unfold tok; rw [← HIB.out]; rfl
      unfold itake itakeN
      rw [this]; exact ⟨rfl, rfl, rfl⟩)
    rw [HR.out.1, HR.out.2.1, HR.out.2.2]
    go_enter Try.func14, Try.ntmps14
    go_wp2_with fail
    refine HC.out.mono ?_
    rintro e w1 ⟨rfl, hb1⟩
    have HV := Lib.hid (VarI.make 54 hb1 ZS.out ZL.out)
    rw [HLE.out] at HV
    obtain ⟨W, hW⟩ : ∃ W, W = (w1.alloc (.cells Z 54)).setCells w1.heap.size 0 L := ⟨_, rfl⟩
    obtain ⟨B, hB⟩ : ∃ B, B = w1.heap.size := ⟨_, rfl⟩
    rw [← hW, ← hB] at HV
    have HW := Lib.hid hW
    have HBB := Lib.hid hB
    have HT : Hid ((w1.alloc (.cells Z 54)).there w1.heap.size 0 L.toArray.size) := Lib.hid (by rw [LZ.out, ← HBB.out]; exact HV.out.1)
    have HVI := Lib.hid HV.out.2
    clear hb1 hW hB HV
    go_wp2_with (first | ((with_reducible refine alloc_is 54 ?_); refine alloc_arr 54 Z ZM.out ?_) | ((with_reducible refine store_is 54 (.tmp 7) (.tmp 13) ?_); refine store_arr 54 (.tmp 7) (.tmp 13) w1.heap.size 0 L.toArray rfl rfl HT.out (info_infos LZ.out) LO.out ?_; rw [show L.toArray.toList = L from rfl, ← HW.out, ← HBB.out]))
    go_ret3
    exact ⟨_, rfl, isW_none, HVI.out.bel⟩
  | true =>
    have HZX : Hid (zs = xs) := Lib.hid (by rw [HZS.out]; exact arrOf_ok HIB.out.symm)
    obtain ⟨r, hr⟩ : ∃ r, r = rv s := ⟨_, rfl⟩
    rw [← hr] at HRV
    have HRS := Lib.hid hr
    clear hr
    cases r with
    | false =>
      have HR : Hid (tok xs s = false ∧ itake xs s = [] ∧ itakeN xs s = 0) := Lib.hid (by
        have : tok xs s = false := by unfold tok; rw [← HRS.out, Bool.false_and, Bool.and_false]
        unfold itake itakeN
        rw [this]; exact ⟨rfl, rfl, rfl⟩)
      rw [HR.out.1, HR.out.2.1, HR.out.2.2]
      go_enter Try.func14, Try.ntmps14
      go_wp2_with fail
      refine HC.out.mono ?_
      rintro e w1 ⟨rfl, hb1⟩
      have HV := Lib.hid (VarI.make 54 hb1 ZS.out ZL.out)
      rw [HLE.out] at HV
      obtain ⟨W, hW⟩ : ∃ W, W = (w1.alloc (.cells Z 54)).setCells w1.heap.size 0 L := ⟨_, rfl⟩
      obtain ⟨B, hB⟩ : ∃ B, B = w1.heap.size := ⟨_, rfl⟩
      rw [← hW, ← hB] at HV
      have HW := Lib.hid hW
      have HBB := Lib.hid hB
      have HT : Hid ((w1.alloc (.cells Z 54)).there w1.heap.size 0 L.toArray.size) := Lib.hid (by rw [LZ.out, ← HBB.out]; exact HV.out.1)
      have HVI := Lib.hid HV.out.2
      clear hb1 hW hB HV
      go_wp2_with (first | ((with_reducible refine alloc_is 54 ?_); refine alloc_arr 54 Z ZM.out ?_) | ((with_reducible refine store_is 54 (.tmp 7) (.tmp 13) ?_); refine store_arr 54 (.tmp 7) (.tmp 13) w1.heap.size 0 L.toArray rfl rfl HT.out (info_infos LZ.out) LO.out ?_; rw [show L.toArray.toList = L from rfl, ← HW.out, ← HBB.out]))
      refine (HRV.out W).mono ?_
      rintro e w2 ⟨rfl, hb2⟩
      have B2 := Lib.hid (HVI.out.bel.trans (hb2.mono HVI.out.bel.size))
      clear hb2
      go_wp2_with fail
      go_ret3
      exact ⟨_, rfl, isW_none, B2.out⟩
    | true =>
      have HFR := Lib.hid (fun w => ifreeL_any w zs ZL.out)
      rw [HLE.out] at HFR
      have HFI : Hid ((frs zs 0).head?.getD zs.length = fidx zs) := Lib.hid (frs_head zs)
      have HFM : Hid (∀ x, x ∈ frs zs 0 → x < 12) := Lib.hid (fun x hx => by have := frs_mem hx; have := ZL.out; omega)
      have HTK : Hid (tok xs s = decide (fidx zs < 12)) := Lib.hid (by
        unfold tok
        rw [← HIB.out, ← HRS.out, ← HZX.out, ZL.out]; rfl)
      obtain ⟨us, hus⟩ : ∃ us, us = frs zs 0 := ⟨_, rfl⟩
      rw [← hus] at HFR HFI HFM
      clear hus
      cases us with
      | nil =>
        have HR : Hid (tok xs s = false ∧ itake xs s = [] ∧ itakeN xs s = 0) := Lib.hid (by
          have : tok xs s = false := by
            rw [HTK.out]
            have h1 : zs.length = fidx zs := HFI.out
            have := ZL.out
            exact decide_eq_false (by omega)
          unfold itake itakeN
          rw [this]; exact ⟨rfl, rfl, rfl⟩)
        rw [HR.out.1, HR.out.2.1, HR.out.2.2]
        go_enter Try.func14, Try.ntmps14
        go_wp2_with fail
        refine HC.out.mono ?_
        rintro e w1 ⟨rfl, hb1⟩
        have HV := Lib.hid (VarI.make 54 hb1 ZS.out ZL.out)
        rw [HLE.out] at HV
        obtain ⟨W, hW⟩ : ∃ W, W = (w1.alloc (.cells Z 54)).setCells w1.heap.size 0 L := ⟨_, rfl⟩
        obtain ⟨B, hB⟩ : ∃ B, B = w1.heap.size := ⟨_, rfl⟩
        rw [← hW, ← hB] at HV
        have HW := Lib.hid hW
        have HBB := Lib.hid hB
        have HT : Hid ((w1.alloc (.cells Z 54)).there w1.heap.size 0 L.toArray.size) := Lib.hid (by rw [LZ.out, ← HBB.out]; exact HV.out.1)
        have HVI := Lib.hid HV.out.2
        clear hb1 hW hB HV
        go_wp2_with (first | ((with_reducible refine alloc_is 54 ?_); refine alloc_arr 54 Z ZM.out ?_) | ((with_reducible refine store_is 54 (.tmp 7) (.tmp 13) ?_); refine store_arr 54 (.tmp 7) (.tmp 13) w1.heap.size 0 L.toArray rfl rfl HT.out (info_infos LZ.out) LO.out ?_; rw [show L.toArray.toList = L from rfl, ← HW.out, ← HBB.out]))
        refine (HRV.out W).mono ?_
        rintro e w2 ⟨rfl, hb2⟩
        have HV2 := Lib.hid (HVI.out.after hb2)
        clear hb2
        go_wp2_with ((with_reducible refine load_is 54 (.tmp 7) ?_); refine load_arr 54 (.tmp 7) B 0 L _ rfl (by rw [← HLE.out]; exact HV2.out.range) Try.underlying54 rfl (info_infos LS.out) ?_)
        refine (HFR.out w2).mono ?_
        rintro e w3 ⟨p, rfl, hch, -, hb3⟩
        obtain rfl : p = none := hch
        have B3 := Lib.hid (HV2.out.bel.trans (hb3.mono HV2.out.bel.size))
        clear hb3
        go_wp2_with fail
        go_ret3
        exact ⟨_, rfl, isW_none, B3.out⟩
      | cons x us =>
        have hx12 : x < 12 := HFM.out x (by simp)
        have HFX : Hid (fidx zs = x) := Lib.hid HFI.out.symm
        have HR : Hid (tok xs s = true ∧ itake xs s = zs.set x ⟨1, s, 0⟩ ∧ itakeN xs s = (x : Int)) := Lib.hid (by
          have : tok xs s = true := by rw [HTK.out, HFX.out]; exact decide_eq_true hx12
          unfold itake itakeN
          rw [this, ← HZX.out, HFX.out]; exact ⟨rfl, rfl, rfl⟩)
        rw [HR.out.1, HR.out.2.1, HR.out.2.2]
        have HLI : Hid (∀ w, Calls Try.prog 38 #[.agg (isC (zs.set x ⟨1, s, 0⟩)).toArray] w (NewI (zs.set x ⟨1, s, 0⟩) w)) := Lib.hid (fun w => ilist_any w _ (by rw [List.length_set]; exact ZL.out))
        have LS2 : Hid ((isC (zs.set x ⟨1, s, 0⟩)).length = 36) := Lib.hid (isC_36 (by rw [List.length_set]; exact ZL.out))
        obtain ⟨ys, hys⟩ : ∃ ys, ys = zs.set x ⟨1, s, 0⟩ := ⟨_, rfl⟩
        obtain ⟨L2, hL2⟩ : ∃ L2, L2 = isC ys := ⟨_, rfl⟩
        rw [← hys] at HLI LS2 ⊢
        have HYS := Lib.hid hys
        rw [← hL2] at HLI LS2
        have HL2 := Lib.hid hL2.symm
        clear hys hL2
        go_enter Try.func14, Try.ntmps14
        go_wp2_with fail
        refine HC.out.mono ?_
        rintro e w1 ⟨rfl, hb1⟩
        have HV := Lib.hid (VarI.make 54 hb1 ZS.out ZL.out)
        rw [HLE.out] at HV
        obtain ⟨W, hW⟩ : ∃ W, W = (w1.alloc (.cells Z 54)).setCells w1.heap.size 0 L := ⟨_, rfl⟩
        obtain ⟨B, hB⟩ : ∃ B, B = w1.heap.size := ⟨_, rfl⟩
        rw [← hW, ← hB] at HV
        have HW := Lib.hid hW
        have HBB := Lib.hid hB
        have HT : Hid ((w1.alloc (.cells Z 54)).there w1.heap.size 0 L.toArray.size) := Lib.hid (by rw [LZ.out, ← HBB.out]; exact HV.out.1)
        have HVI := Lib.hid HV.out.2
        clear hb1 hW hB HV
        go_wp2_with (first | ((with_reducible refine alloc_is 54 ?_); refine alloc_arr 54 Z ZM.out ?_) | ((with_reducible refine store_is 54 (.tmp 7) (.tmp 13) ?_); refine store_arr 54 (.tmp 7) (.tmp 13) w1.heap.size 0 L.toArray rfl rfl HT.out (info_infos LZ.out) LO.out ?_; rw [show L.toArray.toList = L from rfl, ← HW.out, ← HBB.out]))
        refine (HRV.out W).mono ?_
        rintro e w2 ⟨rfl, hb2⟩
        have HV2 := Lib.hid (HVI.out.after hb2)
        clear hb2
        go_wp2_with ((with_reducible refine load_is 54 (.tmp 7) ?_); refine load_arr 54 (.tmp 7) B 0 L _ rfl (by rw [← HLE.out]; exact HV2.out.range) Try.underlying54 rfl (info_infos LS.out) ?_)
        refine (HFR.out w2).mono ?_
        rintro e w3 ⟨p, rfl, hch, hnb, hb3⟩
        have HV3 := Lib.hid (HV2.out.after hb3)
        obtain ⟨c, q, rfl, hx0, hx1, -⟩ := hch
        have hcb : B < c := by have := hnb _ rfl; have := HV2.out.hi; simp at *; omega
        have HS4 := Lib.hid (HV3.out.set hx12 ⟨1, s, 0⟩)
        rw [← HYS.out] at HS4
        obtain ⟨W4, hW4⟩ : ∃ W4, W4 = w3.setCells B (x * 3) (ivC ⟨1, s, 0⟩) := ⟨_, rfl⟩
        rw [← hW4] at HS4
        have HC4 : Hid (W4.cell? ⟨c, 0, none⟩ = some (.int .i64 x)) := Lib.hid (by
          rw [hW4, World.cell?_of_block (heap_setCells_other w3 B _ _ _ c (by omega))]; exact hx0)
        have HW4 := Lib.hid hW4
        have HIX := indexAt_infos B hx12
        have HC3 := Lib.hid hx0
        clear hb3 hnb hx1 hW4
        go_wp2_with (first | ((with_reducible refine store_is 30 (.tmp 32) (.tmp 31) ?_); refine store_arr 30 (.tmp 32) (.tmp 31) B (x * 3) #[.int .i64 1, .string ⟨s.toArray⟩, .int .i64 0] rfl rfl HS4.out.1 (by kernel_rfl) (by simp [Value.oneCell']) ?_; rw [show (#[.int .i64 1, .string ⟨s.toArray⟩, .int .i64 0] : Array Value).toList = ivC ⟨1, s, 0⟩ from rfl, ← HW4.out]) | ((with_reducible refine load_is 54 (.tmp 7) ?_); refine load_arr 54 (.tmp 7) B 0 L2 _ rfl (by rw [← HL2.out]; exact HS4.out.2.range) Try.underlying54 rfl (info_infos LS2.out) ?_))
        refine wp_region_held_drew (S := fun w' => w'.rangeAt B 0 L2 ∧ w'.cell? ⟨c, 0, none⟩ = some (.int .i64 x)) (by kernel_rfl) ⟨by rw [← HL2.out]; exact HS4.out.2.range, HC4.out⟩ (fun hHeld => ?_)
        refine wpAnyH_take (i := 0) (oi := { dst := some 33, op := .load 54 (.tmp 7), type := _, pos := _, after := _, guard := none }) (v := .agg L2.toArray) rfl (by kernel_rfl) (by kernel_rfl) (by kernel_rfl) (fun _ _ _ h => h) (Or.inl ⟨by rfl, fun wh hSw => ?_⟩) hHeld ?_
        · (simp only [execOp]; exact load_run 54 B 0 L2 _ hSw.1 Try.underlying54 rfl (info_infos LS2.out))
        try simp only [Act.put, List.setIfInBounds_toArray, List.set_cons_zero, List.set_cons_succ]
        refine wpAnyH_take (i := 2) (oi := { dst := some 35, op := .move (.tmp 9), type := _, pos := _, after := _, guard := none }) (v := .pointer (some ⟨c, 0, none⟩)) rfl (by kernel_rfl) (by kernel_rfl) (by kernel_rfl) (fun _ _ _ h => h) (Or.inl ⟨by rfl, fun wh hSw => ?_⟩) hHeld ?_
        · (dsimp only at hSw; go_simp)
        try simp only [Act.put, List.setIfInBounds_toArray, List.set_cons_zero, List.set_cons_succ]
        refine wpAnyH_take (i := 3) (oi := { dst := some 36, op := .nilCheck (.tmp 35), type := _, pos := _, after := _, guard := none }) (v := .pointer (some ⟨c, 0, none⟩)) rfl (by kernel_rfl) (by kernel_rfl) (by kernel_rfl) (fun _ _ _ h => h) (Or.inl ⟨by rfl, fun wh hSw => ?_⟩) hHeld ?_
        · (dsimp only at hSw; go_simp)
        try simp only [Act.put, List.setIfInBounds_toArray, List.set_cons_zero, List.set_cons_succ]
        refine wpAnyH_take (i := 4) (oi := { dst := some 37, op := .fieldAddr 60 (.tmp 36) 0, type := _, pos := _, after := _, guard := none }) (v := .pointer (some ⟨c, 0, none⟩)) rfl (by kernel_rfl) (by kernel_rfl) (by kernel_rfl) (fun _ _ _ h => h) (Or.inl ⟨by rfl, fun wh hSw => ?_⟩) hHeld ?_
        · (dsimp only at hSw; go_simp)
        try simp only [Act.put, List.setIfInBounds_toArray, List.set_cons_zero, List.set_cons_succ]
        refine wpAnyH_take (i := 5) (oi := { dst := some 38, op := .load 3 (.tmp 37), type := _, pos := _, after := _, guard := none }) (v := .int .i64 (x : Int)) rfl (by kernel_rfl) (by kernel_rfl) (by kernel_rfl) (fun _ _ _ h => h) (Or.inl ⟨by rfl, fun wh hSw => ?_⟩) hHeld ?_
        · (dsimp only at hSw; go_simp)
        try simp only [Act.put, List.setIfInBounds_toArray, List.set_cons_zero, List.set_cons_succ]
        refine wpAnyH_ready (rs := [1]) (by kernel_rfl) (by simp) ?_
        refine AllReadyH.cons (o := { dst := some 34, op := .call { callee := .value (.func 38), args := #[.tmp 33], argTypes := #[54] }, type := _, pos := _, after := _, guard := none }) rfl (fun K hK => ?_) AllReadyH.nil
        go_simp
        refine (HLI.out _).mono ?_
        rintro e w5 ⟨v5, rfl, hr5, hb5⟩
        have HR5 := Lib.hid hr5
        have HB5 := Lib.hid hb5
        clear hr5 hb5
        try go_simp
        refine hK.out _ _ ?_ (fun hHeld => ?_)
        · exact ⟨by rw [← HL2.out]; exact range_blocks HS4.out.2.range (HB5.out.block B HS4.out.2.hi), (HB5.out.cell (p := ⟨c, 0, none⟩) (cell_lt HC4.out)).trans HC4.out⟩
        clear hK K
        try simp only [Act.put, List.setIfInBounds_toArray, List.set_cons_zero, List.set_cons_succ]
        refine wpAnyH_take (i := 6) (oi := { dst := some 4, op := .assign (.tmp 34), type := _, pos := _, after := _, guard := none }) (v := v5) rfl (by kernel_rfl) (by kernel_rfl) (by kernel_rfl) (fun _ _ _ h => h) (Or.inl ⟨by rfl, fun wh hSw => ?_⟩) hHeld ?_
        · (dsimp only at hSw; go_simp)
        try simp only [Act.put, List.setIfInBounds_toArray, List.set_cons_zero, List.set_cons_succ]
        refine wpAnyH_take (i := 7) (oi := { dst := some 5, op := .assign (.tmp 38), type := _, pos := _, after := _, guard := none }) (v := .int .i64 (x : Int)) rfl (by kernel_rfl) (by kernel_rfl) (by kernel_rfl) (fun _ _ _ h => h) (Or.inl ⟨by rfl, fun wh hSw => ?_⟩) hHeld ?_
        · (dsimp only at hSw; go_simp)
        try simp only [Act.put, List.setIfInBounds_toArray, List.set_cons_zero, List.set_cons_succ]
        refine wpAnyH_take (i := 8) (oi := { dst := some 6, op := .assign (.const (.bool true)), type := _, pos := _, after := _, guard := none }) (v := .bool true) rfl (by kernel_rfl) (by kernel_rfl) (by kernel_rfl) (fun _ _ _ h => h) (Or.inl ⟨by rfl, fun wh hSw => ?_⟩) hHeld ?_
        · (dsimp only at hSw; go_simp)
        try simp only [Act.put, List.setIfInBounds_toArray, List.set_cons_zero, List.set_cons_succ]
        refine wpAnyH_done (by kernel_rfl) ?_ _
        have B5 := Lib.hid (HS4.out.2.bel.drew.trans (HB5.out.mono HS4.out.2.bel.size))
        have R5 := Lib.hid (HR5.out.wide HS4.out.2.bel.size (Nat.le_refl _))
        clear HB5 HR5
        go_wp2_with fail
        go_ret3
        exact ⟨_, rfl, R5.out, B5.out⟩
set_option maxRecDepth 100000 in
set_option maxHeartbeats 1000000 in
theorem iig_any : IIG := by
  intro w v xs f h hs
  have HC := Lib.hid (infosOf_any w v xs h hs)
  clear h hs
  have HBL := Lib.hid (fun w => ibelow_any w f 12)
  obtain ⟨b, hb⟩ : ∃ b, b = isok xs := ⟨_, rfl⟩
  rw [← hb] at HC
  have HIB := Lib.hid hb
  clear hb
  obtain ⟨Z, hZ⟩ : ∃ Z, Z = (isC z12).toArray := ⟨_, rfl⟩
  have ZM := Lib.hid zero_infos
  have ZS : Hid (Z.size = 36) := Lib.hid (by rw [hZ, List.size_toArray, isC_36 z12_len])
  rw [← hZ] at ZM
  clear hZ
  obtain ⟨zs, hzs⟩ : ∃ zs, zs = arrOf xs := ⟨_, rfl⟩
  rw [← hzs] at HC
  have ZL : Hid (zs.length = 12) := Lib.hid (by rw [hzs]; exact arrOf_len xs)
  have HZS := Lib.hid hzs
  clear hzs
  have HC' : Hid (Calls Try.prog 36 #[v] w (ArrI zs b w)) := HC
  unfold ArrI at HC'
  obtain ⟨L, hL⟩ : ∃ L, L = isC zs := ⟨_, rfl⟩
  have LS : Hid (L.length = 36) := Lib.hid (by rw [hL]; exact isC_36 ZL.out)
  have LZ : Hid (L.toArray.size = 36) := Lib.hid (List.size_toArray.trans LS.out)
  have LO : Hid (L.toArray.all (·.oneCell') = true) := Lib.hid (by rw [hL]; exact isC_all _)
  rw [← hL] at HC'
  have HLE := Lib.hid hL.symm
  clear HC hL
  have HC := HC'
  clear HC'
  cases b with
  | false =>
    have HR : Hid (gok xs f = false ∧ igive xs f = []) := Lib.hid (by
      have : gok xs f = false := by unfold gok; rw [← HIB.out]; rfl
      unfold igive
      rw [this]; exact ⟨rfl, rfl⟩)
    rw [HR.out.1, HR.out.2]
    go_enter Try.func20, Try.ntmps20
    go_wp2_with fail
    refine HC.out.mono ?_
    rintro e w1 ⟨rfl, hb1⟩
    have HV := Lib.hid (VarI.make 54 hb1 ZS.out ZL.out)
    rw [HLE.out] at HV
    obtain ⟨W, hW⟩ : ∃ W, W = (w1.alloc (.cells Z 54)).setCells w1.heap.size 0 L := ⟨_, rfl⟩
    obtain ⟨B, hB⟩ : ∃ B, B = w1.heap.size := ⟨_, rfl⟩
    rw [← hW, ← hB] at HV
    have HW := Lib.hid hW
    have HBB := Lib.hid hB
    have HT : Hid ((w1.alloc (.cells Z 54)).there w1.heap.size 0 L.toArray.size) := Lib.hid (by rw [LZ.out, ← HBB.out]; exact HV.out.1)
    have HVI := Lib.hid HV.out.2
    clear hb1 hW hB HV
    go_wp2_with (first | ((with_reducible refine alloc_is 54 ?_); refine alloc_arr 54 Z ZM.out ?_) | ((with_reducible refine store_is 54 (.tmp 6) (.tmp 11) ?_); refine store_arr 54 (.tmp 6) (.tmp 11) w1.heap.size 0 L.toArray rfl rfl HT.out (info_infos LZ.out) LO.out ?_; rw [show L.toArray.toList = L from rfl, ← HW.out, ← HBB.out]))
    go_ret2
    exact ⟨_, rfl, isW_none, HVI.out.bel⟩
  | true =>
    have HZX : Hid (zs = xs) := Lib.hid (by rw [HZS.out]; exact arrOf_ok HIB.out.symm)
    have HBL2 : Hid (∀ w, Calls Try.prog 44 #[.int .i64 f, .int .i64 12] w (Says (inR f 0 11) w)) := Lib.hid HBL.out
    clear HBL
    obtain ⟨r, hr⟩ : ∃ r, r = inR f 0 11 := ⟨_, rfl⟩
    rw [← hr] at HBL2
    have HRS := Lib.hid hr
    clear hr
    cases r with
    | false =>
      have HR : Hid (gok xs f = false ∧ igive xs f = []) := Lib.hid (by
        have : gok xs f = false := by unfold gok; rw [← HRS.out, Bool.false_and, Bool.and_false]
        unfold igive
        rw [this]; exact ⟨rfl, rfl⟩)
      rw [HR.out.1, HR.out.2]
      go_enter Try.func20, Try.ntmps20
      go_wp2_with fail
      refine HC.out.mono ?_
      rintro e w1 ⟨rfl, hb1⟩
      have HV := Lib.hid (VarI.make 54 hb1 ZS.out ZL.out)
      rw [HLE.out] at HV
      obtain ⟨W, hW⟩ : ∃ W, W = (w1.alloc (.cells Z 54)).setCells w1.heap.size 0 L := ⟨_, rfl⟩
      obtain ⟨B, hB⟩ : ∃ B, B = w1.heap.size := ⟨_, rfl⟩
      rw [← hW, ← hB] at HV
      have HW := Lib.hid hW
      have HBB := Lib.hid hB
      have HT : Hid ((w1.alloc (.cells Z 54)).there w1.heap.size 0 L.toArray.size) := Lib.hid (by rw [LZ.out, ← HBB.out]; exact HV.out.1)
      have HVI := Lib.hid HV.out.2
      clear hb1 hW hB HV
      go_wp2_with (first | ((with_reducible refine alloc_is 54 ?_); refine alloc_arr 54 Z ZM.out ?_) | ((with_reducible refine store_is 54 (.tmp 6) (.tmp 11) ?_); refine store_arr 54 (.tmp 6) (.tmp 11) w1.heap.size 0 L.toArray rfl rfl HT.out (info_infos LZ.out) LO.out ?_; rw [show L.toArray.toList = L from rfl, ← HW.out, ← HBB.out]))
      refine (HBL2.out W).mono ?_
      rintro e w' ⟨rfl, rfl⟩
      go_wp2_with fail
      go_ret2
      exact ⟨_, rfl, isW_none, HVI.out.bel⟩
    | true =>
      have hin := inR_iff.1 HRS.out.symm
      obtain ⟨k, rfl⟩ : ∃ k : Nat, f = (k : Int) := ⟨f.toNat, by omega⟩
      have hk12 : k < 12 := by omega
      obtain ⟨y, hy⟩ : ∃ y, y = zs.getD k iz := ⟨_, rfl⟩
      have HYK := Lib.hid hy
      have HOK : Hid (iok y = true) := Lib.hid (by rw [hy, HZX.out]; exact isok_at HIB.out.symm (by rw [← HZX.out, ZL.out]; exact hk12))
      have HGK : Hid (gok xs (k : Int) = (decide (y.k = 1) && decide (y.r ≤ 0))) := Lib.hid (by
        unfold gok
        rw [← HIB.out, ← HRS.out, Int.toNat_natCast, Bool.true_and, Bool.true_and, ← HZX.out, hy])
      have HGI : Hid (gok xs (k : Int) = true → igive xs (k : Int) = zs.set k iz) := Lib.hid (fun h => by unfold igive; rw [if_pos h, Int.toNat_natCast, HZX.out])
      have HGE : Hid (gok xs (k : Int) = false → igive xs (k : Int) = []) := Lib.hid (fun h => by unfold igive; rw [h]; rfl)
      clear hin hy
      have hr0 : y.k = 1 → (decide (y.r ≤ 0) = (y.r == 0)) := fun h1 => by
        have := (iok_used HOK.out (by rw [h1]; decide)).2.2.1
        rw [Bool.eq_iff_iff, decide_eq_true_eq, beq_iff_eq]
        omega
      have HR0 := Lib.hid hr0
      clear hr0
      obtain ⟨q, hq⟩ : ∃ q, q = gok xs (k : Int) := ⟨_, rfl⟩
      obtain ⟨gs, hz⟩ : ∃ gs, gs = igive xs (k : Int) := ⟨_, rfl⟩
      rw [← hq] at HGK HGI HGE ⊢
      rw [← hz] at HGI HGE ⊢
      clear hq hz
      have hk0 : (0 : Int) ≤ (k : Int) := by omega
      have hki : (k : Int) < 12 := by omega
      have HLI : Hid (∀ w, Calls Try.prog 38 #[.agg (isC (zs.set k iz)).toArray] w (NewI (zs.set k iz) w)) := Lib.hid (fun w => ilist_any w _ (by rw [List.length_set]; exact ZL.out))
      have LS2 : Hid ((isC (zs.set k iz)).length = 36) := Lib.hid (isC_36 (by rw [List.length_set]; exact ZL.out))
      obtain ⟨ys, hys⟩ : ∃ ys, ys = zs.set k iz := ⟨_, rfl⟩
      obtain ⟨L2, hL2⟩ : ∃ L2, L2 = isC ys := ⟨_, rfl⟩
      rw [← hys] at HLI LS2 HGI
      have HYS := Lib.hid hys
      rw [← hL2] at HLI LS2
      have HL2 := Lib.hid hL2.symm
      clear hys hL2
      go_enter Try.func20, Try.ntmps20
      go_wp2_with fail
      refine HC.out.mono ?_
      rintro e w1 ⟨rfl, hb1⟩
      have HV := Lib.hid (VarI.make 54 hb1 ZS.out ZL.out)
      rw [HLE.out] at HV
      obtain ⟨W, hW⟩ : ∃ W, W = (w1.alloc (.cells Z 54)).setCells w1.heap.size 0 L := ⟨_, rfl⟩
      obtain ⟨B, hB⟩ : ∃ B, B = w1.heap.size := ⟨_, rfl⟩
      rw [← hW, ← hB] at HV
      have HW := Lib.hid hW
      have HBB := Lib.hid hB
      have HT : Hid ((w1.alloc (.cells Z 54)).there w1.heap.size 0 L.toArray.size) := Lib.hid (by rw [LZ.out, ← HBB.out]; exact HV.out.1)
      have HVI := Lib.hid HV.out.2
      clear hb1 hW hB HV
      go_wp2_with (first | ((with_reducible refine alloc_is 54 ?_); refine alloc_arr 54 Z ZM.out ?_) | ((with_reducible refine store_is 54 (.tmp 6) (.tmp 11) ?_); refine store_arr 54 (.tmp 6) (.tmp 11) w1.heap.size 0 L.toArray rfl rfl HT.out (info_infos LZ.out) LO.out ?_; rw [show L.toArray.toList = L from rfl, ← HW.out, ← HBB.out]))
      refine (HBL2.out W).mono ?_
      rintro e w' ⟨rfl, rfl⟩
      have hty := (HVI.out.cells k hk12).at3
      rw [← HYK.out] at hty
      obtain ⟨c0, c1, c2⟩ := hty
      have HIX := indexAt_infos B hk12
      by_cases hk1 : y.k = 1
      · have hk1' : (y.k != 1) = false := by simpa using hk1
        have HR1 := Lib.hid (HR0.out hk1)
        by_cases hr0 : y.r = 0
        · have hr0' : (y.r != 0) = false := by simpa using hr0
          have hq : q = true := by rw [HGK.out, decide_eq_true hk1, HR1.out, hr0]; rfl
          subst hq
          have hz := HGI.out rfl
          subst hz
          have HS4 := Lib.hid (HVI.out.set hk12 iz)
          rw [← HYS.out] at HS4
          obtain ⟨W4, hW4⟩ : ∃ W4, W4 = W.setCells B (k * 3) (ivC iz) := ⟨_, rfl⟩
          rw [← hW4] at HS4
          have HW4 := Lib.hid hW4
          clear hk1 hr0 hW4
          go_wp2_with (first | ((with_reducible refine store_is 30 (.tmp 34) (.tmp 33) ?_); refine store_arr 30 (.tmp 34) (.tmp 33) B (k * 3) #[.int .i64 0, .string ⟨#[]⟩, .int .i64 0] rfl rfl HS4.out.1 (by kernel_rfl) (by simp [Value.oneCell']) ?_; rw [show (#[.int .i64 0, .string ⟨#[]⟩, .int .i64 0] : Array Value).toList = ivC iz from rfl, ← HW4.out]) | ((with_reducible refine load_is 54 (.tmp 6) ?_); refine load_arr 54 (.tmp 6) B 0 L2 _ rfl (by rw [← HL2.out]; exact HS4.out.2.range) Try.underlying54 rfl (info_infos LS2.out) ?_))
          refine (HLI.out W4).mono ?_
          rintro e w5 ⟨v5, rfl, hr5, hb5⟩
          have B5 := Lib.hid (HS4.out.2.bel.trans (hb5.mono HS4.out.2.bel.size))
          have R5 := Lib.hid (hr5.wide HS4.out.2.bel.size (Nat.le_refl _))
          clear hr5 hb5
          go_wp2_with fail
          go_ret2
          exact ⟨_, rfl, R5.out, B5.out⟩
        · have hr0' : (y.r != 0) = true := by simpa using hr0
          have hq : q = false := by rw [HGK.out, HR1.out, Bool.and_eq_false_iff]; right; simpa using hr0
          subst hq
          have hz := HGE.out rfl
          subst hz
          clear hk1 hr0
          go_wp2_with fail
          go_ret2
          exact ⟨_, rfl, isW_none, HVI.out.bel⟩
      · have hk1' : (y.k != 1) = true := by simpa using hk1
        have hq : q = false := by rw [HGK.out, decide_eq_false hk1, Bool.false_and]
        subst hq
        have hz := HGE.out rfl
        subst hz
        clear hk1
        go_wp2_with fail
        go_ret2
        exact ⟨_, rfl, isW_none, HVI.out.bel⟩
end Go.Proofs.Ytopnomklfkkjfaa
