/- What the program's infosOf answers. -/
import Derived.Test.YtopnomklfkkjfaaIA
import Derived.Test.YtopnomklfkkjfaaIB
namespace Go.Proofs.Ytopnomklfkkjfaa
open Go.ChangeShapes Go.WideShapes Go.ChangeAt Go.RowKit
set_option linter.unusedVariables false

set_option maxRecDepth 100000 in
set_option maxHeartbeats 1000000 in
theorem infosOf_any (w : World) (v : Value) (xs : List IV) (h : Is w v xs) (hs : ShortI xs) :
    Calls Try.prog 36 #[v] w (ArrI (arrOf xs) (isok xs) w) := by
  obtain ⟨a, ca, rfl, hla, hma, hxa⟩ := h
  unfold maxLen at hma
  obtain ⟨R, HRR⟩ : ∃ R : Ending → World → Prop, Hid (R = ArrI (arrOf xs) (isok xs) w) := ⟨_, Lib.hid rfl⟩
  rw [← HRR.out]
  obtain ⟨Z, hZ⟩ : ∃ Z, Z = (isC z12).toArray := ⟨_, rfl⟩
  have ZM := Lib.hid zero_infos
  have ZS : Hid (Z.size = 36) := Lib.hid (by rw [hZ, List.size_toArray, isC_36 z12_len])
  have ZO : Hid (Z.all (·.oneCell') = true) := Lib.hid (by rw [hZ]; exact isC_all _)
  have ZT := Lib.hid (IRel.start w xs)
  rw [← hZ] at ZM ZT
  have HZ := Lib.hid hZ
  clear hZ
  obtain ⟨n, hN⟩ : ∃ n, n = xs.length := ⟨_, rfl⟩
  rw [← hN] at hla ⊢
  have HN := Lib.hid hN
  have HX := Lib.hid hxa
  have HS := Lib.hid hs
  clear hN hxa hs
  by_cases hn : n = 12
  · subst hn
    have HAT := fun W => arrayAt_infos W a ca
    have HST := Lib.hid (ZT.out 54)
    obtain ⟨B, hB⟩ : ∃ B, B = w.heap.size := ⟨_, rfl⟩
    have HB := Lib.hid hB
    obtain ⟨w0, hw0⟩ : ∃ w0, w0 = w.alloc (.cells Z 54) := ⟨_, rfl⟩
    rw [← hw0] at HST
    go_enter Try.func36, Try.ntmps36
    go_wp2_with ((with_reducible refine alloc_is 54 ?_); refine alloc_arr 54 Z ZM.out ?_)
    rw [← hw0, ← hB]
    clear hw0 hB
    go_loopw [12] (fun i wr => ∃ k : Nat, k ≤ 12 ∧ i = .int .i64 k ∧ Hid (IRel w xs k wr)) (fun i _ => 12 - (intOf i).toNat)
    case atStart => exact ⟨0, Nat.zero_le _, rfl, HST⟩
    case round =>
      obtain ⟨k, hk, rfl, HRL⟩ := hrel
      by_cases hlt : k < 12
      · have hlt' : (k : Int) < 12 := by omega
        have hkx : k < xs.length := by have := HN.out; omega
        obtain ⟨b, o, rfl, hc⟩ := HX.out k hkx
        have HC := Lib.hid (hc.below HRL.out.bel hc.lt)
        obtain ⟨x, hx⟩ : ∃ x, x = xs.getD k iz := ⟨_, rfl⟩
        rw [← hx] at HC
        have HXK := Lib.hid hx
        have HV := Lib.hid (fun w => ivalid1_any w x (by rw [hx]; exact HS.out.at k))
        have HCK := Lib.hid hkx
        clear hc hx hkx
        obtain ⟨c0, c1, c2⟩ := HC.out
        obtain ⟨xk, xg, xr⟩ := x
        obtain ⟨wA, hA⟩ : ∃ wA, wA = wr.alloc (.cells #[.int .i64 xk, .string ⟨xg.toArray⟩, .int .i64 xr] 30) := ⟨_, rfl⟩
        have HRA : Hid (IRel w xs k wA) := Lib.hid (by rw [hA]; exact HRL.out.after ((Below.refl _ _).alloc (Nat.le_refl _) _))
        cases hv : iok ⟨xk, xg, xr⟩ with
        | false =>
          rw [hv] at HV
          have HF : Hid (isok xs = false) := Lib.hid (by
            rw [Bool.eq_false_iff]
            intro hh
            have := isok_at hh HCK.out
            rw [← HXK.out, hv] at this
            cases this)
          clear hv
          go_wp2_with fail
          rw [← hA]
          refine (HV.out wA).mono ?_
          rintro e w1 ⟨rfl, hb1⟩
          have HR1 := Lib.hid (HRA.out.after hb1)
          have HT := Lib.hid HR1.out.res
          have HE : Hid (∀ cs, Below w.heap.size w (w1.setCells B 0 cs)) := Lib.hid (fun cs => Below.setCells (Below.refl _ _) _ (by rw [HB.out]; exact Nat.le_refl _) _ _ _ HR1.out.bel)
          rw [← HB.out] at HT
          clear hA hb1 c0 c1 c2
          go_wp2_with (first | ((with_reducible refine build_is 54 ?_); refine build_arr 54 Z 12 30 3 ZM.out Try.underlying54 size_info ?_) | ((with_reducible refine store_is 54 (.tmp 2) (.tmp 19) ?_); refine store_arr 54 (.tmp 2) (.tmp 19) B 0 Z rfl rfl (by rw [ZS.out]; exact HT.out) (info_infos ZS.out) ZO.out ?_))
          refine bodyPost_ret (results_cell_mid rfl _ _ B 0 Z.toList _ rfl (World.rangeAt_setCells_same _ _ _ _ (by rw [Array.length_toList, ZS.out]; exact HT.out)) Try.underlying54 rfl (info_infos (by rw [Array.length_toList, ZS.out]))) rfl ?_
          rw [HRR.out, HF.out, arrOf_no HF.out]
          exact ⟨by rw [← HZ.out]; simp, HE.out _⟩
        | true =>
          rw [hv] at HV
          have HOK : Hid (iok (xs.getD k iz) = true) := Lib.hid (by rw [← HXK.out]; exact hv)
          clear hv
          go_wp2_with fail
          rw [← hA]
          refine (HV.out wA).mono ?_
          rintro e w1 ⟨rfl, hb1⟩
          have HR1 := Lib.hid ((HRA.out.after hb1).step HOK.out)
          clear hA hb1 c0 c1 c2
          go_wp2_with fail
          go_roundw
          case rel => exact ⟨k + 1, by omega, by go_num, HR1⟩
          case measure => simp [intOf]; omega
      · have e : k = 12 := by omega
        have HM : Hid (isok xs = true) := Lib.hid (isok_iff.2 ⟨fun i hi => HRL.out.ok i (by have := HN.out; omega), HN.out.symm⟩)
        have HT := Lib.hid HRL.out.res
        have HE : Hid (∀ cs, Below w.heap.size w (wr.setCells B 0 cs)) := Lib.hid (fun cs => Below.setCells (Below.refl _ _) _ (by rw [HB.out]; exact Nat.le_refl _) _ _ _ HRL.out.bel)
        rw [← HB.out] at HT
        obtain ⟨b, o, rfl, hc⟩ := HX.out 0 (by have := HN.out; omega)
        have HF : Hid (wr.rangeAt b o (isC xs)) := Lib.hid (fun j u hj => is_cells (fun i hi => by
          obtain ⟨b', o', e', hc'⟩ := HX.out i hi
          cases e'
          exact hc'.below HRL.out.bel hc'.lt) j u hj)
        clear hc
        have HO := Lib.hid (isC_all xs)
        have HL : Hid ((isC xs).length = 36) := Lib.hid (isC_36 HN.out.symm)
        have HLR : Hid (R = ArrI xs true w) := Lib.hid (by rw [HRR.out, HM.out, arrOf_ok HM.out])
        clear HRR
        obtain ⟨C, hC⟩ : ∃ C, C = isC xs := ⟨_, rfl⟩
        rw [← hC] at HF HO HL
        have HCC := Lib.hid hC
        clear hC
        go_wp2_with (first | ((with_reducible refine load_is 54 (.tmp 22) ?_); refine load_arr 54 (.tmp 22) b o C _ rfl HF.out Try.underlying54 rfl (info_infos HL.out) ?_) | ((with_reducible refine store_is 54 (.tmp 2) (.tmp 23) ?_); refine store_arr 54 (.tmp 2) (.tmp 23) B 0 C.toArray rfl rfl (by rw [List.size_toArray, HL.out]; exact HT.out) (info_infos (by rw [List.size_toArray, HL.out])) HO.out ?_))
        refine bodyPost_ret (results_cell_mid rfl _ _ B 0 C _ rfl (World.rangeAt_setCells_same _ _ _ _ (by rw [HL.out]; exact HT.out)) Try.underlying54 rfl (info_infos HL.out)) rfl ?_
        rw [HLR.out]
        exact ⟨by rw [← HCC.out]; rfl, HE.out _⟩
  · have hn' : ((n : Int) != 12) = true := by simp; omega
    have HM : Hid (isok xs = false) := Lib.hid (by
      rw [Bool.eq_false_iff]
      intro hh
      exact hn (HN.out.trans (isok_len hh)))
    have HT : Hid ((w.alloc (.cells Z 54)).there w.heap.size 0 36) := Lib.hid (ZT.out 54).res
    have HE : Hid (Below w.heap.size w ((w.alloc (.cells Z 54)).setCells w.heap.size 0 Z.toList)) := Lib.hid (Below.setCells (Below.refl _ _) _ (Nat.le_refl _) _ _ _ (ZT.out 54).bel)
    go_enter Try.func36, Try.ntmps36
    go_wp2_with (first | ((with_reducible refine alloc_is 54 ?_); refine alloc_arr 54 Z ZM.out ?_) | ((with_reducible refine build_is 54 ?_); refine build_arr 54 Z 12 30 3 ZM.out Try.underlying54 size_info ?_) | ((with_reducible refine store_is 54 (.tmp 2) (.tmp 9) ?_); refine store_arr 54 (.tmp 2) (.tmp 9) w.heap.size 0 Z rfl rfl (by rw [ZS.out]; exact HT.out) (info_infos ZS.out) ZO.out ?_))
    refine bodyPost_ret (results_cell_mid rfl _ _ w.heap.size 0 Z.toList _ rfl (World.rangeAt_setCells_same _ _ _ _ (by rw [Array.length_toList, ZS.out]; exact HT.out)) Try.underlying54 rfl (info_infos (by rw [Array.length_toList, ZS.out]))) rfl ?_
    rw [HRR.out, HM.out, arrOf_no HM.out]
    exact ⟨by rw [← HZ.out]; simp, HE.out⟩
end Go.Proofs.Ytopnomklfkkjfaa
