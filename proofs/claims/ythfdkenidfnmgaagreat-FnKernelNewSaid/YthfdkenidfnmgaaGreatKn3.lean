/- What the proofs stand on, part 3. -/
import Derived.Test.YthfdkenidfnmgaaGreatRows
import Derived.Test.YthfdkenidfnmgaaGreatKn2
set_option linter.unusedSimpArgs false
set_option linter.unusedVariables false
namespace Go.Proofs.YthfdkenidfnmgaaGreat
open Go.ChangeShapes Go.WideShapes Go.ChangeAt Go.RowKit
set_option linter.unusedVariables false
set_option maxRecDepth 100000
set_option maxRecDepth 100000 in
set_option maxHeartbeats 1000000 in
theorem iif_any : IIF := by
  intro w v xs h hs
  have HC := Lib.hid (infosOf_any w v xs h hs)
  clear h hs
  obtain ⟨b, hb⟩ : ∃ b, b = isok xs := ⟨_, rfl⟩
  rw [← hb] at HC
  have HIB := Lib.hid hb
  clear hb
  obtain ⟨Z, hZ⟩ : ∃ Z, Z = (isC z12).toArray := ⟨_, rfl⟩
  have ZM := Lib.hid zero_infos
  have ZS : Hid (Z.size = 36) := Lib.hid (by rw [hZ, List.size_toArray, isC_36 z12_len])
  rw [← hZ] at ZM
  clear hZ
  obtain ⟨zs, hzs⟩ : ∃ zs, zs = arrOf xs := ⟨_, rfl⟩
  rw [← hzs] at HC
  have ZL : Hid (zs.length = 12) := Lib.hid (by rw [hzs]; exact arrOf_len xs)
  have HZS := Lib.hid hzs
  clear hzs
  have HC' : Hid (Calls Tryz.prog 23 #[v] w (ArrI zs b w)) := HC
  unfold ArrI at HC'
  obtain ⟨L, hL⟩ : ∃ L, L = isC zs := ⟨_, rfl⟩
  have LS : Hid (L.length = 36) := Lib.hid (by rw [hL]; exact isC_36 ZL.out)
  have LZ : Hid (L.toArray.size = 36) := Lib.hid (List.size_toArray.trans LS.out)
  have LO : Hid (L.toArray.all (·.oneCell') = true) := Lib.hid (by rw [hL]; exact isC_all _)
  rw [← hL] at HC'
  have HLE := Lib.hid hL.symm
  clear HC hL
  have HC := HC'
  clear HC'
  obtain ⟨r, hr⟩ : ∃ r, r = ifree xs := ⟨_, rfl⟩
  rw [← hr]
  have HR := Lib.hid hr
  clear hr
  cases b with
  | false =>
    have HR2 : Hid (r = -1) := Lib.hid (by rw [HR.out, ifree, if_neg (by rw [← HIB.out]; simp)])
    clear HR
    go_enter Tryz.func10, Tryz.ntmps10
    go_wp2_with fail
    refine HC.out.mono ?_
    rintro e w1 ⟨rfl, hb1⟩
    have HV := Lib.hid (VarI.make 60 hb1 ZS.out ZL.out)
    rw [HLE.out] at HV
    obtain ⟨W, hW⟩ : ∃ W, W = (w1.alloc (.cells Z 60)).setCells w1.heap.size 0 L := ⟨_, rfl⟩
    obtain ⟨B, hB⟩ : ∃ B, B = w1.heap.size := ⟨_, rfl⟩
    rw [← hW, ← hB] at HV
    have HW := Lib.hid hW
    have HBB := Lib.hid hB
    have HT : Hid ((w1.alloc (.cells Z 60)).there w1.heap.size 0 L.toArray.size) := Lib.hid (by rw [LZ.out, ← HBB.out]; exact HV.out.1)
    have HVI := Lib.hid HV.out.2
    clear hb1 hW hB HV
    go_wp2_with (first | ((with_reducible refine alloc_is 60 ?_); refine alloc_arr 60 Z ZM.out ?_) | ((with_reducible refine store_is 60 (.tmp 3) (.tmp 8) ?_); refine store_arr 60 (.tmp 3) (.tmp 8) w1.heap.size 0 L.toArray rfl rfl HT.out (info_infos LZ.out) LO.out ?_; rw [show L.toArray.toList = L from rfl, ← HW.out, ← HBB.out]))
    go_ret
    exact ⟨by rw [HR2.out]; rfl, HVI.out.bel⟩
  | true =>
    have HZX : Hid (zs = xs) := Lib.hid (by rw [HZS.out]; exact arrOf_ok HIB.out.symm)
    have HR2 : Hid (r = ((frsI zs 0).length : Int)) := Lib.hid (by rw [HR.out, ifree, if_pos HIB.out.symm, frs_length, HZX.out])
    have HCN : Hid ((frsI zs 0).length ≤ 12) := Lib.hid (by rw [frs_length]; have := cnt_le zs; have := ZL.out; omega)
    have HFR := Lib.hid (fun w => ifreeL_any w zs ZL.out)
    rw [HLE.out] at HFR
    clear HR
    go_enter Tryz.func10, Tryz.ntmps10
    go_wp2_with fail
    refine HC.out.mono ?_
    rintro e w1 ⟨rfl, hb1⟩
    have HV := Lib.hid (VarI.make 60 hb1 ZS.out ZL.out)
    rw [HLE.out] at HV
    obtain ⟨W, hW⟩ : ∃ W, W = (w1.alloc (.cells Z 60)).setCells w1.heap.size 0 L := ⟨_, rfl⟩
    obtain ⟨B, hB⟩ : ∃ B, B = w1.heap.size := ⟨_, rfl⟩
    rw [← hW, ← hB] at HV
    have HW := Lib.hid hW
    have HBB := Lib.hid hB
    have HT : Hid ((w1.alloc (.cells Z 60)).there w1.heap.size 0 L.toArray.size) := Lib.hid (by rw [LZ.out, ← HBB.out]; exact HV.out.1)
    have HVI := Lib.hid HV.out.2
    clear hb1 hW hB HV
    go_wp2_with (first | ((with_reducible refine alloc_is 60 ?_); refine alloc_arr 60 Z ZM.out ?_) | ((with_reducible refine store_is 60 (.tmp 3) (.tmp 8) ?_); refine store_arr 60 (.tmp 3) (.tmp 8) w1.heap.size 0 L.toArray rfl rfl HT.out (info_infos LZ.out) LO.out ?_; rw [show L.toArray.toList = L from rfl, ← HW.out, ← HBB.out]) | ((with_reducible refine load_is 60 (.tmp 3) ?_); refine load_arr 60 (.tmp 3) B 0 L _ rfl (by rw [← HLE.out]; exact HVI.out.range) Tryz.underlying60 rfl (info_infos LS.out) ?_))
    refine (HFR.out W).mono ?_
    rintro e w2 ⟨p, rfl, hch, -, hb2⟩
    have B2 := Lib.hid (HVI.out.bel.trans (hb2.mono HVI.out.bel.size))
    have HCT := Lib.hid (icount_any w2 _ p hch HCN.out)
    clear hb2 hch
    go_wp2_with fail
    refine HCT.out.mono ?_
    rintro e w3 ⟨rfl, hb3⟩
    have B3 := Lib.hid (B2.out.trans (hb3.mono B2.out.size))
    clear hb3
    go_wp2_with fail
    go_ret
    exact ⟨by rw [HR2.out]; rfl, B3.out⟩
end Go.Proofs.YthfdkenidfnmgaaGreat
namespace Go.Proofs.YthfdkenidfnmgaaGreat
open Go.ChangeShapes Go.WideShapes Go.ChangeAt Go.RowKit Go.Maps
set_option linter.unusedVariables false
set_option maxRecDepth 100000
theorem plainElem_bool_inv {H : Type} {P : Program} {e : TypeId} (he : P.underlying e = some .bool) {v : Value} {z : DataW H × List MemPlace} (h : plainElem P e v = some z) : ∃ x, v = .bool x ∧ z = (.lit (.bool x), []) := by
  cases v <;> simp [plainElem, he] at h
  exact ⟨_, rfl, h.symm⟩
theorem keyOf_s (s : Bs) (hs : s.length ≤ maxLen) : keyOf Tryz.prog 9 (.string ⟨s.toArray⟩) = some (.string s) := by
  have hz : (ByteArray.mk s.toArray).size ≤ maxLen := by simpa [ByteArray.size] using hs
  simp [keyOf, Tryz.underlying9, mapKey, hz]
theorem SetAt.look {w : World} {b : Nat} {xs : List Bs} (h : SetAt w b xs) (s : Bs) (hs : s.length ≤ maxLen) : (Instr.lookup 46 (.map (some b)) (.string ⟨s.toArray⟩) false).run Tryz.prog w = .ok (.bool (decide (s ∈ xs))) w := by
  obtain ⟨n, D, hn, ho, hsi⟩ := h
  obtain ⟨v, ps, hrun, hv⟩ := ho.lookup keyS Tryz.underlying46 (Tryz.zeroValue4 w) (plainElem_bool Tryz.underlying4 false) (keyOf_s s hs)
  obtain ⟨x, rfl, hx⟩ := plainElem_bool_inv Tryz.underlying4 hv
  have := hsi.atKey s
  simp only [Prod.mk.injEq] at hx
  rw [this] at hx
  have e : decide (s ∈ xs) = x := by simpa using hx.1
  rw [e]; exact hrun
theorem SetAt.len {w : World} {b : Nat} {xs : List Bs} (h : SetAt w b xs) (ty : TypeId) : (Builtin.len_ #[46] ty #[.map (some b)]).run Tryz.prog w = .ok (.int .i64 xs.length) w := by
  obtain ⟨n, D, hn, ho, hsi⟩ := h
  rw [ho.len Tryz.underlying46 ty, hsi.size]
theorem SetAt.put {w : World} {b : Nat} {xs : List Bs} (h : SetAt w b xs) (hl : xs.length < 900) (s : Bs) (hs : s.length ≤ maxLen) : ∃ w', (Instr.mapUpdate 46 (.map (some b)) (.string ⟨s.toArray⟩) (.bool true)).run Tryz.prog w = .ok () w' ∧ SetAt w' b (if s ∈ xs then xs else s :: xs) ∧ w.grownBy w' (some b) := by
  obtain ⟨n, D, hn, ho, hsi⟩ := h
  have ho' := ho
  obtain ⟨es, clock, hb, F, hz, hD⟩ := ho
  have hz2 := hsi.size
  have ho2 : w.ownsMap (H := Unit) Tryz.prog 9 (plainElem Tryz.prog 4) b xs.length D := ⟨es, clock, hb, F, by
    have : Maps.size D = es.size := by rw [hD]; simp [Maps.size, length_sorted]
    omega, hD⟩
  obtain ⟨w', hrun, how, hg⟩ := ho2.update keyS Tryz.underlying46 (by unfold maxLen; omega) (keyOf_s s hs) (plainElem_bool Tryz.underlying4 true)
  refine ⟨w', hrun, ⟨xs.length + 1, _, by omega, how, ?_⟩, hg⟩
  by_cases hm : s ∈ xs
  · rw [if_pos hm]; exact hsi.again hm
  · rw [if_neg hm]; exact hsi.put hm
theorem SetAt.made (w : World) : SetAt (w.alloc (.map #[] 0)) w.heap.size [] := ⟨0, _, Nat.zero_le _, World.ownsMap_made w _ _ _, SetIs.none⟩
theorem getD_take {xs : List Bs} {m j : Nat} (hj : j < m) (hm : m ≤ xs.length) : (xs.take m).getD j [] = xs.getD j [] := by
  rw [getD_lt (by rw [List.length_take]; omega), getD_lt (by omega), List.getElem_take]
theorem rokTo_rok {xs : List Bs} {m : Nat} (h : rokTo xs m) (hm : m ≤ xs.length) : rok (xs.take m) = true := by
  rw [rok_iff]
  intro j hj
  rw [List.length_take] at hj
  have := h j (by omega)
  rw [getD_take (by omega) hm, getD_take (by omega) hm]
  exact this
theorem rokTo_new {xs : List Bs} {k : Nat} (h : rokTo xs (k + 1)) (hk : k < xs.length) : xs.getD k [] ∉ xs.take k := by
  have hn := asc_nodup (rok_asc (rokTo_rok h hk))
  rw [take_snoc_getD xs k [] hk] at hn
  intro hm
  exact (List.nodup_append.1 hn).2.2 _ hm _ (List.mem_singleton.2 rfl) rfl
theorem SetAt.snoc {w : World} {b : Nat} {xs : List Bs} {x : Bs} (h : SetAt w b (if x ∈ xs then xs else x :: xs)) (hn : x ∉ xs) : SetAt w b (xs ++ [x]) := by
  rw [if_neg hn] at h
  exact h.perm (List.perm_append_singleton x xs).symm
theorem take_le_six {xs : List Bs} {k : Nat} (h : k ≤ 6) : (xs.take k).length < 900 := by rw [List.length_take]; omega
def SetOf (xs : List Bs) (w : World) (e : Ending) (w' : World) : Prop :=
  Below w.heap.size w w' ∧ ∃ m, e = .returned (.tuple #[.map m, .bool (rvs xs)]) ∧ (rvs xs = true → ∃ b, m = some b ∧ w.heap.size ≤ b ∧ SetAt w' b xs)
theorem setOf_any (w : World) (v : Value) (xs : List Bs) (h : Strs w v xs) (hs : Short xs) : Calls Tryz.prog 28 #[v] w (SetOf xs w) := by
  obtain ⟨a, ca, rfl, hla, hma, hxa⟩ := h
  unfold maxLen at hma
  obtain ⟨n, hN⟩ : ∃ n, n = xs.length := ⟨_, rfl⟩
  rw [← hN] at hla hxa ⊢
  have HN := Lib.hid hN
  have HX := Lib.hid hxa
  have HS := Lib.hid hs
  clear hN hxa hs
  by_cases h6 : 6 < n
  · have h6' : (6 : Int) < (n : Int) := by omega
    have HR : Hid (rvs xs = false) := Lib.hid (by rw [Bool.eq_false_iff]; intro h; have := rvs_len h; have := HN.out; omega)
    go_enter Tryz.func28, Tryz.ntmps28
    go_wp2_with fail
    go_ret2
    exact ⟨Below.refl _ _, none, by rw [HR.out]; rfl, fun h => by rw [HR.out] at h; cases h⟩
  have h6' : ¬ (6 : Int) < (n : Int) := by omega
  have hmm := @run_makeMap Tryz.prog
  go_enter Tryz.func28, Tryz.ntmps28
  go_wp2
  go_loopw [13] (fun i wr => ∃ k : Nat, k ≤ n ∧ i = .int .i64 k ∧ Hid (rokTo xs k) ∧ Hid (SetAt wr w.heap.size (xs.take k)) ∧ Hid (Below w.heap.size w wr)) (fun i _ => n - (intOf i).toNat)
  case atStart => exact ⟨0, Nat.zero_le _, rfl, Lib.hid (fun j hj => by omega), Lib.hid (SetAt.made w), Lib.hid ((Below.refl _ _).alloc (Nat.le_refl _) _)⟩
  case round =>
    obtain ⟨k, hk, rfl, HT, HA, HB⟩ := hrel
    by_cases hlt : k < n
    · have hlt' : (k : Int) < (n : Int) := by omega
      have hkx : k < xs.length := by rw [← HN.out]; exact hlt
      obtain ⟨b, o, rfl, hc0⟩ := HX.out k hlt
      have hc := (HB.out.cell (p := ⟨b, o + k, none⟩) (cell_lt hc0)).trans hc0
      clear hc0
      have HV := Lib.hid (fun w => irv_any w (xs.getD k []) (HS.out.at k))
      have HB1 := Lib.hid (fun h => rok_bad1 hkx h)
      have HB2 := Lib.hid (fun h0 h => rok_bad2 hkx h0 h)
      have HO := Lib.hid (fun h1 h2 => rokTo_succ HT.out h1 h2)
      have HTK := Lib.hid (take_snoc_getD xs k [] hkx)
      have HNW := Lib.hid (fun h => rokTo_new (xs := xs) (k := k) h hkx)
      have HSX := Lib.hid (short_max (HS.out.at k))
      generalize xs.getD k [] = x at hc HV HB1 HB2 HO HTK HNW HSX
      clear hkx
      cases hv : rv x with
      | false =>
        have HR := Lib.hid (HB1.out hv)
        rw [hv] at HV
        clear hv
        go_wp2_with fail
        refine (HV.out wr).mono ?_
        rintro e w1 ⟨rfl, hb1⟩
        have B1 := Lib.hid (HB.out.trans (hb1.mono HB.out.size))
        clear hb1
        go_wp2
        go_ret2
        exact ⟨B1.out, none, by rw [HR.out]; rfl, fun h => by rw [HR.out] at h; cases h⟩
      | true =>
        have HW := Lib.hid hv
        rw [hv] at HV
        clear hv
        rcases Nat.eq_zero_or_pos k with h0 | hpos
        · have hgt : ¬ (0 : Int) < (k : Int) := by omega
          have hgt2 : ¬ 0 < k := by omega
          have HO2 := Lib.hid (HO.out HW.out (fun h => absurd h hgt2))
          clear h0
          go_wp2_with fail
          refine (HV.out wr).mono ?_
          rintro e w1 ⟨rfl, hb1⟩
          have B1 := Lib.hid (HB.out.trans (hb1.mono HB.out.size))
          have A1 := Lib.hid (HA.out.below hb1)
          clear hb1
          obtain ⟨w2, hrun, hset, hg⟩ := A1.out.put (take_le_six (by omega)) x HSX.out
          have A2 := Lib.hid (hset.snoc (HNW.out HO2.out))
          rw [← HTK.out] at A2
          have B2 := Lib.hid (B1.out.grown hg B1.out.size (fun j hj => by cases hj; exact Nat.le_refl _))
          clear hset hg
          go_wp2
          go_roundw
          case rel => exact ⟨k + 1, by omega, by go_num, HO2, A2, B2⟩
          case measure => simp [intOf]; omega
        · obtain ⟨q, rfl⟩ : ∃ q, k = q + 1 := ⟨k - 1, by omega⟩
          have hgt : (0 : Int) < ((q + 1 : Nat) : Int) := by omega
          simp only [Nat.add_sub_cancel] at HB2 HO
          obtain ⟨b', o', e, hcq⟩ := HX.out q (by omega)
          cases e
          have hcy := (HB.out.cell (p := ⟨b, o + q, none⟩) (cell_lt hcq)).trans hcq
          clear hcq
          generalize xs.getD q [] = y at hcy HB2 HO
          cases hb : bl y x with
          | false =>
            have HR := Lib.hid (HB2.out (Nat.succ_pos _) hb)
            have hbb : Op.bytesLess y x = false := hb
            clear hb
            go_wp2_with fail
            refine (HV.out wr).mono ?_
            rintro e w1 ⟨rfl, hb1⟩
            have B1 := Lib.hid (HB.out.trans (hb1.mono HB.out.size))
            have hc1 := (hb1.cell (p := ⟨b, o + q, none⟩) (cell_lt hcy)).trans hcy
            clear hb1 hcy
            go_wp2_with fail
            go_ret2
            exact ⟨B1.out, none, by rw [HR.out]; rfl, fun h => by rw [HR.out] at h; cases h⟩
          | true =>
            have HO2 := Lib.hid (HO.out HW.out (fun _ => hb))
            have hbb : Op.bytesLess y x = true := hb
            clear hb
            go_wp2_with fail
            refine (HV.out wr).mono ?_
            rintro e w1 ⟨rfl, hb1⟩
            have B1 := Lib.hid (HB.out.trans (hb1.mono HB.out.size))
            have hc1 := (hb1.cell (p := ⟨b, o + q, none⟩) (cell_lt hcy)).trans hcy
            have A1 := Lib.hid (HA.out.below hb1)
            clear hb1 hcy
            obtain ⟨w2, hrun, hset, hg⟩ := A1.out.put (take_le_six (by omega)) x HSX.out
            have A2 := Lib.hid (hset.snoc (HNW.out HO2.out))
            rw [← HTK.out] at A2
            have B2 := Lib.hid (B1.out.grown hg B1.out.size (fun j hj => by cases hj; exact Nat.le_refl _))
            clear hset hg
            go_wp2
            go_roundw
            case rel => exact ⟨q + 1 + 1, by omega, by go_num, HO2, A2, B2⟩
            case measure => simp [intOf]; omega
    · have e : k = n := by omega
      have HR : Hid (rvs xs = true) := Lib.hid (by rw [rvs, rokTo_all HT.out (by rw [e]; exact HN.out), decide_eq_true (by have := HN.out; omega)]; rfl)
      have HA2 := Lib.hid (show SetAt wr w.heap.size xs by have := HA.out; rwa [take_all (by rw [e]; exact HN.out)] at this)
      go_wp2
      go_ret2
      exact ⟨HB.out, _, by rw [HR.out]; rfl, fun _ => ⟨_, rfl, Nat.le_refl _, HA2.out⟩⟩
end Go.Proofs.YthfdkenidfnmgaaGreat
namespace Go.Proofs.YthfdkenidfnmgaaGreat
open Go.ChangeShapes Go.WideShapes Go.ChangeAt Go.RowKit Go.Maps
set_option linter.unusedVariables false
set_option maxRecDepth 100000
theorem may_yes {xs : List Bs} {s : Bs} {k : Nat} (hk : k ≤ s.length) (h : s.take k ∈ xs) : may0 xs s = true := by
  unfold may0
  refine List.any_eq_true.2 ⟨_, h, cov_iff.2 ⟨by rw [List.length_take]; omega, ?_⟩⟩
  rw [List.length_take, Nat.min_eq_left hk]
theorem may_no {xs : List Bs} {s : Bs} (h : ∀ j, j ≤ s.length → s.take j ∉ xs) : may0 xs s = false := by
  rw [Bool.eq_false_iff]
  intro hm
  obtain ⟨x, hx, hc⟩ := List.any_eq_true.1 hm
  rw [cov_iff] at hc
  exact h _ hc.1 (by rw [hc.2]; exact hx)
theorem extract_zero (s : Bs) (k : Nat) : (ByteArray.mk s.toArray).extract 0 k = ⟨(s.take k).toArray⟩ := by rw [extract_mk]; rfl
theorem allow_any (w : World) (b : Nat) (xs : List Bs) (s : Bs) (h : SetAt w b xs) (hs : s.length ≤ 2000000) : Calls Tryz.prog 72 #[.map (some b), .string ⟨s.toArray⟩] w (Says (may0 xs s) w) := by
  have hsl : (s.length : Int) ≤ 2000000 := by omega
  have H := Lib.hid h
  clear h
  go_enter Tryz.func72, Tryz.ntmps72
  go_wp2
  go_loop [9] (fun i => ∃ k : Nat, k ≤ s.length + 1 ∧ i = .int .i64 k ∧ Hid (∀ j, j < k → s.take j ∉ xs)) (fun i => s.length + 1 - (intOf i).toNat)
  case atStart => exact ⟨0, Nat.zero_le _, rfl, Lib.hid (fun j hj => by omega)⟩
  case round =>
    obtain ⟨k, hk, rfl, HT⟩ := hrel
    by_cases hks : k < s.length + 1
    · have hlt' : (k : Int) < (s.length : Int) + 1 := by omega
      have hkl : (k : Int) ≤ (s.length : Int) := by omega
      have hlook := H.out.look (s.take k) (short_max (by rw [List.length_take]; omega))
      rw [← extract_zero] at hlook
      have HY := Lib.hid (fun h => may_yes (xs := xs) (s := s) (k := k) (by omega) h)
      have HNO := Lib.hid (fun (h : s.take k ∉ xs) => (fun j hj => by
        rcases Nat.lt_succ_iff_lt_or_eq.1 hj with h1 | h1
        · exact HT.out j h1
        · rw [h1]; exact h : ∀ j, j < k + 1 → s.take j ∉ xs))
      by_cases hm : s.take k ∈ xs
      · have HR := Lib.hid (HY.out hm)
        rw [decide_eq_true hm] at hlook
        clear hm
        go_wp2
        go_ret
        exact says_mk HR.out.symm
      · have HN2 := Lib.hid (HNO.out hm)
        rw [decide_eq_false hm] at hlook
        clear hm
        go_wp2
        go_round
        case rel => exact ⟨k + 1, by omega, by go_num, HN2⟩
        case measure => simp [intOf]; omega
    · go_wp2
      go_ret
      exact says_mk (may_no (fun j hj => HT.out j (by omega))).symm
end Go.Proofs.YthfdkenidfnmgaaGreat
namespace Go.Proofs.YthfdkenidfnmgaaGreat
open Go.ChangeShapes Go.WideShapes Go.ChangeAt Go.RowKit
set_option linter.unusedVariables false
set_option maxRecDepth 100000
set_option linter.unusedSimpArgs false
theorem names_yesT (w : World) (x : Int) (h : goodB x) : Calls Tryz.prog 99 #[.int .i64 x] w (Says true w) := by
  obtain ⟨h0, h1, h2⟩ := h
  have hc : x % 4 = 1 ∨ x % 4 = 3 := by omega
  have h3 : 0 ≤ x := by omega
  have h4 : x / 4 < 12 := by omega
  clear h1
  rcases hc with hc | hc
  · have e1 : (x % 4 == 1) = true := by simpa using hc
    clear hc
    go_enter Tryz.func99, Tryz.ntmps99
    go_wp2
    go_ret
    exact ⟨rfl, rfl⟩
  · have e1 : (x % 4 == 1) = false := by simp; omega
    have e3 : (x % 4 == 3) = true := by simpa using hc
    clear hc
    go_enter Tryz.func99, Tryz.ntmps99
    go_wp2
    go_ret
    exact ⟨rfl, rfl⟩
theorem names_noT (w : World) (x : Int) (h : ¬ goodB x) (hb0 : 0 ≤ x) (hb1 : x ≤ 9999) : Calls Tryz.prog 99 #[.int .i64 x] w (Says false w) := by
  unfold goodB at h
  by_cases h1 : x % 4 = 1
  · have h4 : decide (x / 4 < 12) = false := by simp; omega
    have e1 : (x % 4 == 1) = true := by simpa using h1
    clear h1 h
    go_enter Tryz.func99, Tryz.ntmps99
    go_wp2
    go_ret
    exact ⟨rfl, rfl⟩
  · have e1 : (x % 4 == 1) = false := by simpa using h1
    by_cases h3 : x % 4 = 3
    · have h4 : decide (x / 4 < 12) = false := by simp; omega
      have e3 : (x % 4 == 3) = true := by simpa using h3
      clear h1 h h3
      go_enter Tryz.func99, Tryz.ntmps99
      go_wp2
      go_ret
      exact ⟨rfl, rfl⟩
    · have e3 : (x % 4 == 3) = false := by simpa using h3
      clear h1 h h3
      go_enter Tryz.func99, Tryz.ntmps99
      go_wp2
      go_ret
      exact ⟨rfl, rfl⟩
def SaysN (n : Int) (w : World) (e : Ending) (w' : World) : Prop := e = .returned (.int .i64 n) ∧ w = w'
theorem frame_ofT (w : World) (x : Int) (h : 0 ≤ x) (h1 : x ≤ 9999) : Calls Tryz.prog 92 #[.int .i64 x] w (SaysN (x / 4) w) := by
  go_enter Tryz.func92, Tryz.ntmps92
  go_wp2
  go_ret
  exact ⟨rfl, rfl⟩
def ek (x : Int) : Int := if goodB x then 1 else if x = 0 then 0 else 2
theorem kind_any (w : World) (x : Int) (h0 : 0 ≤ x) (h1 : x ≤ 9999) : Calls Tryz.prog 91 #[.int .i64 x] w (SaysN (ek x) w) := by
  by_cases hg : goodB x
  · have HN := Lib.hid (fun w => names_yesT w x hg)
    have HE : Hid (ek x = 1) := Lib.hid (if_pos hg)
    have hz : (x == 0) = false := by obtain ⟨g0, _, _⟩ := hg; simp; omega
    rw [HE.out]
    clear hg
    go_enter Tryz.func91, Tryz.ntmps91
    go_wp2_with fail
    refine (HN.out _).mono ?_
    rintro e w' ⟨rfl, rfl⟩
    go_wp2_with fail
    go_ret
    exact ⟨rfl, rfl⟩
  · by_cases hx : x = 0
    · subst hx
      have HE : Hid (ek 0 = 0) := Lib.hid (by unfold ek; rw [if_neg hg, if_pos rfl])
      rw [HE.out]
      clear hg
      go_enter Tryz.func91, Tryz.ntmps91
      go_wp2_with fail
      go_ret
      exact ⟨rfl, rfl⟩
    · have HN := Lib.hid (fun w => names_noT w x hg h0 h1)
      have HE : Hid (ek x = 2) := Lib.hid (by unfold ek; rw [if_neg hg, if_neg hx])
      have hz : (x == 0) = false := by simpa using hx
      rw [HE.out]
      clear hg hx
      go_enter Tryz.func91, Tryz.ntmps91
      go_wp2_with fail
      refine (HN.out _).mono ?_
      rintro e w' ⟨rfl, rfl⟩
      go_wp2_with fail
      go_ret
      exact ⟨rfl, rfl⟩
def tv (x : Int) : Value := if goodB x then .iface 159 (.int .i64 (x / 4)) else if x = 0 then .iface 158 (.agg #[]) else .iface 161 (.agg #[])
theorem tableWordOf_any (w : World) (x : Int) (h0 : 0 ≤ x) (h1 : x ≤ 9999) : Calls Tryz.prog 77 #[.int .i64 x] w fun e w' => e = .returned (tv x) ∧ w = w' := by
  have HK := Lib.hid (fun w => kind_any w x h0 h1)
  have HF := Lib.hid (fun w => frame_ofT w x h0 h1)
  by_cases hg : goodB x
  · have HR : Hid (tv x = .iface 159 (.int .i64 (x / 4))) := Lib.hid (if_pos hg)
    have HE : ek x = 1 := if_pos hg
    rw [HR.out]
    rw [HE] at HK
    clear hg HE
    go_enter Tryz.func77, Tryz.ntmps77
    go_wp2_with fail
    refine (HK.out _).mono ?_
    rintro e w' ⟨rfl, rfl⟩
    go_wp2_with fail
    refine (HF.out _).mono ?_
    rintro e w' ⟨rfl, rfl⟩
    go_wp2_with fail
    go_ret
    exact ⟨rfl, rfl⟩
  · by_cases hx : x = 0
    · have HR : Hid (tv x = .iface 158 (.agg #[])) := Lib.hid (by unfold tv; rw [if_neg hg, if_pos hx])
      have HE : ek x = 0 := by unfold ek; rw [if_neg hg, if_pos hx]
      rw [HR.out]
      rw [HE] at HK
      clear hg hx HE
      go_enter Tryz.func77, Tryz.ntmps77
      go_wp2_with fail
      refine (HK.out _).mono ?_
      rintro e w' ⟨rfl, rfl⟩
      go_wp2_with fail
      go_ret
      exact ⟨rfl, rfl⟩
    · have HR : Hid (tv x = .iface 161 (.agg #[])) := Lib.hid (by unfold tv; rw [if_neg hg, if_neg hx])
      have HE : ek x = 2 := by unfold ek; rw [if_neg hg, if_neg hx]
      rw [HR.out]
      rw [HE] at HK
      clear hg hx HE
      go_enter Tryz.func77, Tryz.ntmps77
      go_wp2_with fail
      refine (HK.out _).mono ?_
      rintro e w' ⟨rfl, rfl⟩
      go_wp2_with fail
      go_ret
      exact ⟨rfl, rfl⟩
theorem tneeds_any (w : World) (k : Int) : Calls Tryz.prog 74 #[.int .i64 k] w (SaysN (tneeds k) w) := by
  by_cases h3 : k = 3
  · subst h3
    have HE : Hid (tneeds 3 = 2) := Lib.hid (by decide)
    rw [HE.out]
    go_enter Tryz.func74, Tryz.ntmps74
    go_wp2_with fail
    go_ret
    exact ⟨rfl, rfl⟩
  · have h3' : (k == 3) = false := by simpa using h3
    by_cases h2 : k = 2
    · subst h2
      have HE : Hid (tneeds 2 = 1) := Lib.hid (by decide)
      rw [HE.out]
      clear h3
      go_enter Tryz.func74, Tryz.ntmps74
      go_wp2_with fail
      go_ret
      exact ⟨rfl, rfl⟩
    · have h2' : (k == 2) = false := by simpa using h2
      have HE : Hid (tneeds k = 0) := Lib.hid (by
        unfold tneeds isTab
        rw [decide_eq_false (by omega)]; rfl)
      rw [HE.out]
      clear h3 h2
      go_enter Tryz.func74, Tryz.ntmps74
      go_wp2_with fail
      go_ret
      exact ⟨rfl, rfl⟩
theorem isTable_any (w : World) (k : Int) : Calls Tryz.prog 57 #[.int .i64 k] w (Says (isTab k) w) := by
  have HN := Lib.hid (fun w => tneeds_any w k)
  have HE : Hid ((tneeds k != 0) = isTab k) := Lib.hid (by
    unfold tneeds
    by_cases h : isTab k = true
    · rw [if_pos h, h]
      have := isTab_iff.1 h
      simp; omega
    · rw [if_neg h, Bool.eq_false_iff.2 h]; rfl)
  obtain ⟨n, hn⟩ : ∃ n, n = tneeds k := ⟨_, rfl⟩
  obtain ⟨r, hr⟩ : ∃ r, r = isTab k := ⟨_, rfl⟩
  rw [← hn] at HN HE
  rw [← hr] at HE ⊢
  clear hn hr
  go_enter Tryz.func57, Tryz.ntmps57
  go_wp2_with fail
  refine (HN.out _).mono ?_
  rintro e w' ⟨rfl, rfl⟩
  go_wp2_with fail
  go_ret
  exact ⟨by rw [HE.out]; rfl, rfl⟩
end Go.Proofs.YthfdkenidfnmgaaGreat
namespace Go.Proofs.YthfdkenidfnmgaaGreat
open Go.ChangeShapes Go.WideShapes Go.ChangeAt Go.RowKit
set_option linter.unusedVariables false
set_option maxRecDepth 100000
def blw (x n : Int) : Bool := decide (0 ≤ x ∧ x < n)
def isw (x : Int) : Bool := blw x 10000
theorem blw_yes {x n : Int} (h : 0 ≤ x ∧ x < n) : blw x n = true := decide_eq_true h
theorem blw_no {x n : Int} (h : ¬ (0 ≤ x ∧ x < n)) : blw x n = false := decide_eq_false h
theorem below_any (w : World) (x n : Int) : Calls Tryz.prog 52 #[.int .i64 x, .int .i64 n] w fun e w' => e = .returned (.bool (blw x n)) ∧ w = w' := by
  by_cases h : 0 ≤ x ∧ x < n
  · rw [blw_yes h]
    obtain ⟨h1, h2⟩ := h
    go_enter Tryz.func52, Tryz.ntmps52
    go_wp2
    go_ret
    exact ⟨rfl, rfl⟩
  · rw [blw_no h]
    by_cases h1 : 0 ≤ x
    · have h2 : decide (x < n) = false := by simp; omega
      clear h
      go_enter Tryz.func52, Tryz.ntmps52
      go_wp2
      go_ret
      exact ⟨rfl, rfl⟩
    · have h2 : decide (0 ≤ x) = false := by simpa using h1
      clear h
      go_enter Tryz.func52, Tryz.ntmps52
      go_wp2
      go_ret
      exact ⟨rfl, rfl⟩
theorem isWord_any (w : World) (x : Int) : Calls Tryz.prog 83 #[.int .i64 x] w fun e w' => e = .returned (.bool (isw x)) ∧ w = w' := by
  go_enter Tryz.func83, Tryz.ntmps83
  go_wp2_with (go_at_call 52; refine (below_any _ _ _).mono ?_; rintro e w' ⟨rfl, rfl⟩)
  go_ret
  exact ⟨rfl, rfl⟩
theorem arrayAt_words (W : World) (a : Option Addr) (cap : Nat) : (Instr.arrayAt 54 (.slice a 4 cap)).run Tryz.prog W = .ok (.pointer a) W := by
  unfold Instr.arrayAt
  rw [Sem.run_bind, run_underlying Tryz.underlying54]
  simp
def ArrRes (w : World) (cs : Array Value) (b : Bool) (e : Ending) (w' : World) : Prop := e = .returned (.tuple #[.agg cs, .bool b]) ∧ Below w.heap.size w w'
theorem below2 {w : World} {o1 o2 : Obj} : Below w.heap.size w ((w.alloc o1).alloc o2) := ((Below.refl _ _).alloc (Nat.le_refl _) o1).alloc (by simp) o2
theorem words4 {w : World} {b o cap : Nat} {x0 x1 x2 x3 : Int} {r : Bool} (hc : 4 ≤ cap) (h0 : w.cell? ⟨b, o, none⟩ = some (.int .i64 x0)) (h1 : w.cell? ⟨b, o + 1, none⟩ = some (.int .i64 x1)) (h2 : w.cell? ⟨b, o + 2, none⟩ = some (.int .i64 x2)) (h3 : w.cell? ⟨b, o + 3, none⟩ = some (.int .i64 x3))
    (hr : (isw x0 && isw x1 && isw x2 && isw x3) = r) :
    Calls Tryz.prog 67 #[.slice (some ⟨b, o, none⟩) 4 cap] w (ArrRes w (bif r then #[.int .i64 x0, .int .i64 x1, .int .i64 x2, .int .i64 x3] else #[.int .i64 0, .int .i64 0, .int .i64 0, .int .i64 0]) r) := by
  have HA := fun W => arrayAt_words W (some ⟨b, o, none⟩) cap
  have g0 := fun ob => (World.cell?_alloc_lt w ob ⟨b, o, none⟩ (block_lt_of_cell h0)).trans h0
  have g1 := fun ob => (World.cell?_alloc_lt w ob ⟨b, o + 1, none⟩ (block_lt_of_cell h1)).trans h1
  have g2 := fun ob => (World.cell?_alloc_lt w ob ⟨b, o + 2, none⟩ (block_lt_of_cell h2)).trans h2
  have g3 := fun ob => (World.cell?_alloc_lt w ob ⟨b, o + 3, none⟩ (block_lt_of_cell h3)).trans h3
  clear h0 h1 h2 h3
  have i0 : ∀ W : World, (Instr.index 54 (.agg #[.int .i64 x0, .int .i64 x1, .int .i64 x2, .int .i64 x3]) (.int .i64 0)).run Tryz.prog W = .ok (.int .i64 x0) W := fun _ => by kernel_rfl
  have i1 : ∀ W : World, (Instr.index 54 (.agg #[.int .i64 x0, .int .i64 x1, .int .i64 x2, .int .i64 x3]) (.int .i64 1)).run Tryz.prog W = .ok (.int .i64 x1) W := fun _ => by kernel_rfl
  have i2 : ∀ W : World, (Instr.index 54 (.agg #[.int .i64 x0, .int .i64 x1, .int .i64 x2, .int .i64 x3]) (.int .i64 2)).run Tryz.prog W = .ok (.int .i64 x2) W := fun _ => by kernel_rfl
  have i3 : ∀ W : World, (Instr.index 54 (.agg #[.int .i64 x0, .int .i64 x1, .int .i64 x2, .int .i64 x3]) (.int .i64 3)).run Tryz.prog W = .ok (.int .i64 x3) W := fun _ => by kernel_rfl
  have HR := Lib.hid hr
  clear hr
  obtain ⟨R, HRR⟩ : ∃ R : Ending → World → Prop, Hid (R = ArrRes w (bif r then #[.int .i64 x0, .int .i64 x1, .int .i64 x2, .int .i64 x3] else #[.int .i64 0, .int .i64 0, .int .i64 0, .int .i64 0]) r) := ⟨_, Lib.hid rfl⟩
  rw [← HRR.out]
  go_enter Tryz.func67, Tryz.ntmps67
  go_wp2
  refine wp_loop_rounds 5 ?_
  rw [rounds_succ]
  by_cases e0 : isw x0 = true
  · go_wp2_with (go_at_call 83; refine (isWord_any _ _).mono ?_; rintro e w' ⟨rfl, rfl⟩)
    rw [rounds_succ]
    by_cases e1 : isw x1 = true
    · go_wp2_with (go_at_call 83; refine (isWord_any _ _).mono ?_; rintro e w' ⟨rfl, rfl⟩)
      rw [rounds_succ]
      by_cases e2 : isw x2 = true
      · go_wp2_with (go_at_call 83; refine (isWord_any _ _).mono ?_; rintro e w' ⟨rfl, rfl⟩)
        rw [rounds_succ]
        by_cases e3 : isw x3 = true
        · go_wp2_with (go_at_call 83; refine (isWord_any _ _).mono ?_; rintro e w' ⟨rfl, rfl⟩)
          rw [rounds_succ]
          go_wp2
          have er : r = true := by rw [← HR.out]; simp [e0, e1, e2, e3]
          refine bodyPost_ret (results_cell_mid rfl _ _ w.heap.size 0 #[.int .i64 x0, .int .i64 x1, .int .i64 x2, .int .i64 x3].toList _ rfl (range_row (heap_alloc2_old w _ _)) Tryz.underlying54 rfl (by kernel_rfl)) rfl ?_
          rw [HRR.out, er]
          exact ⟨rfl, below2⟩
        · replace e3 : isw x3 = false := by simpa using e3
          go_wp2_with (go_at_call 83; refine (isWord_any _ _).mono ?_; rintro e w' ⟨rfl, rfl⟩)
          have er : r = false := by rw [← HR.out]; simp [e3]
          refine bodyPost_ret (results_cell_mid rfl _ _ w.heap.size 0 #[.int .i64 0, .int .i64 0, .int .i64 0, .int .i64 0].toList _ rfl (range_row (heap_alloc2_old w _ _)) Tryz.underlying54 rfl (by kernel_rfl)) rfl ?_
          rw [HRR.out, er]
          exact ⟨rfl, below2⟩
      · replace e2 : isw x2 = false := by simpa using e2
        go_wp2_with (go_at_call 83; refine (isWord_any _ _).mono ?_; rintro e w' ⟨rfl, rfl⟩)
        have er : r = false := by rw [← HR.out]; simp [e2]
        refine bodyPost_ret (results_cell_mid rfl _ _ w.heap.size 0 #[.int .i64 0, .int .i64 0, .int .i64 0, .int .i64 0].toList _ rfl (range_row (heap_alloc2_old w _ _)) Tryz.underlying54 rfl (by kernel_rfl)) rfl ?_
        rw [HRR.out, er]
        exact ⟨rfl, below2⟩
    · replace e1 : isw x1 = false := by simpa using e1
      go_wp2_with (go_at_call 83; refine (isWord_any _ _).mono ?_; rintro e w' ⟨rfl, rfl⟩)
      have er : r = false := by rw [← HR.out]; simp [e1]
      refine bodyPost_ret (results_cell_mid rfl _ _ w.heap.size 0 #[.int .i64 0, .int .i64 0, .int .i64 0, .int .i64 0].toList _ rfl (range_row (heap_alloc2_old w _ _)) Tryz.underlying54 rfl (by kernel_rfl)) rfl ?_
      rw [HRR.out, er]
      exact ⟨rfl, below2⟩
  · replace e0 : isw x0 = false := by simpa using e0
    go_wp2_with (go_at_call 83; refine (isWord_any _ _).mono ?_; rintro e w' ⟨rfl, rfl⟩)
    have er : r = false := by rw [← HR.out]; simp [e0]
    refine bodyPost_ret (results_cell_mid rfl _ _ w.heap.size 0 #[.int .i64 0, .int .i64 0, .int .i64 0, .int .i64 0].toList _ rfl (range_row (heap_alloc2_old w _ _)) Tryz.underlying54 rfl (by kernel_rfl)) rfl ?_
    rw [HRR.out, er]
    exact ⟨rfl, below2⟩
theorem wordsOf_other {w : World} {v : Value} {xs : List Int} (h : Ints w v xs) (hl : xs.length ≠ 4) : Calls Tryz.prog 67 #[v] w (ArrRes w #[.int .i64 0, .int .i64 0, .int .i64 0, .int .i64 0] false) := by
  obtain ⟨a, ca, rfl, hla, hma, hxa⟩ := h
  have hl' : ((xs.length : Int) != 4) = true := by simp; omega
  obtain ⟨R, HRR⟩ : ∃ R : Ending → World → Prop, Hid (R = ArrRes w #[.int .i64 0, .int .i64 0, .int .i64 0, .int .i64 0] false) := ⟨_, Lib.hid rfl⟩
  rw [← HRR.out]
  go_enter Tryz.func67, Tryz.ntmps67
  go_wp2
  refine bodyPost_ret (results_cell_mid rfl _ _ w.heap.size 0 #[.int .i64 0, .int .i64 0, .int .i64 0, .int .i64 0].toList _ rfl (range_row (heap_alloc_new w _)) Tryz.underlying54 rfl (by kernel_rfl)) rfl ?_
  rw [HRR.out]
  exact ⟨rfl, (Below.refl _ _).alloc (Nat.le_refl _) _⟩
def rowC (xs : List Int) : Array Value := (xs.map (Value.int .i64)).toArray
theorem words_isw {x0 x1 x2 x3 : Int} : wordsOk [x0, x1, x2, x3] = (isw x0 && isw x1 && isw x2 && isw x3) := by
  unfold wordsOk isw blw
  rw [Bool.eq_iff_iff]
  simp
  omega
theorem wordsOf_any {w : World} {v : Value} {xs : List Int} (h : Ints w v xs) : Calls Tryz.prog 67 #[v] w (ArrRes w (bif wordsOk xs then rowC xs else rowC [0, 0, 0, 0]) (wordsOk xs)) := by
  by_cases hl : xs.length = 4
  · obtain ⟨a, ca, rfl, hla, hma, hxa⟩ := h
    match xs, hl with
    | [x0, x1, x2, x3], _ =>
      obtain ⟨b, o, rfl, h0⟩ := hxa 0 (by simp)
      obtain ⟨_, _, e1, h1⟩ := hxa 1 (by simp)
      obtain ⟨_, _, e2, h2⟩ := hxa 2 (by simp)
      obtain ⟨_, _, e3, h3⟩ := hxa 3 (by simp)
      cases e1; cases e2; cases e3
      exact words4 hla h0 h1 h2 h3 words_isw.symm
  · have e : wordsOk xs = false := decide_eq_false (fun hh => hl hh.2)
    rw [e]
    exact wordsOf_other h hl
end Go.Proofs.YthfdkenidfnmgaaGreat
namespace Go.Proofs.YthfdkenidfnmgaaGreat
open Go.ChangeShapes Go.WideShapes Go.ChangeAt Go.RowKit
set_option linter.unusedVariables false
set_option maxRecDepth 100000
def flatL (xss : List (List Int)) : List Value := xss.flatten.map (Value.int .i64)
def zero48 : Array Value := Array.replicate 48 (.int .i64 0)
theorem zero_mem (w : World) : (zeroValue 56).run Tryz.prog w = .ok (.agg zero48) w := Tryz.zeroValue56 w
theorem zero_size : zero48.size = 48 := by simp [zero48]
theorem zero_one : zero48.all (·.oneCell') = true := by kernel_rfl
theorem size_words (w : World) : (sizeOf 54).run Tryz.prog w = .ok 4 w := Tryz.sizeOf54 w
theorem agg_words (w : World) : (isAgg 54).run Tryz.prog w = .ok true w := Tryz.isAgg54 w
theorem info_mem {n : Nat} (h : n = 48) : (Tryz.prog.info? 56).map (·.size) = some n := by subst h; kernel_rfl
theorem info_words : (Tryz.prog.info? 54).map (·.size) = some 4 := by kernel_rfl
theorem flat_one (xss : List (List Int)) : (flatL xss).toArray.all (·.oneCell') = true := all_oneCell_toArray (fun v hv => by
  obtain ⟨x, _, rfl⟩ := List.mem_map.1 hv
  rfl)
theorem flat_take_len (xss : List (List Int)) (h : ∀ i, i < xss.length → (xss.getD i []).length = 4) : ∀ k, k ≤ xss.length → (flatL (xss.take k)).length = k * 4
  | 0, _ => by simp [flatL]
  | k + 1, hk => by
    have ih := flat_take_len xss h k (by omega)
    rw [take_snoc_getD xss k [] (by omega)]
    simp only [flatL, List.flatten_append, List.map_append, List.length_append] at ih ⊢
    rw [ih]
    have := h k (by omega)
    simp at this ⊢
    omega
theorem flat_len12 {xss : List (List Int)} (hl : xss.length = 12) (h : ∀ i, i < xss.length → (xss.getD i []).length = 4) : (flatL xss).length = 48 := by
  have := flat_take_len xss h 12 (by omega)
  rwa [take_all hl.symm] at this
theorem flat_len {xss : List (List Int)} (hm : memOk xss = true) : (flatL xss).length = 48 := by
  have hl := mem_len hm
  have := flat_take_len xss (fun i hi => mem_row hm (by omega)) 12 (by omega)
  rwa [take_all hl.symm] at this
theorem flat_snoc (xss : List (List Int)) (k : Nat) (xs : List Int) (hk : k < xss.length) (hx : xs = xss.getD k []) : flatL (xss.take (k + 1)) = flatL (xss.take k) ++ xs.map (Value.int .i64) := by
  subst hx
  rw [take_snoc_getD xss k [] hk]
  simp [flatL]
structure MRel (w : World) (xss : List (List Int)) (k : Nat) (wr : World) : Prop where
  bel : Below w.heap.size w wr
  size : w.heap.size + 2 ≤ wr.heap.size
  res : wr.there w.heap.size 0 48
  mem : wr.there (w.heap.size + 1) 0 48
  row : wr.rangeAt (w.heap.size + 1) 0 (flatL (xss.take k))
  ok : ∀ i, i < k → wordsOk (xss.getD i []) = true
theorem MRel.start (w : World) (xss : List (List Int)) (t : TypeId) : MRel w xss 0 ((w.alloc (.cells zero48 t)).alloc (.cells zero48 t)) :=
  ⟨below2, by simp, there_row (heap_alloc2_old w _ _) (by rw [zero_size]; omega), there_row (heap_alloc2_new w _ _) (by rw [zero_size]; omega), by rw [List.take_zero]; exact range_nil, fun i hi => by omega⟩
theorem MRel.lens {w wr : World} {xss : List (List Int)} {k : Nat} (h : MRel w xss k wr) (hk : k ≤ xss.length) : (flatL (xss.take k)).length = k * 4 := by
  have h1 : ∀ i, i < (xss.take k).length → ((xss.take k).getD i []).length = 4 := fun i hi => by
    have hi' : i < k := by simp at hi; omega
    have := of_decide_eq_true (h.ok i hi')
    have e : (xss.take k).getD i [] = xss.getD i [] := by simp [List.getD, hi']
    rw [e]; exact this.2
  have h2 := flat_take_len (xss.take k) h1 (xss.take k).length (Nat.le_refl _)
  rw [List.take_length] at h2
  rw [h2, List.length_take]
  congr 1
  omega
theorem MRel.step {w wr w1 : World} {xss : List (List Int)} {k : Nat} {xs : List Int} {o1 : Obj} (h : MRel w xss k wr) (hl : xss.length = 12) (hk : k < 12) (hx : xs = xss.getD k []) (hw : wordsOk xs = true) (hb : Below wr.heap.size wr w1) :
    MRel w xss (k + 1) ((w1.alloc o1).setCells (w.heap.size + 1) (k * 4) (xs.map (Value.int .i64))) := by
  have hs := h.size
  have hs1 := hb.size
  have hx4 : xs.length = 4 := (of_decide_eq_true hw).2
  have e : ∀ b, b < wr.heap.size → (w1.alloc o1).heap[b]? = wr.heap[b]? := fun b hlt => (Below.heap_alloc _ _ _ (by omega)).trans (hb.block b hlt)
  have b1 : Below w.heap.size w w1 := h.bel.trans (hb.mono (by omega))
  have tm : (w1.alloc o1).there (w.heap.size + 1) 0 48 := there_blocks h.mem (e _ (by omega))
  have tr : (w1.alloc o1).there w.heap.size 0 48 := there_blocks h.res (e _ (by omega))
  have hrow := range_blocks h.row (e _ (by omega))
  have hlen := h.lens (by omega)
  refine ⟨Below.setCells (Below.refl _ _) _ (by omega) _ _ _ (b1.alloc (by omega) o1), by rw [size_setCells]; simp; omega, World.there_setCells tr _ _ _, World.there_setCells tm _ _ _, ?_, fun i hi => ?_⟩
  · rw [flat_snoc xss k xs (by omega) hx]
    exact range_append (World.rangeAt_setCells_apart hrow _ _ _ (.inr (.inl (by omega)))) (World.rangeAt_setCells_same _ _ _ _ (there_part tm (by simp; omega))) (by omega)
  · by_cases hik : i = k
    · subst hik; rw [← hx]; exact hw
    · exact h.ok i (by omega)
theorem row4 {xs : List Int} (h : wordsOk xs = true) : ∃ x0 x1 x2 x3, xs = [x0, x1, x2, x3] := by
  have hl := (of_decide_eq_true h).2
  match xs, hl with
  | [x0, x1, x2, x3], _ => exact ⟨x0, x1, x2, x3, rfl⟩
theorem MRel.bad {w wr w1 w3 : World} {xss : List (List Int)} {k : Nat} (h : MRel w xss k wr) (hb : Below wr.heap.size wr w1) (hs : w1.heap.size ≤ w3.heap.size) (e : ∀ b, b < w1.heap.size → w3.heap[b]? = w1.heap[b]?) (ht : w3.os = w1.os ∧ w3.tape = w1.tape ∧ w3.output = w1.output) :
    w3.there w.heap.size 0 48 ∧ ∀ cs, Below w.heap.size w (w3.setCells w.heap.size 0 cs) := by
  have hs0 := h.size
  have hs1 := hb.size
  have e3 : Below wr.heap.size wr w3 := ⟨ht.1.trans hb.os, ht.2.1.trans hb.tape, ht.2.2.trans hb.output, by omega, fun b hlt => (e b (by omega)).trans (hb.block b hlt)⟩
  refine ⟨there_blocks h.res (e3.block _ (by omega)), fun cs => ?_⟩
  have b1 : Below w.heap.size w w3 := h.bel.trans (e3.mono (by omega))
  exact Below.setCells (Below.refl _ _) _ (Nat.le_refl _) _ _ _ b1
set_option maxHeartbeats 1000000 in
theorem memoryOf_any {w : World} {v : Value} {xss : List (List Int)} (h : Rows2 w v xss) :
    Calls Tryz.prog 45 #[v] w (ArrRes w (bif memOk xss then (flatL xss).toArray else zero48) (memOk xss)) := by
  obtain ⟨a, ca, rfl, hla, hma, hxa⟩ := h
  unfold maxLen at hma
  obtain ⟨R, HRR⟩ : ∃ R : Ending → World → Prop, Hid (R = ArrRes w (bif memOk xss then (flatL xss).toArray else zero48) (memOk xss)) := ⟨_, Lib.hid rfl⟩
  rw [← HRR.out]
  obtain ⟨z48, hz48⟩ : ∃ z, z = zero48 := ⟨_, rfl⟩
  have ZM := Lib.hid zero_mem
  have ZS := Lib.hid zero_size
  have ZO := Lib.hid zero_one
  have ZT := Lib.hid (fun t => MRel.start w xss t)
  rw [← hz48] at HRR ZM ZS ZO ZT
  clear hz48
  obtain ⟨n, hN⟩ : ∃ n, n = xss.length := ⟨_, rfl⟩
  rw [← hN] at hla hxa ⊢
  have HN := Lib.hid hN
  clear hN
  obtain ⟨B0, hB0⟩ : ∃ B0, B0 = w.heap.size := ⟨_, rfl⟩
  have HB0 := Lib.hid hB0
  by_cases hn : n = 12
  · have hn' : ((n : Int) != 12) = false := by simp; omega
    obtain ⟨w2, hw2⟩ : ∃ w2, w2 = (w.alloc (.cells z48 56)).alloc (.cells z48 56) := ⟨_, rfl⟩
    have HS := Lib.hid (ZT.out 56)
    rw [← hw2] at HS
    go_enter Tryz.func45, Tryz.ntmps45
    go_wp2_with ((with_reducible refine alloc_is 56 ?_); refine alloc_arr 56 z48 ZM.out ?_)
    rw [← hB0, ← hw2]
    have HW2 := Lib.hid hw2
    clear hw2 hB0
    go_loopw [15] (fun i wr => ∃ k : Nat, k ≤ n ∧ i = .int .i64 k ∧ MRel w xss k wr) (fun i _ => n - (intOf i).toNat)
    case atStart => exact ⟨0, Nat.zero_le _, rfl, HS.out⟩
    case round =>
      obtain ⟨k, hk, rfl, hrel⟩ := hrel
      by_cases hlt : k < n
      · obtain ⟨b, o, ur, rfl, hc, hur⟩ := hxa k hlt
        have hb := cell_lt hc
        have hcr := (hrel.bel.cell (p := ⟨b, o + k, none⟩) hb).trans hc
        have HC := Lib.hid (wordsOf_any (Ints.below (B := 0) hur hrel.bel))
        have HREL := Lib.hid hrel
        have hlt' : (k : Int) < (n : Int) := by omega
        clear hc hur hxa hrel
        have HIX := run_indexAt_arr (P := Tryz.prog) 56 12 54 4 Tryz.underlying56 size_words (by omega) (B0 + 1) k (by omega)
        obtain ⟨xs, hxs⟩ : ∃ xs, xs = xss.getD k [] := ⟨_, rfl⟩
        rw [← hxs] at HC
        have HXS := Lib.hid hxs
        clear hxs
        by_cases hok : wordsOk xs = true
        · have HOK := Lib.hid hok
          obtain ⟨x0, x1, x2, x3, rfl⟩ := row4 hok
          rw [hok] at HC
          clear hok
          have HC' : Hid (Calls Tryz.prog 67 #[ur] wr (ArrRes wr #[.int .i64 x0, .int .i64 x1, .int .i64 x2, .int .i64 x3] true)) := Lib.hid HC.out
          clear HC
          go_wp2_with fail
          refine HC'.out.mono ?_
          rintro e w1 ⟨rfl, hb1⟩
          have HT : Hid (∀ ob, (w1.alloc ob).there (B0 + 1) (k * 4) 4) := Lib.hid (fun ob => by
            have hs := HREL.out.size
            have hs1 := hb1.size
            have e0 := HB0.out
            have := there_blocks HREL.out.mem ((Below.heap_alloc w1 ob _ (by omega)).trans (hb1.block _ (by omega)))
            rw [← e0] at this
            exact there_part this (by omega))
          have HST : Hid (∀ ob, MRel w xss (k + 1) ((w1.alloc ob).setCells (B0 + 1) (k * 4) ([x0, x1, x2, x3].map (Value.int .i64)))) := Lib.hid (fun ob => by
            rw [HB0.out]
            exact HREL.out.step (o1 := ob) (by have := HN.out; omega) (by omega) HXS.out HOK.out hb1)
          go_wp2_with ((with_reducible refine store_is 54 (.tmp 30) (.tmp 29) ?_); refine store_arr 54 (.tmp 30) (.tmp 29) (B0 + 1) (k * 4) #[.int .i64 x0, .int .i64 x1, .int .i64 x2, .int .i64 x3] rfl rfl (HT.out _) info_words (by kernel_rfl) ?_)
          exact ⟨⟨k + 1, by omega, by go_num, HST.out _⟩, by simp [intOf]; omega⟩
        · have hno : wordsOk xs = false := by simpa using hok
          have HM : Hid (memOk xss = false) := Lib.hid (mem_no (k := k) (by have := HN.out; omega) (by rw [← HXS.out]; exact hno))
          rw [hno] at HC
          clear hok hno
          have HC' : Hid (Calls Tryz.prog 67 #[ur] wr (ArrRes wr #[.int .i64 0, .int .i64 0, .int .i64 0, .int .i64 0] false)) := Lib.hid HC.out
          clear HC
          go_wp2_with fail
          refine HC'.out.mono ?_
          rintro e w1 ⟨rfl, hb1⟩
          have HT : Hid (∀ ob, (w1.alloc ob).there B0 0 48 ∧ ∀ cs, Below w.heap.size w ((w1.alloc ob).setCells B0 0 cs)) := Lib.hid (fun ob => by
            rw [HB0.out]
            exact HREL.out.bad hb1 (by simp) (fun b hlt => Below.heap_alloc _ _ _ hlt) ⟨rfl, rfl, rfl⟩)
          go_wp2_with (first | ((with_reducible refine build_is 56 ?_); refine build_arr 56 z48 12 54 4 ZM.out Tryz.underlying56 size_words ?_) | ((with_reducible refine store_is 56 (.tmp 2) (.tmp 27) ?_); refine store_arr 56 (.tmp 2) (.tmp 27) B0 0 z48 rfl rfl (by rw [ZS.out]; exact (HT.out _).1) (info_mem ZS.out) ZO.out ?_))
          refine bodyPost_ret (results_cell_mid rfl _ _ B0 0 z48.toList _ rfl (World.rangeAt_setCells_same _ _ _ _ (by rw [Array.length_toList, ZS.out]; exact (HT.out _).1)) Tryz.underlying56 rfl (info_mem (by rw [Array.length_toList, ZS.out]))) rfl ?_
          rw [HRR.out, HM.out]
          exact ⟨by simp, (HT.out _).2 _⟩
      · have e : k = n := by omega
        subst e
        have HM : Hid (memOk xss = true) := Lib.hid (by rw [mem_end HN.out hrel.ok, hn]; rfl)
        have HT : Hid (wr.there B0 0 48) := Lib.hid (by rw [HB0.out]; exact hrel.res)
        have HF : Hid (wr.rangeAt (B0 + 1) 0 (flatL xss)) := Lib.hid (by rw [HB0.out, ← take_all (l := xss) HN.out]; exact hrel.row)
        have HL := Lib.hid (flat_len HM.out)
        have HE : Hid (Below w.heap.size w (wr.setCells B0 0 (flatL xss))) := Lib.hid (Below.setCells (Below.refl _ _) _ (by rw [HB0.out]; omega) _ _ _ hrel.bel)
        clear hrel
        have HO := Lib.hid (flat_one xss)
        obtain ⟨L, hL⟩ : ∃ L, L = flatL xss := ⟨_, rfl⟩
        have HLR : Hid (R = ArrRes w L.toArray true) := Lib.hid (by rw [HRR.out, HM.out, hL]; rfl)
        rw [← hL] at HF HL HE HO
        clear hL HRR
        go_wp2_with (first | ((with_reducible refine load_is 56 (.tmp 4) ?_); refine load_arr 56 (.tmp 4) (B0 + 1) 0 L _ rfl HF.out Tryz.underlying56 rfl (info_mem HL.out) ?_) | ((with_reducible refine store_is 56 (.tmp 2) (.tmp 32) ?_); refine store_arr 56 (.tmp 2) (.tmp 32) B0 0 L.toArray rfl rfl (by rw [List.size_toArray, HL.out]; exact HT.out) (info_mem (by rw [List.size_toArray, HL.out])) HO.out ?_))
        refine bodyPost_ret (results_cell_mid rfl _ _ B0 0 L _ rfl (World.rangeAt_setCells_same _ _ _ _ (by rw [HL.out]; exact HT.out)) Tryz.underlying56 rfl (info_mem HL.out)) rfl ?_
        rw [HLR.out]
        exact ⟨rfl, HE.out⟩
  · have hn' : ((n : Int) != 12) = true := by simp; omega
    have HM : Hid (memOk xss = false) := Lib.hid (by
      refine decide_eq_false (fun hh => hn (HN.out.trans hh.2)))
    clear hxa
    obtain ⟨w2, hw2⟩ : ∃ w2, w2 = (w.alloc (.cells z48 56)).alloc (.cells z48 56) := ⟨_, rfl⟩
    have HS := Lib.hid (ZT.out 56)
    have hT := HS.out.res
    have HT := Lib.hid hT
    have HE : Hid (Below w.heap.size w (((w.alloc (.cells z48 56)).alloc (.cells z48 56)).setCells w.heap.size 0 z48.toList)) := Lib.hid (Below.setCells (Below.refl _ _) _ (Nat.le_refl _) _ _ _ below2)
    clear hT
    go_enter Tryz.func45, Tryz.ntmps45
    go_wp2_with (first | ((with_reducible refine alloc_is 56 ?_); refine alloc_arr 56 z48 ZM.out ?_) | ((with_reducible refine build_is 56 ?_); refine build_arr 56 z48 12 54 4 ZM.out Tryz.underlying56 size_words ?_) | ((with_reducible refine store_is 56 (.tmp 2) (.tmp 12) ?_); refine store_arr 56 (.tmp 2) (.tmp 12) w.heap.size 0 z48 rfl rfl (by rw [ZS.out]; exact HT.out) (info_mem ZS.out) ZO.out ?_))
    refine bodyPost_ret (results_cell_mid rfl _ _ w.heap.size 0 z48.toList _ rfl (World.rangeAt_setCells_same _ _ _ _ (by rw [Array.length_toList, ZS.out]; exact HT.out)) Tryz.underlying56 rfl (info_mem (by rw [Array.length_toList, ZS.out]))) rfl ?_
    rw [HRR.out, HM.out]
    exact ⟨by simp, HE.out⟩
end Go.Proofs.YthfdkenidfnmgaaGreat
namespace Go.Proofs.YthfdkenidfnmgaaGreat
open Go.ChangeShapes Go.WideShapes Go.ChangeAt Go.RowKit
set_option linter.unusedVariables false
set_option maxRecDepth 100000
theorem slice_words (b : Nat) (W : World) : (Instr.sliceAt 54 (.pointer (some ⟨b, 0, none⟩)) none none none).run Tryz.prog W = .ok (.slice (some ⟨b, 0, none⟩) 4 4) W := by
  unfold Instr.sliceAt
  simp only [Instr.sureAddr, Sem.run_bind, Sem.run_pure, Result.andThen_ok, run_underlying Tryz.underlying54, Instr.sliceBounds]
  simp [add0]
theorem clone4 {W : World} {b : Nat} {xs : List Int} (hl : xs.length = 4) (hc : ∀ j y, (xs.map (Value.int .i64))[j]? = some y → W.cell? ⟨b, j, none⟩ = some y) :
    Calls Tryz.prog 41 #[.slice (some ⟨b, 0, none⟩) 4 4] W fun e w1 => ∃ v1, e = .returned v1 ∧ w1.ownsRow W.heap.size 3 1 v1 4 (xs.map (.int .i64)) ∧ (W.alloc (.cells #[] 3)).grownBy w1 (some W.heap.size) := by
  obtain ⟨i0, hi, hz0, hz1, hz2⟩ := info_parts intInfo
  have HI := Lib.hid hi
  have HZ0 := Lib.hid hz0
  have HZ1 := Lib.hid hz1
  have HZ2 := Lib.hid hz2
  clear hi hz0 hz1 hz2
  have HE : ∀ W : World, (binOp .eql 92 (.slice (some ⟨b, 0, none⟩) 4 4) (.slice none 0 0)).run Tryz.prog W = .ok (.bool false) W := fun _ => by kernel_rfl
  have HL := Lib.hid hl
  have HNEWS : Hid (∀ j y, (xs.map (Value.int .i64))[j]? = some y → (W.alloc (.cells #[] 3)).cell? ((⟨b, 0, none⟩ : Addr).add j) = some y) := Lib.hid (fun j y hy => by
    rw [add0]
    have := hc j y hy
    rw [World.cell?_alloc_past _ _ _ (cell_lt this), this])
  clear hc hl
  go_enter Tryz.func41, Tryz.ntmps41
  go_wp2_with (at_builtin; refine wpList_append_own _ rfl (.tmp 5) (.tmp 6) 92 rfl W.heap.size 3 i0 (.int .i64 0) 1 8 Tryz.underlying92 HI.out HZ0.out HZ1.out HZ2.out rfl (by decide) _ _ _ rfl (World.ownsRow_made W #[] 0 (Nat.le_refl _) (Nat.zero_le _) rfl) ⟨b, 0, none⟩ 4 4 (xs.map (.int .i64)) rfl (by rw [List.length_map, HL.out]) HNEWS.out (ints_one xs) (by unfold maxLen; omega) (by omega) (by simp) ?_; intro v1 w1 hown1 hgrow1 _; simp only [Nat.zero_add, List.nil_append] at hown1)
  have HO := Lib.hid hown1
  have HG := Lib.hid hgrow1
  clear hown1 hgrow1
  go_wp2
  go_ret
  exact ⟨_, rfl, HO.out, HG.out⟩
theorem CRel.alloc {w wr : World} {xss : List (List Int)} {k : Nat} {v : Value} {V : Nat → Value} {G : Nat → Nat} (h : CRel w xss k v wr V G) (o : Obj) : CRel w xss k v (wr.alloc o) V G :=
  ⟨h.own.alloc o, fun j hj => ⟨(h.rows j hj).1.alloc o, (h.rows j hj).2⟩, h.inj, h.bel.alloc h.bel.size o⟩
theorem CRel.begin {w wm : World} {xss : List (List Int)} {o : Obj} {v : Value} (hown : wm.ownsRow w.heap.size 92 1 v 0 []) (hg : (w.alloc o).grownBy wm none) : CRel w xss 0 v wm (fun _ => undef) (fun _ => 0) :=
  ⟨hown, fun j hj => by omega, fun i hi => by omega, ((Below.refl _ _).alloc (Nat.le_refl _) o).grown hg (by simp) (fun k hk => by cases hk)⟩
theorem flat_row (xss : List (List Int)) (h : ∀ i, i < xss.length → (xss.getD i []).length = 4) (k : Nat) (hk : k < xss.length) : ((flatL xss).toArray.extract (k * 4) (k * 4 + 4)) = rowC (xss.getD k []) := by
  have h1 := flat_take_len xss h k (by omega)
  have h2 := flat_take_len xss h (k + 1) (by omega)
  have e : flatL xss = flatL (xss.take (k + 1)) ++ flatL (xss.drop (k + 1)) := by
    unfold flatL
    rw [← List.map_append, ← List.flatten_append, List.take_append_drop]
  rw [flat_snoc xss k _ hk rfl] at e h2
  rw [e]
  unfold rowC
  simp only [List.extract_toArray, List.extract_eq_take_drop]
  congr 1
  rw [List.append_assoc, List.drop_append_of_le_length (by omega), List.drop_of_length_le (by omega), List.nil_append]
  rw [List.take_append_of_le_length (by have := h k hk; rw [List.length_map]; omega), List.take_of_length_le (by have := h k hk; rw [List.length_map]; omega)]
set_option maxHeartbeats 1000000 in
theorem lists_any {w : World} {xss : List (List Int)} (hl : xss.length = 12) (hr4 : ∀ i, i < 12 → (xss.getD i []).length = 4) :
    Calls Tryz.prog 29 #[.agg (flatL xss).toArray] w (ToMat xss w) := by
  rw [← hl] at hr4
  obtain ⟨i1, hj, hy0, hy1, hy2⟩ := info_parts intsInfo
  have HJ := Lib.hid hj
  have HY0 := Lib.hid hy0
  have HY1 := Lib.hid hy1
  have HY2 := Lib.hid hy2
  clear hj hy0 hy1 hy2
  have HN := Lib.hid hl
  have HR4 := Lib.hid hr4
  have HLL := Lib.hid (flat_len12 hl hr4)
  have HIX := Lib.hid (fun k (hk : k < 12) W => (run_index_arr (P := Tryz.prog) 56 12 54 4 Tryz.underlying56 agg_words size_words (flatL xss).toArray k hk W).trans (by rw [flat_row xss hr4 k (by omega)]))
  clear hl hr4
  obtain ⟨L, hL⟩ : ∃ L, L = flatL xss := ⟨_, rfl⟩
  rw [← hL] at HIX HLL ⊢
  clear hL
  obtain ⟨R, HRR⟩ : ∃ R : Ending → World → Prop, Hid (R = ToMat xss w) := ⟨_, Lib.hid rfl⟩
  rw [← HRR.out]
  go_enter Tryz.func29, Tryz.ntmps29
  go_wp2_with (first
    | ((with_reducible refine box_is 56 (.tmp 0) ?_); refine box_arr 56 (.tmp 0) L.toArray rfl ?_)
    | ((with_reducible refine make_is 25 (.const (.int .i64 0)) (.const (.int .i64 12)) ?_); refine wpList_make_own _ rfl (.const (.int .i64 0)) (.const (.int .i64 12)) 25 rfl w.heap.size 92 i1 (.slice none 0 0) 1 Tryz.underlying25 HJ.out HY0.out HY1.out .i64 .i64 12 12 rfl rfl rfl (by rw [HY2.out]; omega) (by unfold maxLen; omega) (by simp) ?_; intro wm hown hgrow; have hrng : wm.rangeAt w.heap.size 0 L := range_blocks (range_row (heap_alloc_new w (.cells L.toArray 56))) (hgrow.block _ (by simp) (by simp)))
    | ((with_reducible refine load_is 56 (.tmp 1) ?_); refine load_arr 56 (.tmp 1) w.heap.size 0 L _ rfl hrng Tryz.underlying56 rfl (info_mem HLL.out) ?_))
  have HS : Hid (CRel w xss 0 (.slice (some ⟨w.heap.size + 1, 0, none⟩) 0 12) wm (fun _ => undef) (fun _ => 0)) := Lib.hid (CRel.begin (by simpa using hown) hgrow)
  clear hown hgrow hrng
  have HSL := slice_words
  go_loopw [3, 8] (fun u i wr => ∃ (k : Nat) (V : Nat → Value) (G : Nat → Nat), k ≤ 12 ∧ i = .int .i64 k ∧ CRel w xss k u wr V G) (fun _ i _ => 12 - (intOf i).toNat)
  case atStart => exact ⟨0, _, _, Nat.zero_le _, rfl, HS.out⟩
  case round =>
    obtain ⟨k, V, G, hk, rfl, hrel⟩ := hrel
    by_cases hlt : k < 12
    · have hlt' : (k : Int) < 12 := by omega
      obtain ⟨xs, hxs⟩ : ∃ xs, xs = xss.getD k [] := ⟨_, rfl⟩
      have h4 := HR4.out k (by have := HN.out; omega)
      have hix := HIX.out k hlt
      rw [← hxs] at h4 hix
      have HXS := Lib.hid hxs
      clear hxs
      obtain ⟨x0, x1, x2, x3, rfl⟩ : ∃ x0 x1 x2 x3, xs = [x0, x1, x2, x3] := by
        match xs, h4 with
        | [x0, x1, x2, x3], _ => exact ⟨x0, x1, x2, x3, rfl⟩
      clear h4
      replace hix : ∀ W : World, (Instr.index 56 (.agg L.toArray) (.int .i64 k)).run Tryz.prog W = .ok (.agg #[.int .i64 x0, .int .i64 x1, .int .i64 x2, .int .i64 x3]) W := hix
      obtain ⟨w4, hw4⟩ : ∃ w4, w4 = wr.alloc (.cells #[.int .i64 x0, .int .i64 x1, .int .i64 x2, .int .i64 x3] 54) := ⟨_, rfl⟩
      have HREL := Lib.hid (hrel.alloc (.cells #[.int .i64 x0, .int .i64 x1, .int .i64 x2, .int .i64 x3] 54))
      have HC : Hid (Calls Tryz.prog 41 #[.slice (some ⟨wr.heap.size, 0, none⟩) 4 4] w4 fun e w1 => ∃ v1, e = .returned v1 ∧ w1.ownsRow w4.heap.size 3 1 v1 4 ([x0, x1, x2, x3].map (.int .i64)) ∧ (w4.alloc (.cells #[] 3)).grownBy w1 (some w4.heap.size)) := Lib.hid (clone4 rfl (fun j y hy => by
        rw [hw4, cell_of_row _ _ j _ _ _ (heap_alloc_new wr _), ← hy]
        simp))
      rw [← hw4] at HREL
      clear hrel
      go_wp2_with fail
      rw [← hw4]
      clear hw4
      refine HC.out.mono ?_
      rintro e w1 ⟨v1, rfl, hown1, hgrow1⟩
      obtain ⟨g1, c1, rfl⟩ := own_slice hown1 (by omega)
      have hsz1 := hgrow1.size
      simp at hsz1
      have hszr := HREL.out.bel.size
      have HO1 := Lib.hid hown1
      have HG1 := Lib.hid hgrow1
      clear hown1 hgrow1
      go_wp2_with (at_builtin; refine wpList_append_own _ rfl (.tmp 11) (.tmp 14) 25 rfl w.heap.size 92 i1 (.slice none 0 0) 1 24 Tryz.underlying25 HJ.out HY0.out HY1.out HY2.out rfl (by decide) _ _ _ rfl (HREL.out.own_mid HG1.out) ⟨w1.heap.size, 0, none⟩ 1 1 [.slice (some ⟨g1, 0, none⟩) 4 c1] rfl rfl (cell_one_new _ _ _) (by intro u hu; simp at hu; subst hu; rfl) (by unfold maxLen; omega) (by omega) (by simp; omega) ?_; intro v2 w2 hown2 hgrow2 _)
      have HREL2 : Hid (∃ V' G', CRel w xss (k + 1) v2 w2 V' G') := Lib.hid (HREL.out.step HXS.out.symm (by simp) HO1.out HG1.out hown2 hgrow2)
      clear hown2 hgrow2
      go_wp2
      go_roundw
      case rel =>
        obtain ⟨V', G', hR⟩ := HREL2.out
        exact ⟨k + 1, V', G', by omega, by go_num, hR⟩
      case measure => simp [intOf]; omega
    · have hge : decide ((k : Int) < 12) = false := by simp; omega
      go_wp2
      have e : k = 12 := by omega
      subst e
      rw [HRR.out]
      exact ⟨_, rfl, hrel.mat HN.out.symm (by omega) (fun j hj => by rw [HR4.out j (by have := HN.out; omega)]; omega), hrel.bel⟩
end Go.Proofs.YthfdkenidfnmgaaGreat
namespace Go.Proofs.YthfdkenidfnmgaaGreat
open Go.ChangeShapes Go.WideShapes Go.ChangeAt Go.RowKit
set_option linter.unusedVariables false
set_option maxRecDepth 100000
set_option linter.unusedSimpArgs false
def Us (w : World) (b : Nat) (u : Nat → Int) : Prop := ∀ i, i < 12 → w.cell? ⟨b, i, none⟩ = some (.int .i64 (u i)) ∧ w.frozen? ⟨b, i, none⟩ = false
theorem Us.block {w w' : World} {b : Nat} {u : Nat → Int} (h : Us w b u) (e : w'.heap[b]? = w.heap[b]?) : Us w' b u := fun i hi =>
  ⟨(World.cell?_of_block e).trans (h i hi).1, (World.frozen?_of_block e).trans (h i hi).2⟩
theorem Us.lt {w : World} {b : Nat} {u : Nat → Int} (h : Us w b u) : b < w.heap.size := block_lt_of_cell (h 0 (by omega)).1
def inc1 (u : Nat → Int) (i : Nat) : Nat → Int := fun j => if j = i then u j + 1 else u j
theorem Us.incr {w : World} {b : Nat} {u : Nat → Int} (h : Us w b u) {i : Nat} (hi : i < 12) : Us (w.setCell ⟨b, i, none⟩ (.int .i64 (u i + 1))) b (inc1 u i) := fun j hj => by
  refine ⟨?_, (frozen_set _).trans (h j hj).2⟩
  unfold inc1
  by_cases e : j = i
  · subst e
    rw [if_pos rfl]
    exact cell_set_same (h j hj).1
  · rw [if_neg e]
    exact (cell_set_other (.inr e)).trans (h j hj).1
theorem Us.ext {w : World} {b : Nat} {u v : Nat → Int} (h : Us w b u) (e : ∀ i, i < 12 → v i = u i) : Us w b v := fun i hi => by rw [e i hi]; exact h i hi
def Cnt (b : Nat) (u : Nat → Int) (w : World) (e : Ending) (w' : World) : Prop := e = .returned (.tuple #[]) ∧ Us w' b u ∧ Chg b (b + 1) w w'
def cx (x : Nat → Int) (i : Nat) : Nat → Int
  | 0 => 0
  | t + 1 => cx x i t + (if goodB (x t) ∧ x t / 4 = (i : Int) then 1 else 0)
theorem cx_bound (x : Nat → Int) (i : Nat) : ∀ t, 0 ≤ cx x i t ∧ cx x i t ≤ t
  | 0 => by simp [cx]
  | t + 1 => by
    have := cx_bound x i t
    unfold cx
    split <;> omega
theorem cx_row {row : List Int} (h4 : row.length = 4) (i : Nat) : ∀ t, t ≤ 4 → cx (fun j => row.getD j 0) i t = (cnt1 (row.take t) i : Int)
  | 0, _ => by simp [cx, cnt1, named]
  | t + 1, ht => by
    have ih := cx_row h4 i t (by omega)
    unfold cx
    rw [ih]
    unfold cnt1
    rw [named_snoc row t (by omega), List.count_append]
    show ((named (row.take t)).count (i : Int) : Int) + (if goodB (row.getD t 0) ∧ row.getD t 0 / 4 = (i : Int) then 1 else 0) = _
    by_cases hg : goodB (row.getD t 0)
    · rw [if_pos hg]
      by_cases he : row.getD t 0 / 4 = (i : Int)
      · rw [if_pos ⟨hg, he⟩, he]; simp
      · rw [if_neg (fun h => he h.2), List.count_cons]
        have : (row.getD t 0 / 4 == (i : Int)) = false := by simpa using he
        rw [this]; simp
    · rw [if_neg hg, if_neg (fun h => hg h.1)]; simp
theorem cx_all {row : List Int} (h4 : row.length = 4) (i : Nat) : cx (fun j => row.getD j 0) i 4 = (cnt1 row i : Int) := by
  rw [cx_row h4 i 4 (Nat.le_refl _), List.take_of_length_le (by omega)]
theorem method_frame (w : World) (n : Int) : (method 255 159 (.int .i64 n) "loop.example/exopager/impl.countIn").run Tryz.prog w = .ok (157, .int .i64 n) w := by kernel_rfl
theorem method_empty (w : World) : (method 255 158 (.agg #[]) "loop.example/exopager/impl.countIn").run Tryz.prog w = .ok (156, .agg #[]) w := by kernel_rfl
theorem method_strange (w : World) : (method 255 161 (.agg #[]) "loop.example/exopager/impl.countIn").run Tryz.prog w = .ok (158, .agg #[]) w := by kernel_rfl
theorem emptyCount_any (w : World) (b : Nat) (u : Nat → Int) (h : Us w b u) : Calls Tryz.prog 156 #[.agg #[], .pointer (some ⟨b, 0, none⟩)] w (Cnt b u w) := by
  have H := Lib.hid h
  have HL : Hid (b < w.heap.size) := Lib.hid h.lt
  clear h
  go_enter Tryz.func156, Tryz.ntmps156
  go_wp2
  go_returns
  refine ⟨rfl, H.out.block (heap_alloc_old w _ HL.out), Chg.of_bel ((Below.refl _ _).alloc (Nat.le_refl _) _)⟩
theorem strangeCount_any (w : World) (b : Nat) (u : Nat → Int) (h : Us w b u) : Calls Tryz.prog 158 #[.agg #[], .pointer (some ⟨b, 0, none⟩)] w (Cnt b u w) := by
  have H := Lib.hid h
  have HL : Hid (b < w.heap.size) := Lib.hid h.lt
  clear h
  go_enter Tryz.func158, Tryz.ntmps158
  go_wp2
  go_returns
  refine ⟨rfl, H.out.block (heap_alloc_old w _ HL.out), Chg.of_bel ((Below.refl _ _).alloc (Nat.le_refl _) _)⟩
theorem frameCount_any (w : World) (b i : Nat) (u : Nat → Int) (hi : i < 12) (h : Us w b u) (hu : 0 ≤ u i ∧ u i ≤ 100000) : Calls Tryz.prog 157 #[.int .i64 i, .pointer (some ⟨b, 0, none⟩)] w (Cnt b (inc1 u i) w) := by
  have H := Lib.hid h
  have HL : Hid (b < w.heap.size) := Lib.hid h.lt
  have HI := Lib.hid hi
  have hc := (h i hi).1
  have hf := (h i hi).2
  have HIX := fun W => run_indexAt_part (P := Tryz.prog) 114 12 _ Tryz.underlying114 (fun w => Tryz.sizeOf3 w) (by omega) b 0 i hi W
  simp only [Nat.zero_add] at HIX
  obtain ⟨n, hn⟩ : ∃ n, n = u i := ⟨_, rfl⟩
  rw [← hn] at hc hu
  have HN := Lib.hid hn
  have hi0 : (0 : Int) ≤ (i : Int) := by omega
  have hi1 : (i : Int) < 12 := by omega
  clear hn h hi
  go_enter Tryz.func157, Tryz.ntmps157
  go_wp2
  refine wp_region_held_drew (S := fun _ => True) (by kernel_rfl) trivial (fun hHeld => ?_)
  refine wpAnyH_take (i := 0) (oi := { dst := some 4, op := .move (.tmp 1), type := _, pos := _, after := _, guard := none }) (v := .pointer (some ⟨b, 0, none⟩)) rfl (by kernel_rfl) (by kernel_rfl) (by kernel_rfl) (fun _ _ _ h => h) (Or.inl ⟨by rfl, fun wh hSw => ?_⟩) hHeld ?_
  · (dsimp only at hSw; go_simp)
  try simp only [Act.put, List.setIfInBounds_toArray, List.set_cons_zero, List.set_cons_succ]
  refine wpAnyH_take (i := 1) (oi := { dst := some 5, op := .move (.tmp 0), type := _, pos := _, after := _, guard := none }) (v := .int .i64 (i : Int)) rfl (by kernel_rfl) (by kernel_rfl) (by kernel_rfl) (fun _ _ _ h => h) (Or.inl ⟨by rfl, fun wh hSw => ?_⟩) hHeld ?_
  · (dsimp only at hSw; go_simp)
  try simp only [Act.put, List.setIfInBounds_toArray, List.set_cons_zero, List.set_cons_succ]
  refine wpAnyH_take (i := 2) (oi := { dst := some 6, op := .nilCheck (.tmp 4), type := _, pos := _, after := _, guard := none }) (v := .pointer (some ⟨b, 0, none⟩)) rfl (by kernel_rfl) (by kernel_rfl) (by kernel_rfl) (fun _ _ _ h => h) (Or.inl ⟨by rfl, fun wh hSw => ?_⟩) hHeld ?_
  · (dsimp only at hSw; go_simp)
  try simp only [Act.put, List.setIfInBounds_toArray, List.set_cons_zero, List.set_cons_succ]
  refine wpAnyH_take (i := 3) (oi := { dst := some 7, op := .indexAddr 114 (.tmp 6) (.tmp 5), type := _, pos := _, after := _, guard := none }) (v := .pointer (some ⟨b, i, none⟩)) rfl (by kernel_rfl) (by kernel_rfl) (by kernel_rfl) (fun _ _ _ h => h) (Or.inl ⟨by rfl, fun wh hSw => ?_⟩) hHeld ?_
  · (dsimp only at hSw; go_simp)
  try simp only [Act.put, List.setIfInBounds_toArray, List.set_cons_zero, List.set_cons_succ]
  refine wpAnyH_take (i := 6) (oi := { dst := some 10, op := .nilCheck (.tmp 4), type := _, pos := _, after := _, guard := none }) (v := .pointer (some ⟨b, 0, none⟩)) rfl (by kernel_rfl) (by kernel_rfl) (by kernel_rfl) (fun _ _ _ h => h) (Or.inl ⟨by rfl, fun wh hSw => ?_⟩) hHeld ?_
  · (dsimp only at hSw; go_simp)
  try simp only [Act.put, List.setIfInBounds_toArray, List.set_cons_zero, List.set_cons_succ]
  refine wpAnyH_ready (rs := [4]) (by kernel_rfl) (by simp) ?_
  refine AllReadyH.cons (o := { dst := some 8, op := .load 3 (.tmp 7), type := _, pos := _, after := _, guard := none }) rfl (fun K hK => ?_) AllReadyH.nil
  go_simp
  refine hK.out _ _ ?_ (fun hHeld => ?_)
  · trivial
  clear hK K
  try simp only [Act.put, List.setIfInBounds_toArray, List.set_cons_zero, List.set_cons_succ]
  refine wpAnyH_take (i := 5) (oi := { dst := some 9, op := .binOp .add 3 (.tmp 8) (.const (.int .i64 1)) 3, type := _, pos := _, after := _, guard := none }) (v := .int .i64 (n + 1)) rfl (by kernel_rfl) (by kernel_rfl) (by kernel_rfl) (fun _ _ _ h => h) (Or.inl ⟨by rfl, fun wh hSw => ?_⟩) hHeld ?_
  · (go_simp; rw [IntKind.wrap_i64]; omega)
  try simp only [Act.put, List.setIfInBounds_toArray, List.set_cons_zero, List.set_cons_succ]
  refine wpAnyH_take (i := 7) (oi := { dst := some 11, op := .indexAddr 114 (.tmp 10) (.tmp 5), type := _, pos := _, after := _, guard := none }) (v := .pointer (some ⟨b, i, none⟩)) rfl (by kernel_rfl) (by kernel_rfl) (by kernel_rfl) (fun _ _ _ h => h) (Or.inl ⟨by rfl, fun wh hSw => ?_⟩) hHeld ?_
  · (dsimp only at hSw; go_simp)
  try simp only [Act.put, List.setIfInBounds_toArray, List.set_cons_zero, List.set_cons_succ]
  refine wpAnyH_ready (rs := [8]) (by kernel_rfl) (by simp) ?_
  refine AllReadyH.cons (o := { dst := none, op := .store 3 (.tmp 11) (.tmp 9), type := _, pos := _, after := _, guard := none }) rfl (fun K hK => ?_) AllReadyH.nil
  go_simp
  refine hK.out _ _ ?_ (fun hHeld => ?_)
  · trivial
  clear hK K
  try simp only [Act.put, List.setIfInBounds_toArray, List.set_cons_zero, List.set_cons_succ]
  refine wpAnyH_done (by kernel_rfl) ?_ _
  go_returns
  rw [HN.out]
  have h1 := H.out.incr HI.out
  have h2 := chg_setCell w b i (.int .i64 (u i + 1))
  exact ⟨rfl, h1.block rfl, ⟨h2.os, h2.tape, h2.output, h2.size, h2.block⟩⟩
theorem words_index (row : List Int) (h4 : row.length = 4) {k : Nat} (hk : k < 4) (W : World) : (Instr.index 54 (.agg (rowC row)) (.int .i64 k)).run Tryz.prog W = .ok (.int .i64 (row.getD k 0)) W := by
  obtain ⟨x0, x1, x2, x3, rfl⟩ : ∃ x0 x1 x2 x3, row = [x0, x1, x2, x3] := by
    match row, h4 with
    | [x0, x1, x2, x3], _ => exact ⟨x0, x1, x2, x3, rfl⟩
  rcases (by omega : k = 0 ∨ k = 1 ∨ k = 2 ∨ k = 3) with rfl | rfl | rfl | rfl <;> kernel_rfl
def addx (u x : Nat → Int) (t : Nat) : Nat → Int := fun i => u i + cx x i t
theorem addx_none (u x : Nat → Int) {t : Nat} (h : ¬ goodB (x t)) (i : Nat) : addx u x (t + 1) i = addx u x t i := by
  unfold addx
  rw [show cx x i (t + 1) = cx x i t + (if goodB (x t) ∧ x t / 4 = (i : Int) then 1 else 0) from rfl, if_neg (fun hh => h hh.1), Int.add_zero]
theorem addx_one (u x : Nat → Int) {t k : Nat} (h : goodB (x t)) (hk : x t / 4 = (k : Int)) (i : Nat) : addx u x (t + 1) i = inc1 (addx u x t) k i := by
  show u i + (cx x i t + (if goodB (x t) ∧ x t / 4 = (i : Int) then 1 else 0)) = (if i = k then (u i + cx x i t) + 1 else u i + cx x i t)
  by_cases e : i = k
  · rw [if_pos e, if_pos ⟨h, by rw [hk, e]⟩]; omega
  · rw [if_neg e, if_neg (fun hh => e (by have := hh.2; omega))]; omega
set_option maxRecDepth 100000 in
set_option maxHeartbeats 4000000 in
theorem wordsCount_any (w : World) (b : Nat) (u : Nat → Int) (row : List Int) (h4 : row.length = 4) (hb : ∀ i, i < 4 → 0 ≤ row.getD i 0 ∧ row.getD i 0 ≤ 9999) (h : Us w b u) (hu : ∀ i, i < 12 → 0 ≤ u i ∧ u i ≤ 90000) :
    Calls Tryz.prog 69 #[.agg (rowC row), .pointer (some ⟨b, 0, none⟩)] w (Cnt b (fun i => u i + (cnt1 row i : Int)) w) := by
  have HFin : Hid (∀ w', Us w' b (addx u (fun j => row.getD j 0) 4) → Us w' b (fun i => u i + (cnt1 row i : Int))) := Lib.hid (fun w' hh => hh.ext (fun i hi => by unfold addx; rw [cx_all h4]))
  have HIX : Hid (∀ k : Nat, k < 4 → ∀ W, (Instr.index 54 (.agg (rowC row)) (.int .i64 k)).run Tryz.prog W = .ok (.int .i64 (row.getD k 0)) W) := Lib.hid (fun k hk W => words_index row h4 hk W)
  unfold rowC at HIX ⊢
  have HL : Hid ((row.map (Value.int .i64)).length = 4) := Lib.hid (by rw [List.length_map, h4])
  obtain ⟨L, hL⟩ : ∃ L, L = row.map (Value.int .i64) := ⟨_, rfl⟩
  obtain ⟨x, hx⟩ : ∃ x : Nat → Int, x = (fun j => row.getD j 0) := ⟨_, rfl⟩
  have hxe : ∀ k, row.getD k 0 = x k := fun k => by rw [hx]
  simp only [hxe] at HIX hb
  rw [← hL] at HIX HL ⊢
  rw [← hx] at HFin
  have HIW : Hid ((Tryz.prog.info? 54).map (·.size) = some L.length) := Lib.hid (by rw [HL.out]; exact info_words)
  obtain ⟨R, hR⟩ : ∃ R, R = Cnt b (fun i => u i + (cnt1 row i : Int)) w := ⟨_, rfl⟩
  have HR : Hid (∀ w', Us w' b (addx u x 4) → Chg b (b + 1) w w' → R (.returned (.tuple #[])) w') := Lib.hid (fun w' h1 h2 => by rw [hR]; exact ⟨rfl, HFin.out w' h1, h2⟩)
  rw [← hR]
  have HX := Lib.hid hb
  have HU : Hid (∀ t i, t ≤ 4 → i < 12 → 0 ≤ addx u x t i ∧ addx u x t i ≤ 100000) := Lib.hid (fun t i ht hi => by
    have h1 := hu i hi
    have h2 := cx_bound x i t
    unfold addx; omega)
  have HS : Hid (∀ t, (w.alloc (.cells L.toArray t)).rangeAt w.heap.size 0 L) := Lib.hid (fun t => range_row (heap_alloc_new w _))
  have H1 : Hid (∀ o, Us (w.alloc o) b (addx u x 0)) := Lib.hid (fun o => (h.block (heap_alloc_old w _ h.lt)).ext (fun i hi => by unfold addx cx; omega))
  have HC1 : Hid (∀ o, Chg b (b + 1) w (w.alloc o)) := Lib.hid (fun o => Chg.of_bel ((Below.refl _ _).alloc (Nat.le_refl _) _))
  clear hx hxe hL hR hb hu h h4 HFin HL
  go_enter Tryz.func69, Tryz.ntmps69
  go_wp2_with (first | ((with_reducible refine box_is 54 (.tmp 0) ?_); refine box_arr 54 (.tmp 0) L.toArray rfl ?_) | ((with_reducible refine load_is 54 (.tmp 2) ?_); refine load_arr 54 (.tmp 2) w.heap.size 0 L _ rfl (HS.out _) Tryz.underlying54 rfl HIW.out ?_))
  obtain ⟨w0, hw0⟩ : ∃ w0, w0 = w.alloc (.cells L.toArray 54) := ⟨_, rfl⟩
  have H0 : Hid (Us w0 b (addx u x 0)) := Lib.hid (by rw [hw0]; exact H1.out _)
  have HC0 : Hid (Chg b (b + 1) w w0) := Lib.hid (by rw [hw0]; exact HC1.out _)
  obtain ⟨X, hX⟩ : ∃ X, X = w.heap.size := ⟨_, rfl⟩
  rw [← hw0, ← hX]
  clear hw0 hX HS H1 HC1
  go_loopw [7] (fun i wr => ∃ t : Nat, t ≤ 4 ∧ i = .int .i64 t ∧ Hid (Us wr b (addx u x t)) ∧ Hid (Chg b (b + 1) w wr)) (fun i _ => 4 - (intOf i).toNat)
  case atStart => exact ⟨0, Nat.zero_le _, rfl, H0, HC0⟩
  case round =>
    obtain ⟨t, ht, rfl, HUW, HCW⟩ := hrel
    by_cases hlt : t < 4
    · have hlt' : (t : Int) < 4 := by omega
      have HIX' := HIX.out t hlt
      have hxb := HX.out t hlt
      have HTW := Lib.hid (fun w => tableWordOf_any w (x t) hxb.1 hxb.2)
      obtain ⟨y, hy⟩ : ∃ y, y = x t := ⟨_, rfl⟩
      rw [← hy] at HIX' HTW
      have HY := Lib.hid hy
      clear hxb hy
      by_cases hg : goodB y
      · have hfr := good_frame hg
        obtain ⟨i, hi⟩ : ∃ i : Nat, y / 4 = (i : Int) := ⟨(y / 4).toNat, by omega⟩
        have hi12 : i < 12 := by omega
        have HTV : tv y = .iface 159 (.int .i64 (i : Int)) := by unfold tv; rw [if_pos hg, hi]
        rw [HTV] at HTW
        have HCT := Lib.hid (frameCount_any wr b i _ hi12 HUW.out (HU.out t i (by omega) hi12))
        have HNX : Hid (∀ w', Us w' b (inc1 (addx u x t) i) → Us w' b (addx u x (t + 1))) := Lib.hid (fun w' hh => hh.ext (fun j hj => addx_one u x (by rw [← HY.out]; exact hg) (by rw [← HY.out]; exact hi) j))
        have hmf := fun w => method_frame w (i : Int)
        clear hg hfr hi HTV
        go_wp2_with fail
        refine (HTW.out _).mono ?_
        rintro e w' ⟨rfl, rfl⟩
        go_wp2_with fail
        refine HCT.out.mono ?_
        rintro e w5 ⟨rfl, hu5, hc5⟩
        have HU5 := Lib.hid (HNX.out w5 hu5)
        have HC5 := Lib.hid (HCW.out.trans hc5)
        clear hu5 hc5
        go_wp2_with fail
        go_roundw
        case rel => exact ⟨t + 1, by omega, by go_num, HU5, HC5⟩
        case measure => simp [intOf]; omega
      · have HNX : Hid (∀ w', Us w' b (addx u x t) → Us w' b (addx u x (t + 1))) := Lib.hid (fun w' hh => hh.ext (fun j hj => addx_none u x (by rw [← HY.out]; exact hg) j))
        by_cases h0 : y = 0
        · have HTV : tv y = .iface 158 (.agg #[]) := by unfold tv; rw [if_neg hg, if_pos h0]
          rw [HTV] at HTW
          have HCT := Lib.hid (emptyCount_any wr b _ HUW.out)
          have hmf := method_empty
          clear hg h0 HTV
          go_wp2_with fail
          refine (HTW.out _).mono ?_
          rintro e w' ⟨rfl, rfl⟩
          go_wp2_with fail
          refine HCT.out.mono ?_
          rintro e w5 ⟨rfl, hu5, hc5⟩
          have HU5 := Lib.hid (HNX.out w5 hu5)
          have HC5 := Lib.hid (HCW.out.trans hc5)
          clear hu5 hc5
          go_wp2_with fail
          go_roundw
          case rel => exact ⟨t + 1, by omega, by go_num, HU5, HC5⟩
          case measure => simp [intOf]; omega
        · have HTV : tv y = .iface 161 (.agg #[]) := by unfold tv; rw [if_neg hg, if_neg h0]
          rw [HTV] at HTW
          have HCT := Lib.hid (strangeCount_any wr b _ HUW.out)
          have hmf := method_strange
          clear hg h0 HTV
          go_wp2_with fail
          refine (HTW.out _).mono ?_
          rintro e w' ⟨rfl, rfl⟩
          go_wp2_with fail
          refine HCT.out.mono ?_
          rintro e w5 ⟨rfl, hu5, hc5⟩
          have HU5 := Lib.hid (HNX.out w5 hu5)
          have HC5 := Lib.hid (HCW.out.trans hc5)
          clear hu5 hc5
          go_wp2_with fail
          go_roundw
          case rel => exact ⟨t + 1, by omega, by go_num, HU5, HC5⟩
          case measure => simp [intOf]; omega
    · have e : t = 4 := by omega
      subst e
      have HF := Lib.hid (HR.out _ HUW.out HCW.out)
      go_wp2_with fail
      go_returns
      exact HF.out
end Go.Proofs.YthfdkenidfnmgaaGreat
namespace Go.Proofs.YthfdkenidfnmgaaGreat
open Go.ChangeShapes Go.WideShapes Go.ChangeAt Go.RowKit Go.Maps
set_option linter.unusedVariables false
set_option maxRecDepth 100000
set_option linter.unusedSimpArgs false
theorem run_indexAt_off {P : Program} (t : TypeId) (n : Nat) (e : TypeId) (s : Nat) (hu : P.underlying t = some (.array n e)) (hs : ∀ w, (sizeOf e).run P w = .ok s w) (hn : 1 < n)
    (b o : Nat) (k : Nat) (hk : k < n) (W : World) : (Instr.indexAt t (.pointer (some ⟨b, o, none⟩)) (.int .i64 k)).run P W = .ok (.pointer (some ⟨b, o + k * s, none⟩)) W := by
  have h1 : (0 : Int) ≤ (k : Int) ∧ (k : Int) < (n : Int) := by omega
  unfold Instr.indexAt
  simp only [asIntOf, Instr.sureAddr, Sem.run_bind, Sem.run_pure, Result.andThen_ok, run_underlying hu, hs, if_pos h1, Int.toNat_natCast, Addr.add_mid]
theorem range_left {w : World} {b o : Nat} {l1 l2 : List Value} (h : w.rangeAt b o (l1 ++ l2)) : w.rangeAt b o l1 := fun j v hv => h j v (by
  rw [List.getElem?_append_left (List.getElem?_eq_some_iff.1 hv).1]; exact hv)
theorem range_right {w : World} {b o o2 : Nat} {l1 l2 : List Value} (h : w.rangeAt b o (l1 ++ l2)) (ho : o2 = o + l1.length) : w.rangeAt b o2 l2 := fun j v hv => by
  have := h (l1.length + j) v (by rw [List.getElem?_append_right (by omega)]; rw [show l1.length + j - l1.length = j by omega]; exact hv)
  rw [ho]
  rwa [← Nat.add_assoc] at this
def rcC (zs : List IV) (f nd : Int) (m : Option Nat) : List Value := isC zs ++ [.int .i64 f, .int .i64 nd, .map m]
theorem rcC_len {zs : List IV} (hz : zs.length = 12) (f nd : Int) (m : Option Nat) : (rcC zs f nd m).length = 39 := by
  unfold rcC
  rw [List.length_append, isC_36 hz]; rfl
theorem rcC_one (zs : List IV) (f nd : Int) (m : Option Nat) : (rcC zs f nd m).toArray.all (·.oneCell') = true := all_oneCell_toArray (fun v hv => by
  unfold rcC at hv
  rcases List.mem_append.1 hv with h | h
  · exact isC_one zs v h
  · simp only [List.mem_cons, List.not_mem_nil, or_false] at h
    rcases h with rfl | rfl | rfl <;> rfl)
structure RuleAt (w : World) (b : Nat) (zs : List IV) (f nd : Int) (m : Option Nat) : Prop where
  inf : ∀ i, i < 12 → Tri w b (i * 3) (zs.getD i iz)
  c36 : w.cell? ⟨b, 36, none⟩ = some (.int .i64 f)
  c37 : w.cell? ⟨b, 37, none⟩ = some (.int .i64 nd)
  c38 : w.cell? ⟨b, 38, none⟩ = some (.map m)
theorem RuleAt.of_range {w : World} {b : Nat} {zs : List IV} {f nd : Int} {m : Option Nat} (hz : zs.length = 12) (h : w.rangeAt b 0 (rcC zs f nd m)) : RuleAt w b zs f nd m := by
  have h2 := range_right (o2 := 36) h (by rw [isC_36 hz])
  exact ⟨fun i hi => tri_of_range (range_left h) (by omega), h2 0 _ rfl, h2 1 _ rfl, h2 2 _ rfl⟩
theorem RuleAt.block {w w' : World} {b : Nat} {zs : List IV} {f nd : Int} {m : Option Nat} (h : RuleAt w b zs f nd m) (e : w'.heap[b]? = w.heap[b]?) : RuleAt w' b zs f nd m :=
  ⟨fun i hi => (h.inf i hi).block e, (World.cell?_of_block e).trans h.c36, (World.cell?_of_block e).trans h.c37, (World.cell?_of_block e).trans h.c38⟩
theorem info_rule {n : Nat} (h : n = 39) : (Tryz.prog.info? 122).map (·.size) = some n := by subst h; kernel_rfl
def rfr (zs : List IV) (f nd : Int) (rs : List Bs) (i : Nat) : Bool := !decide ((i : Int) = f) && (decide ((zs.getD i iz).k = nd) && may0 rs (zs.getD i iz).g)
set_option maxRecDepth 100000 in
set_option maxHeartbeats 2000000 in
theorem allowsFrame_any (w : World) (zs : List IV) (hz : zs.length = 12) (hs : ShortI zs) (i : Nat) (hi : i < 12) (f nd : Int) (b : Nat) (rs : List Bs) (h : SetAt w b rs) :
    Calls Tryz.prog 90 #[.agg (rcC zs f nd (some b)).toArray, .int .i64 i] w (BRes (rfr zs f nd rs i) w) := by
  have HG := Lib.hid (hs.at i)
  have HR : Hid (∀ t, RuleAt (w.alloc (.cells (rcC zs f nd (some b)).toArray t)) w.heap.size zs f nd (some b)) := Lib.hid (fun t => RuleAt.of_range hz (range_row (heap_alloc_new w _)))
  have HS : Hid (∀ o, SetAt (w.alloc o) b rs) := Lib.hid (fun o => h.below ((Below.refl _ _).alloc (Nat.le_refl _) _))
  have HB : Hid (∀ o, Below w.heap.size w (w.alloc o)) := Lib.hid (fun o => (Below.refl _ _).alloc (Nat.le_refl _) _)
  unfold rfr
  obtain ⟨L, hL⟩ : ∃ L, L = (rcC zs f nd (some b)).toArray := ⟨_, rfl⟩
  rw [← hL] at HR ⊢
  obtain ⟨y, hy⟩ : ∃ y, y = zs.getD i iz := ⟨_, rfl⟩
  have HT := Lib.hid (fun t => (HR.out t).inf i hi)
  have H6 := Lib.hid (fun t => (HR.out t).c36)
  have H7 := Lib.hid (fun t => (HR.out t).c37)
  have H8 := Lib.hid (fun t => (HR.out t).c38)
  rw [← hy] at HT HG ⊢
  have HAL := Lib.hid (fun w h => allow_any w b rs y.g h HG.out)
  have HIX := run_indexAt_off (P := Tryz.prog) 60 12 58 3 Tryz.underlying60 size_info (by omega) w.heap.size 0 i hi
  simp only [Nat.zero_add] at HIX
  have hi0 : (0 : Int) ≤ (i : Int) := by omega
  have hi12 : (i : Int) < 12 := by omega
  clear hL hy h hs hz HR HG
  have HTX := Lib.hid (HT.out 122)
  have c6 := H6.out 122
  have c7 := H7.out 122
  have c8 := H8.out 122
  obtain ⟨c0, c1, c2⟩ := HTX.out
  obtain ⟨w0, hw0⟩ : ∃ w0, w0 = w.alloc (.cells L 122) := ⟨_, rfl⟩
  have HB0 : Hid (Below w.heap.size w w0) := Lib.hid (by rw [hw0]; exact HB.out _)
  have HS0 : Hid (SetAt w0 b rs) := Lib.hid (by rw [hw0]; exact HS.out _)
  have HW0 := Lib.hid hw0
  have hlt : w.heap.size < w0.heap.size := by rw [hw0]; simp
  rw [← hw0] at c0 c1 c2 c6 c7 c8
  clear hw0 HTX HT H6 H7 H8 HB HS
  by_cases hf : (i : Int) = f
  · subst hf
    have HR : Hid ((!decide ((i : Int) = (i : Int)) && (decide (y.k = nd) && may0 rs y.g)) = false) := Lib.hid (by simp)
    rw [HR.out]
    go_enter Tryz.func90, Tryz.ntmps90
    go_wp2_with ((with_reducible refine box_is 122 (.tmp 0) ?_); refine box_arr 122 (.tmp 0) L rfl ?_; rw [← HW0.out])
    go_ret
    exact ⟨rfl, HB0.out.trans (((Below.refl _ _).alloc (Nat.le_refl _) _).mono HB0.out.size)⟩
  · have hf' : ((i : Int) != f) = true := by simpa using hf
    by_cases hk : y.k = nd
    · have hk' : (y.k == nd) = true := by simpa using hk
      have HR : Hid ((!decide ((i : Int) = f) && (decide (y.k = nd) && may0 rs y.g)) = may0 rs y.g) := Lib.hid (by rw [decide_eq_false hf, decide_eq_true hk]; rfl)
      rw [HR.out]
      obtain ⟨m, hm⟩ : ∃ m, m = may0 rs y.g := ⟨_, rfl⟩
      rw [← hm] at HAL ⊢
      clear hm hk hf
      go_enter Tryz.func90, Tryz.ntmps90
      go_wp2_with ((with_reducible refine box_is 122 (.tmp 0) ?_); refine box_arr 122 (.tmp 0) L rfl ?_; rw [← HW0.out])
      refine (HAL.out _ (HS0.out.below ((Below.refl _ _).alloc (Nat.le_refl _) _))).mono ?_
      rintro e w' ⟨rfl, rfl⟩
      go_wp2_with fail
      go_ret
      exact ⟨rfl, HB0.out.trans (((Below.refl _ _).alloc (Nat.le_refl _) _).mono HB0.out.size)⟩
    · have hk' : (y.k == nd) = false := by simpa using hk
      have HR : Hid ((!decide ((i : Int) = f) && (decide (y.k = nd) && may0 rs y.g)) = false) := Lib.hid (by rw [decide_eq_false hk, Bool.false_and, Bool.and_false])
      rw [HR.out]
      clear hk hf
      go_enter Tryz.func90, Tryz.ntmps90
      go_wp2_with ((with_reducible refine box_is 122 (.tmp 0) ?_); refine box_arr 122 (.tmp 0) L rfl ?_; rw [← HW0.out])
      go_ret
      exact ⟨rfl, HB0.out.trans (((Below.refl _ _).alloc (Nat.le_refl _) _).mono HB0.out.size)⟩
end Go.Proofs.YthfdkenidfnmgaaGreat
namespace Go.Proofs.YthfdkenidfnmgaaGreat
open Go.ChangeShapes Go.WideShapes Go.ChangeAt Go.RowKit Go.Maps
set_option linter.unusedVariables false
set_option maxRecDepth 100000
set_option linter.unusedSimpArgs false
theorem as_empty_e (w : World) : (Instr.typeAssert (.iface 158 (.agg #[])) 140 158 true).run Tryz.prog w = .ok (.tuple #[.agg #[], .bool true]) w := by kernel_rfl
theorem as_empty_f (w : World) (n : Int) : (Instr.typeAssert (.iface 159 (.int .i64 n)) 140 158 true).run Tryz.prog w = .ok (.tuple #[.agg #[], .bool false]) w := by kernel_rfl
theorem as_empty_s (w : World) : (Instr.typeAssert (.iface 161 (.agg #[])) 140 158 true).run Tryz.prog w = .ok (.tuple #[.agg #[], .bool false]) w := by kernel_rfl
theorem as_frame_f (w : World) (n : Int) : (Instr.typeAssert (.iface 159 (.int .i64 n)) 140 159 true).run Tryz.prog w = .ok (.tuple #[.int .i64 n, .bool true]) w := by kernel_rfl
theorem as_frame_s (w : World) : (Instr.typeAssert (.iface 161 (.agg #[])) 140 159 true).run Tryz.prog w = .ok (.tuple #[.int .i64 0, .bool false]) w := by kernel_rfl
def rwd (zs : List IV) (f nd x : Int) (rs : List Bs) : Bool := if goodB x then rfr zs f nd rs (fr x) else decide (x = 0)
set_option maxRecDepth 100000 in
set_option maxHeartbeats 2000000 in
theorem allows_any (w : World) (zs : List IV) (hz : zs.length = 12) (hs : ShortI zs) (f nd x : Int) (b : Nat) (rs : List Bs) (h : SetAt w b rs) :
    Calls Tryz.prog 76 #[.agg (rcC zs f nd (some b)).toArray, tv x] w (BRes (rwd zs f nd x rs) w) := by
  have HB : Hid (∀ o, Below w.heap.size w (w.alloc o)) := Lib.hid (fun o => (Below.refl _ _).alloc (Nat.le_refl _) _)
  have HL : Hid ((rcC zs f nd (some b)).length = 39) := Lib.hid (rcC_len hz _ _ _)
  have HAF := Lib.hid (fun i hi w' hh => allowsFrame_any w' zs hz hs i hi f nd b rs hh)
  have HS : Hid (∀ o, SetAt (w.alloc o) b rs) := Lib.hid (fun o => h.below ((Below.refl _ _).alloc (Nat.le_refl _) _))
  obtain ⟨L, hL⟩ : ∃ L, L = rcC zs f nd (some b) := ⟨_, rfl⟩
  rw [← hL] at HAF HL ⊢
  have HRG : Hid (∀ t, (w.alloc (.cells L.toArray t)).rangeAt w.heap.size 0 L) := Lib.hid (fun t => range_row (heap_alloc_new w _))
  clear hL h
  by_cases hg : goodB x
  · have hfr := good_frame hg
    obtain ⟨i, hi⟩ : ∃ i : Nat, x / 4 = (i : Int) := ⟨(x / 4).toNat, by omega⟩
    have hi12 : i < 12 := by omega
    have HTV : tv x = .iface 159 (.int .i64 (i : Int)) := by unfold tv; rw [if_pos hg, hi]
    have HR : rwd zs f nd x rs = rfr zs f nd rs i := by unfold rwd fr; rw [if_pos hg, hi, Int.toNat_natCast]
    rw [HTV, HR]
    have HA := Lib.hid (fun o => HAF.out i hi12 _ (HS.out o))
    obtain ⟨r, hr⟩ : ∃ r, r = rfr zs f nd rs i := ⟨_, rfl⟩
    rw [← hr] at HA ⊢
    have h1 := as_empty_f
    have h2 := as_frame_f
    clear hr hg hfr hi HTV HR hz hs HAF
    go_enter Tryz.func76, Tryz.ntmps76
    go_wp2_with (first | ((with_reducible refine box_is 122 (.tmp 0) ?_); refine box_arr 122 (.tmp 0) L.toArray rfl ?_) | ((with_reducible refine load_is 122 (.tmp 2) ?_); refine load_arr 122 (.tmp 2) w.heap.size 0 L _ rfl (HRG.out _) Tryz.underlying122 rfl (info_rule HL.out) ?_))
    refine (HA.out _).mono ?_
    rintro e w1 ⟨rfl, hb1⟩
    have B1 := Lib.hid ((HB.out _).trans (hb1.mono (HB.out _).size))
    clear hb1
    go_wp2_with fail
    go_ret
    exact ⟨rfl, B1.out⟩
  · by_cases h0 : x = 0
    · have HTV : tv x = .iface 158 (.agg #[]) := by unfold tv; rw [if_neg hg, if_pos h0]
      have HR : rwd zs f nd x rs = true := by unfold rwd; rw [if_neg hg, decide_eq_true h0]
      rw [HTV, HR]
      have h1 := as_empty_e
      clear hg h0 HTV HR hz hs HAF
      go_enter Tryz.func76, Tryz.ntmps76
      go_wp2_with ((with_reducible refine box_is 122 (.tmp 0) ?_); refine box_arr 122 (.tmp 0) L.toArray rfl ?_)
      go_ret
      exact ⟨rfl, ((Below.refl _ _).alloc (Nat.le_refl _) _).alloc (by simp) _⟩
    · have HTV : tv x = .iface 161 (.agg #[]) := by unfold tv; rw [if_neg hg, if_neg h0]
      have HR : rwd zs f nd x rs = false := by unfold rwd; rw [if_neg hg, decide_eq_false h0]
      rw [HTV, HR]
      have h1 := as_empty_s
      have h2 := as_frame_s
      clear hg h0 HTV HR hz hs HAF
      go_enter Tryz.func76, Tryz.ntmps76
      go_wp2_with ((with_reducible refine box_is 122 (.tmp 0) ?_); refine box_arr 122 (.tmp 0) L.toArray rfl ?_)
      go_ret
      exact ⟨rfl, HB.out _⟩
def rall (zs : List IV) (f nd : Int) (row : List Int) (rs : List Bs) : Bool := (List.range 4).all (fun i => rwd zs f nd (row.getD i 0) rs)
set_option maxRecDepth 100000 in
set_option maxHeartbeats 4000000 in
theorem allowsAll_any (w : World) (zs : List IV) (hz : zs.length = 12) (hs : ShortI zs) (f nd : Int) (row : List Int) (h4 : row.length = 4) (hb : ∀ i, i < 4 → 0 ≤ row.getD i 0 ∧ row.getD i 0 ≤ 9999) (b : Nat) (rs : List Bs) (h : SetAt w b rs) :
    Calls Tryz.prog 59 #[.agg (rcC zs f nd (some b)).toArray, .agg (rowC row)] w (BRes (rall zs f nd row rs) w) := by
  have HL : Hid ((rcC zs f nd (some b)).length = 39) := Lib.hid (rcC_len hz _ _ _)
  have HAL := Lib.hid (fun x w' hh => allows_any w' zs hz hs f nd x b rs hh)
  have HIX : Hid (∀ k : Nat, k < 4 → ∀ W, (Instr.index 54 (.agg (rowC row)) (.int .i64 k)).run Tryz.prog W = .ok (.int .i64 (row.getD k 0)) W) := Lib.hid (fun k hk W => words_index row h4 hk W)
  unfold rowC at HIX ⊢
  have HLM : Hid ((row.map (Value.int .i64)).length = 4) := Lib.hid (by rw [List.length_map, h4])
  obtain ⟨M, hM⟩ : ∃ M, M = row.map (Value.int .i64) := ⟨_, rfl⟩
  obtain ⟨x, hx⟩ : ∃ x : Nat → Int, x = (fun j => row.getD j 0) := ⟨_, rfl⟩
  have hxe : ∀ k, row.getD k 0 = x k := fun k => by rw [hx]
  unfold rall
  simp only [hxe] at HIX hb ⊢
  rw [← hM] at HIX HLM ⊢
  have HIW : Hid ((Tryz.prog.info? 54).map (·.size) = some M.length) := Lib.hid (by rw [HLM.out]; exact info_words)
  obtain ⟨L, hL⟩ : ∃ L, L = rcC zs f nd (some b) := ⟨_, rfl⟩
  rw [← hL] at HAL HL ⊢
  have HX := Lib.hid hb
  have HRL : Hid (∀ t o, ((w.alloc (.cells L.toArray t)).alloc o).rangeAt w.heap.size 0 L) := Lib.hid (fun t o => range_blocks (range_row (heap_alloc_new w _)) (heap_alloc_old _ _ (by simp)))
  have HRM : Hid (∀ o t, ((w.alloc o).alloc (.cells M.toArray t)).rangeAt (w.heap.size + 1) 0 M) := Lib.hid (fun o t => by
    have := range_row (heap_alloc_new (w.alloc o) (.cells M.toArray t))
    rwa [World.size_alloc] at this)
  have HB0 : Hid (∀ o1 o2, Below w.heap.size w ((w.alloc o1).alloc o2)) := Lib.hid (fun o1 o2 => ((Below.refl _ _).alloc (Nat.le_refl _) _).alloc (by simp) _)
  have HS0 : Hid (∀ o1 o2, SetAt ((w.alloc o1).alloc o2) b rs) := Lib.hid (fun o1 o2 => h.below (HB0.out _ _))
  obtain ⟨R, hR⟩ : ∃ R : Bool, R = (List.range 4).all (fun i => rwd zs f nd (x i) rs) := ⟨_, rfl⟩
  have HRT : Hid ((∀ j, j < 4 → rwd zs f nd (x j) rs = true) → R = true) := Lib.hid (fun hh => by
    rw [hR, List.all_eq_true]
    exact fun j hj => hh j (List.mem_range.1 hj))
  have HRF : Hid (∀ t, t < 4 → rwd zs f nd (x t) rs = false → R = false) := Lib.hid (fun t ht hh => by
    rw [hR, List.all_eq_false]
    exact ⟨t, List.mem_range.2 ht, by rw [hh]; simp⟩)
  rw [← hR]
  clear hx hxe hL hM hR hb h h4 HLM
  go_enter Tryz.func59, Tryz.ntmps59
  go_wp2_with (first | ((with_reducible refine box_is 122 (.tmp 0) ?_); refine box_arr 122 (.tmp 0) L.toArray rfl ?_) | ((with_reducible refine box_is 54 (.tmp 1) ?_); refine box_arr 54 (.tmp 1) M.toArray rfl ?_) | ((with_reducible refine load_is 54 (.tmp 3) ?_); refine load_arr 54 (.tmp 3) (w.heap.size + 1) 0 M _ rfl (HRM.out _ _) Tryz.underlying54 rfl HIW.out ?_))
  obtain ⟨w0, hw0⟩ : ∃ w0, w0 = (w.alloc (.cells L.toArray 122)).alloc (.cells M.toArray 54) := ⟨_, rfl⟩
  have HB1 : Hid (Below w.heap.size w w0) := Lib.hid (by rw [hw0]; exact HB0.out _ _)
  have HS1 : Hid (SetAt w0 b rs) := Lib.hid (by rw [hw0]; exact HS0.out _ _)
  have HR1 : Hid (w0.rangeAt w.heap.size 0 L ∧ w.heap.size < w0.heap.size) := Lib.hid (by rw [hw0]; exact ⟨HRL.out _ _, by simp; omega⟩)
  obtain ⟨X, hX⟩ : ∃ X, X = w.heap.size := ⟨_, rfl⟩
  rw [← hX] at HR1
  rw [← hw0, ← hX]
  clear hw0 hX HRL HRM HB0 HS0
  go_loopw [8] (fun i wr => ∃ t : Nat, t ≤ 4 ∧ i = .int .i64 t ∧ Hid (Below w0.heap.size w0 wr) ∧ Hid (∀ j, j < t → rwd zs f nd (x j) rs = true)) (fun i _ => 4 - (intOf i).toNat)
  case atStart => exact ⟨0, Nat.zero_le _, rfl, Lib.hid (Below.refl _ _), Lib.hid (fun j hj => by omega)⟩
  case round =>
    obtain ⟨t, ht, rfl, HBW, HP⟩ := hrel
    by_cases hlt : t < 4
    · have hlt' : (t : Int) < 4 := by omega
      have HIX' := HIX.out t hlt
      have hxb := HX.out t hlt
      have HTW := Lib.hid (fun w => tableWordOf_any w (x t) hxb.1 hxb.2)
      have HSW : Hid (SetAt wr.drew b rs) := Lib.hid (HS1.out.below HBW.out.drew)
      have HA := Lib.hid (HAL.out (x t) wr.drew HSW.out)
      have HRW : Hid (wr.rangeAt X 0 L) := Lib.hid (range_blocks HR1.out.1 (HBW.out.block _ HR1.out.2))
      obtain ⟨y, hy⟩ : ∃ y, y = x t := ⟨_, rfl⟩
      obtain ⟨r, hr⟩ : ∃ r, r = rwd zs f nd (x t) rs := ⟨_, rfl⟩
      rw [← hr] at HA
      rw [← hy] at HIX' HTW HA
      have HRR := Lib.hid hr
      obtain ⟨V, hV⟩ : ∃ V, V = tv y := ⟨_, rfl⟩
      rw [← hV] at HTW HA
      clear hxb hy hr hV
      go_wp2_with fail
      cases r with
      | true =>
        have HPN : Hid (∀ j, j < t + 1 → rwd zs f nd (x j) rs = true) := Lib.hid (fun j hj => by
          by_cases e : j = t
          · rw [e]; exact HRR.out.symm
          · exact HP.out j (by omega))
        refine wp_region_held_drew (S := fun w' => w'.rangeAt X 0 L) (by kernel_rfl) HRW.out (fun hHeld => ?_)
        refine wpAnyH_take (i := 0) (oi := { dst := some 11, op := .load 122 (.tmp 2), type := _, pos := _, after := _, guard := none }) (v := .agg L.toArray) rfl (by kernel_rfl) (by kernel_rfl) (by kernel_rfl) (fun _ _ _ h => h) (Or.inl ⟨by rfl, fun wh hSw => ?_⟩) hHeld ?_
        · (simp only [execOp]; exact load_run 122 X 0 L _ hSw Tryz.underlying122 rfl (info_rule HL.out))
        try simp only [Act.put, List.setIfInBounds_toArray, List.set_cons_zero, List.set_cons_succ]
        refine wpAnyH_take (i := 1) (oi := { dst := some 12, op := .move (.tmp 6), type := _, pos := _, after := _, guard := none }) (v := .int .i64 y) rfl (by kernel_rfl) (by kernel_rfl) (by kernel_rfl) (fun _ _ _ h => h) (Or.inl ⟨by rfl, fun wh hSw => ?_⟩) hHeld ?_
        · (dsimp only at hSw; go_simp)
        try simp only [Act.put, List.setIfInBounds_toArray, List.set_cons_zero, List.set_cons_succ]
        refine wpAnyH_ready (rs := [2]) (by kernel_rfl) (by simp) ?_
        refine AllReadyH.cons (o := { dst := some 13, op := .call { callee := .value (.func 77), args := #[.tmp 12], argTypes := #[3] }, type := _, pos := _, after := _, guard := none }) rfl (fun K hK => ?_) AllReadyH.nil
        go_simp
        refine (HTW.out _).mono ?_
        rintro e w' ⟨rfl, rfl⟩
        try go_simp
        refine hK.out _ _ ?_ (fun hHeld => ?_)
        · exact hHeld
        clear hK K
        try simp only [Act.put, List.setIfInBounds_toArray, List.set_cons_zero, List.set_cons_succ]
        refine wpAnyH_ready (rs := [3]) (by kernel_rfl) (by simp) ?_
        refine AllReadyH.cons (o := { dst := some 14, op := .call { callee := .value (.func 76), args := #[.tmp 11, .tmp 13], argTypes := #[122, 140] }, type := _, pos := _, after := _, guard := none }) rfl (fun K hK => ?_) AllReadyH.nil
        go_simp
        refine HA.out.mono ?_
        rintro e w5 ⟨rfl, hb5⟩
        have HB5 := Lib.hid hb5
        clear hb5
        try go_simp
        refine hK.out _ _ ?_ (fun hHeld => ?_)
        · exact range_blocks hHeld (HB5.out.block X (Nat.lt_of_lt_of_le HR1.out.2 HBW.out.size))
        clear hK K
        try simp only [Act.put, List.setIfInBounds_toArray, List.set_cons_zero, List.set_cons_succ]
        refine wpAnyH_take (i := 4) (oi := { dst := some 15, op := .unOp .not 4 (.tmp 14), type := _, pos := _, after := _, guard := none }) (v := .bool false) rfl (by kernel_rfl) (by kernel_rfl) (by kernel_rfl) (fun _ _ _ h => h) (Or.inl ⟨by rfl, fun wh hSw => ?_⟩) hHeld ?_
        · (dsimp only at hSw; go_simp)
        try simp only [Act.put, List.setIfInBounds_toArray, List.set_cons_zero, List.set_cons_succ]
        refine wpAnyH_done (by kernel_rfl) ?_ _
        have HBN : Hid (Below w0.heap.size w0 w5) := Lib.hid (HBW.out.drew.trans (HB5.out.mono HBW.out.size))
        go_wp2_with fail
        go_roundw
        case rel => exact ⟨t + 1, by omega, by go_num, HBN, HPN⟩
        case measure => simp [intOf]; omega
      | false =>
        have HF := Lib.hid (HRF.out t hlt HRR.out.symm)
        refine wp_region_held_drew (S := fun w' => w'.rangeAt X 0 L) (by kernel_rfl) HRW.out (fun hHeld => ?_)
        refine wpAnyH_take (i := 0) (oi := { dst := some 11, op := .load 122 (.tmp 2), type := _, pos := _, after := _, guard := none }) (v := .agg L.toArray) rfl (by kernel_rfl) (by kernel_rfl) (by kernel_rfl) (fun _ _ _ h => h) (Or.inl ⟨by rfl, fun wh hSw => ?_⟩) hHeld ?_
        · (simp only [execOp]; exact load_run 122 X 0 L _ hSw Tryz.underlying122 rfl (info_rule HL.out))
        try simp only [Act.put, List.setIfInBounds_toArray, List.set_cons_zero, List.set_cons_succ]
        refine wpAnyH_take (i := 1) (oi := { dst := some 12, op := .move (.tmp 6), type := _, pos := _, after := _, guard := none }) (v := .int .i64 y) rfl (by kernel_rfl) (by kernel_rfl) (by kernel_rfl) (fun _ _ _ h => h) (Or.inl ⟨by rfl, fun wh hSw => ?_⟩) hHeld ?_
        · (dsimp only at hSw; go_simp)
        try simp only [Act.put, List.setIfInBounds_toArray, List.set_cons_zero, List.set_cons_succ]
        refine wpAnyH_ready (rs := [2]) (by kernel_rfl) (by simp) ?_
        refine AllReadyH.cons (o := { dst := some 13, op := .call { callee := .value (.func 77), args := #[.tmp 12], argTypes := #[3] }, type := _, pos := _, after := _, guard := none }) rfl (fun K hK => ?_) AllReadyH.nil
        go_simp
        refine (HTW.out _).mono ?_
        rintro e w' ⟨rfl, rfl⟩
        try go_simp
        refine hK.out _ _ ?_ (fun hHeld => ?_)
        · exact hHeld
        clear hK K
        try simp only [Act.put, List.setIfInBounds_toArray, List.set_cons_zero, List.set_cons_succ]
        refine wpAnyH_ready (rs := [3]) (by kernel_rfl) (by simp) ?_
        refine AllReadyH.cons (o := { dst := some 14, op := .call { callee := .value (.func 76), args := #[.tmp 11, .tmp 13], argTypes := #[122, 140] }, type := _, pos := _, after := _, guard := none }) rfl (fun K hK => ?_) AllReadyH.nil
        go_simp
        refine HA.out.mono ?_
        rintro e w5 ⟨rfl, hb5⟩
        have HB5 := Lib.hid hb5
        clear hb5
        try go_simp
        refine hK.out _ _ ?_ (fun hHeld => ?_)
        · exact range_blocks hHeld (HB5.out.block X (Nat.lt_of_lt_of_le HR1.out.2 HBW.out.size))
        clear hK K
        try simp only [Act.put, List.setIfInBounds_toArray, List.set_cons_zero, List.set_cons_succ]
        refine wpAnyH_take (i := 4) (oi := { dst := some 15, op := .unOp .not 4 (.tmp 14), type := _, pos := _, after := _, guard := none }) (v := .bool true) rfl (by kernel_rfl) (by kernel_rfl) (by kernel_rfl) (fun _ _ _ h => h) (Or.inl ⟨by rfl, fun wh hSw => ?_⟩) hHeld ?_
        · (dsimp only at hSw; go_simp)
        try simp only [Act.put, List.setIfInBounds_toArray, List.set_cons_zero, List.set_cons_succ]
        refine wpAnyH_done (by kernel_rfl) ?_ _
        have HBN : Hid (Below w0.heap.size w0 w5) := Lib.hid (HBW.out.drew.trans (HB5.out.mono HBW.out.size))
        have HBR := Lib.hid (HB1.out.trans (HBN.out.mono HB1.out.size))
        go_wp2_with fail
        go_ret
        exact ⟨by rw [HF.out]; rfl, HBR.out⟩
    · have e : t = 4 := by omega
      subst e
      have HF := Lib.hid (HRT.out HP.out)
      have HBN := Lib.hid (HB1.out.trans (HBW.out.mono HB1.out.size))
      go_wp2_with fail
      go_ret
      exact ⟨by rw [HF.out]; rfl, HBN.out⟩
end Go.Proofs.YthfdkenidfnmgaaGreat
namespace Go.Proofs.YthfdkenidfnmgaaGreat
open Go.ChangeShapes Go.WideShapes Go.ChangeAt Go.RowKit
set_option linter.unusedVariables false
set_option maxRecDepth 100000
section
theorem foldl_zip (off : Nat) : ∀ (c : List Value) (k : Nat) (p z : List Value), off + k = p.length → c.length ≤ z.length →
    (c.zipIdx k).foldl (fun (cs : Array Value) (x : Value × Nat) => cs.setIfInBounds (off + x.2) x.1) (p ++ z).toArray = (p ++ (c ++ z.drop c.length)).toArray
  | [], k, p, z, _, _ => by simp
  | v :: c, k, p, [], _, h => by simp at h
  | v :: c, k, p, y :: z, hk, h => by
    rw [List.zipIdx_cons, List.foldl_cons]
    have e : (p ++ y :: z).toArray.setIfInBounds (off + k) v = ((p ++ [v]) ++ z).toArray := by
      rw [List.setIfInBounds_toArray, hk]
      congr 1
      simp
    show (c.zipIdx (k + 1)).foldl _ ((p ++ y :: z).toArray.setIfInBounds (off + k) v) = _
    rw [e, foldl_zip off c (k + 1) (p ++ [v]) z (by simp; omega) (by simp at h; omega)]
    simp
theorem fill_step {place : Nat → Option (Nat × Nat)} {i : Nat} {v : Value} {rest : List (Nat × Value)} {p c z : List Value} {s : Nat} (hp : place i = some (p.length, s)) (hv : v.cells = c.toArray) (hs : c.length = s) (hz : c.length ≤ z.length) :
    Instr.fill place (p ++ z).toArray ((i, v) :: rest) = Instr.fill place ((p ++ c) ++ z.drop c.length).toArray rest := by
  have h1 : ¬ (v.cells.size ≠ s ∨ p.length + v.cells.size > (p ++ z).toArray.size) := by
    rw [hv]
    simp only [List.size_toArray, List.length_append]
    omega
  rw [Instr.fill, hp]
  simp only [Bool.or_eq_true, decide_eq_true_eq]
  rw [if_neg (by simpa using h1), hv]
  congr 1
  have := foldl_zip p.length c 0 p z (by omega) hz
  rw [List.append_assoc, ← this]
  simp [Array.zipIdx, List.mapIdx_eq_zipIdx_map]
end
theorem wpList_build_run {P : Program} {ops : Array Oper} {rest : List Oper} {op : Oper} {a : Act} {w : World} {Q : Exit → Act → World → Prop} (hgd : op.guard = none) (t : TypeId) (parts : Array (Nat × Operand)) (ho : op.op = .build t parts)
    (z : Array Value) (hz : ∀ w, (Instr.build t (parts.map fun (i, x) => (i, a.eval x))).run P w = .ok (.agg z) w)
    (h : wpList P ops Q rest (a.put op.dst (.agg z)) w) : wpList P ops Q (op :: rest) a w :=
  wpList_plain hgd fun _ hK => by
    unfold Oper.wp execOp
    simp only [ho, Sem.run_bind, Sem.run_pure, Result.andThen_ok, hz]
    exact hK _ _ h
theorem build_run {P : Program} {ops : Array Oper} {rest : List Oper} {a : Act} {w : World} {Q : Exit → Act → World → Prop} {dst : Option Nat} {tt : TypeId} {pos : String} {after : Array Edge} (t : TypeId) (parts : Array (Nat × Operand))
    (z : Array Value) (hz : ∀ w, (Instr.build t (parts.map fun (i, x) => (i, a.eval x))).run P w = .ok (.agg z) w)
    (h : wpList P ops Q rest (a.put dst (.agg z)) w) : wpList P ops Q ({ dst := dst, op := .build t parts, type := tt, pos := pos, after := after, guard := none } :: rest) a w :=
  wpList_build_run rfl t parts rfl z hz h
theorem build_run0 {P : Program} {ops : Array Oper} {rest : List Oper} {a : Act} {w : World} {Q : Exit → Act → World → Prop} {dst : Option Nat} {tt : TypeId} {pos : String} {after : Array Edge} (t : TypeId)
    (z : Array Value) (hz : ∀ w, (Instr.build t #[]).run P w = .ok (.agg z) w)
    (h : wpList P ops Q rest (a.put dst (.agg z)) w) : wpList P ops Q ({ dst := dst, op := .build t #[], type := tt, pos := pos, after := after, guard := none } :: rest) a w :=
  build_run t _ z (fun w => by
    have e : (#[] : Array (Nat × Operand)).map (fun (i, x) => (i, a.eval x)) = #[] := by simp
    rw [e]; exact hz w) h
theorem build_run2 {P : Program} {ops : Array Oper} {rest : List Oper} {a : Act} {w : World} {Q : Exit → Act → World → Prop} {dst : Option Nat} {tt : TypeId} {pos : String} {after : Array Edge} (t : TypeId) (x y : Operand) (vx vy : Value) (hx : a.eval x = vx) (hy : a.eval y = vy)
    (z : Array Value) (hz : ∀ w, (Instr.build t #[(0, vx), (1, vy)]).run P w = .ok (.agg z) w)
    (h : wpList P ops Q rest (a.put dst (.agg z)) w) : wpList P ops Q ({ dst := dst, op := .build t #[(0, x), (1, y)], type := tt, pos := pos, after := after, guard := none } :: rest) a w :=
  build_run t _ z (fun w => by
    have e : (#[(0, x), (1, y)] : Array (Nat × Operand)).map (fun (i, x) => (i, a.eval x)) = #[(0, vx), (1, vy)] := by simp [hx, hy]
    rw [e]; exact hz w) h
theorem build_run4 {P : Program} {ops : Array Oper} {rest : List Oper} {a : Act} {w : World} {Q : Exit → Act → World → Prop} {dst : Option Nat} {tt : TypeId} {pos : String} {after : Array Edge} (t : TypeId) (x y u v : Operand) (vx vy vu vv : Value) (hx : a.eval x = vx) (hy : a.eval y = vy) (hu : a.eval u = vu) (hv : a.eval v = vv)
    (z : Array Value) (hz : ∀ w, (Instr.build t #[(0, vx), (1, vy), (2, vu), (3, vv)]).run P w = .ok (.agg z) w)
    (h : wpList P ops Q rest (a.put dst (.agg z)) w) : wpList P ops Q ({ dst := dst, op := .build t #[(0, x), (1, y), (2, u), (3, v)], type := tt, pos := pos, after := after, guard := none } :: rest) a w :=
  build_run t _ z (fun w => by
    have e : (#[(0, x), (1, y), (2, u), (3, v)] : Array (Nat × Operand)).map (fun (i, x) => (i, a.eval x)) = #[(0, vx), (1, vy), (2, vu), (3, vv)] := by simp [hx, hy, hu, hv]
    rw [e]; exact hz w) h
theorem buildp_is {P : Program} {ops : Array Oper} {rest : List Oper} {a : Act} {w : World} {Q : Exit → Act → World → Prop} {dst : Option Nat} {tt : TypeId} {pos : String} {after : Array Edge} (ty : TypeId) (parts : Array (Nat × Operand)) (h : wpList P ops Q ({ dst := dst, op := .build ty parts, type := tt, pos := pos, after := after, guard := none } :: rest) a w) : wpList P ops Q ({ dst := dst, op := .build ty parts, type := tt, pos := pos, after := after, guard := none } :: rest) a w := h
def Z84 : List Value := List.replicate 48 (Value.int .i64 0) ++ isC z12
theorem Z84_len : Z84.length = 84 := rfl
theorem run_build_tables (A B : List Value) (hA : A.length = 48) (hB : B.length = 36) (w : World) : (Instr.build 96 #[(0, .agg A.toArray), (1, .agg B.toArray)]).run Tryz.prog w = .ok (.agg (A ++ B).toArray) w := by
  have hb : ∀ X Y : Value, Tryz.prog.built 96 [(0, X), (1, Y)] = Instr.fill ((#[(0, 48), (48, 36)] : Array (Nat × Nat))[·]?) Z84.toArray [(0, X), (1, Y)] := fun X Y => by kernel_rfl
  refine run_build w _ _ _ ((hb _ _).trans ?_)
  have hz := Z84_len
  rw [show Z84.toArray = ([] ++ Z84).toArray from rfl, fill_step (p := []) (c := A) (s := 48) rfl rfl hA (by omega), fill_step (c := B) (s := 36) (by rw [List.nil_append, hA]; rfl) rfl hB (by rw [List.length_drop]; omega)]
  rw [Instr.fill, List.nil_append, List.drop_of_length_le (by rw [List.length_drop]; omega), List.append_nil]
def Z39 : List Value := isC z12 ++ [Value.int .i64 0, Value.int .i64 0, Value.map none]
theorem run_build_rule (B : List Value) (hB : B.length = 36) (f n : Int) (m : Option Nat) (w : World) : (Instr.build 122 #[(0, .agg B.toArray), (1, .int .i64 f), (2, .int .i64 n), (3, .map m)]).run Tryz.prog w = .ok (.agg (B ++ [Value.int .i64 f, Value.int .i64 n, Value.map m]).toArray) w := by
  have hb : ∀ X Y Z U : Value, Tryz.prog.built 122 [(0, X), (1, Y), (2, Z), (3, U)] = Instr.fill ((#[(0, 36), (36, 1), (37, 1), (38, 1)] : Array (Nat × Nat))[·]?) Z39.toArray [(0, X), (1, Y), (2, Z), (3, U)] := fun X Y Z U => by kernel_rfl
  refine run_build w _ _ _ ((hb _ _ _ _).trans ?_)
  have hz : Z39.length = 39 := rfl
  rw [show Z39.toArray = ([] ++ Z39).toArray from rfl, fill_step (p := []) (c := B) (s := 36) rfl rfl hB (by omega),
    fill_step (c := [Value.int .i64 f]) (s := 1) (by rw [List.nil_append, hB]; rfl) rfl rfl (by simp only [List.length_drop, List.length_cons, List.length_nil]; omega),
    fill_step (c := [Value.int .i64 n]) (s := 1) (by rw [List.nil_append, List.length_append, hB]; rfl) rfl rfl (by simp only [List.length_drop, List.length_cons, List.length_nil]; omega),
    fill_step (c := [Value.map m]) (s := 1) (by rw [List.nil_append, List.length_append, List.length_append, hB]; rfl) rfl rfl (by simp only [List.length_drop, List.length_cons, List.length_nil]; omega)]
  rw [Instr.fill, List.nil_append, List.drop_of_length_le (by simp only [List.length_drop, List.length_cons, List.length_nil]; omega), List.append_nil, List.append_assoc, List.append_assoc]
  rfl
theorem build_val {P : Program} {W : World} (t : TypeId) (parts : Array (Nat × Value)) (z : Array Value) (hz : (Instr.build t parts).run P W = .ok (.agg z) W) :
    ((do let l ← Instr.build t parts; pure (Next.value l)) : Sem Next).run P W = .ok (.value (.agg z)) W := by
  simp only [Sem.run_bind, hz, Result.andThen_ok, Sem.run_pure]
end Go.Proofs.YthfdkenidfnmgaaGreat
namespace Go.Proofs.YthfdkenidfnmgaaGreat
open Go.ChangeShapes Go.WideShapes Go.ChangeAt Go.RowKit
set_option linter.unusedVariables false
set_option maxRecDepth 100000
set_option linter.unusedSimpArgs false
theorem zero_tables (w : World) : (zeroValue 96).run Tryz.prog w = .ok (.agg Z84.toArray) w := Tryz.zeroValue96 w
theorem info_tables {n : Nat} (h : n = 84) : (Tryz.prog.info? 96).map (·.size) = some n := by subst h; kernel_rfl
def mC (xss : List (List Int)) : List Value := if memOk xss = true then flatL xss else List.replicate 48 (Value.int .i64 0)
theorem mC_ok {xss : List (List Int)} (h : memOk xss = true) : mC xss = flatL xss := if_pos h
theorem mC_len (xss : List (List Int)) : (mC xss).length = 48 := by
  unfold mC
  split
  · rename_i h; exact flat_len h
  · rw [List.length_replicate]
theorem mC_arr (xss : List (List Int)) : (bif memOk xss then (flatL xss).toArray else zero48) = (mC xss).toArray := by
  unfold mC
  cases memOk xss
  · show zero48 = _
    unfold zero48
    rw [if_neg (by simp)]; rfl
  · rfl
theorem mC_one (xss : List (List Int)) : (mC xss).toArray.all (·.oneCell') = true := by
  unfold mC
  split
  · exact flat_one xss
  · exact all_oneCell_toArray (fun v hv => by rw [List.eq_of_mem_replicate hv]; rfl)
def tC (xss : List (List Int)) (zs : List IV) : List Value := mC xss ++ isC zs
theorem tC_len (xss : List (List Int)) {zs : List IV} (hz : zs.length = 12) : (tC xss zs).length = 84 := by
  unfold tC
  rw [List.length_append, mC_len, isC_36 hz]
theorem tC_one (xss : List (List Int)) (zs : List IV) : (tC xss zs).toArray.all (·.oneCell') = true := all_oneCell_toArray (fun v hv => by
  unfold tC at hv
  rcases List.mem_append.1 hv with h | h
  · have := mC_one xss
    rw [List.all_toArray, List.all_eq_true] at this
    exact this v h
  · exact isC_one zs v h)
structure VarL (w : World) (B : Nat) (L : List Value) (W : World) : Prop where
  bel : Below w.heap.size w W
  lo : w.heap.size ≤ B
  hi : B < W.heap.size
  at0 : W.rangeAt B 0 L
  th : W.there B 0 L.length
theorem VarL.after {w W W2 : World} {B : Nat} {L : List Value} (h : VarL w B L W) (hb : Below W.heap.size W W2) : VarL w B L W2 :=
  ⟨h.bel.trans (hb.mono h.bel.size), h.lo, by have := h.hi; have := hb.size; omega, range_blocks h.at0 (hb.block _ h.hi), there_blocks h.th (hb.block _ h.hi)⟩
theorem VarL.make {w w1 : World} {L : List Value} {Z : Array Value} (t : TypeId) (hb : Below w.heap.size w w1) (hZ : Z.size = L.length) : (w1.alloc (.cells Z t)).there w1.heap.size 0 L.length ∧ VarL w w1.heap.size L ((w1.alloc (.cells Z t)).setCells w1.heap.size 0 L) := by
  have ht : (w1.alloc (.cells Z t)).there w1.heap.size 0 L.length := there_row (heap_alloc_new w1 _) (by omega)
  exact ⟨ht, Below.setCells (Below.refl _ _) _ hb.size _ _ _ (hb.alloc hb.size _), hb.size, by rw [size_setCells]; simp, World.rangeAt_setCells_same _ _ _ _ ht, fun j hj => by
    have h0 := World.there_setCells ht w1.heap.size 0 L
    exact h0 j hj⟩
theorem VarL.new {w w1 : World} (L : List Value) (t : TypeId) (hb : Below w.heap.size w w1) : VarL w w1.heap.size L (w1.alloc (.cells L.toArray t)) :=
  ⟨hb.alloc hb.size _, hb.size, by simp, range_row (heap_alloc_new w1 _), there_row (heap_alloc_new w1 _) (by simp)⟩
theorem VarL.set {w W : World} {B : Nat} {L : List Value} (h : VarL w B L W) {M : List Value} (hm : M.length = L.length) : VarL w B M (W.setCells B 0 M) := by
  have ht : W.there B 0 M.length := by rw [hm]; exact h.th
  exact ⟨Below.setCells (Below.refl _ _) _ h.lo _ _ _ h.bel, h.lo, by rw [size_setCells]; exact h.hi, World.rangeAt_setCells_same _ _ _ _ ht, World.there_setCells ht B 0 M⟩
theorem VarL.other {w W : World} {B C : Nat} {L : List Value} (h : VarL w B L W) (hc : w.heap.size ≤ C) (hne : B ≠ C) (o : Nat) (M : List Value) : VarL w B L (W.setCells C o M) :=
  ⟨Below.setCells (Below.refl _ _) _ hc _ _ _ h.bel, h.lo, by rw [size_setCells]; exact h.hi, range_blocks h.at0 (heap_setCells_other W _ _ _ _ _ hne), there_blocks h.th (heap_setCells_other W _ _ _ _ _ hne)⟩
def ArrT (L : List Value) (b : Bool) (w : World) (e : Ending) (w' : World) : Prop := e = .returned (.tuple #[.agg L.toArray, .bool b]) ∧ Below w.heap.size w w'
set_option maxRecDepth 100000 in
set_option maxHeartbeats 2000000 in
theorem tablesOf_any (w : World) (vm vl : Value) (xss : List (List Int)) (ys : List IV) (hm : Rows2 w vm xss) (hl : Is w vl ys) (hs : ShortI ys) :
    Calls Tryz.prog 35 #[vm, vl] w (ArrT (tC xss (arrOf ys)) (memOk xss && isok ys) w) := by
  have HCM : Hid (∀ w', Below w.heap.size w w' → Calls Tryz.prog 45 #[vm] w' (ArrRes w' (mC xss).toArray (memOk xss))) := Lib.hid (fun w' hb => by
    rw [← mC_arr]; exact memoryOf_any (hm.below hb))
  have HCI : Hid (∀ w', Below w.heap.size w w' → Calls Tryz.prog 23 #[vl] w' (ArrI (arrOf ys) (isok ys) w')) := Lib.hid (fun w' hb => infosOf_any w' vl ys (hl.below hb) hs)
  unfold ArrRes at HCM
  unfold ArrI at HCI
  unfold tC
  have HBT := Lib.hid (fun w => run_build_tables (mC xss) (isC (arrOf ys)) (mC_len xss) (isC_36 (arrOf_len ys)) w)
  have HA : Hid ((mC xss).length = 48) := Lib.hid (mC_len xss)
  have HB : Hid ((isC (arrOf ys)).length = 36) := Lib.hid (isC_36 (arrOf_len ys))
  have HOA : Hid ((mC xss).toArray.all (·.oneCell') = true) := Lib.hid (mC_one xss)
  have HOB : Hid ((isC (arrOf ys)).toArray.all (·.oneCell') = true) := Lib.hid (isC_all _)
  have HOT : Hid ((mC xss ++ isC (arrOf ys)).toArray.all (·.oneCell') = true) := Lib.hid (tC_one _ _)
  obtain ⟨A, hA⟩ : ∃ A, A = mC xss := ⟨_, rfl⟩
  obtain ⟨B, hB⟩ : ∃ B, B = isC (arrOf ys) := ⟨_, rfl⟩
  rw [← hA] at HCM HBT HA HOA HOT ⊢
  rw [← hB] at HCI HBT HB HOB HOT ⊢
  obtain ⟨a, ha⟩ : ∃ a, a = memOk xss := ⟨_, rfl⟩
  obtain ⟨b, hb⟩ : ∃ b, b = isok ys := ⟨_, rfl⟩
  rw [← ha] at HCM ⊢
  rw [← hb] at HCI ⊢
  have HAZ : Hid (A.toArray.size = A.length) := Lib.hid (by simp)
  have HBZ : Hid (B.toArray.size = B.length) := Lib.hid (by simp)
  obtain ⟨T, hT⟩ : ∃ T, T = A ++ B := ⟨_, rfl⟩
  have HT : Hid (T.length = 84) := Lib.hid (by rw [hT, List.length_append, HA.out, HB.out])
  rw [← hT] at HBT HOT ⊢
  have ZM := Lib.hid zero_mem
  have ZI := Lib.hid zero_infos
  have ZT := Lib.hid zero_tables
  have ZMS : Hid (zero48.size = A.length) := Lib.hid (by rw [HA.out]; exact zero_size)
  have ZIS : Hid ((isC z12).toArray.size = B.length) := Lib.hid (by rw [HB.out, List.size_toArray, isC_36 z12_len])
  have ZTS : Hid (Z84.length = T.length) := Lib.hid (by rw [HT.out]; rfl)
  obtain ⟨zm, hzm⟩ : ∃ z, z = zero48 := ⟨_, rfl⟩
  obtain ⟨zi, hzi⟩ : ∃ z, z = (isC z12).toArray := ⟨_, rfl⟩
  obtain ⟨zt, hzt⟩ : ∃ z, z = Z84 := ⟨_, rfl⟩
  rw [← hzm] at ZM ZMS
  rw [← hzi] at ZI ZIS
  rw [← hzt] at ZT ZTS
  clear hzm hzi hzt hT ha hb hA hB hm hl hs
  go_enter Tryz.func35, Tryz.ntmps35
  go_wp2_with (first | ((with_reducible refine alloc_is 96 ?_); refine alloc_arr 96 zt.toArray ZT.out ?_) | fail)
  have HV0 := Lib.hid (VarL.new zt 96 (Below.refl w.heap.size w))
  obtain ⟨X, hX⟩ : ∃ X, X = w.heap.size := ⟨_, rfl⟩
  obtain ⟨w0, hw0⟩ : ∃ w0, w0 = w.alloc (.cells zt.toArray 96) := ⟨_, rfl⟩
  rw [← hw0, ← hX] at HV0 ⊢
  have HXE := Lib.hid hX
  clear hX hw0
  refine (HCM.out _ HV0.out.bel).mono ?_
  rintro e w1 ⟨rfl, hb1⟩
  have HM := Lib.hid (VarL.make 56 (HV0.out.bel.trans (hb1.mono HV0.out.bel.size)) ZMS.out)
  have HV1 := Lib.hid ((HV0.out.after hb1).after ((Below.refl w1.heap.size w1).alloc (Nat.le_refl _) (.cells zm 56)))
  have HNE : Hid (X ≠ w1.heap.size) := Lib.hid (by have := (HV0.out.after hb1).hi; omega)
  obtain ⟨Y, hY⟩ : ∃ Y, Y = w1.heap.size := ⟨_, rfl⟩
  have HYL : Hid (w.heap.size ≤ Y) := Lib.hid (by rw [hY]; exact (HV0.out.after hb1).bel.size)
  have HYE := Lib.hid hY
  rw [← hY] at HM HNE
  obtain ⟨w2, hw2⟩ : ∃ w2, w2 = (w1.alloc (.cells zm 56)).setCells Y 0 A := ⟨_, rfl⟩
  have HX2 := Lib.hid (HV1.out.other HYL.out HNE.out 0 A)
  have HM2 := Lib.hid HM.out.2
  have HTH : Hid ((w1.alloc (.cells zm 56)).there w1.heap.size 0 A.toArray.size) := Lib.hid (by rw [← HYE.out, HAZ.out]; exact HM.out.1)
  rw [← hw2] at HX2 HM2
  have HW2 := Lib.hid hw2
  clear hY hw2 HM hb1
  go_wp2_with (first | ((with_reducible refine alloc_is 56 ?_); refine alloc_arr 56 zm ZM.out ?_) | ((with_reducible refine store_is 56 (.tmp 6) (.tmp 13) ?_); refine store_arr 56 (.tmp 6) (.tmp 13) w1.heap.size 0 A.toArray rfl rfl HTH.out (info_mem (HAZ.out.trans HA.out)) HOA.out ?_; rw [show A.toArray.toList = A from rfl, ← HYE.out, ← HW2.out]) | fail)
  refine (HCI.out _ HM2.out.bel).mono ?_
  rintro e w3 ⟨rfl, hb3⟩
  have HI := Lib.hid (VarL.make 60 (HM2.out.after hb3).bel ZIS.out)
  have HX3 := Lib.hid ((HX2.out.after hb3).after ((Below.refl w3.heap.size w3).alloc (Nat.le_refl _) (.cells zi 60)))
  have HM3 := Lib.hid ((HM2.out.after hb3).after ((Below.refl w3.heap.size w3).alloc (Nat.le_refl _) (.cells zi 60)))
  have HN3 : Hid (X ≠ w3.heap.size ∧ Y ≠ w3.heap.size) := Lib.hid (by have := (HX2.out.after hb3).hi; have := (HM2.out.after hb3).hi; omega)
  obtain ⟨V, hV⟩ : ∃ V, V = w3.heap.size := ⟨_, rfl⟩
  have HVL : Hid (w.heap.size ≤ V) := Lib.hid (by rw [hV]; exact (HX2.out.after hb3).bel.size)
  have HVE := Lib.hid hV
  rw [← hV] at HI HN3
  obtain ⟨w4, hw4⟩ : ∃ w4, w4 = (w3.alloc (.cells zi 60)).setCells V 0 B := ⟨_, rfl⟩
  have HX4 := Lib.hid (HX3.out.other HVL.out HN3.out.1 0 B)
  have HM4 := Lib.hid (HM3.out.other HVL.out HN3.out.2 0 B)
  have HI4 := Lib.hid HI.out.2
  have HTI : Hid ((w3.alloc (.cells zi 60)).there w3.heap.size 0 B.toArray.size) := Lib.hid (by rw [← HVE.out, HBZ.out]; exact HI.out.1)
  rw [← hw4] at HX4 HM4 HI4
  have HW4 := Lib.hid hw4
  clear hV hw4 HI hb3
  have HX5 := Lib.hid (HX4.out.set (M := T) (by rw [ZTS.out]))
  have HTX : Hid (w4.there X 0 T.toArray.size) := Lib.hid (by rw [List.size_toArray, ← ZTS.out]; exact HX4.out.th)
  obtain ⟨w5, hw5⟩ : ∃ w5, w5 = w4.setCells X 0 T := ⟨_, rfl⟩
  rw [← hw5] at HX5
  have HW5 := Lib.hid hw5
  have HTS : Hid (T.toArray.size = 84) := Lib.hid (by rw [List.size_toArray, HT.out])
  clear hw5
  cases a <;> cases b
  all_goals
    go_wp2_with (first | ((with_reducible refine alloc_is 60 ?_); refine alloc_arr 60 zi ZI.out ?_) | ((with_reducible refine store_is 60 (.tmp 8) (.tmp 18) ?_); refine store_arr 60 (.tmp 8) (.tmp 18) w3.heap.size 0 B.toArray rfl rfl HTI.out (info_infos (HBZ.out.trans HB.out)) HOB.out ?_; rw [show B.toArray.toList = B from rfl, ← HVE.out, ← HW4.out]) | ((with_reducible refine load_is 56 (.tmp 6) ?_); refine load_arr 56 (.tmp 6) Y 0 A _ rfl HM4.out.at0 Tryz.underlying56 rfl (info_mem HA.out) ?_) | ((with_reducible refine load_is 60 (.tmp 8) ?_); refine load_arr 60 (.tmp 8) V 0 B _ rfl HI4.out.at0 Tryz.underlying60 rfl (info_infos HB.out) ?_) | ((with_reducible refine buildp_is 96 #[(0, .tmp 20), (1, .tmp 21)] ?_); refine build_run2 96 (.tmp 20) (.tmp 21) (.agg A.toArray) (.agg B.toArray) rfl rfl T.toArray HBT.out ?_) | ((with_reducible refine store_is 96 (.tmp 4) (.tmp 22) ?_); refine store_arr 96 (.tmp 4) (.tmp 22) X 0 T.toArray rfl rfl HTX.out (info_tables HTS.out) HOT.out ?_; rw [show T.toArray.toList = T from rfl, ← HW5.out]) | fail)
    refine bodyPost_ret (results_cell_mid rfl _ _ X 0 T _ rfl HX5.out.at0 Tryz.underlying96 rfl (info_tables HT.out)) rfl ?_
    exact ⟨rfl, HX5.out.bel⟩
end Go.Proofs.YthfdkenidfnmgaaGreat
namespace Go.Proofs.YthfdkenidfnmgaaGreat
open Go.ChangeShapes Go.WideShapes Go.ChangeAt Go.RowKit Go.Maps
set_option linter.unusedVariables false
set_option linter.unusedSimpArgs false
theorem zero_rule (w : World) : (zeroValue 122).run Tryz.prog w = .ok (.agg Z39.toArray) w := Tryz.zeroValue122 w
theorem Z39_len : Z39.length = 39 := rfl
def RuleM (zs : List IV) (f k : Int) (m : Option Nat) (w : World) (e : Ending) (w' : World) : Prop := e = .returned (.agg (rcC zs f (tneeds k) m).toArray) ∧ Below w.heap.size w w'
set_option maxRecDepth 100000 in
set_option maxHeartbeats 2000000 in
theorem rule_any (w : World) (xss : List (List Int)) (zs : List IV) (hz : zs.length = 12) (f k : Int) (m : Option Nat) :
    Calls Tryz.prog 75 #[.agg (tC xss zs).toArray, .int .i64 f, .int .i64 k, .map m] w (RuleM zs f k m w) := by
  have HTN := Lib.hid (fun w => tneeds_any w k)
  have HT : Hid ((tC xss zs).length = 84) := Lib.hid (tC_len xss hz)
  have HB : Hid ((isC zs).length = 36) := Lib.hid (isC_36 hz)
  have HRB := Lib.hid (fun n m w => run_build_rule (isC zs) HB.out f n m w)
  have HOO : Hid (∀ n m, (isC zs ++ [Value.int .i64 f, Value.int .i64 n, Value.map m]).toArray.all (·.oneCell') = true) := Lib.hid (fun n m => rcC_one zs f n m)
  have HTI : Hid (∀ (W : World) b, W.rangeAt b 0 (tC xss zs) → W.rangeAt b 48 (isC zs)) := Lib.hid (fun W b h => range_right h (by rw [mC_len]))
  unfold RuleM rcC
  have ZR := Lib.hid zero_rule
  have ZRS := Lib.hid Z39_len
  obtain ⟨zr, hzr⟩ : ∃ z, z = Z39 := ⟨_, rfl⟩
  rw [← hzr] at ZR ZRS
  obtain ⟨T, hT⟩ : ∃ T, T = tC xss zs := ⟨_, rfl⟩
  rw [← hT] at HT HTI ⊢
  obtain ⟨B, hB⟩ : ∃ B, B = isC zs := ⟨_, rfl⟩
  rw [← hB] at HB HRB HTI HOO ⊢
  obtain ⟨nd, hnd⟩ : ∃ n, n = tneeds k := ⟨_, rfl⟩
  rw [← hnd] at HTN ⊢
  have HRBB := Lib.hid (HRB.out nd m)
  have HV0 := Lib.hid ((VarL.new T 96 (Below.refl w.heap.size w)).after ((Below.refl _ _).alloc (Nat.le_refl _) (.cells zr.toArray 122)))
  have HV1 := Lib.hid (VarL.new zr 122 ((Below.refl w.heap.size w).alloc (Nat.le_refl _) (.cells T.toArray 96)))
  obtain ⟨C, hC⟩ : ∃ C, C = B ++ [Value.int .i64 f, Value.int .i64 nd, Value.map m] := ⟨_, rfl⟩
  rw [← hC] at HRBB ⊢
  have HCL : Hid (C.length = zr.length) := Lib.hid (by rw [hC, List.length_append, HB.out, ZRS.out]; rfl)
  have HOC : Hid (C.toArray.all (·.oneCell') = true) := Lib.hid (by rw [hC]; exact HOO.out nd m)
  obtain ⟨X, hX⟩ : ∃ X, X = w.heap.size := ⟨_, rfl⟩
  rw [World.size_alloc, ← hX] at HV1
  rw [← hX] at HV0
  obtain ⟨w1, hw1⟩ : ∃ w1, w1 = (w.alloc (.cells T.toArray 96)).alloc (.cells zr.toArray 122) := ⟨_, rfl⟩
  rw [← hw1] at HV0 HV1
  have HXE := Lib.hid hX
  have HW1 := Lib.hid hw1
  have HR4 := Lib.hid ((HV1.out.after (Below.refl _ _).drew).set (M := C) HCL.out)
  have HTH2 : Hid (w1.drew.there (X + 1) 0 C.toArray.size) := Lib.hid (by rw [List.size_toArray, HCL.out]; exact there_blocks HV1.out.th rfl)
  have HCZ : Hid (C.toArray.size = 39) := Lib.hid (by rw [List.size_toArray, HCL.out, ZRS.out])
  have HT0 : Hid (w1.rangeAt X 48 B) := Lib.hid (HTI.out _ _ HV0.out.at0)
  have HZX : Hid ((w.alloc (.cells T.toArray 96)).heap.size = X + 1) := Lib.hid (by rw [hX]; simp)
  clear hT hB hnd hzr hz hC hX hw1
  go_enter Tryz.func75, Tryz.ntmps75
  go_wp2_with (first | ((with_reducible refine box_is 96 (.tmp 0) ?_); refine box_arr 96 (.tmp 0) T.toArray rfl ?_) | ((with_reducible refine alloc_is 122 ?_); refine alloc_arr 122 zr.toArray ZR.out ?_; rw [HZX.out, ← HXE.out, ← HW1.out]) | fail)
  refine wp_region_held_drew (S := fun w' => w'.rangeAt X 48 B) (by kernel_rfl) HT0.out (fun hHeld => ?_)
  refine wpAnyH_take (i := 0) (oi := { dst := some 9, op := .fieldAddr 96 (.tmp 4) 1, type := _, pos := _, after := _, guard := none }) (v := .pointer (some ⟨X, 48, none⟩)) rfl (by kernel_rfl) (by kernel_rfl) (by kernel_rfl) (fun _ _ _ h => h) (Or.inl ⟨by rfl, fun wh hSw => ?_⟩) hHeld ?_
  · (dsimp only at hSw; go_simp)
  try simp only [Act.put, List.setIfInBounds_toArray, List.set_cons_zero, List.set_cons_succ]
  refine wpAnyH_take (i := 1) (oi := { dst := some 10, op := .load 60 (.tmp 9), type := _, pos := _, after := _, guard := none }) (v := .agg B.toArray) rfl (by kernel_rfl) (by kernel_rfl) (by kernel_rfl) (fun _ _ _ h => h) (Or.inl ⟨by rfl, fun wh hSw => ?_⟩) hHeld ?_
  · (simp only [execOp]; exact load_run 60 X 48 B _ hSw Tryz.underlying60 rfl (info_infos HB.out))
  try simp only [Act.put, List.setIfInBounds_toArray, List.set_cons_zero, List.set_cons_succ]
  refine wpAnyH_take (i := 2) (oi := { dst := some 11, op := .move (.tmp 1), type := _, pos := _, after := _, guard := none }) (v := .int .i64 f) rfl (by kernel_rfl) (by kernel_rfl) (by kernel_rfl) (fun _ _ _ h => h) (Or.inl ⟨by rfl, fun wh hSw => ?_⟩) hHeld ?_
  · (dsimp only at hSw; go_simp)
  try simp only [Act.put, List.setIfInBounds_toArray, List.set_cons_zero, List.set_cons_succ]
  refine wpAnyH_take (i := 3) (oi := { dst := some 12, op := .move (.tmp 2), type := _, pos := _, after := _, guard := none }) (v := .int .i64 k) rfl (by kernel_rfl) (by kernel_rfl) (by kernel_rfl) (fun _ _ _ h => h) (Or.inl ⟨by rfl, fun wh hSw => ?_⟩) hHeld ?_
  · (dsimp only at hSw; go_simp)
  try simp only [Act.put, List.setIfInBounds_toArray, List.set_cons_zero, List.set_cons_succ]
  refine wpAnyH_take (i := 5) (oi := { dst := some 14, op := .move (.tmp 3), type := _, pos := _, after := _, guard := none }) (v := .map m) rfl (by kernel_rfl) (by kernel_rfl) (by kernel_rfl) (fun _ _ _ h => h) (Or.inl ⟨by rfl, fun wh hSw => ?_⟩) hHeld ?_
  · (dsimp only at hSw; go_simp)
  try simp only [Act.put, List.setIfInBounds_toArray, List.set_cons_zero, List.set_cons_succ]
  refine wpAnyH_ready (rs := [4]) (by kernel_rfl) (by simp) ?_
  refine AllReadyH.cons (o := { dst := some 13, op := .call { callee := .value (.func 74), args := #[.tmp 12], argTypes := #[3] }, type := _, pos := _, after := _, guard := none }) rfl (fun K hK => ?_) AllReadyH.nil
  go_simp
  refine (HTN.out _).mono ?_
  rintro e w' ⟨rfl, rfl⟩
  try go_simp
  refine hK.out _ _ ?_ (fun hHeld => ?_)
  · exact hHeld
  clear hK K
  try simp only [Act.put, List.setIfInBounds_toArray, List.set_cons_zero, List.set_cons_succ]
  refine wpAnyH_take (i := 6) (oi := { dst := some 15, op := .build 122 #[(0, .tmp 10), (1, .tmp 11), (2, .tmp 13), (3, .tmp 14)], type := _, pos := _, after := _, guard := none }) (v := .agg C.toArray) rfl (by kernel_rfl) (by kernel_rfl) (by kernel_rfl) (fun _ _ _ h => h) (Or.inl ⟨by rfl, fun wh hSw => ?_⟩) hHeld ?_
  · (simp only [execOp, List.map_toArray, List.map_cons, List.map_nil]; exact build_val _ _ _ (HRBB.out _))
  try simp only [Act.put, List.setIfInBounds_toArray, List.set_cons_zero, List.set_cons_succ]
  refine wpAnyH_ready (rs := [7]) (by kernel_rfl) (by simp) ?_
  refine AllReadyH.cons (o := { dst := none, op := .store 122 (.tmp 8) (.tmp 15), type := _, pos := _, after := _, guard := none }) rfl (fun K hK => ?_) AllReadyH.nil
  rw [if_pos (by rfl)]
  refine wp_store_mid 122 (.tmp 8) (.tmp 15) rfl (X + 1) 0 C.toArray rfl rfl HTH2.out (info_rule HCZ.out) HOC.out ?_
  rw [show C.toArray.toList = C from rfl]
  refine hK.out _ _ ?_ (fun hHeld => ?_)
  · exact range_blocks hHeld (heap_setCells_other w1 _ _ _ _ _ (by omega))
  clear hK K
  try simp only [Act.put, List.setIfInBounds_toArray, List.set_cons_zero, List.set_cons_succ]
  refine wpAnyH_done (by kernel_rfl) ?_ _
  go_wp2_with fail
  refine bodyPost_ret (results_one_mid rfl _ _ (X + 1) 0 C _ rfl HR4.out.at0 Tryz.underlying122 rfl (info_rule (HCL.out.trans ZRS.out))) rfl ?_
  exact ⟨rfl, by have := HR4.out.bel; exact this⟩
end Go.Proofs.YthfdkenidfnmgaaGreat
namespace Go.Proofs.YthfdkenidfnmgaaGreat
open Go.ChangeShapes Go.WideShapes Go.ChangeAt Go.RowKit
set_option linter.unusedVariables false
set_option maxRecDepth 100000
theorem flat_get (xss : List (List Int)) (h : ∀ i, i < xss.length → (xss.getD i []).length = 4) {i j : Nat} (hi : i < xss.length) (hj : j < 4) :
    (flatL xss)[i * 4 + j]? = some (.int .i64 ((xss.getD i []).getD j 0)) := by
  have h1 := flat_take_len xss h i (by omega)
  have h4 := h i hi
  have e : flatL xss = flatL (xss.take i) ++ ((xss.getD i []).map (Value.int .i64) ++ flatL (xss.drop (i + 1))) := by
    rw [← List.append_assoc, ← flat_snoc xss i _ hi rfl]
    unfold flatL
    rw [← List.map_append, ← List.flatten_append, List.take_append_drop]
  rw [e, List.getElem?_append_right (by omega), h1, List.getElem?_append_left (by rw [List.length_map]; omega)]
  have e2 : i * 4 + j - i * 4 = j := by omega
  rw [e2, List.getElem?_map, getD_lt (l := xss.getD i []) (i := j) (by omega), List.getElem?_eq_getElem (by omega)]
  rfl
theorem MatW.lower {w : World} {B0 B0' B1 : Nat} {v : Value} {xss : List (List Int)} (h : MatW w B0 B1 v xss) (hB : B0' ≤ B0) : MatW w B0' B1 v xss := by
  obtain ⟨a, cap, A, C, rfl, h1, h2, h3⟩ := h
  refine ⟨a, cap, A, C, rfl, h1, h2, ⟨fun k hk => ?_, fun k hk m hm => ?_, h3.apart⟩⟩
  · obtain ⟨b, o, e, p1, p2, p3⟩ := h3.top k hk
    exact ⟨b, o, e, by omega, p2, p3⟩
  · obtain ⟨g, p, e, p1, p2, p3⟩ := h3.row k hk m hm
    exact ⟨g, p, e, by omega, p2, p3⟩
end Go.Proofs.YthfdkenidfnmgaaGreat
namespace Go.Proofs.YthfdkenidfnmgaaGreat
open Go.ChangeShapes Go.WideShapes Go.ChangeAt Go.RowKit
set_option linter.unusedVariables false
set_option maxRecDepth 100000
set_option linter.unusedSimpArgs false
def uC (u : Nat → Int) : List Value := (List.range 12).map (fun i => Value.int .i64 (u i))
theorem uC_len (u : Nat → Int) : (uC u).length = 12 := by simp [uC]
theorem uC_get (u : Nat → Int) {i : Nat} (hi : i < 12) : (uC u)[i]? = some (.int .i64 (u i)) := by simp [uC, hi]
theorem uC_one (u : Nat → Int) : (uC u).toArray.all (·.oneCell') = true := all_oneCell_toArray (fun v hv => by
  unfold uC at hv
  obtain ⟨i, _, rfl⟩ := List.mem_map.1 hv
  rfl)
theorem Us.range {w : World} {b : Nat} {u : Nat → Int} (h : Us w b u) : w.rangeAt b 0 (uC u) := fun j v hv => by
  have hj : j < 12 := by have := (List.getElem?_eq_some_iff.1 hv).1; rwa [uC_len] at this
  rw [uC_get u hj] at hv
  cases hv
  rw [Nat.zero_add]
  exact (h j hj).1
theorem Us.of_range {w : World} {b : Nat} {u : Nat → Int} (h : w.rangeAt b 0 (uC u)) (ht : w.there b 0 12) : Us w b u := fun i hi => by
  have h1 := h i _ (uC_get u hi)
  have h2 := (ht i hi).2
  rw [Nat.zero_add] at h1 h2
  exact ⟨h1, h2⟩
theorem zero_uses (w : World) : (zeroValue 114).run Tryz.prog w = .ok (.agg (uC (fun _ => 0)).toArray) w := Tryz.zeroValue114 w
theorem info_uses {n : Nat} (h : n = 12) : (Tryz.prog.info? 114).map (·.size) = some n := by subst h; kernel_rfl
theorem mC_get {xss : List (List Int)} (hm : memOk xss = true) {i j : Nat} (hi : i < 12) (hj : j < 4) : (mC xss)[i * 4 + j]? = some (.int .i64 (wd xss i j)) := by
  rw [mC_ok hm]
  have h := flat_get xss (fun k hk => mem_row hm (by rw [mem_len hm] at hk; exact hk)) (by rw [mem_len hm]; exact hi) hj
  exact h
theorem row_range {xss : List (List Int)} {ys : List IV} {W : World} {X : Nat} (hm : memOk xss = true) (h : W.rangeAt X 0 (tC xss ys)) {t : Nat} (ht : t < 12) : W.rangeAt X (t * 4) ((xss.getD t []).map (Value.int .i64)) := fun j v hv => by
  have hj : j < 4 := by have := (List.getElem?_eq_some_iff.1 hv).1; rwa [List.length_map, mem_row hm ht] at this
  have h1 := range_left h (t * 4 + j) _ (mC_get hm ht hj)
  rw [Nat.zero_add] at h1
  rw [h1, ← hv, List.getElem?_map, List.getElem?_eq_getElem (by rw [mem_row hm ht]; exact hj)]
  unfold wd
  rw [getD_lt (by rw [mem_row hm ht]; exact hj)]
  rfl
theorem cnt1_le {row : List Int} (h4 : row.length = 4) (f : Nat) : cnt1 row f ≤ 4 := by
  unfold cnt1
  exact Nat.le_trans List.count_le_length (by rw [← h4]; exact named_len row)
theorem cntN_le4 {xss : List (List Int)} {ys : List IV} (hm : memOk xss = true) (f : Nat) : ∀ n, n ≤ 12 → cntN xss ys f n ≤ 4 * n
  | 0, _ => by simp [cntN]
  | n + 1, h => by
    have := cntN_le4 (ys := ys) hm f n (by omega)
    have := cnt1_le (mem_row hm (show n < 12 by omega)) f
    unfold cntN
    split <;> omega
def cu (xss : List (List Int)) (ys : List IV) (t : Nat) : Nat → Int := fun f => (cntN xss ys f t : Int)
theorem cu_yes {xss : List (List Int)} {ys : List IV} {t : Nat} (h : isTab (ys.getD t iz).k = true) (f : Nat) : cu xss ys (t + 1) f = cu xss ys t f + (cnt1 (xss.getD t []) f : Int) := by
  show ((cntN xss ys f t + (if isTab (ys.getD t iz).k = true then cnt1 (xss.getD t []) f else 0) : Nat) : Int) = (cntN xss ys f t : Int) + _
  rw [if_pos h]; omega
theorem cu_no {xss : List (List Int)} {ys : List IV} {t : Nat} (h : isTab (ys.getD t iz).k = false) (f : Nat) : cu xss ys (t + 1) f = cu xss ys t f := by
  show ((cntN xss ys f t + (if isTab (ys.getD t iz).k = true then cnt1 (xss.getD t []) f else 0) : Nat) : Int) = (cntN xss ys f t : Int)
  rw [if_neg (by rw [h]; simp)]; omega
theorem VarL.chg {w W W2 : World} {B lo hi : Nat} {L : List Value} (h : VarL w B L W) (c : Chg lo hi W W2) (hlo : w.heap.size ≤ lo) (hB : B < lo ∨ hi ≤ B) : VarL w B L W2 := by
  have e := c.block B h.hi hB
  exact ⟨Below.chg h.bel c h.bel.size (.inl hlo), h.lo, Nat.lt_of_lt_of_le h.hi c.size, range_blocks h.at0 e, there_blocks h.th e⟩
def ArrU (u : Nat → Int) (w : World) (e : Ending) (w' : World) : Prop := e = .returned (.agg (uC u).toArray) ∧ Below w.heap.size w w'
set_option maxRecDepth 100000 in
set_option maxHeartbeats 4000000 in
theorem count_any (w : World) (xss : List (List Int)) (ys : List IV) (hm : memOk xss = true) (hi : isok ys = true) :
    Calls Tryz.prog 50 #[.agg (tC xss ys).toArray] w (ArrU (cu xss ys 12) w) := by
  have hz := isok_len hi
  have ZU := Lib.hid zero_uses
  have HT : Hid ((tC xss ys).length = 84) := Lib.hid (tC_len xss hz)
  have HB : Hid ((isC ys).length = 36) := Lib.hid (isC_36 hz)
  have HTI : Hid (∀ (W : World) b, W.rangeAt b 0 (tC xss ys) → W.rangeAt b 48 (isC ys)) := Lib.hid (fun W b h => range_right h (by rw [mC_len]))
  have HTR : Hid (∀ (W : World) X t, t < 12 → W.rangeAt X 0 (tC xss ys) → W.rangeAt X (t * 4) ((xss.getD t []).map (Value.int .i64))) := Lib.hid (fun W X t ht h => row_range hm h ht)
  have HR4 : Hid (∀ t, t < 12 → (xss.getD t []).length = 4 ∧ ∀ i, i < 4 → 0 ≤ (xss.getD t []).getD i 0 ∧ (xss.getD t []).getD i 0 ≤ 9999) := Lib.hid (fun t ht => ⟨mem_row hm ht, fun i hi => mem_word hm ht hi⟩)
  have HCB : Hid (∀ t, t ≤ 12 → ∀ i, i < 12 → 0 ≤ cu xss ys t i ∧ cu xss ys t i ≤ 90000) := Lib.hid (fun t ht i _ => by
    have := cntN_le4 (ys := ys) hm i t ht
    show 0 ≤ (cntN xss ys i t : Int) ∧ (cntN xss ys i t : Int) ≤ 90000
    omega)
  have HXI : Hid (∀ k : Nat, k < 12 → ∀ W, (Instr.index 60 (.agg (isC ys).toArray) (.int .i64 k)).run Tryz.prog W = .ok (ivV (ys.getD k iz)) W) := Lib.hid (fun k hk W => index_infos ys hz hk W)
  obtain ⟨T, hT⟩ : ∃ T, T = tC xss ys := ⟨_, rfl⟩
  obtain ⟨B, hB⟩ : ∃ B, B = isC ys := ⟨_, rfl⟩
  rw [← hT] at HT HTI HTR ⊢
  rw [← hB] at HB HTI HXI
  have ZC : Hid (∀ w : World, w.rangeAt 0 0 [] → True) := Lib.hid (fun _ _ => trivial)
  obtain ⟨zu, hzu⟩ : ∃ z, z = uC (fun _ => 0) := ⟨_, rfl⟩
  have HZU := Lib.hid hzu
  rw [← hzu] at ZU
  have HZL : Hid (zu.length = 12) := Lib.hid (by rw [hzu]; exact uC_len _)
  obtain ⟨X, hX⟩ : ∃ X, X = w.heap.size := ⟨_, rfl⟩
  have h1 := VarL.new T 96 (Below.refl w.heap.size w)
  have h2 := VarL.new zu 114 h1.bel
  have h3 := VarL.new zu 114 h2.bel
  have HV0 := Lib.hid ((h1.after ((Below.refl _ _).alloc (Nat.le_refl _) (.cells zu.toArray 114))).after ((Below.refl _ _).alloc (Nat.le_refl _) (.cells zu.toArray 114)))
  have HV1 := Lib.hid (h2.after ((Below.refl _ _).alloc (Nat.le_refl _) (.cells zu.toArray 114)))
  have HV2 := Lib.hid h3
  clear h1 h2 h3 hT hB hzu ZC
  have HIT := Lib.hid (fun w k => isTable_any w k)
  obtain ⟨R, hR⟩ : ∃ R, R = ArrU (cu xss ys 12) w := ⟨_, rfl⟩
  have HRR : Hid (∀ w', Below w.heap.size w w' → R (.returned (.agg (uC (cu xss ys 12)).toArray)) w') := Lib.hid (fun w' h => by rw [hR]; exact ⟨rfl, h⟩)
  rw [← hR]
  clear hR hm hi hz
  go_enter Tryz.func50, Tryz.ntmps50
  obtain ⟨w0, hw0⟩ : ∃ w0, w0 = ((w.alloc (.cells T.toArray 96)).alloc (.cells zu.toArray 114)).alloc (.cells zu.toArray 114) := ⟨_, rfl⟩
  rw [← hw0] at HV0 HV1 HV2
  rw [World.size_alloc] at HV1
  rw [World.size_alloc, World.size_alloc] at HV2
  rw [← hX] at HV0 HV1 HV2
  have HXE := Lib.hid hX
  have HW0 := Lib.hid hw0
  clear hw0 hX
  go_wp2_with (first | ((with_reducible refine box_is 96 (.tmp 0) ?_); refine box_arr 96 (.tmp 0) T.toArray rfl ?_) | ((with_reducible refine alloc_is 114 ?_); refine alloc_arr 114 zu.toArray ZU.out ?_) | ((with_reducible refine load_is 60 (.tmp 6) ?_); refine load_arr 60 (.tmp 6) w.heap.size 48 B _ rfl (by rw [← HW0.out, ← HXE.out]; exact HTI.out _ _ HV0.out.at0) Tryz.underlying60 rfl (info_infos HB.out) ?_) | fail)
  rw [← HW0.out, ← HXE.out]
  have HU0 : Hid (Us w0 (X + 1 + 1) (cu xss ys 0)) := Lib.hid (Us.of_range (by have := HV2.out.at0; rw [HZU.out] at this; exact this) (by have := HV2.out.th; rwa [HZL.out] at this))
  go_loopw [8] (fun i wr => ∃ t : Nat, t ≤ 12 ∧ i = .int .i64 t ∧ Hid (Us wr (X + 1 + 1) (cu xss ys t)) ∧ Hid (Chg (X + 1 + 1) (X + 1 + 1 + 1) w0 wr)) (fun i _ => 12 - (intOf i).toNat)
  case atStart => exact ⟨0, Nat.zero_le _, rfl, HU0, Lib.hid (Chg.of_bel (Below.refl _ _))⟩
  case round =>
    obtain ⟨t, ht, rfl, HUW, HCW⟩ := hrel
    have HVW := Lib.hid (HV0.out.chg HCW.out (by rw [HXE.out]; omega) (.inl (by omega)))
    by_cases hlt : t < 12
    · have hlt' : (t : Int) < 12 := by omega
      have hlt0 : (0 : Int) ≤ (t : Int) := by omega
      have HIX' := HXI.out t hlt
      have HXM := run_indexAt_arr (P := Tryz.prog) 56 12 54 4 Tryz.underlying56 size_words (by omega) X t hlt
      obtain ⟨y, hy⟩ : ∃ y, y = ys.getD t iz := ⟨_, rfl⟩
      rw [← hy] at HIX'
      have HY := Lib.hid hy
      obtain ⟨r, hr⟩ : ∃ r, r = isTab y.k := ⟨_, rfl⟩
      have HIT' : Hid (∀ w, Calls Tryz.prog 57 #[.int .i64 y.k] w (Says r w)) := Lib.hid (fun w => by rw [hr]; exact HIT.out w y.k)
      have HRE := Lib.hid hr
      have HAB : Hid (∀ o, Below wr.heap.size wr (wr.alloc o)) := Lib.hid (fun o => (Below.refl _ _).alloc (Nat.le_refl _) _)
      clear hy hr
      go_wp2_with fail
      refine (HIT'.out _).mono ?_
      rintro e w' ⟨rfl, rfl⟩
      obtain ⟨w1, hw1⟩ : ∃ w1, w1 = wr.alloc (.cells #[.int .i64 y.k, .string ⟨y.g.toArray⟩, .int .i64 y.r] 58) := ⟨_, rfl⟩
      have HB1 : Hid (Below wr.heap.size wr w1) := Lib.hid (by rw [hw1]; exact HAB.out _)
      rw [← hw1]
      clear hw1 HAB HIT'
      have HVX := Lib.hid (HVW.out.after HB1.out)
      have HUX := Lib.hid (HUW.out.block (HB1.out.block _ HUW.out.lt))
      have HCX := Lib.hid (HCW.out.trans (Chg.of_bel HB1.out))
      cases r with
      | true =>
        have HRW := Lib.hid (HTR.out w1 X t hlt HVX.out.at0)
        have HWC := Lib.hid (wordsCount_any w1 (X + 1 + 1) _ (xss.getD t []) (HR4.out t hlt).1 (HR4.out t hlt).2 HUX.out (HCB.out t (by omega)))
        have HNX : Hid (∀ w', Us w' (X + 1 + 1) (fun i => cu xss ys t i + (cnt1 (xss.getD t []) i : Int)) → Us w' (X + 1 + 1) (cu xss ys (t + 1))) := Lib.hid (fun w' hh => hh.ext (fun j hj => cu_yes (by rw [← HY.out]; exact HRE.out.symm) j))
        unfold rowC at HWC
        have HLW : Hid (((xss.getD t []).map (Value.int .i64)).length = 4) := Lib.hid (by rw [List.length_map]; exact (HR4.out t hlt).1)
        obtain ⟨M, hM⟩ : ∃ M, M = (xss.getD t []).map (Value.int .i64) := ⟨_, rfl⟩
        rw [← hM] at HRW HWC HLW
        have HIW : Hid ((Tryz.prog.info? 54).map (·.size) = some M.length) := Lib.hid (by rw [HLW.out]; exact info_words)
        clear hM
        go_wp2_with (first | ((with_reducible refine load_is 54 (.tmp 17) ?_); refine load_arr 54 (.tmp 17) X (t * 4) M _ rfl HRW.out Tryz.underlying54 rfl HIW.out ?_) | fail)
        refine HWC.out.mono ?_
        rintro e w5 ⟨rfl, hu5, hc5⟩
        have HU5 := Lib.hid (HNX.out w5 hu5)
        have HC5 := Lib.hid (HCX.out.trans hc5)
        clear hu5 hc5
        go_wp2_with fail
        go_roundw
        case rel => exact ⟨t + 1, by omega, by go_num, HU5, HC5⟩
        case measure => simp [intOf]; omega
      | false =>
        have HU5 : Hid (Us w1 (X + 1 + 1) (cu xss ys (t + 1))) := Lib.hid (HUX.out.ext (fun j hj => cu_no (by rw [← HY.out]; exact HRE.out.symm) j))
        go_wp2_with fail
        go_roundw
        case rel => exact ⟨t + 1, by omega, by go_num, HU5, HCX⟩
        case measure => simp [intOf]; omega
    · have e : t = 12 := by omega
      subst e
      have HW1 := Lib.hid (HV1.out.chg HCW.out (by rw [HXE.out]; omega) (.inl (by omega)))
      have HUR := Lib.hid HUW.out.range
      have HUL : Hid ((uC (cu xss ys 12)).length = 12) := Lib.hid (uC_len _)
      have HUO : Hid ((uC (cu xss ys 12)).toArray.all (·.oneCell') = true) := Lib.hid (uC_one _)
      obtain ⟨U, hU⟩ : ∃ U, U = uC (cu xss ys 12) := ⟨_, rfl⟩
      rw [← hU] at HUR HUL HUO HRR
      have HW2 := Lib.hid (HW1.out.set (M := U) (by rw [HUL.out, HZL.out]))
      have HTH : Hid (wr.there (X + 1) 0 U.toArray.size) := Lib.hid (by rw [List.size_toArray, HUL.out, ← HZL.out]; exact HW1.out.th)
      have HUZ : Hid (U.toArray.size = 12) := Lib.hid (by rw [List.size_toArray, HUL.out])
      obtain ⟨w5, hw5⟩ : ∃ w5, w5 = wr.setCells (X + 1) 0 U := ⟨_, rfl⟩
      rw [← hw5] at HW2
      have HW5 := Lib.hid hw5
      clear hU hw5
      go_wp2_with (first | ((with_reducible refine load_is 114 (.tmp 3) ?_); refine load_arr 114 (.tmp 3) (X + 1 + 1) 0 U _ rfl HUR.out Tryz.underlying114 rfl (info_uses HUL.out) ?_) | ((with_reducible refine store_is 114 (.tmp 2) (.tmp 21) ?_); refine store_arr 114 (.tmp 2) (.tmp 21) (X + 1) 0 U.toArray rfl rfl HTH.out (info_uses HUZ.out) HUO.out ?_; rw [show U.toArray.toList = U from rfl, ← HW5.out]) | fail)
      refine bodyPost_ret (results_one_mid rfl _ _ (X + 1) 0 U _ rfl HW2.out.at0 Tryz.underlying114 rfl (info_uses HUL.out)) rfl ?_
      exact HRR.out _ HW2.out.bel
end Go.Proofs.YthfdkenidfnmgaaGreat
namespace Go.Proofs.YthfdkenidfnmgaaGreat
open Go.ChangeShapes Go.WideShapes Go.ChangeAt Go.RowKit
set_option linter.unusedVariables false
set_option maxRecDepth 100000
set_option linter.unusedSimpArgs false
theorem VarL.one {w W : World} {B C : Nat} {L : List Value} (h : VarL w B L W) (hc : w.heap.size ≤ C) (hne : B ≠ C) (o : Nat) (v : Value) : VarL w B L (W.setCell ⟨C, o, none⟩ v) := h.other hc hne o [v]
end Go.Proofs.YthfdkenidfnmgaaGreat
namespace Go.Proofs.YthfdkenidfnmgaaGreat
open Go.ChangeShapes Go.WideShapes Go.ChangeAt Go.RowKit Go.Maps
set_option linter.unusedVariables false
set_option maxRecDepth 100000
set_option linter.unusedSimpArgs false
theorem rall_good {xss : List (List Int)} {ys : List IV} {n : Nat} {k : Int} {rs : List Bs} (hk : isTab k = true) : rall ys (n : Int) (tneeds k) (xss.getD n []) rs = tgood xss ys (n : Int) k rs := by
  unfold rall tgood
  congr 1
  funext i
  unfold rwd tent rfr
  rw [Int.toNat_natCast]
  show (if goodB (wd xss n i) then _ else _) = _
  have e : tneeds k = k - 1 := by unfold tneeds; rw [if_pos hk]
  by_cases hg : goodB (wd xss n i)
  · rw [if_pos hg, if_pos hg, e]
    have h := good_frame hg
    show (!decide (((fr (wd xss n i) : Nat) : Int) = (n : Int)) && _) = _
    rw [show ((fr (wd xss n i) : Nat) : Int) = wd xss n i / 4 by unfold fr; omega]
    rfl
  · rw [if_neg hg, if_neg hg]; rfl
end Go.Proofs.YthfdkenidfnmgaaGreat
namespace Go.Proofs.YthfdkenidfnmgaaGreat
open Go.Shelf
def laySort_ren : Go.Shelf.Ren := ⟨fun | 189 => 118 | 125 => 97 | 257 => 125 | 128 => 114 | 129 => 115 | 294 => 127 | 295 => 128 | 296 => 129 | 297 => 130 | 298 => 131 | 299 => 132 | 216 => 133 | 300 => 134 | 301 => 135 | 328 => 136 | 329 => 120 | 330 => 121 | 331 => 137 | 332 => 138 | 215 => 139 | 343 => 140 | n => n,
  fun | 28 => 92 | 3 => 3 | 46 => 168 | 0 => 0 | 51 => 178 | 53 => 180 | 4 => 4 | 183 => 171 | 182 => 170 | 131 => 142 | 5 => 5 | 9 => 9 | 218 => 182 | 222 => 186 | 228 => 189 | 229 => 190 | n => n,
  fun n => n⟩
theorem laySort : Lays.n189 Tryz.prog laySort_ren := {
  mixed := by kernel_rfl,
  f125 := Tryz.func97.trans (congrArg some (by kernel_rfl)),
  f128 := Tryz.func114.trans (congrArg some (by kernel_rfl)),
  f129 := Tryz.func115.trans (congrArg some (by kernel_rfl)),
  f189 := Tryz.func118.trans (congrArg some (by kernel_rfl)),
  f215 := Tryz.func139.trans (congrArg some (by kernel_rfl)),
  f216 := Tryz.func133.trans (congrArg some (by kernel_rfl)),
  f257 := Tryz.func125.trans (congrArg some (by kernel_rfl)),
  f294 := Tryz.func127.trans (congrArg some (by kernel_rfl)),
  f295 := Tryz.func128.trans (congrArg some (by kernel_rfl)),
  f296 := Tryz.func129.trans (congrArg some (by kernel_rfl)),
  f297 := Tryz.func130.trans (congrArg some (by kernel_rfl)),
  f298 := Tryz.func131.trans (congrArg some (by kernel_rfl)),
  f299 := Tryz.func132.trans (congrArg some (by kernel_rfl)),
  f300 := Tryz.func134.trans (congrArg some (by kernel_rfl)),
  f301 := Tryz.func135.trans (congrArg some (by kernel_rfl)),
  f328 := Tryz.func136.trans (congrArg some (by kernel_rfl)),
  f329 := Tryz.func120.trans (congrArg some (by kernel_rfl)),
  f330 := Tryz.func121.trans (congrArg some (by kernel_rfl)),
  f331 := Tryz.func137.trans (congrArg some (by kernel_rfl)),
  f332 := Tryz.func138.trans (congrArg some (by kernel_rfl)),
  f343 := Tryz.func140.trans (congrArg some (by kernel_rfl)),
  t0 := Tryz.underlying0,
  a0 := Tryz.isAgg0,
  z0 := Tryz.sizeOf0,
  v0 := Tryz.zeroValue0,
  t3 := Tryz.underlying3,
  a3 := Tryz.isAgg3,
  z3 := Tryz.sizeOf3,
  v3 := Tryz.zeroValue3,
  t4 := Tryz.underlying4,
  a4 := Tryz.isAgg4,
  z4 := Tryz.sizeOf4,
  v4 := Tryz.zeroValue4,
  t5 := Tryz.underlying5,
  a5 := Tryz.isAgg5,
  z5 := Tryz.sizeOf5,
  v5 := Tryz.zeroValue5,
  t9 := Tryz.underlying9,
  a9 := Tryz.isAgg9,
  z9 := Tryz.sizeOf9,
  v9 := Tryz.zeroValue9,
  t28 := Tryz.underlying92,
  a28 := Tryz.isAgg92,
  z28 := Tryz.sizeOf92,
  v28 := Tryz.zeroValue92,
  t46 := Tryz.underlying168,
  a46 := Tryz.isAgg168,
  z46 := Tryz.sizeOf168,
  v46 := Tryz.zeroValue168,
  t51 := Tryz.underlying178,
  a51 := Tryz.isAgg178,
  z51 := Tryz.sizeOf178,
  v51 := Tryz.zeroValue178,
  t53 := Tryz.underlying180,
  a53 := Tryz.isAgg180,
  z53 := Tryz.sizeOf180,
  v53 := Tryz.zeroValue180,
  t131 := Tryz.underlying142,
  a131 := Tryz.isAgg142,
  z131 := Tryz.sizeOf142,
  v131 := Tryz.zeroValue142,
  t182 := Tryz.underlying170,
  a182 := Tryz.isAgg170,
  z182 := Tryz.sizeOf170,
  v182 := Tryz.zeroValue170,
  t183 := Tryz.underlying171,
  a183 := Tryz.isAgg171,
  z183 := Tryz.sizeOf171,
  v183 := Tryz.zeroValue171,
  t218 := Tryz.underlying182,
  a218 := Tryz.isAgg182,
  z218 := Tryz.sizeOf182,
  v218 := Tryz.zeroValue182,
  t222 := Tryz.underlying186,
  a222 := Tryz.isAgg186,
  z222 := Tryz.sizeOf186,
  v222 := Tryz.zeroValue186,
  t228 := Tryz.underlying189,
  a228 := Tryz.isAgg189,
  z228 := Tryz.sizeOf189,
  v228 := Tryz.zeroValue189,
  t229 := Tryz.underlying190,
  a229 := Tryz.isAgg190,
  z229 := Tryz.sizeOf190,
  v229 := Tryz.zeroValue190 }
def layCompact_ren : Go.Shelf.Ren := ⟨fun | 20 => 101 | n => n,
  fun | 22 => 92 | 3 => 3 | 4 => 4 | 0 => 0 | n => n,
  fun n => n⟩
theorem layCompact : Lays2.n20 Tryz.prog layCompact_ren := {
  mixed := by kernel_rfl,
  f20 := Tryz.func101.trans (congrArg some (by kernel_rfl)),
  t0 := Tryz.underlying0,
  a0 := Tryz.isAgg0,
  z0 := Tryz.sizeOf0,
  v0 := Tryz.zeroValue0,
  t3 := Tryz.underlying3,
  a3 := Tryz.isAgg3,
  z3 := Tryz.sizeOf3,
  v3 := Tryz.zeroValue3,
  t4 := Tryz.underlying4,
  a4 := Tryz.isAgg4,
  z4 := Tryz.sizeOf4,
  v4 := Tryz.zeroValue4,
  t22 := Tryz.underlying92,
  a22 := Tryz.isAgg92,
  z22 := Tryz.sizeOf92,
  v22 := Tryz.zeroValue92,
  i3 := by kernel_rfl }
end Go.Proofs.YthfdkenidfnmgaaGreat
namespace Go.Proofs.YthfdkenidfnmgaaGreat
open Go.ChangeShapes Go.WideShapes Go.ChangeAt Go.RowKit Go.Shelf
set_option linter.unusedVariables false
set_option maxRecDepth 100000
theorem asc_same : ∀ {a b : List Int}, a.Pairwise (· < ·) → b.Pairwise (· < ·) → (∀ x, x ∈ a ↔ x ∈ b) → a = b
  | [], [], _, _, _ => rfl
  | [], y :: b, _, _, h => by have := (h y).2 (List.mem_cons_self ..); cases this
  | x :: a, [], _, _, h => by have := (h x).1 (List.mem_cons_self ..); cases this
  | x :: a, y :: b, ha, hb, h => by
    obtain ⟨ha1, ha2⟩ := List.pairwise_cons.1 ha
    obtain ⟨hb1, hb2⟩ := List.pairwise_cons.1 hb
    have e : x = y := by
      rcases List.mem_cons.1 ((h x).1 (List.mem_cons_self ..)) with e | e
      · exact e
      · rcases List.mem_cons.1 ((h y).2 (List.mem_cons_self ..)) with e' | e'
        · exact e'.symm
        · have := ha1 _ e'
          have := hb1 _ e
          omega
    subst e
    refine congrArg _ (asc_same ha2 hb2 (fun z => ?_))
    constructor
    · intro hz
      rcases List.mem_cons.1 ((h z).1 (List.mem_cons_of_mem _ hz)) with e | e
      · have := ha1 _ hz
        omega
      · exact e
    · intro hz
      rcases List.mem_cons.1 ((h z).2 (List.mem_cons_of_mem _ hz)) with e | e
      · have := hb1 _ hz
        omega
      · exact e
theorem srt_lt (l : List Int) (k : Nat) : (srt l k).Pairwise (· < ·) := by
  unfold srt
  rw [List.pairwise_map]
  exact (List.pairwise_lt_range.filter _).imp (fun h => by omega)
theorem upTo_asc (zs : List Int) (hs : zs.Pairwise (· ≤ ·)) : ∀ m, m ≤ zs.length → (Lib.compactUpTo zs.toArray m).Pairwise (· < ·) ∧ (∀ x, x ∈ Lib.compactUpTo zs.toArray m ↔ ∃ j, j < m ∧ zs.toArray[j]! = x) := by
  intro m
  induction m with
  | zero =>
    intro _
    refine ⟨by simp [Lib.compactUpTo], fun x => ?_⟩
    constructor
    · intro h
      simp [Lib.compactUpTo] at h
    · rintro ⟨j, hj, _⟩
      omega
  | succ m ih =>
    intro hm
    obtain ⟨h1, h2⟩ := ih (by omega)
    have hmono : ∀ i j, i < j → j < zs.length → zs.toArray[i]! ≤ zs.toArray[j]! := by
      intro i j hij hj
      have := List.pairwise_iff_getElem.1 hs i j (by omega) hj hij
      simpa [getElem!_pos, hj, show i < zs.length by omega] using this
    rw [Lib.compactUpTo_succ]
    by_cases hk : Lib.keeps zs.toArray m = true
    · rw [if_pos hk]
      refine ⟨?_, fun x => ?_⟩
      · rw [List.pairwise_append]
        refine ⟨h1, List.pairwise_singleton _ _, fun x hx y hy => ?_⟩
        rw [List.mem_singleton] at hy
        subst hy
        obtain ⟨j, hj, rfl⟩ := (h2 x).1 hx
        unfold Lib.keeps at hk
        have hk := of_decide_eq_true hk
        have h3 := hmono j m hj (by omega)
        have h4 : j ≤ m - 1 := by omega
        have h5 : zs.toArray[j]! ≤ zs.toArray[m - 1]! := by
          by_cases e : j = m - 1
          · rw [e]; exact Int.le_refl _
          · exact hmono j (m - 1) (by omega) (by omega)
        have h6 := hmono (m - 1) m (by omega) (by omega)
        rcases hk with hk | hk
        · omega
        · omega
      · rw [List.mem_append, List.mem_singleton, h2 x]
        constructor
        · rintro (⟨j, hj, e⟩ | e)
          · exact ⟨j, by omega, e⟩
          · exact ⟨m, by omega, e.symm⟩
        · rintro ⟨j, hj, e⟩
          by_cases hjm : j = m
          · exact .inr (by rw [← e, hjm])
          · exact .inl ⟨j, by omega, e⟩
    · rw [if_neg hk, List.append_nil]
      refine ⟨h1, fun x => ?_⟩
      rw [h2 x]
      constructor
      · rintro ⟨j, hj, e⟩
        exact ⟨j, by omega, e⟩
      · rintro ⟨j, hj, e⟩
        by_cases hjm : j = m
        · subst hjm
          have hk' : ¬ (j = 0 ∨ zs.toArray[j]! ≠ zs.toArray[j - 1]!) := fun hh => hk (by unfold Lib.keeps; exact decide_eq_true hh)
          have h0 : j ≠ 0 := fun e => hk' (.inl e)
          have h1 : zs.toArray[j]! = zs.toArray[j - 1]! := by
            by_cases e : zs.toArray[j]! = zs.toArray[j - 1]!
            · exact e
            · exact absurd (.inr e) hk'
          exact ⟨j - 1, by omega, by rw [← e, h1]⟩
        · exact ⟨j, by omega, e⟩
theorem arr_get (zs : List Int) {j : Nat} (hj : j < zs.length) : zs.toArray[j]! = zs[j] := by simp [hj]
theorem compact_srt (l : List Int) (h : ∀ x ∈ l, 0 ≤ x ∧ x < 12) : Lib.compact (l.mergeSort fun x y => decide (x ≤ y)) = srt l 12 := by
  have hs : (l.mergeSort fun x y => decide (x ≤ y)).Pairwise (· ≤ ·) := by
    have := List.pairwise_mergeSort (le := fun x y : Int => decide (x ≤ y)) (by intro a b c; simp; omega) (by intro a b; simp; omega) l
    exact this.imp (fun h => by simpa using h)
  obtain ⟨h1, h2⟩ := upTo_asc _ hs _ (Nat.le_refl _)
  refine asc_same h1 (srt_lt l 12) (fun x => ?_)
  unfold Lib.compact
  rw [h2 x]
  have hm : (∃ j, j < (l.mergeSort fun x y => decide (x ≤ y)).length ∧ (l.mergeSort fun x y => decide (x ≤ y)).toArray[j]! = x) ↔ x ∈ l := by
    rw [← List.mem_mergeSort (le := fun x y : Int => decide (x ≤ y)), List.mem_iff_getElem]
    constructor
    · rintro ⟨j, hj, e⟩
      exact ⟨j, hj, by rw [← e]; exact (arr_get _ hj).symm⟩
    · rintro ⟨j, hj, e⟩
      exact ⟨j, hj, by rw [← e]; exact arr_get _ hj⟩
  rw [hm]
  constructor
  · intro hx
    exact mem_srt (h x hx).1 (h x hx).2 hx
  · intro hx
    exact (srt_mem hx).2.2
theorem below_put {n0 b off q : Nat} {w : World} {d : Array Int} {os : Array Obj} (h : n0 ≤ b) (hb : b < w.heap.size) : Below n0 w (Sort.grow (Sort.putRow (Value.int .i64) (Sort.ahead w q) b off d) os) :=
  ⟨rfl, rfl, rfl, by simp [Sort.grow, Sort.putRow, Sort.mapBlock, Sort.ahead], fun k hk => by
    show ((w.heap.modify b _) ++ os)[k]? = _
    rw [Array.getElem?_append_left (by simp; omega), Array.getElem?_modify, if_neg (by omega)]⟩
theorem IntsW.holds {w : World} {B0 B1 g p cap n : Nat} {xs : List Int} (h : IntsW w B0 B1 (.slice (some ⟨g, p, none⟩) n cap) xs) : Sort.Holds (Value.int .i64) w g p xs.toArray := by
  obtain ⟨a, c, e, h1, h2, h3⟩ := h
  intro j hj
  have hj' : j < xs.length := by simpa using hj
  obtain ⟨g', p', e', _, _, hc, hf⟩ := h3 j hj'
  injection e with e1 _ _
  subst e1
  injection e' with e'
  injection e' with e1 e2
  subst e1
  subst e2
  refine ⟨?_, hf⟩
  rw [hc, getD_lt hj']
  simp [getElem!_pos, hj']
theorem intsW_put {w : World} {B0 B1 g p cap q n : Nat} {xs ys zs : List Int} {os : Array Obj} (h : IntsW w B0 B1 (.slice (some ⟨g, p, none⟩) n cap) xs) (hn : n = xs.length) (hg0 : B0 ≤ g) (hg1 : g < w.heap.size) (hy : (ys ++ zs).length = xs.length) :
    IntsW (Sort.grow (Sort.putRow (Value.int .i64) (Sort.ahead w q) g p (ys ++ zs).toArray) os) B0 (Sort.grow (Sort.putRow (Value.int .i64) (Sort.ahead w q) g p (ys ++ zs).toArray) os).heap.size (.slice (some ⟨g, p, none⟩) ys.length cap) ys := by
  have hH := h.holds
  obtain ⟨a, c, e, h1, h2, h3⟩ := h
  injection e with e1 e2 e3
  subst e3
  rw [List.length_append] at hy
  refine ⟨some ⟨g, p, none⟩, cap, rfl, by omega, h2, fun i hi => ⟨g, p, rfl, hg0, by simp; omega, ?_, ?_⟩⟩
  · have h4 := Sort.cell?_putRow (Value.int .i64) (Sort.ahead w q) g p xs.toArray (ys ++ zs).toArray (Sort.holds_ahead _ _ _ _ _ _ hH) (by simp; omega) i (by simp; omega)
    have h5 : (ys ++ zs).toArray[i]! = ys.getD i 0 := by
      rw [getD_lt hi]
      simp [getElem!_pos, hi, List.getElem_append_left, show i < ys.length + zs.length by omega]
    rw [h5] at h4
    rw [Sort.cell?_grow _ os _ (World.block_lt_of_cell? _ _ h4)]
    exact h4
  · have hb : (Sort.grow (Sort.putRow (Value.int .i64) (Sort.ahead w q) g p (ys ++ zs).toArray) os).heap[g]? = (Sort.putRow (Value.int .i64) (Sort.ahead w q) g p (ys ++ zs).toArray).heap[g]? := Sort.heap_grow_old _ os (by simp; omega)
    rw [World.frozen?_of_block hb, Sort.frozen?_putRow]
    exact (hH i (by simp; omega)).2
theorem sort_any (w : World) (B0 : Nat) (v : Value) (xs : List Int) (h : IntsW w B0 w.heap.size v xs) (hl : xs.length ≤ 1000) (hB : B0 ≤ w.heap.size) :
    Calls Tryz.prog 118 #[v] w fun e w' => e = .returned (.tuple #[]) ∧ IntsW w' B0 w'.heap.size v (xs.mergeSort fun x y => decide (x ≤ y)) ∧ Below B0 w w' := by
  have h0 := h
  obtain ⟨a, cap, rfl, h1, h2, h3⟩ := h
  by_cases hx : xs = []
  · subst hx
    refine (Any.slices_Sort_int_none laySort a cap w).mono ?_
    rintro e w' ⟨rfl, rfl⟩
    exact ⟨rfl, by simpa [List.mergeSort] using h0, Below.refl _ _⟩
  · have hx0 : 0 < xs.length := by
      cases xs with
      | nil => exact absurd rfl hx
      | cons x xs => simp
    obtain ⟨g, p, rfl, hg0, hg1, _⟩ := h3 0 hx0
    refine (Any.slices_Sort_int laySort g p cap xs w h0.holds hg1 (by omega)).mono ?_
    rintro e w' ⟨rfl, q, os, rfl⟩
    refine ⟨rfl, ?_, below_put hg0 hg1⟩
    have h4 := intsW_put (q := q) (ys := xs.mergeSort fun x y => decide (x ≤ y)) (zs := []) (os := os) h0 rfl hg0 hg1 (by simp)
    simpa using h4
theorem compact_any (w : World) (B0 : Nat) (v : Value) (xs : List Int) (h : IntsW w B0 w.heap.size v xs) (hl : xs.length ≤ 1000) (hB : B0 ≤ w.heap.size) :
    Calls Tryz.prog 101 #[v] w fun e w' => ∃ v', e = .returned v' ∧ IntsW w' B0 w'.heap.size v' (Lib.compact xs) ∧ Below B0 w w' := by
  have h0 := h
  obtain ⟨a, cap, rfl, h1, h2, h3⟩ := h
  by_cases hx : xs = []
  · subst hx
    refine (Any.slices_Compact_int_empty layCompact a cap w).mono ?_
    rintro e w' ⟨rfl, rfl⟩
    exact ⟨_, rfl, h0, Below.refl _ _⟩
  · have hx0 : 0 < xs.length := by
      cases xs with
      | nil => exact absurd rfl hx
      | cons x xs => simp
    obtain ⟨g, p, rfl, hg0, hg1, _⟩ := h3 0 hx0
    refine (Any.slices_Compact_int layCompact g p cap xs w h0.holds (by omega) h1).mono ?_
    rintro e w' ⟨rfl, q, rfl⟩
    have hlen : (Lib.compact xs).length ≤ xs.length := by
      unfold Lib.compact Lib.compactUpTo
      rw [List.length_map]
      exact Nat.le_trans (List.length_filter_le _ _) (by simp)
    refine ⟨_, rfl, ?_, ?_⟩
    · have h4 := intsW_put (q := q) (ys := Lib.compact xs) (zs := List.replicate (xs.length - (Lib.compact xs).length) 0) (os := #[]) h0 rfl hg0 hg1 (by simp; omega)
      rwa [Sort.grow_empty] at h4
    · have h5 := below_put (q := q) (off := p) (d := (Lib.compact xs ++ List.replicate (xs.length - (Lib.compact xs).length) 0).toArray) (os := #[]) hg0 hg1
      rwa [Sort.grow_empty] at h5
end Go.Proofs.YthfdkenidfnmgaaGreat
namespace Go.Proofs.YthfdkenidfnmgaaGreat
open Go.ChangeShapes Go.WideShapes Go.ChangeAt Go.RowKit Go.Shelf
set_option linter.unusedVariables false
set_option maxRecDepth 100000
attribute [local go_sem] Oper.semAt_some
theorem names_yes (w : World) (x : Int) (h : goodB x) : Calls Tryz.prog 99 #[.int .i64 x] w fun e w' => e = .returned (.bool true) ∧ w = w' := by
  obtain ⟨h0, h1, h2⟩ := h
  have hc : x % 4 = 1 ∨ x % 4 = 3 := by omega
  have h3 : 0 ≤ x := by omega
  have h4 : x / 4 < 12 := by omega
  clear h1
  rcases hc with hc | hc
  · have e1 : (x % 4 == 1) = true := by simpa using hc
    clear hc
    go_enter Tryz.func99, Tryz.ntmps99
    go_wp2
    go_ret
    exact ⟨rfl, rfl⟩
  · have e1 : (x % 4 == 1) = false := by simp; omega
    have e3 : (x % 4 == 3) = true := by simpa using hc
    clear hc
    go_enter Tryz.func99, Tryz.ntmps99
    go_wp2
    go_ret
    exact ⟨rfl, rfl⟩
theorem names_no (w : World) (x : Int) (h : ¬ goodB x) (hb0 : 0 ≤ x) (hb1 : x ≤ 9999) : Calls Tryz.prog 99 #[.int .i64 x] w fun e w' => e = .returned (.bool false) ∧ w = w' := by
  unfold goodB at h
  by_cases h1 : x % 4 = 1
  · have h4 : decide (x / 4 < 12) = false := by simp; omega
    have e1 : (x % 4 == 1) = true := by simpa using h1
    clear h1 h
    go_enter Tryz.func99, Tryz.ntmps99
    go_wp2
    go_ret
    exact ⟨rfl, rfl⟩
  · have e1 : (x % 4 == 1) = false := by simpa using h1
    by_cases h3 : x % 4 = 3
    · have h4 : decide (x / 4 < 12) = false := by simp; omega
      have e3 : (x % 4 == 3) = true := by simpa using h3
      clear h1 h h3
      go_enter Tryz.func99, Tryz.ntmps99
      go_wp2
      go_ret
      exact ⟨rfl, rfl⟩
    · have e3 : (x % 4 == 3) = false := by simpa using h3
      clear h1 h h3
      go_enter Tryz.func99, Tryz.ntmps99
      go_wp2
      go_ret
      exact ⟨rfl, rfl⟩
theorem frame_of (w : World) (x : Int) (h : 0 ≤ x) (h1 : x ≤ 9999) : Calls Tryz.prog 92 #[.int .i64 x] w fun e w' => e = .returned (.int .i64 (x / 4)) ∧ w = w' := by
  go_enter Tryz.func92, Tryz.ntmps92
  go_wp2
  go_ret
  exact ⟨rfl, rfl⟩
def finI (l : List (Fin 12)) : List Int := l.map (fun k => (k.val : Int))
theorem finI_snoc (l : List (Fin 12)) (k : Fin 12) : finI (l ++ [k]) = finI l ++ [(k.val : Int)] := by simp [finI]
def frF {x : Int} (h : goodB x) : Fin 12 := ⟨(x / 4).toNat, by obtain ⟨_, _, _⟩ := h; omega⟩
theorem frF_val {x : Int} (h : goodB x) : ((frF h).val : Int) = x / 4 := by unfold frF; have := h.1; simp; omega
end Go.Proofs.YthfdkenidfnmgaaGreat
namespace Go.Proofs.YthfdkenidfnmgaaGreat
open Go.ChangeShapes Go.WideShapes Go.ChangeAt Go.RowKit Go.Shelf
set_option linter.unusedVariables false
set_option maxRecDepth 100000
abbrev slotAct (a : Act) (p1 p0 : Nat) (v : Value) : Act := { tmps := (a.tmps.setIfInBounds p1 v).setIfInBounds p0 v, defers := [] }
theorem range_slot {F : Fence} {n : Nat} {P : Program} {α : Type} {g : Operand} {p1 id : Nat} {body : Code} {Q : Exit → Act → World → Prop} {a : Act} {w : World} (p0 : Nat) {T : TypeId} {pos : String} {after : Array Edge}
    (hro : F.round = none) (h1 : 1 ≤ n) {gf : Nat} {lb : Array Value} (hg : a.eval g = .func (.func gf) #[] lb) (hFg : F.fn gf) (eg : ∀ args w, (callFunc gf args).run P w = .ok (.enter gf args) w)
    {enc : α → Value} {Kp : World → World → Prop} {S Sp : List α → Prop} {N : Nat} {w0 : World} (hseq : SeqStopsK F (n - 1) P gf lb (fun x => #[enc x]) Kp S Sp N w0)
    (hKr : ∀ W, Kp W W) (hKt : ∀ {A B C : World}, Kp A B → Kp B C → Kp A C) (hKb : ∀ (W : World) (l : Nat) (o o' : Obj), w.heap.size ≤ l → W.heap[l]? = some o → o.isCells = false → o.isWalk = false → Kp W (W.putObj l o')) (hb0 : Below w0.heap.size w0 w)
    (hp1 : p1 < a.tmps.size)
    (I : List α → World → Prop) (Ix : Code → List α → World → Prop) (hI : OwnFrom w.heap.size I) (hIx : ∀ c, OwnFrom w.heap.size (Ix c)) (h0 : I [] w)
    (hbody : ∀ (l : Nat) (pre : List α) (x : α) (W : World), w.heap.size ≤ l → (∃ r, W.heap[l]? = some (.loop r)) → I pre W → pre.length < N → body.wpIn (F.inRound l) (n - 1 - 1) P (ownPostG w.heap.size Kp I Ix (pre ++ [x]) W) (slotAct a p1 p0 (enc x)) W)
    (hdone : ∀ (D : Nat) (xs : List α) (W : World), w.heap.size ≤ D → S xs → I xs W → W.heap[D]? = some (.deferred (some [])) → Q .normal { a with defers := { target := .collected D, args := #[] } :: a.defers } W)
    (hstop : ∀ (D : Nat) (c : Code) (pre : List α) (W : World), w.heap.size ≤ D → Sp pre → Ix c pre W → W.heap[D]? = some (.deferred (some [])) → c.wpIn F n P Q { a with defers := { target := .collected D, args := #[] } :: a.defers } W) :
    (Code.rangeFunc g #[p1] (Code.region id #[{ dst := some p0, op := .assign (.tmp p1), type := T, pos := pos, after := after, guard := none }] false) body).wpIn F n P Q a w := by
  refine wpIn_rangeFunc_ownH hro h1 hg hFg eg hseq hKt hKb hb0 (fun _ => rfl) I Ix hI hIx h0 (fun x a' _ => a' = slotAct a p1 p0 (enc x)) (fun _ _ _ _ _ _ hs _ _ => hs) ?_ ?_ hdone hstop
  · intro l pre x W K hi hK
    refine wpIn_region_list ?_
    refine wpListIn_plain rfl fun K' hK' => ?_
    unfold Oper.wpIn
    refine ⟨by simp [Oper.about], ?_⟩
    rw [Oper.semAt_plain _ _ _ (by intro c hc; cases hc)]
    simp only [execOp]
    refine hK' _ _ (wpListIn_nil (hK _ _ (KeepsFrom.refl _ _) (hKr W) hi ?_))
    simp [slotAct, Act.put, Act.eval, Array.getD, hp1]
  · rintro l pre x a' W hl hr hi rfl hlt
    exact hbody l pre x W hl hr hi hlt
theorem range_slotN {F : Fence} {n : Nat} {P : Program} {α : Type} {g : Operand} {p1 id : Nat} {body : Code} {Q : Exit → Act → World → Prop} {a : Act} {w : World} (p0 : Nat) {T : TypeId} {pos : String} {after : Array Edge}
    {l₀ : Nat} {r₀ : Loop} (hro : F.round = some l₀) (hl₀ : w.heap[l₀]? = some (.loop r₀)) (h1 : 1 ≤ n) {gf : Nat} {lb : Array Value} (hg : a.eval g = .func (.func gf) #[] lb) (hFg : F.fn gf) (eg : ∀ args w, (callFunc gf args).run P w = .ok (.enter gf args) w)
    {enc : α → Value} {Kp : World → World → Prop} {S Sp : List α → Prop} {N : Nat} {w0 : World} (hseq : SeqStopsK F (n - 1) P gf lb (fun x => #[enc x]) Kp S Sp N w0)
    (hKr : ∀ W, Kp W W) (hKt : ∀ {A B C : World}, Kp A B → Kp B C → Kp A C) (hKb : ∀ (W : World) (l : Nat) (o o' : Obj), w.heap.size ≤ l → W.heap[l]? = some o → o.isCells = false → o.isWalk = false → Kp W (W.putObj l o')) (hb0 : Below w0.heap.size w0 w)
    (hp1 : p1 < a.tmps.size)
    (I : List α → World → Prop) (Ix : Code → List α → World → Prop) (hI : OwnFrom w.heap.size I) (hIx : ∀ c, OwnFrom w.heap.size (Ix c)) (h0 : I [] w)
    (hbody : ∀ (l : Nat) (pre : List α) (x : α) (W : World), w.heap.size ≤ l → (∃ r, W.heap[l]? = some (.loop r)) → I pre W → pre.length < N → body.wpIn (F.inRound l) (n - 1 - 1) P (ownPostG w.heap.size Kp I Ix (pre ++ [x]) W) (slotAct a p1 p0 (enc x)) W)
    (hdone : ∀ (xs : List α) (W : World), S xs → I xs W → Q .normal a W)
    (hstop : ∀ (c : Code) (pre : List α) (W : World), Sp pre → Ix c pre W → c.wpIn F n P Q a W) :
    (Code.rangeFunc g #[p1] (Code.region id #[{ dst := some p0, op := .assign (.tmp p1), type := T, pos := pos, after := after, guard := none }] false) body).wpIn F n P Q a w := by
  refine wpIn_rangeFunc_ownN hro hl₀ h1 hg hFg eg hseq hKt hKb hb0 (fun _ => rfl) I Ix hI hIx h0 (fun x a' _ => a' = slotAct a p1 p0 (enc x)) (fun _ _ _ _ _ _ hs _ _ => hs) ?_ ?_ hdone hstop
  · intro l pre x W K hi hK
    refine wpIn_region_list ?_
    refine wpListIn_plain rfl fun K' hK' => ?_
    unfold Oper.wpIn
    refine ⟨by simp [Oper.about], ?_⟩
    rw [Oper.semAt_plain _ _ _ (by intro c hc; cases hc)]
    simp only [execOp]
    refine hK' _ _ (wpListIn_nil (hK _ _ (KeepsFrom.refl _ _) (hKr W) hi ?_))
    simp [slotAct, Act.put, Act.eval, Array.getD, hp1]
  · rintro l pre x a' W hl hr hi rfl hlt
    exact hbody l pre x W hl hr hi hlt
end Go.Proofs.YthfdkenidfnmgaaGreat
namespace Go.Proofs.YthfdkenidfnmgaaGreat
open Go.ChangeShapes Go.WideShapes Go.ChangeAt Go.RowKit Go.Shelf
set_option linter.unusedVariables false
set_option maxRecDepth 100000
def Lies (M d : Nat) (W W' : World) : Prop := ∀ k, M ≤ k → k < M + d → W'.heap[k]? = W.heap[k]?
def SeqD {α : Type} (d : Nat) (F : Fence) (n : Nat) (P : Program) (g : Nat) (lb : Array Value) (enc : α → Array Value) (Kp : World → World → Prop) (S : List α → Prop) (N : Nat) (w : World) : Prop :=
  ∀ (l : Nat) (J : List α → World → Prop) (W : World), Below w.heap.size w W → OwnFrom W.heap.size J →
    (∀ pre x W1, J pre W1 → pre.length < N → W.heap.size + d ≤ W1.heap.size → YieldAt F (n - 1) P l (enc x) W1 fun e W' =>
      e = .returned (.bool true) ∧ J (pre ++ [x]) W' ∧ Kp W1 W' ∧ KeepsFrom W.heap.size W1 W' ∧ Lies W.heap.size d W1 W') →
    J [] W →
    CallsIn F n P g (#[.func (.yield l) #[] #[]] ++ lb) W fun e W' => (∃ v, e = .returned v) ∧ ∃ xs, S xs ∧ J xs W'
theorem SeqD.of_stops {α : Type} {F : Fence} {n : Nat} {P : Program} {g : Nat} {lb : Array Value} {enc : α → Array Value} {Kp : World → World → Prop} {S Sp : List α → Prop} {N : Nat} {w : World}
    (h : SeqStopsK F n P g lb enc Kp S Sp N w) : SeqD 0 F n P g lb enc Kp S N w := fun l J W hW hJ hY h0 =>
  (h l (fun pre A => J pre A ∧ W.heap.size ≤ A.heap.size) (fun _ _ => False) W hW (fun s A B row hs hg hr => ⟨hJ s A B row hs.1 hg (fun r e => by obtain ⟨hB, o, ho, hw⟩ := hr r e; exact ⟨hB, o, ho, Obj.not_cells_of_walk hw⟩), Nat.le_trans hs.2 hg.size⟩) (fun _ _ _ _ hs _ _ => hs)
    (fun pre x W1 hj hl => (hY pre x W1 hj.1 hl hj.2).mono fun e W' ⟨he, hj', hk, hf, _⟩ => .inl ⟨he, ⟨hj', Nat.le_trans hj.2 hf.size⟩, hk⟩) ⟨h0, Nat.le_refl _⟩).mono fun e W' => by
    rintro ⟨he, ⟨xs, hS, hj, _⟩ | ⟨_, _, hf⟩⟩
    · exact ⟨he, xs, hS, hj⟩
    · exact hf.elim
theorem range_slotD {F : Fence} {n : Nat} {P : Program} {α : Type} {d : Nat} {g : Operand} {p1 id : Nat} {body : Code} {Q : Exit → Act → World → Prop} {a : Act} {w : World} (p0 : Nat) {T : TypeId} {pos : String} {after : Array Edge}
    (hro : F.round = none) (h1 : 1 ≤ n) {gf : Nat} {lb : Array Value} (hg : a.eval g = .func (.func gf) #[] lb) (hFg : F.fn gf) (eg : ∀ args w, (callFunc gf args).run P w = .ok (.enter gf args) w)
    {enc : α → Value} {Kp : World → World → Prop} {S : List α → Prop} {N : Nat} {w0 : World} (hseq : SeqD d F (n - 1) P gf lb (fun x => #[enc x]) Kp S N w0)
    (hKt : ∀ {A B C : World}, Kp A B → Kp B C → Kp A C) (hKb : ∀ (W : World) (l : Nat) (o o' : Obj), w.heap.size ≤ l → W.heap[l]? = some o → o.isCells = false → o.isWalk = false → Kp W (W.putObj l o')) (hb0 : Below w0.heap.size w0 w)
    (hp1 : p1 < a.tmps.size)
    (I : List α → World → Prop) (hI : OwnFrom w.heap.size I) (h0 : I [] w)
    (hbody : ∀ (l : Nat) (pre : List α) (x : α) (W : World), w.heap.size ≤ l → (∃ r, W.heap[l]? = some (.loop r)) → I pre W → pre.length < N → w.heap.size + 2 + d ≤ W.heap.size →
      body.wpIn (F.inRound l) (n - 1 - 1) P (fun e _ W' => e = .normal ∧ KeepsFrom w.heap.size W W' ∧ Lies (w.heap.size + 2) d W W' ∧ Kp W W' ∧ I (pre ++ [x]) W') (slotAct a p1 p0 (enc x)) W)
    (hdone : ∀ (D : Nat) (xs : List α) (W : World), w.heap.size ≤ D → S xs → I xs W → W.heap[D]? = some (.deferred (some [])) → Q .normal { a with defers := { target := .collected D, args := #[] } :: a.defers } W) :
    (Code.rangeFunc g #[p1] (Code.region id #[{ dst := some p0, op := .assign (.tmp p1), type := T, pos := pos, after := after, guard := none }] false) body).wpIn F n P Q a w := by
  refine wpIn_rangeFunc ?_
  intro fn hfn
  rw [hro]
  obtain ⟨asg, hasg⟩ : ∃ asg, asg = (Code.region id #[{ dst := some p0, op := Op.assign (Operand.tmp p1), type := T, pos := pos, after := after, guard := none }] false) := ⟨_, rfl⟩
  rw [← hasg]
  obtain ⟨rec, hrec⟩ : ∃ rec : LoopState → Option Code → Loop, rec = fun st pe => { state := st, pending := pe, fn, tmps := a.tmps, params := #[p1], assign := asg, body, defers := w.heap.size } := ⟨_, rfl⟩
  obtain ⟨W1, hW1⟩ : ∃ W1, (w.alloc (.deferred (some []))).alloc (.loop (rec .ready none)) = W1 := ⟨_, rfl⟩
  have hs1 : W1.heap.size = w.heap.size + 2 := by rw [← hW1]; simp
  have hL1 : W1.heap[w.heap.size + 1]? = some (.loop (rec .ready none)) := by
    rw [← hW1]; have := World.alloc_heap_new (w.alloc (.deferred (some []))) (.loop (rec .ready none)); rwa [World.size_alloc] at this
  have hK1 : W1.heap[w.heap.size]? = some (.deferred (some [])) := by
    rw [← hW1]; exact (Below.heap_alloc _ _ _ (by simp)).trans (World.alloc_heap_new w _)
  have hI1 : I [] W1 := by rw [← hW1]; exact hI.alloc _ (hI.alloc _ h0)
  have hb1 : Below w0.heap.size w0 W1 := by
    rw [← hW1]; exact hb0.trans ((((Below.refl _ w).alloc (Nat.le_refl _) _).alloc (by simp) _).mono hb0.size)
  refine ⟨w.heap.size + 1, [{ target := .collected w.heap.size, args := #[] }], W1, { target := .fn (.func gf) lb, args := #[.func (.yield (w.heap.size + 1)) #[] #[]] }, W1, gf,
    #[.func (.yield (w.heap.size + 1)) #[] #[]] ++ lb, W1, ?_, ?_, ?_, ?_, fun _ => h1, ?_⟩
  · rw [← hW1, hrec]; exact run_enterLoop_outer _ _ _ _ _
  · simp only [resolve, hg]
    simp [go_sem]
  · intro f' hf'; simp [Target.leads] at hf'; subst hf'; exact hFg
  · simp [invoke, go_sem, eg]
  · have hkeep : ∀ {A B : World} {row : Option Nat} {k : Nat} {o : Obj}, k < W1.heap.size → A.grownBy B row → (∀ r, row = some r → W1.heap.size ≤ r ∧ ∃ o : Obj, A.heap[r]? = some o ∧ o.isCells = false) → A.heap[k]? = some o → B.heap[k]? = some o :=
      fun hk hg' hr ho => (hg'.block _ (Array.getElem?_eq_some_iff.1 ho).1 (fun e => by have := (hr _ e.symm).1; omega)).trans ho
    refine (hseq (w.heap.size + 1)
      (fun pre W => I pre W ∧ W.heap[w.heap.size + 1]? = some (.loop (rec .ready none)) ∧ W.heap[w.heap.size]? = some (.deferred (some [])))
      W1 hb1
      (fun s A B row hs hg' hr => ⟨hI s A B row hs.1 hg' (fun r e => ⟨by have := (hr r e).1; omega, (hr r e).2⟩), hkeep (by omega) hg' hr hs.2.1, hkeep (by omega) hg' hr hs.2.2⟩)
      ?_ ⟨hI1, hL1, hK1⟩).mono ?_
    · rintro pre x W ⟨hi, hl, hk⟩ hlen hsz
      rw [hs1] at hsz ⊢
      have hlt : w.heap.size + 1 < W.heap.size := (Array.getElem?_eq_some_iff.1 hl).1
      have hy := run_yield (P := P) (args := #[enc x]) hl (by rw [hrec]; rfl)
      rw [hrec] at hy
      refine ⟨fn, _, asg, body, hy, roundIn_of_wpIn hfn ?_⟩
      clear hy
      rw [hasg]
      refine wpIn_region_list ?_
      refine wpListIn_plain rfl fun K' hK' => ?_
      unfold Oper.wpIn
      refine ⟨by simp [Oper.about], ?_⟩
      rw [Oper.semAt_plain _ _ _ (by intro c hc; cases hc)]
      simp only [execOp]
      refine hK' _ _ (wpListIn_nil ?_)
      refine ⟨_, run_beginRound hl (by rw [hrec]), ?_⟩
      have hl2 : (W.putObj (w.heap.size + 1) (.loop { rec .ready none with state := .busy })).heap[w.heap.size + 1]? = some (.loop { rec .ready none with state := .busy }) := World.putObj_heap_same hlt
      have hk2 : (W.putObj (w.heap.size + 1) (.loop { rec .ready none with state := .busy })).heap[w.heap.size]? = some (.deferred (some [])) := (World.putObj_heap_other (by omega)).trans hk
      have hw2 : Kp W (W.putObj (w.heap.size + 1) (.loop { rec .ready none with state := .busy })) := hKb _ _ _ _ (by omega) hl rfl rfl
      have hact : ∀ (t : Array Value), t = a.tmps → (({ tmps := ((#[p1].zip #[enc x]).foldl (fun t (p, v) => t.setIfInBounds p v) t), defers := [] } : Act).put (some p0) (({ tmps := ((#[p1].zip #[enc x]).foldl (fun t (p, v) => t.setIfInBounds p v) t), defers := [] } : Act).eval (.tmp p1))) = slotAct a p1 p0 (enc x) := by
        intro t ht
        subst ht
        simp [slotAct, Act.put, Act.eval, Array.getD, hp1]
      have hbd := hbody (w.heap.size + 1) pre x _ (by omega) ⟨_, hl2⟩ (hI.putObj _ hi (by omega) hl rfl) hlen (by rw [World.putObj_size]; omega)
      rw [← hact _ rfl] at hbd
      refine wpIn_mono hbd ?_
      rintro e a3 W3 ⟨rfl, hk3, hli3, hkp3, hi3⟩
      have hl3 := hk3.same _ _ (by omega) hl2 rfl
      have hr3 := run_endRound (P := P) none hl3
      rw [hrec] at hr3 hl3
      have hk4 := hk3.same _ _ (Nat.le_refl _) hk2 rfl
      refine ⟨_, _, hr3, rfl, ⟨hI.putObj _ hi3 (by omega) hl3 rfl, ?_, (World.putObj_heap_other (by omega)).trans hk4⟩, hKt (hKt hw2 hkp3) (hKb _ _ _ _ (by omega) hl3 rfl rfl), ⟨?_, ?_⟩, ?_⟩
      · rw [hrec]; exact World.putObj_heap_same (Array.getElem?_eq_some_iff.1 hl3).1
      · have := hk3.size
        simpa using this
      · intro k o hB ho hc
        rw [World.putObj_heap_other (by omega)]
        exact hk3.same k o (by omega) ((World.putObj_heap_other (by omega)).trans ho) hc
      · intro k hB hM
        rw [World.putObj_heap_other (by omega), hli3 k hB hM, World.putObj_heap_other (by omega)]
    · rintro e W2 ⟨⟨v, rfl⟩, xs, hS, hi, hl, hk⟩
      exact ⟨none, _, by have := run_endLoop (P := P) hl (by rw [hrec]; simp); rw [hrec] at this; exact this, hdone _ xs _ (Nat.le_refl _) hS (hI.putObj _ hi (by omega) hl rfl) ((World.putObj_heap_other (by omega)).trans hk)⟩
end Go.Proofs.YthfdkenidfnmgaaGreat
namespace Go.Proofs.YthfdkenidfnmgaaGreat
open Go.ChangeShapes Go.WideShapes Go.ChangeAt Go.RowKit Go.Shelf
set_option linter.unusedVariables false
set_option maxRecDepth 100000
attribute [local go_sem] Oper.semAt_some
theorem boxed_appendedD {W w1 : World} {n0 n1 B M d : Nat} {t e : TypeId} {v v' : Value} {k m : Nat} {xs ys : List Value} {tmp : Obj}
    (hv : Boxed W B t v) (hte : t ≠ e) (hrow : W.ownsRow n1 e 1 v k xs) (hn1 : n1 ≤ W.heap.size) (h0 : n0 ≤ B) (h01 : n0 ≤ n1) (hBM : B < M) (hM : M + d ≤ n1)
    (hown' : w1.ownsRow n1 e 1 v' m ys) (hgrow : (W.alloc tmp).grownBy w1 v.ownBlock) :
    Boxed w1 B t v ∧ Boxed (w1.setCell ⟨B, 0, none⟩ v') B t v' ∧ (w1.setCell ⟨B, 0, none⟩ v').ownsRow n1 e 1 v' m ys ∧ KeepsOthers W (w1.setCell ⟨B, 0, none⟩ v') ∧ Below n0 W (w1.setCell ⟨B, 0, none⟩ v') ∧ Lies M d W (w1.setCell ⟨B, 0, none⟩ v') := by
  obtain ⟨h1, h2, h3, h4, h5⟩ := hv.appended hte (own_lower hrow h01) (by omega) h0 (own_lower hown' h01) hgrow
  refine ⟨h1, h2, hown'.kept (grownBy_setCell' w1 B v') (.inr (h1.not_row hte hown').symm), h4, h5, fun k hk hkM => ?_⟩
  rw [Below.heap_setCell _ _ _ k (by simp; omega), hgrow.block k (by simp; omega) (fun e => ?_), Below.heap_alloc _ _ _ (by omega)]
  have := (hrow.lt k e.symm).1
  omega
theorem intsW_of_row {w : World} {B B0 : Nat} {v : Value} {ys : List Int} {n : Nat} (h : w.ownsRow B 3 1 v n (ys.map (.int .i64))) (hn : n = ys.length) (hB : B0 ≤ B) : IntsW w B0 w.heap.size v ys := by
  subst hn
  rcases h.2 with ⟨rfl, hz⟩ | ⟨g, cap, cur, rfl, hb, hbl, hnc, hcm, hcs, htk⟩
  · exact ⟨none, 0, by rw [hz], by omega, Nat.zero_le _, fun i hi => by omega⟩
  · refine ⟨some ⟨g, 0, none⟩, cap, rfl, hnc, hcm, fun i hi => ⟨g, 0, rfl, by omega, (Array.getElem?_eq_some_iff.1 hbl).1, ?_, ?_⟩⟩
    · have := h.cells (g := g) rfl i (.int .i64 (ys.getD i 0)) (by rw [getD_lt hi]; simp)
      rw [add0] at this
      rw [Nat.zero_add]; exact this
    · simp [World.frozen?, hbl]
def Gave (S : List (Fin 12) → Prop) (w : World) (e : Ending) (w' : World) : Prop := ∃ xs v, e = .returned v ∧ S xs ∧ xs.length ≤ 1000 ∧ IntsW w' w.heap.size w'.heap.size v (finI xs) ∧ Below w.heap.size w w'
set_option maxRecDepth 100000 in
set_option maxHeartbeats 2000000 in
theorem appendSeq_in {d N g : Nat} {lb : Array Value} {S : List (Fin 12) → Prop} (n : Nat) (hN : N ≤ 1000) (hS : ∀ xs, S xs → xs.length ≤ 1000) (w : World) (eg : ∀ args w, (callFunc g args).run Tryz.prog w = .ok (.enter g args) w)
    (hseq : SeqD d Fence.wide n Tryz.prog g lb (fun k : Fin 12 => #[.int .i64 (k.val : Int)]) (Below w.heap.size) S N w) :
    CallsIn Fence.wide (n + 1) Tryz.prog 86 #[.slice none 0 0, .func (.func g) #[] lb] w (Gave S w) := by
  obtain ⟨i0, hi, hz0, hz1, hz2⟩ := info_parts intInfo
  have HI := Lib.hid hi
  have HZ0 := Lib.hid hz0
  have HZ1 := Lib.hid hz1
  have HZ2 := Lib.hid hz2
  have HS := Lib.hid hS
  have HSEQ := Lib.hid hseq
  clear hi hz0 hz1 hz2 hS hseq
  refine callsIn_of_wp_marks Tryz.func86 rfl trivial ?_ rfl
  simp only [Tryz.ntmps86, List.size_toArray, List.length_cons, List.length_nil, Nat.reduceAdd, Nat.reduceSub, Array.replicate_succ, Array.replicate_zero, List.push_toArray, List.append_toArray, List.nil_append, List.cons_append]
  gi_wp2
  have bO := Boxed.new w 92 (.slice none 0 0)
  have hB0 : Below w.heap.size w (w.alloc (.cells #[.slice none 0 0] 92)) := (Below.refl _ w).alloc (Nat.le_refl _) _
  refine range_slotD (d := d) 5 rfl (by omega) (gf := g) (lb := lb) rfl trivial eg HSEQ.out belowK_t (belowK_b (by simp)) hB0 (by simp)
    (fun pre W => (∃ v, Boxed W w.heap.size 92 v ∧ W.ownsRow (w.heap.size + 3 + d) 3 1 v pre.length ((finI pre).map (.int .i64)) ∧ True) ∧ Below w.heap.size w W)
    (OwnFrom.and (Own.from (holdsRow_own (w.heap.size + 3 + d) w.heap.size 92 3 1 (fun pre => pre.length) (fun pre => (finI pre).map (.int .i64)) (fun _ _ => True)) _) (ownFrom_below (Nat.le_refl _) (by simp)))
    ⟨⟨_, bO, World.ownsRow_nil _ _ _ _, trivial⟩, hB0⟩ ?body ?done
  case body =>
    rintro l pre x W hl _ ⟨⟨v, hv, hrow, _⟩, hB⟩ hlt hsz
    rw [World.size_alloc] at hsz
    have hc := hv.cell
    have HROW := Lib.hid hrow
    have HV := Lib.hid hv
    have HBB := Lib.hid hB
    have hpl : pre.length ≤ 1000 := by omega
    clear hrow hv hB
    gi_wp2_with (gi_at_builtin; refine wpListIn_append_own _ rfl (.tmp 8) (.tmp 10) 92 rfl (w.heap.size + 3 + d) 3 i0 (.int .i64 0) 1 8 Tryz.underlying92 HI.out HZ0.out HZ1.out HZ2.out rfl (by decide) _ _ _ rfl (HROW.out.alloc _) ⟨W.heap.size, 0, none⟩ 1 1 [.int .i64 (x.val : Int)] rfl rfl (cell_one_new _ _ _) (by intro u hu; simp at hu; subst hu; rfl) (by unfold maxLen; omega) (by omega) (by simp; omega) ?_; intro v' w1 hown' hgrow _; obtain ⟨g', cap', rfl⟩ := ownsRow_succ hown'; obtain ⟨hv1, hv2, hr2, hk2, hb2, hl2⟩ := boxed_appendedD (n0 := w.heap.size) (M := w.heap.size + 3) (d := d) HV.out (by decide) HROW.out (by omega) (Nat.le_refl _) (by omega) (by omega) (by omega) hown' hgrow; have hc1 := hv1.cell; have hf1 := hv1.frozen)
    exact ⟨hk2.from _, ⟨_, hv2, by rw [finI_snoc, List.map_append]; exact hr2⟩, HBB.out.trans hb2⟩
  case done =>
    rintro D xs W hD hSx ⟨⟨v, hv, hrow, _⟩, hB⟩ hK
    have hc := hv.cell
    have HROW := Lib.hid hrow
    have HBB := Lib.hid hB
    have HKK := Lib.hid hK
    have HSX := Lib.hid hSx
    clear hrow hB hSx hv
    gi_wp2
    refine ⟨by simp, .inl ⟨_, _, rfl, run_takeDeferred hK, ?_⟩⟩
    refine ⟨_, results_tmp rfl _ _ _, xs, v, rfl, HSX.out, HS.out _ HSX.out, intsW_of_row (ownsRow_putObj HROW.out _ HKK.out rfl) (by simp [finI]) (by omega), HBB.out.trans (belowK_b (w := w) (Nat.le_refl _) W D _ _ (by simp at hD; omega) HKK.out rfl rfl)⟩
set_option maxRecDepth 100000 in
set_option maxHeartbeats 2000000 in
theorem collect_in {g : Nat} {lb : Array Value} {S : List (Fin 12) → Prop} (n : Nat) (w : World)
    (hc : CallsIn Fence.wide n Tryz.prog 86 #[.slice none 0 0, .func (.func g) #[] lb] w (Gave S w)) :
    CallsIn Fence.wide (n + 1) Tryz.prog 117 #[.func (.func g) #[] lb] w (Gave S w) := by
  refine callsIn_of_wp Tryz.func117 rfl trivial ?_ rfl
  simp only [Tryz.ntmps117, List.size_toArray, List.length_cons, List.length_nil, Nat.reduceAdd, Nat.reduceSub, Array.replicate_succ, Array.replicate_zero, List.push_toArray, List.append_toArray, List.nil_append, List.cons_append]
  have HC := Lib.hid hc
  clear hc
  gi_wp2_with fail
  refine ⟨trivial, HC.out.mono ?_⟩
  rintro e w' ⟨xs, v, rfl, hG⟩
  have HG := Lib.hid hG
  clear hG
  gi_wp2_with fail
  go_ret
  exact ⟨xs, v, rfl, HG.out⟩
def Sorted (S : List (Fin 12) → Prop) (w : World) (e : Ending) (w' : World) : Prop := ∃ xs v, e = .returned v ∧ S xs ∧ xs.length ≤ 1000 ∧ IntsW w' w.heap.size w'.heap.size v ((finI xs).mergeSort fun x y => decide (x ≤ y)) ∧ Below w.heap.size w w'
set_option maxRecDepth 100000 in
set_option maxHeartbeats 2000000 in
theorem sorted_in {g : Nat} {lb : Array Value} {S : List (Fin 12) → Prop} (n : Nat) (w : World)
    (hc : CallsIn Fence.wide n Tryz.prog 117 #[.func (.func g) #[] lb] w (Gave S w)) :
    CallsIn Fence.wide (n + 1) Tryz.prog 102 #[.func (.func g) #[] lb] w (Sorted S w) := by
  refine callsIn_of_wp Tryz.func102 rfl trivial ?_ rfl
  simp only [Tryz.ntmps102, List.size_toArray, List.length_cons, List.length_nil, Nat.reduceAdd, Nat.reduceSub, Array.replicate_succ, Array.replicate_zero, List.push_toArray, List.append_toArray, List.nil_append, List.cons_append]
  have HC := Lib.hid hc
  clear hc
  gi_wp2_with fail
  refine ⟨trivial, HC.out.mono ?_⟩
  rintro e w' ⟨xs, v, rfl, hS, hl, hI, hB⟩
  have HS := Lib.hid hS
  have HL := Lib.hid hl
  have HSO := Lib.hid (sort_any w' w.heap.size v (finI xs) hI (by simpa [finI] using hl) hB.size)
  have HB := Lib.hid hB
  clear hS hl hI hB
  gi_wp2_with fail
  refine ⟨trivial, (callsIn_wide.2 HSO.out).mono ?_⟩
  rintro e w2 ⟨rfl, hI2, hB2⟩
  have HI2 := Lib.hid hI2
  have HB2 := Lib.hid (HB.out.trans hB2)
  clear hI2 hB2
  gi_wp2_with fail
  go_ret
  exact ⟨xs, v, rfl, HS.out, HL.out, HI2.out, HB2.out⟩
theorem fin_rng (xs : List (Fin 12)) : ∀ x ∈ finI xs, 0 ≤ x ∧ x < 12 := by
  intro x hx
  unfold finI at hx
  obtain ⟨k, _, rfl⟩ := List.mem_map.1 hx
  have := k.isLt
  omega
def Once (S : List (Fin 12) → Prop) (w : World) (e : Ending) (w' : World) : Prop := ∃ xs v, e = .returned v ∧ S xs ∧ IntsW w' w.heap.size w'.heap.size v (srt (finI xs) 12) ∧ Below w.heap.size w w'
set_option maxRecDepth 100000 in
set_option maxHeartbeats 2000000 in
theorem eachOnce_in {g : Nat} {lb : Array Value} {S : List (Fin 12) → Prop} (n : Nat) (w : World)
    (hc : CallsIn Fence.wide n Tryz.prog 102 #[.func (.func g) #[] lb] w (Sorted S w)) :
    CallsIn Fence.wide (n + 1) Tryz.prog 88 #[.func (.func g) #[] lb] w (Once S w) := by
  refine callsIn_of_wp Tryz.func88 rfl trivial ?_ rfl
  simp only [Tryz.ntmps88, List.size_toArray, List.length_cons, List.length_nil, Nat.reduceAdd, Nat.reduceSub, Array.replicate_succ, Array.replicate_zero, List.push_toArray, List.append_toArray, List.nil_append, List.cons_append]
  have HC := Lib.hid hc
  clear hc
  gi_wp2_with fail
  refine ⟨trivial, HC.out.mono ?_⟩
  rintro e w' ⟨xs, v, rfl, hS, hl, hI, hB⟩
  have HS := Lib.hid hS
  have HCO := Lib.hid (compact_any w' w.heap.size v _ hI (by simpa [finI] using hl) hB.size)
  have HB := Lib.hid hB
  clear hS hl hI hB
  gi_wp2_with fail
  refine ⟨trivial, (callsIn_wide.2 HCO.out).mono ?_⟩
  rintro e w2 ⟨v2, rfl, hI2, hB2⟩
  have HI2 := Lib.hid hI2
  have HB2 := Lib.hid (HB.out.trans hB2)
  clear hI2 hB2
  gi_wp2_with fail
  go_ret
  refine ⟨xs, v2, rfl, HS.out, ?_, HB2.out⟩
  rw [← compact_srt (finI xs) (fin_rng xs)]
  exact HI2.out
theorem once_of_iter {d N g : Nat} {lb : Array Value} {S : List (Fin 12) → Prop} (n : Nat) (hN : N ≤ 1000) (hS : ∀ xs, S xs → xs.length ≤ 1000) (w : World) (eg : ∀ args w, (callFunc g args).run Tryz.prog w = .ok (.enter g args) w)
    (hseq : SeqD d Fence.wide n Tryz.prog g lb (fun k : Fin 12 => #[.int .i64 (k.val : Int)]) (Below w.heap.size) S N w) :
    Calls Tryz.prog 88 #[.func (.func g) #[] lb] w (Once S w) :=
  callsIn_wide.1 (eachOnce_in _ w (sorted_in _ w (collect_in _ w (appendSeq_in n hN hS w eg hseq))))
end Go.Proofs.YthfdkenidfnmgaaGreat
namespace Go.Proofs.YthfdkenidfnmgaaGreat
open Go.ChangeShapes Go.WideShapes Go.ChangeAt Go.RowKit
set_option linter.unusedVariables false
set_option maxRecDepth 100000
theorem load_arrI {F : Fence} {nF : Nat} {P : Program} {ops : Array Oper} {rest : List Oper} {a : Act} {w : World} {Q : Exit → Act → World → Prop} {dst : Option Nat} {tt : TypeId} {pos : String} {after : Array Edge} (ty : TypeId) (x : Operand) (b o : Nat) (cs : List Value) (d : TypeDesc) (hx : a.eval x = .pointer (some ⟨b, o, none⟩)) (hc : w.rangeAt b o cs) (hu : P.underlying ty = some d) (hd : d.isRow = true) (hi : (P.info? ty).map (·.size) = some cs.length)
    (h : wpListIn F nF P ops Q rest (a.put dst (.agg cs.toArray)) w) : wpListIn F nF P ops Q ({ dst := dst, op := .load ty x, type := tt, pos := pos, after := after, guard := none } :: rest) a w :=
  wpListIn_plain rfl fun K hK => by
    unfold Oper.wpIn
    refine ⟨by simp [Oper.about], ?_⟩
    rw [Oper.semAt_plain F _ _ (by intro c hc'; cases hc')]
    simp only [execOp, hx, Instr.loadAt, Instr.sureAddr, Sem.run_bind, Sem.run_pure, Result.andThen_ok, run_loadVar_mid w b o ty cs d hc hu hd hi]
    exact hK _ _ h
theorem load_isI {F : Fence} {nF : Nat} {P : Program} {ops : Array Oper} {rest : List Oper} {a : Act} {w : World} {Q : Exit → Act → World → Prop} {dst : Option Nat} {tt : TypeId} {pos : String} {after : Array Edge} (ty : TypeId) (x : Operand) (h : wpListIn F nF P ops Q ({ dst := dst, op := .load ty x, type := tt, pos := pos, after := after, guard := none } :: rest) a w) : wpListIn F nF P ops Q ({ dst := dst, op := .load ty x, type := tt, pos := pos, after := after, guard := none } :: rest) a w := h
end Go.Proofs.YthfdkenidfnmgaaGreat
namespace Go.Proofs.YthfdkenidfnmgaaGreat
open Go.ChangeShapes Go.WideShapes Go.ChangeAt Go.RowKit Go.Shelf
set_option linter.unusedVariables false
set_option maxRecDepth 100000
attribute [local go_sem] Oper.semAt_some
theorem row_one (row : List Int) : (row.map (Value.int .i64)).toArray.all (·.oneCell') = true := by
  rw [Array.all_eq_true_iff_forall_mem]
  intro x hx
  obtain ⟨y, _, rfl⟩ := List.mem_map.1 (List.mem_toArray.1 hx)
  rfl
theorem nil_intsW {w : World} {B0 B1 : Nat} : IntsW w B0 B1 (.slice none 0 0) [] := ⟨none, 0, rfl, Nat.le_refl _, Nat.zero_le _, fun i hi => by simp at hi⟩
set_option maxRecDepth 100000 in
set_option maxHeartbeats 2000000 in
theorem named_make (w : World) (cs : Array Value) (hs : cs.size = 4) (h1 : cs.all (·.oneCell') = true) : Calls Tryz.prog 85 #[.agg cs] w fun e w' => e = .returned (.func (.func 98) #[] #[.pointer (some ⟨w.heap.size, 0, none⟩)]) ∧ w' = w.alloc (.cells cs 54) := by
  go_enter Tryz.func85, Tryz.ntmps85
  go_wp2
  go_ret
  exact ⟨rfl, rfl⟩
set_option maxRecDepth 100000 in
set_option maxHeartbeats 2000000 in
theorem all_make (w : World) (cs : Array Value) (g : Nat) (lb : Array Value) (hs : cs.size = 48) (h1 : cs.all (·.oneCell') = true) : Calls Tryz.prog 87 #[.agg cs, .func (.func g) #[] lb] w fun e w' =>
    e = .returned (.func (.func 100) #[] #[.pointer (some ⟨w.heap.size + 1, 0, none⟩), .pointer (some ⟨w.heap.size, 0, none⟩)]) ∧ w' = (w.alloc (.cells cs 56)).alloc (.cells #[.func (.func g) #[] lb] 151) := by
  go_enter Tryz.func87, Tryz.ntmps87
  go_wp2
  go_ret
  exact ⟨rfl, rfl⟩
theorem round_any {m : Nat} (m' : Nat) {P : Program} {l1 l2 l : Nat} {f : FuncId} {tmps : Array Value} {asg body : Code} {w : World} {R : Ending → World → Prop}
    (h : RoundIn Fence.wide m P l f tmps asg body w R) : RoundIn ((Fence.wide.inRound l1).inRound l2) m' P l f tmps asg body w R := ⟨h.1, fun c cs _ => h.2 c cs (room_wide _)⟩
theorem named_rng {xs : List Int} {x : Int} (h : x ∈ named xs) : 0 ≤ x ∧ x < 12 := by
  unfold named at h
  obtain ⟨y, hy, rfl⟩ := List.mem_map.1 h
  obtain ⟨h0, h1, h2⟩ := of_decide_eq_true (List.mem_filter.1 hy).2
  omega
theorem fin_len (xs : List (Fin 12)) : (finI xs).length = xs.length := by simp [finI]
theorem flat_add (xss : List (List Int)) (ts : List Int) (x : Nat) : flat xss (ts ++ [(x : Int)]) = flat xss ts ++ named (xss.getD x []) := by simp [flat, rw4]
end Go.Proofs.YthfdkenidfnmgaaGreat
namespace Go.Proofs.YthfdkenidfnmgaaGreat
open Go.ChangeShapes Go.WideShapes Go.ChangeAt Go.RowKit Go.Shelf
set_option linter.unusedVariables false
set_option maxRecDepth 100000
theorem IntsW.lower {w : World} {B0 B0' B1 : Nat} {v : Value} {xs : List Int} (h : IntsW w B0 B1 v xs) (hB : B0' ≤ B0) : IntsW w B0' B1 v xs := by
  obtain ⟨a, cap, rfl, h1, h2, h3⟩ := h
  refine ⟨a, cap, rfl, h1, h2, fun i hi => ?_⟩
  obtain ⟨g, p, e, hg0, hg1, hc, hf⟩ := h3 i hi
  exact ⟨g, p, e, by omega, hg1, hc, hf⟩
theorem frs_eq (xss : List (List Int)) (k : Nat) (row : List Int) (hr : row = xss.getD k []) : frs xss (k : Int) = srt (flat xss (named row)) 12 := by
  have e1 : tabs xss (k : Int) = srt (named row) 12 := by rw [hr]; unfold tabs rw4; simp
  have hcong : ∀ {l l' : List Int}, (∀ x, x ∈ l ↔ x ∈ l') → srt l 12 = srt l' 12 := fun h => by
    unfold srt
    refine congrArg _ (List.filter_congr (fun f _ => ?_))
    simp only [h]
  refine hcong (fun x => ?_)
  rw [e1]
  unfold flat
  rw [List.mem_flatMap, List.mem_flatMap]
  constructor
  · rintro ⟨t, ht, hx⟩
    exact ⟨t, (srt_mem ht).2.2, hx⟩
  · rintro ⟨t, ht, hx⟩
    have hb := named_rng ht
    exact ⟨t, mem_srt hb.1 hb.2 ht, hx⟩
end Go.Proofs.YthfdkenidfnmgaaGreat
namespace Go.Proofs.YthfdkenidfnmgaaGreat
open Go.ChangeShapes Go.WideShapes Go.ChangeAt Go.RowKit Go.Shelf
set_option linter.unusedVariables false
set_option maxRecDepth 100000
theorem write_of (w : World) (x : Int) (h : goodB x) : Calls Tryz.prog 104 #[.int .i64 x] w fun e w' => e = .returned (.bool (decide (x % 4 = 3))) ∧ w = w' := by
  obtain ⟨h0, h1, h2⟩ := h
  have h3 : 0 ≤ x := by omega
  by_cases hc : x % 4 = 3
  · have e3 : (x % 4 == 3) = true := by simpa using hc
    rw [decide_eq_true hc]
    clear hc
    go_enter Tryz.func104, Tryz.ntmps104
    go_wp2
    go_ret
    exact ⟨rfl, rfl⟩
  · have e3 : (x % 4 == 3) = false := by simpa using hc
    rw [decide_eq_false hc]
    clear hc
    go_enter Tryz.func104, Tryz.ntmps104
    go_wp2
    go_ret
    exact ⟨rfl, rfl⟩
theorem heap2 (w : World) (o : Obj) {C : Array Value} {t : TypeId} : ((w.alloc o).alloc (.cells C t)).heap[w.heap.size + 1]? = some (.cells C t (0, 0)) := by
  have := heap_alloc_new (w.alloc o) (.cells C t)
  rwa [World.size_alloc] at this
set_option maxRecDepth 100000 in
set_option maxHeartbeats 1000000 in
theorem mw_top (w : World) (cs : List Value) (hs : cs.length = 48) (ho : cs.toArray.all (·.oneCell') = true) (r i : Nat) (j t x : Int) (hr : r < 12) (hi : i < 4) (hx : cs[r * 4 + i]? = some (.int .i64 x)) (hb0 : 0 ≤ x) (hb1 : x ≤ 9999) (hg : ¬ goodB x) :
    Calls Tryz.prog 94 #[.agg cs.toArray, .int .i64 r, .int .i64 i, .int .i64 j, .int .i64 t] w (WalkRes w ⟨0, 0, false, 1⟩) := by
  have hix := run_indexAt_arr (P := Tryz.prog) 56 12 54 4 Tryz.underlying56 size_words (by omega) w.heap.size r hr
  have hjx := fun W => run_indexAt_part (P := Tryz.prog) 54 4 _ Tryz.underlying54 (fun w => Tryz.sizeOf3 w) (by omega) w.heap.size (r * 4) i hi W
  have HC : ∀ ob, ((w.alloc (.cells cs.toArray 56)).alloc ob).cell? ⟨w.heap.size, r * 4 + i, none⟩ = some (.int .i64 x) := fun ob => by
    have h1 : (w.alloc (.cells cs.toArray 56)).cell? ⟨w.heap.size, r * 4 + i, none⟩ = some (.int .i64 x) := by
      rw [cell_of_row _ _ _ _ _ _ (heap_alloc_new w _)]
      simpa using hx
    exact (World.cell?_alloc_lt _ ob _ (cell_lt h1)).trans h1
  have HN := Lib.hid (fun w => names_no w x hg hb0 hb1)
  have HO := Lib.hid ho
  obtain ⟨R, HRR⟩ : ∃ R : Ending → World → Prop, Hid (R = WalkRes w ⟨0, 0, false, 1⟩) := ⟨_, Lib.hid rfl⟩
  rw [← HRR.out]
  have HB : Hid (∀ o1 o2, Below w.heap.size w ((w.alloc o1).alloc o2)) := Lib.hid (fun o1 o2 => ((Below.refl _ _).alloc (Nat.le_refl _) o1).alloc (by simp) o2)
  clear hx hg hb0 hb1 ho
  go_enter Tryz.func94, Tryz.ntmps94
  go_wp2_with (first | ((with_reducible refine box_is 56 (.tmp 0) ?_); refine box_arr 56 (.tmp 0) cs.toArray rfl ?_) | (go_at_call 99; refine (HN.out _).mono ?_; rintro e w' ⟨rfl, rfl⟩))
  refine bodyPost_ret (results_cell_mid rfl _ _ (w.heap.size + 1) 0 [.int .i64 (0), .int .i64 (0), .bool false] _ rfl (range_row (heap2 w _)) Tryz.underlying145 rfl (by kernel_rfl)) rfl ?_
  rw [HRR.out]
  exact ⟨rfl, HB.out _ _⟩
end Go.Proofs.YthfdkenidfnmgaaGreat
