/- What the reference's functions on what is known of frames return. -/
import Derived.Test.YtopnomklfkkjfaaIMath
import Derived.Test.YtopnomklfkkjfaaIEq
import Derived.Test.YtopnomklfkkjfaaRSpec
namespace Go.Proofs.Ytopnomklfkkjfaa
open Go.ChangeShapes Go.WideShapes Go.ChangeAt Go.RowKit
set_option linter.unusedVariables false

theorem l6In_any (w : World) (x lo hi : Int) : Calls Try.prog 54 #[.int .i64 x, .int .i64 lo, .int .i64 hi] w (Says (inR x lo hi) w) := by
  unfold inR
  by_cases h : lo ≤ x ∧ x ≤ hi
  · rw [decide_eq_true h]
    obtain ⟨h1, h2⟩ := h
    go_enter Try.func54, Try.ntmps54
    go_wp2
    go_ret
    exact says_mk rfl
  · rw [decide_eq_false h]
    by_cases h1 : lo ≤ x
    · have h2 : decide (x ≤ hi) = false := by simp; omega
      clear h
      go_enter Try.func54, Try.ntmps54
      go_wp2
      go_ret
      exact says_mk rfl
    · have h2 : decide (lo ≤ x) = false := by simpa using h1
      clear h
      go_enter Try.func54, Try.ntmps54
      go_wp2
      go_ret
      exact says_mk rfl
theorem l1Frame_any (w : World) (x : Int) : Calls Try.prog 43 #[.int .i64 x] w (Says (inR x 0 11) w) := by
  go_enter Try.func43, Try.ntmps43
  go_wp2_with (go_at_call 54; refine (l6In_any _ _ _ _).mono ?_; rintro e w' ⟨rfl, rfl⟩)
  go_ret
  exact says_mk rfl
set_option maxRecDepth 100000 in
theorem l12Info_any (w : World) (x : IV) (hx : x.g.length ≤ 2000000) : Calls Try.prog 45 #[ivV x] w (BRes (iok x) w) := by
  obtain ⟨xk, xg, xr⟩ := x
  have HB : Hid (Below w.heap.size w (w.alloc (.cells #[.int .i64 xk, .string ⟨xg.toArray⟩, .int .i64 xr] 30))) := Lib.hid ((Below.refl _ _).alloc (Nat.le_refl _) _)
  obtain ⟨r, hr⟩ : ∃ r, r = iok ⟨xk, xg, xr⟩ := ⟨_, rfl⟩
  rw [← hr]
  by_cases hk : xk = 0
  · subst hk
    have HR : Hid (r = decide ((⟨0, xg, xr⟩ : IV) = iz)) := Lib.hid (by rw [hr]; unfold iok; rw [if_pos rfl])
    clear hr
    by_cases hg : xg = []
    · subst hg
      by_cases hz : xr = 0
      · subst hz
        have HR2 : Hid (r = true) := Lib.hid (by rw [HR.out]; exact decide_eq_true rfl)
        clear HR
        go_enter Try.func45, Try.ntmps45
        go_wp2_with fail
        go_ret
        exact ⟨by rw [HR2.out]; rfl, HB.out⟩
      · have HR2 : Hid (r = false) := Lib.hid (by rw [HR.out]; exact decide_eq_false (fun hh => hz (iv_ext.1 hh).2.2))
        have e1 : (xr == 0) = false := by simpa using hz
        clear HR
        go_enter Try.func45, Try.ntmps45
        go_wp2_with fail
        go_ret
        exact ⟨by rw [HR2.out]; rfl, HB.out⟩
    · have HR2 : Hid (r = false) := Lib.hid (by rw [HR.out]; exact decide_eq_false (fun hh => hg (iv_ext.1 hh).2.1))
      have e1 : (xg == []) = false := by simpa using hg
      clear HR
      go_enter Try.func45, Try.ntmps45
      go_wp2_with fail
      go_ret
      exact ⟨by rw [HR2.out]; rfl, HB.out⟩
  · have hk' : (xk == 0) = false := by simpa using hk
    have HR : Hid (r = (inR xk 1 3 && (rv xg && inR xr 0 50))) := Lib.hid (by rw [hr]; unfold iok; rw [if_neg hk])
    have HI1 := Lib.hid (fun w => l6In_any w xk 1 3)
    have HI2 := Lib.hid (fun w => l6In_any w xr 0 50)
    have HV := Lib.hid (fun w => sRightValid_any w xg hx)
    clear hr hk
    go_enter Try.func45, Try.ntmps45
    go_wp2_with fail
    refine (HI1.out _).mono ?_
    rintro e w' ⟨rfl, rfl⟩
    cases h1 : inR xk 1 3 with
    | false =>
      rw [h1] at HR
      clear h1
      go_wp2_with fail
      go_ret
      exact ⟨by rw [HR.out]; rfl, HB.out⟩
    | true =>
      rw [h1] at HR
      clear h1
      go_wp2_with fail
      refine (HV.out _).mono ?_
      rintro e w' ⟨rfl, rfl⟩
      cases h2 : rv xg with
      | false =>
        rw [h2] at HR
        clear h2
        go_wp2_with fail
        go_ret
        exact ⟨by rw [HR.out]; rfl, HB.out⟩
      | true =>
        rw [h2] at HR
        clear h2
        go_wp2_with fail
        refine (HI2.out _).mono ?_
        rintro e w' ⟨rfl, rfl⟩
        go_wp2_with fail
        go_ret
        exact ⟨by rw [HR.out]; rfl, HB.out⟩
def ShortI (xs : List IV) : Prop := ∀ x ∈ xs, x.g.length ≤ 2000000
theorem ShortI.at {xs : List IV} (h : ShortI xs) (i : Nat) : (xs.getD i iz).g.length ≤ 2000000 := by
  by_cases hi : i < xs.length
  · rw [getD_lt hi]; exact h _ (List.getElem_mem hi)
  · rw [List.getD, List.getElem?_eq_none (Nat.le_of_not_lt hi)]; exact Nat.zero_le _
set_option maxRecDepth 100000 in
theorem infosValid_any (w : World) (v : Value) (xs : List IV) (h : Is w v xs) (hs : ShortI xs) : Calls Try.prog 26 #[v] w (BRes (isok xs) w) := by
  obtain ⟨a, ca, rfl, hla, hma, hxa⟩ := h
  unfold maxLen at hma
  obtain ⟨n, hN⟩ : ∃ n, n = xs.length := ⟨_, rfl⟩
  rw [← hN] at hla ⊢
  have HN := Lib.hid hN
  have HX := Lib.hid hxa
  have HS := Lib.hid hs
  clear hN hxa hs
  obtain ⟨r, hr⟩ : ∃ r, r = isok xs := ⟨_, rfl⟩
  rw [← hr]
  have HR := Lib.hid hr
  clear hr
  go_enter Try.func26, Try.ntmps26
  go_wp2
  go_loopw [3] (fun i wr => ∃ k : Nat, k ≤ n ∧ i = .int .i64 k ∧ Hid (Below w.heap.size w wr) ∧ Hid (∀ i, i < k → iok (xs.getD i iz) = true)) (fun i _ => n - (intOf i).toNat)
  case atStart => exact ⟨0, Nat.zero_le _, rfl, Lib.hid (Below.refl _ _), Lib.hid (fun i hi => by omega)⟩
  case round =>
    obtain ⟨k, hk, rfl, HB, HT⟩ := hrel
    by_cases hlt : k < n
    · have hlt' : (k : Int) < (n : Int) := by omega
      have hkx : k < xs.length := by have := HN.out; omega
      obtain ⟨b, o, rfl, hc⟩ := HX.out k hkx
      have HC := Lib.hid (hc.below HB.out hc.lt)
      have HCD := Lib.hid (hc.below HB.out.drew hc.lt)
      have HV := Lib.hid (fun w => l12Info_any w (xs.getD k iz) (HS.out.at k))
      have HBAD : Hid (iok (xs.getD k iz) = false → r = false) := Lib.hid (fun hb => by
        rw [HR.out, Bool.eq_false_iff]
        intro hh
        rw [isok_at hh hkx] at hb
        cases hb)
      have HGOOD : Hid (iok (xs.getD k iz) = true → ∀ i, i < k + 1 → iok (xs.getD i iz) = true) := Lib.hid (fun hb i hi => by
        by_cases hik : i < k
        · exact HT.out i hik
        · obtain rfl : i = k := by omega
          exact hb)
      generalize xs.getD k iz = x at HC HCD HV HBAD HGOOD hc
      obtain ⟨c0, c1, c2⟩ := HC.out
      clear hc hkx
      cases hv : iok x with
      | false =>
        rw [hv] at HV
        have HF := Lib.hid (HBAD.out hv)
        clear hv
        go_wp2_with fail
        refine (HV.out wr).mono ?_
        rintro e w1 ⟨rfl, hb1⟩
        have B1 := Lib.hid (HB.out.trans (hb1.mono HB.out.size))
        clear hb1
        go_wp2_with fail
        go_ret
        exact ⟨by rw [HF.out]; rfl, B1.out⟩
      | true =>
        rw [hv] at HV
        have HG := Lib.hid (HGOOD.out hv)
        clear hv
        go_wp2_with fail
        refine (HV.out wr).mono ?_
        rintro e w1 ⟨rfl, hb1⟩
        have B1 := Lib.hid (HB.out.trans (hb1.mono HB.out.size))
        clear hb1
        go_wp2
        go_roundw
        case rel => exact ⟨k + 1, by omega, by go_num, B1, HG⟩
        case measure => simp [intOf]; omega
    · have e : k = n := by omega
      have HF : Hid (r = ((n : Int) == 12)) := Lib.hid (by
        rw [HR.out, isok, decide_eq_true (fun i hi => HT.out i (by have := HN.out; omega)), Bool.true_and]
        have := HN.out
        rw [Bool.eq_iff_iff, decide_eq_true_eq, beq_iff_eq]
        omega)
      go_wp2
      go_ret
      exact ⟨by rw [HF.out]; rfl, HB.out⟩
theorem l12Free_any (w : World) (v : Value) (xs : List IV) (h : Is w v xs) : Calls Try.prog 39 #[v] w fun e w' => e = .returned (.int .i64 (if fidx xs < xs.length then (fidx xs : Int) else -1)) ∧ w = w' := by
  obtain ⟨a, ca, rfl, hla, hma, hxa⟩ := h
  unfold maxLen at hma
  obtain ⟨n, hN⟩ : ∃ n, n = xs.length := ⟨_, rfl⟩
  obtain ⟨r, hr⟩ : ∃ r, r = (if fidx xs < xs.length then (fidx xs : Int) else -1) := ⟨_, rfl⟩
  rw [← hr]
  have HR := Lib.hid hr
  rw [← hN] at hla ⊢
  have HN := Lib.hid hN
  have HX := Lib.hid hxa
  clear hN hxa hr
  go_enter Try.func39, Try.ntmps39
  go_wp2
  go_loopw [3] (fun i wr => ∃ k : Nat, k ≤ n ∧ i = .int .i64 k ∧ wr = w ∧ Hid (∀ i, i < k → (xs.getD i iz).k ≠ 0)) (fun i _ => n - (intOf i).toNat)
  case atStart => exact ⟨0, Nat.zero_le _, rfl, rfl, Lib.hid (fun i hi => by omega)⟩
  case round =>
    obtain ⟨k, hk, rfl, rfl, HT⟩ := hrel
    by_cases hlt : k < n
    · have hlt' : (k : Int) < (n : Int) := by omega
      have hkx : k < xs.length := by have := HN.out; omega
      obtain ⟨b, o, rfl, hc⟩ := HX.out k hkx
      have HY := Lib.hid (fun h => fidx_eq (xs := xs) (k := k) hkx h HT.out)
      have HG : Hid ((xs.getD k iz).k ≠ 0 → ∀ i, i < k + 1 → (xs.getD i iz).k ≠ 0) := Lib.hid (fun hb i hi => by
        by_cases hik : i < k
        · exact HT.out i hik
        · obtain rfl : i = k := by omega
          exact hb)
      have HKX := Lib.hid hkx
      generalize xs.getD k iz = x at HY HG hc
      obtain ⟨c0, c1, c2⟩ := hc
      clear hkx c1 c2
      by_cases h0 : x.k = 0
      · have h0' : (x.k == 0) = true := by simpa using h0
        have HF : Hid (r = (k : Int)) := Lib.hid (by rw [HR.out, HY.out h0, if_pos HKX.out])
        clear h0
        go_wp2
        go_ret
        exact ⟨by rw [HF.out]; rfl, rfl⟩
      · have h0' : (x.k == 0) = false := by simpa using h0
        have HG2 := Lib.hid (HG.out h0)
        clear h0
        go_wp2
        go_roundw
        case rel => exact ⟨k + 1, by omega, by go_num, trivial, HG2⟩
        case measure => simp [intOf]; omega
    · have e : k = n := by omega
      have HF : Hid (r = -1) := Lib.hid (by
        have := fidx_none (xs := xs) (fun i hi => HT.out i (by have := HN.out; omega))
        rw [HR.out, if_neg (by omega)])
      go_wp2
      go_ret
      exact ⟨by rw [HF.out]; rfl, rfl⟩
theorem infosFree_any (w : World) (v : Value) (xs : List IV) (h : Is w v xs) (hs : ShortI xs) : Calls Try.prog 23 #[v] w fun e w' => e = .returned (.int .i64 (ifree xs)) ∧ Below w.heap.size w w' := by
  have HV := Lib.hid (infosValid_any w v xs h hs)
  obtain ⟨a, ca, rfl, hla, hma, hxa⟩ := h
  unfold maxLen at hma
  obtain ⟨n, hN⟩ : ∃ n, n = xs.length := ⟨_, rfl⟩
  obtain ⟨r, hr⟩ : ∃ r, r = ifree xs := ⟨_, rfl⟩
  rw [← hr]
  have HR := Lib.hid hr
  rw [← hN] at hla HV ⊢
  have HN := Lib.hid hN
  have HX := Lib.hid hxa
  clear hN hxa hr
  go_enter Try.func23, Try.ntmps23
  go_wp2
  go_loopw [3, 4] (fun c i wr => ∃ k : Nat, k ≤ n ∧ i = .int .i64 k ∧ c = .int .i64 (cnt (xs.take k)) ∧ wr = w) (fun _ i _ => n - (intOf i).toNat)
  case atStart => exact ⟨0, Nat.zero_le _, rfl, rfl, rfl⟩
  case round =>
    obtain ⟨k, hk, rfl, rfl, rfl⟩ := hrel
    by_cases hlt : k < n
    · have hlt' : (k : Int) < (n : Int) := by omega
      have hkx : k < xs.length := by have := HN.out; omega
      obtain ⟨b, o, rfl, hc⟩ := HX.out k hkx
      have HS := Lib.hid (cnt_take_succ hkx)
      have HL := Lib.hid (cnt_le (xs.take k))
      rw [List.length_take] at HL
      generalize xs.getD k iz = x at HS hc
      obtain ⟨c0, c1, c2⟩ := hc
      obtain ⟨q, hq⟩ : ∃ q, q = cnt (xs.take k) := ⟨_, rfl⟩
      rw [← hq] at HS HL ⊢
      have hq9 : (q : Int) ≤ 9223372036854775806 := by have := HL.out; omega
      clear hkx c1 c2 hq
      by_cases h0 : x.k = 0
      · have h0' : (x.k == 0) = true := by simpa using h0
        rw [if_pos h0] at HS
        clear h0
        go_wp2
        go_roundw
        case rel => exact ⟨k + 1, by omega, by go_num, by rw [HS.out]; go_num, trivial⟩
        case measure => simp [intOf]; omega
      · have h0' : (x.k == 0) = false := by simpa using h0
        rw [if_neg h0] at HS
        clear h0
        go_wp2
        go_roundw
        case rel => exact ⟨k + 1, by omega, by go_num, by rw [HS.out]; rfl, trivial⟩
        case measure => simp [intOf]; omega
    · have e : k = n := by omega
      have HT : Hid (cnt (xs.take k) = cnt xs) := Lib.hid (by rw [take_all (by rw [e]; exact HN.out)])
      rw [HT.out]
      have hle := cnt_le xs
      generalize hq : cnt xs = q at hle ⊢
      have HQ := Lib.hid hq
      clear hq hle
      cases hv : isok xs with
      | false =>
        have HF : Hid (r = -1) := Lib.hid (by rw [HR.out, ifree, if_neg (by rw [hv]; simp)])
        rw [hv] at HV
        clear hv
        go_wp2_with fail
        refine HV.out.mono ?_
        rintro e w1 ⟨rfl, hb1⟩
        have B1 := Lib.hid hb1
        clear hb1
        go_wp2_with fail
        go_ret
        exact ⟨by rw [HF.out]; rfl, B1.out⟩
      | true =>
        have HF : Hid (r = (q : Int)) := Lib.hid (by rw [HR.out, ifree, if_pos hv, HQ.out])
        rw [hv] at HV
        clear hv
        go_wp2_with fail
        refine HV.out.mono ?_
        rintro e w1 ⟨rfl, hb1⟩
        have B1 := Lib.hid hb1
        clear hb1
        go_wp2_with fail
        go_ret
        exact ⟨by rw [HF.out]; rfl, B1.out⟩
end Go.Proofs.Ytopnomklfkkjfaa
