/- What the program's functions on lists of rights answer. -/
import Derived.Test.YtjakelpdnmnofaaRImpl2
namespace Go.Proofs.Ytjakelpdnmnofaa
open Go.ChangeShapes Go.WideShapes Go.ChangeAt Go.RowKit Go.Maps
set_option linter.unusedVariables false

theorem irvs_any : IRVs := by
  intro w v xs h hs
  have HC := Lib.hid (setOf_any w v xs h hs)
  clear h
  go_enter Try.func32, Try.ntmps32
  go_wp2_with fail
  refine HC.out.mono ?_
  rintro e w1 ⟨hb1, m, rfl, -⟩
  have B1 := Lib.hid hb1
  clear hb1
  go_wp2_with fail
  go_ret
  exact ⟨rfl, B1.out⟩
theorem may_yes {xs : List Bs} {s : Bs} {k : Nat} (hk : k ≤ s.length) (h : s.take k ∈ xs) : may0 xs s = true := by
  unfold may0
  refine List.any_eq_true.2 ⟨_, h, cov_iff.2 ⟨by rw [List.length_take]; omega, ?_⟩⟩
  rw [List.length_take, Nat.min_eq_left hk]
theorem may_no {xs : List Bs} {s : Bs} (h : ∀ j, j ≤ s.length → s.take j ∉ xs) : may0 xs s = false := by
  rw [Bool.eq_false_iff]
  intro hm
  obtain ⟨x, hx, hc⟩ := List.any_eq_true.1 hm
  rw [cov_iff] at hc
  exact h _ hc.1 (by rw [hc.2]; exact hx)
theorem extract_zero (s : Bs) (k : Nat) : (ByteArray.mk s.toArray).extract 0 k = ⟨(s.take k).toArray⟩ := by rw [extract_mk]; rfl
theorem allow_any (w : World) (b : Nat) (xs : List Bs) (s : Bs) (h : SetAt w b xs) (hs : s.length ≤ 2000000) : Calls Try.prog 48 #[.map (some b), .string ⟨s.toArray⟩] w (Says (may0 xs s) w) := by
  have hsl : (s.length : Int) ≤ 2000000 := by omega
  have H := Lib.hid h
  clear h
  go_enter Try.func48, Try.ntmps48
  go_wp2
  go_loop [9] (fun i => ∃ k : Nat, k ≤ s.length + 1 ∧ i = .int .i64 k ∧ Hid (∀ j, j < k → s.take j ∉ xs)) (fun i => s.length + 1 - (intOf i).toNat)
  case atStart => exact ⟨0, Nat.zero_le _, rfl, Lib.hid (fun j hj => by omega)⟩
  case round =>
    obtain ⟨k, hk, rfl, HT⟩ := hrel
    by_cases hks : k < s.length + 1
    · have hlt' : (k : Int) < (s.length : Int) + 1 := by omega
      have hkl : (k : Int) ≤ (s.length : Int) := by omega
      have hlook := H.out.look (s.take k) (short_max (by rw [List.length_take]; omega))
      rw [← extract_zero] at hlook
      have HY := Lib.hid (fun h => may_yes (xs := xs) (s := s) (k := k) (by omega) h)
      have HNO := Lib.hid (fun (h : s.take k ∉ xs) => (fun j hj => by
        rcases Nat.lt_succ_iff_lt_or_eq.1 hj with h1 | h1
        · exact HT.out j h1
        · rw [h1]; exact h : ∀ j, j < k + 1 → s.take j ∉ xs))
      by_cases hm : s.take k ∈ xs
      · have HR := Lib.hid (HY.out hm)
        rw [decide_eq_true hm] at hlook
        clear hm
        go_wp2
        go_ret
        exact says_mk HR.out.symm
      · have HN2 := Lib.hid (HNO.out hm)
        rw [decide_eq_false hm] at hlook
        clear hm
        go_wp2
        go_round
        case rel => exact ⟨k + 1, by omega, by go_num, HN2⟩
        case measure => simp [intOf]; omega
    · go_wp2
      go_ret
      exact says_mk (may_no (fun j hj => HT.out j (by omega))).symm
theorem irmay_any : IRMay := by
  intro w v xs g h hs hg
  have HC := Lib.hid (setOf_any w v xs h hs)
  have HV := Lib.hid (fun w => irv_any w g hg)
  have HA := Lib.hid (fun w b h => allow_any w b xs g h hg)
  obtain ⟨r, hr⟩ : ∃ r, r = rmay xs g := ⟨_, rfl⟩
  rw [← hr]
  have HE : Hid (r = (rvs xs && (rv g && may0 xs g))) := Lib.hid (by rw [hr]; rfl)
  clear hr h
  obtain ⟨z, hz⟩ : ∃ z, z = may0 xs g := ⟨_, rfl⟩
  rw [← hz] at HA HE
  clear hz
  unfold SetOf at HC
  go_enter Try.func25, Try.ntmps25
  go_wp2_with fail
  refine HC.out.mono ?_
  rintro e w1 ⟨hb1, m, rfl, hm⟩
  have B1 := Lib.hid hb1
  have HM := Lib.hid hm
  clear hb1 hm HC
  cases hx : rvs xs with
  | false =>
    rw [hx] at HE
    clear hx
    go_wp2_with fail
    go_ret
    exact ⟨by rw [HE.out]; rfl, B1.out⟩
  | true =>
    obtain ⟨b, rfl, hb0, hset⟩ := HM.out hx
    rw [hx] at HE
    have HSET := Lib.hid hset
    clear hx hb0 hset HM
    go_wp2_with fail
    refine (HV.out w1).mono ?_
    rintro e w2 ⟨rfl, hb2⟩
    have B2 := Lib.hid (B1.out.trans (hb2.mono B1.out.size))
    have HS2 := Lib.hid (HSET.out.below hb2)
    clear hb2
    cases hy : rv g with
    | false =>
      rw [hy] at HE
      clear hy
      go_wp2_with fail
      go_ret
      exact ⟨by rw [HE.out]; rfl, B2.out⟩
    | true =>
      rw [hy] at HE
      clear hy
      go_wp2_with fail
      refine (HA.out w2 b HS2.out).mono ?_
      rintro e w' ⟨rfl, rfl⟩
      go_wp2_with fail
      go_ret
      exact ⟨by rw [HE.out]; cases z <;> rfl, B2.out⟩
end Go.Proofs.Ytjakelpdnmnofaa
