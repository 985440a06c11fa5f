/- What the program's functions on rights answer. -/
import Derived.Test.YtjakelpdnmnofaaRLaid
import Derived.Test.YtjakelpdnmnofaaExRights
namespace Go.Proofs.Ytjakelpdnmnofaa
open Go.ChangeShapes Go.WideShapes Go.ChangeAt Go.RowKit Go.Maps
set_option linter.unusedVariables false

theorem conv_bytes (w : World) (s : Bs) : ∃ cap wA, (convert 9 22 (.string ⟨s.toArray⟩)).run Try.prog w = .ok (.slice (some ⟨w.heap.size, 0, none⟩) s.length cap) wA ∧
    Below w.heap.size w wA ∧ ∀ j (hj : j < s.length), wA.cell? ⟨w.heap.size, j, none⟩ = some (.int .u8 (s[j].toNat : Int)) := by
  refine ⟨_, _, run_bytes_of_string w _ _ _ _ Try.underlying9 Try.underlying22 Try.underlying5, ?_, fun j hj => ?_⟩
  · have := (Below.refl w.heap.size w).drew.alloc (Nat.le_refl _) (.cells (bytesRow ⟨s.toArray⟩ (grownCap w s.length 0 5)) 5 ((bytesRow ⟨s.toArray⟩ (grownCap w s.length 0 5)).size, (bytesRow ⟨s.toArray⟩ (grownCap w s.length 0 5)).size + 1))
    exact this
  · have h1 := World.cell?_alloc_mark w.drew (bytesRow ⟨s.toArray⟩ (grownCap w s.length 0 5)) 5 ((bytesRow ⟨s.toArray⟩ (grownCap w s.length 0 5)).size, (bytesRow ⟨s.toArray⟩ (grownCap w s.length 0 5)).size + 1) j
    refine h1.trans ?_
    rw [bytesRow_at ⟨s.toArray⟩ _ j (by simpa using hj)]
    rfl
theorem irv_any : IRV := by
  intro w s hs
  have hsl : (s.length : Int) ≤ 2000000 := by omega
  by_cases h4 : 4 < s.length
  · have h4' : (4 : Int) < (s.length : Int) := by omega
    have HR : Hid (rv s = false) := Lib.hid (by rw [Bool.eq_false_iff]; intro h; have := rv_len h; omega)
    rw [HR.out]
    go_enter Try.func19, Try.ntmps19
    go_wp2_with fail
    go_ret
    exact ⟨rfl, Below.refl _ _⟩
  have h4' : ¬ (4 : Int) < (s.length : Int) := by omega
  obtain ⟨cap, wA, hcv, hbA, hcA⟩ := conv_bytes w s
  have HRV := Lib.hid (fun h => okTo_all (s := s) (k := s.length) h rfl)
  have HCA := Lib.hid hcA
  have HBA := Lib.hid hbA
  clear hcA hbA
  go_enter Try.func19, Try.ntmps19
  go_wp2
  go_loop [11] (fun i => ∃ k : Nat, k ≤ s.length ∧ i = .int .i64 k ∧ Hid (okTo s k)) (fun i => s.length - (intOf i).toNat)
  case atStart => exact ⟨0, Nat.zero_le _, rfl, Lib.hid (fun b hb => by simp at hb)⟩
  case round =>
    obtain ⟨k, hk, rfl, HT⟩ := hrel
    by_cases hks : k < s.length
    · have hlt' : (k : Int) < (s.length : Int) := by omega
      have HB := Lib.hid (@lok_iff s[k])
      have hcell := HCA.out k hks
      obtain ⟨x, hx⟩ : ∃ x, x = s[k].toNat := ⟨_, rfl⟩
      rw [← hx] at hcell HB
      clear hx
      have HR := Lib.hid (fun h => rv_bad hks h)
      have HO := Lib.hid (fun h => okTo_succ HT.out hks h)
      by_cases h1 : x < 97
      · have h1' : (x : Int) < 97 := by omega
        go_wp2
        go_ret
        exact ⟨by rw [HR.out (by rw [Bool.eq_false_iff]; intro h; have := HB.out.1 h; omega)]; rfl, HBA.out⟩
      · by_cases h2 : 99 < x
        · have h1' : ¬ (x : Int) < 97 := by omega
          have h2' : (99 : Int) < (x : Int) := by omega
          go_wp2
          go_ret
          exact ⟨by rw [HR.out (by rw [Bool.eq_false_iff]; intro h; have := HB.out.1 h; omega)]; rfl, HBA.out⟩
        · have h1' : ¬ (x : Int) < 97 := by omega
          have h2' : ¬ (99 : Int) < (x : Int) := by omega
          go_wp2
          go_round
          case rel => exact ⟨k + 1, by omega, by go_num, Lib.hid (HO.out (HB.out.2 ⟨by omega, by omega⟩))⟩
          case measure => simp [intOf]; omega
    · go_wp2
      go_ret
      have e : k = s.length := by omega
      refine ⟨?_, HBA.out⟩
      rw [HRV.out (by rw [← e]; exact HT.out), decide_eq_true (by omega)]
      rfl
theorem short_max {x : Bs} (h : x.length ≤ 2000000) : x.length ≤ maxLen := by unfold maxLen; omega
theorem prefix_any (w : World) (a b : Bs) (ha : a.length ≤ maxLen) (hb : b.length ≤ maxLen) :
    Calls Try.prog 58 #[.string ⟨b.toArray⟩, .string ⟨a.toArray⟩] w (Says (cov a b) w) := by
  unfold maxLen at ha hb
  have hsa : (a.length : Int) ≤ 9223372036854775807 := by omega
  have hsb : (b.length : Int) ≤ 9223372036854775807 := by omega
  by_cases h : a.length ≤ b.length
  · have h' : (a.length : Int) ≤ (b.length : Int) := by omega
    go_enter Try.func58, Try.ntmps58
    go_wp2
    go_ret
    refine says_mk ?_
    rw [extract_toList, cov, decide_eq_true h, Bool.true_and]
  · have h' : ¬ (a.length : Int) ≤ (b.length : Int) := by omega
    go_enter Try.func58, Try.ntmps58
    go_wp2
    go_ret
    refine says_mk ?_
    rw [cov, decide_eq_false h, Bool.false_and]
theorem hasPrefix_any (w : World) (a b : Bs) (ha : a.length ≤ maxLen) (hb : b.length ≤ maxLen) :
    Calls Try.prog 44 #[.string ⟨b.toArray⟩, .string ⟨a.toArray⟩] w (Says (cov a b) w) := by
  have HC := Lib.hid (prefix_any w a b ha hb)
  obtain ⟨r, hr⟩ : ∃ r, r = cov a b := ⟨_, rfl⟩
  rw [← hr] at HC ⊢
  clear hr
  go_enter Try.func44, Try.ntmps44
  go_wp2_with fail
  refine HC.out.mono ?_
  rintro e w' ⟨rfl, rfl⟩
  go_wp2_with fail
  go_ret
  exact ⟨rfl, rfl⟩
theorem ircov_any : IRCov := by
  intro w a b ha hb
  have HA := Lib.hid (irv_any w a ha)
  have HB := Lib.hid (fun w => irv_any w b hb)
  have HC := Lib.hid (fun w => hasPrefix_any w a b (short_max ha) (short_max hb))
  obtain ⟨r, hr⟩ : ∃ r, r = rcov a b := ⟨_, rfl⟩
  rw [← hr]
  have HR := Lib.hid hr
  clear hr
  have HE : Hid (r = (rv a && (rv b && cov a b))) := Lib.hid (by rw [HR.out]; rfl)
  clear HR
  obtain ⟨x, hx⟩ : ∃ x, x = rv a := ⟨_, rfl⟩
  obtain ⟨y, hy⟩ : ∃ y, y = rv b := ⟨_, rfl⟩
  obtain ⟨z, hz⟩ : ∃ z, z = cov a b := ⟨_, rfl⟩
  rw [← hx] at HA HE
  rw [← hy] at HB HE
  rw [← hz] at HC HE
  clear hx hy hz
  go_enter Try.func22, Try.ntmps22
  cases x with
  | false =>
    go_wp2_with fail
    refine HA.out.mono ?_
    rintro e w1 ⟨rfl, hb1⟩
    have B1 := Lib.hid hb1
    clear hb1
    go_wp2_with fail
    go_ret
    exact ⟨by rw [HE.out]; rfl, B1.out⟩
  | true =>
    go_wp2_with fail
    refine HA.out.mono ?_
    rintro e w1 ⟨rfl, hb1⟩
    have B1 := Lib.hid hb1
    clear hb1
    cases y with
    | false =>
      go_wp2_with fail
      refine (HB.out w1).mono ?_
      rintro e w2 ⟨rfl, hb2⟩
      have B2 := Lib.hid (B1.out.trans (hb2.mono B1.out.size))
      clear hb2
      go_wp2_with fail
      go_ret
      exact ⟨by rw [HE.out]; rfl, B2.out⟩
    | true =>
      go_wp2_with fail
      refine (HB.out w1).mono ?_
      rintro e w2 ⟨rfl, hb2⟩
      have B2 := Lib.hid (B1.out.trans (hb2.mono B1.out.size))
      clear hb2
      go_wp2_with fail
      refine (HC.out w2).mono ?_
      rintro e w' ⟨rfl, rfl⟩
      go_wp2_with fail
      go_ret
      exact ⟨by rw [HE.out]; cases z <;> rfl, B2.out⟩
end Go.Proofs.Ytjakelpdnmnofaa
