/- What the program's RightValid, and its methods on what is known of a frame, answer. -/
import Derived.Test.YtopnomklfkkjfaaILink
import Derived.Laws.IdiomStrings
import Derived.Deep.SlicePairs
namespace Go.Proofs.Ytopnomklfkkjfaa
open Go.ChangeShapes Go.WideShapes Go.ChangeAt Go.RowKit
set_option linter.unusedVariables false

theorem conv_bytes (w : World) (s : Bs) : ∃ cap wA, (convert 9 22 (.string ⟨s.toArray⟩)).run Try.prog w = .ok (.slice (some ⟨w.heap.size, 0, none⟩) s.length cap) wA ∧
    Below w.heap.size w wA ∧ ∀ j (hj : j < s.length), wA.cell? ⟨w.heap.size, j, none⟩ = some (.int .u8 (s[j].toNat : Int)) := by
  refine ⟨_, _, run_bytes_of_string w _ _ _ _ Try.underlying9 Try.underlying22 Try.underlying5, ?_, fun j hj => ?_⟩
  · have := (Below.refl w.heap.size w).drew.alloc (Nat.le_refl _) (.cells (bytesRow ⟨s.toArray⟩ (grownCap w s.length 0 5)) 5 ((bytesRow ⟨s.toArray⟩ (grownCap w s.length 0 5)).size, (bytesRow ⟨s.toArray⟩ (grownCap w s.length 0 5)).size + 1))
    exact this
  · have h1 := World.cell?_alloc_mark w.drew (bytesRow ⟨s.toArray⟩ (grownCap w s.length 0 5)) 5 ((bytesRow ⟨s.toArray⟩ (grownCap w s.length 0 5)).size, (bytesRow ⟨s.toArray⟩ (grownCap w s.length 0 5)).size + 1) j
    refine h1.trans ?_
    rw [bytesRow_at ⟨s.toArray⟩ _ j (by simpa using hj)]
    rfl
theorem irv_any : IRV := by
  intro w s hs
  have hsl : (s.length : Int) ≤ 2000000 := by omega
  by_cases h4 : 4 < s.length
  · have h4' : (4 : Int) < (s.length : Int) := by omega
    have HR : Hid (rv s = false) := Lib.hid (by rw [Bool.eq_false_iff]; intro h; have := rv_len h; omega)
    rw [HR.out]
    go_enter Try.func18, Try.ntmps18
    go_wp2_with fail
    go_ret
    exact ⟨rfl, Below.refl _ _⟩
  have h4' : ¬ (4 : Int) < (s.length : Int) := by omega
  obtain ⟨cap, wA, hcv, hbA, hcA⟩ := conv_bytes w s
  have HRV := Lib.hid (fun h => okTo_all (s := s) (k := s.length) h rfl)
  have HCA := Lib.hid hcA
  have HBA := Lib.hid hbA
  clear hcA hbA
  go_enter Try.func18, Try.ntmps18
  go_wp2
  go_loop [11] (fun i => ∃ k : Nat, k ≤ s.length ∧ i = .int .i64 k ∧ Hid (okTo s k)) (fun i => s.length - (intOf i).toNat)
  case atStart => exact ⟨0, Nat.zero_le _, rfl, Lib.hid (fun b hb => by simp at hb)⟩
  case round =>
    obtain ⟨k, hk, rfl, HT⟩ := hrel
    by_cases hks : k < s.length
    · have hlt' : (k : Int) < (s.length : Int) := by omega
      have HB := Lib.hid (@lok_iff s[k])
      have hcell := HCA.out k hks
      obtain ⟨x, hx⟩ : ∃ x, x = s[k].toNat := ⟨_, rfl⟩
      rw [← hx] at hcell HB
      clear hx
      have HR := Lib.hid (fun h => rv_bad hks h)
      have HO := Lib.hid (fun h => okTo_succ HT.out hks h)
      by_cases h1 : x < 97
      · have h1' : (x : Int) < 97 := by omega
        go_wp2
        go_ret
        exact ⟨by rw [HR.out (by rw [Bool.eq_false_iff]; intro h; have := HB.out.1 h; omega)]; rfl, HBA.out⟩
      · by_cases h2 : 99 < x
        · have h1' : ¬ (x : Int) < 97 := by omega
          have h2' : (99 : Int) < (x : Int) := by omega
          go_wp2
          go_ret
          exact ⟨by rw [HR.out (by rw [Bool.eq_false_iff]; intro h; have := HB.out.1 h; omega)]; rfl, HBA.out⟩
        · have h1' : ¬ (x : Int) < 97 := by omega
          have h2' : ¬ (99 : Int) < (x : Int) := by omega
          go_wp2
          go_round
          case rel => exact ⟨k + 1, by omega, by go_num, Lib.hid (HO.out (HB.out.2 ⟨by omega, by omega⟩))⟩
          case measure => simp [intOf]; omega
    · go_wp2
      go_ret
      have e : k = s.length := by omega
      refine ⟨?_, HBA.out⟩
      rw [HRV.out (by rw [← e]; exact HT.out), decide_eq_true (by omega)]
      rfl

theorem ibelow_any (w : World) (x n : Int) : Calls Try.prog 44 #[.int .i64 x, .int .i64 n] w (Says (inR x 0 (n - 1)) w) := by
  unfold inR
  by_cases h : 0 ≤ x ∧ x ≤ n - 1
  · rw [decide_eq_true h]
    obtain ⟨h1, h2⟩ := h
    have h3 : x < n := by omega
    go_enter Try.func44, Try.ntmps44
    go_wp2
    go_ret
    exact says_mk rfl
  · rw [decide_eq_false h]
    by_cases h1 : 0 ≤ x
    · have h2 : decide (x < n) = false := by simp; omega
      clear h
      go_enter Try.func44, Try.ntmps44
      go_wp2
      go_ret
      exact says_mk rfl
    · have h2 : decide (0 ≤ x) = false := by simpa using h1
      clear h
      go_enter Try.func44, Try.ntmps44
      go_wp2
      go_ret
      exact says_mk rfl
theorem iok_nz {x : IV} (h : x.k ≠ 0) : iok x = (inR x.k 0 3 && (rv x.g && inR x.r 0 50)) := by
  unfold iok
  rw [if_neg h]
  congr 1
  unfold inR
  rw [Bool.eq_iff_iff, decide_eq_true_eq, decide_eq_true_eq]
  omega
set_option maxRecDepth 100000 in
theorem ivalid1_any (w : World) (x : IV) (hx : x.g.length ≤ 2000000) : Calls Try.prog 52 #[ivV x] w (BRes (iok x) w) := by
  obtain ⟨xk, xg, xr⟩ := x
  have HB : Hid (Below w.heap.size w (w.alloc (.cells #[.int .i64 xk, .string ⟨xg.toArray⟩, .int .i64 xr] 30))) := Lib.hid ((Below.refl _ _).alloc (Nat.le_refl _) _)
  obtain ⟨r, hr⟩ : ∃ r, r = iok ⟨xk, xg, xr⟩ := ⟨_, rfl⟩
  rw [← hr]
  by_cases hk : xk = 0
  · subst hk
    have HR : Hid (r = decide ((⟨0, xg, xr⟩ : IV) = iz)) := Lib.hid (by rw [hr]; unfold iok; rw [if_pos rfl])
    clear hr
    by_cases hg : xg = []
    · subst hg
      by_cases hz : xr = 0
      · subst hz
        have HR2 : Hid (r = true) := Lib.hid (by rw [HR.out]; exact decide_eq_true rfl)
        clear HR
        go_enter Try.func52, Try.ntmps52
        go_wp2_with fail
        go_ret
        exact ⟨by rw [HR2.out]; rfl, HB.out⟩
      · have HR2 : Hid (r = false) := Lib.hid (by rw [HR.out]; exact decide_eq_false (fun hh => hz (iv_ext.1 hh).2.2))
        have e1 : (xr == 0) = false := by simpa using hz
        clear HR
        go_enter Try.func52, Try.ntmps52
        go_wp2_with fail
        go_ret
        exact ⟨by rw [HR2.out]; rfl, HB.out⟩
    · have HR2 : Hid (r = false) := Lib.hid (by rw [HR.out]; exact decide_eq_false (fun hh => hg (iv_ext.1 hh).2.1))
      have e1 : (xg == []) = false := by simpa using hg
      clear HR
      go_enter Try.func52, Try.ntmps52
      go_wp2_with fail
      go_ret
      exact ⟨by rw [HR2.out]; rfl, HB.out⟩
  · have hk' : (xk == 0) = false := by simpa using hk
    have HR : Hid (r = (inR xk 0 3 && (rv xg && inR xr 0 50))) := Lib.hid (by rw [hr]; exact iok_nz hk)
    have HI1 := Lib.hid (fun w => ibelow_any w xk 4)
    have HI2 := Lib.hid (fun w => ibelow_any w xr 51)
    have HV := Lib.hid (fun w => irv_any w xg hx)
    clear hr hk
    go_enter Try.func52, Try.ntmps52
    go_wp2_with fail
    refine (HI1.out _).mono ?_
    rintro e w' ⟨rfl, rfl⟩
    rw [show (4 : Int) - 1 = 3 from rfl]
    cases h1 : inR xk 0 3 with
    | false =>
      rw [h1] at HR
      clear h1
      go_wp2_with fail
      go_ret
      exact ⟨by rw [HR.out]; rfl, HB.out⟩
    | true =>
      rw [h1] at HR
      clear h1
      go_wp2_with fail
      refine (HV.out _).mono ?_
      rintro e w2 ⟨rfl, hb2⟩
      have B2 := Lib.hid (HB.out.trans (hb2.mono HB.out.size))
      obtain ⟨c0, c1, c2⟩ := (tri_new w ⟨xk, xg, xr⟩ 30).below hb2 (tri_new w ⟨xk, xg, xr⟩ 30).lt
      simp only [Nat.zero_add] at c0 c1 c2
      clear hb2
      cases h2 : rv xg with
      | false =>
        rw [h2] at HR
        clear h2
        go_wp2_with fail
        go_ret
        exact ⟨by rw [HR.out]; rfl, B2.out⟩
      | true =>
        rw [h2] at HR
        clear h2
        go_wp2_with fail
        refine (HI2.out _).mono ?_
        rintro e w' ⟨rfl, rfl⟩
        rw [show (51 : Int) - 1 = 50 from rfl]
        go_wp2_with fail
        go_ret
        exact ⟨by rw [HR.out]; rfl, B2.out⟩
end Go.Proofs.Ytopnomklfkkjfaa
