/- The walk of the statement that a walk goes through two tables, out of a contract of the program. -/
import Derived.Test.YtdockkmodjbfpaaWLaw
namespace Go.Proofs.Ytdockkmodjbfpaa
open Go.ChangeShapes Go.WideShapes Go.ChangeAt Go.RowKit
set_option linter.unusedVariables false

set_option maxHeartbeats 1000000 in
theorem walk_walk (hW : ∀ (w : World) (v : Value) (xss : List (List Int)) (r a : Int), Rows2 w v xss → Calls Try.prog 13 #[v, .int .i64 r, .int .i64 a] w (WalkRes w (walkF xss r a))) (W : World) (a : Option Addr) (len cap : Nat) (zs : List Int) (hr : Row .u8 W a len cap zs) :
    Calls Try.prog 3 #[.slice a len cap] W fun e w' => e = .returned (.bool true) ∧ Below W.heap.size W w' := by
  have HhW := Lib.hid hW
  clear hW
  have hm := row_len hr
  by_cases hL : 1048576 < len
  · have hL1 : (1048576 : Int) < (len : Int) := by omega
    clear hr
    go_enter Try.func3, Try.ntmps3
    go_wp2_with fail
    go_ret
    exact ⟨rfl, Below.refl _ _⟩
  have hL1 : decide ((1048576 : Int) < (len : Int)) = false := by simp; omega
  have hL2 : decide (1048576 < len) = false := by simp; omega
  go_enter Try.func3, Try.ntmps3
  go_wp2_with fail
  refine (drawWalk_any W a len cap zs hr).mono ?_
  clear hr
  rintro e w1 ⟨v, xss, r, t, hP, rfl, hR1, hS, hb1⟩
  have R1 := Lib.hid hR1
  have B1 := Lib.hid hb1
  have Z1 : W.heap.size ≤ w1.heap.size := hb1.size
  have HI := Lib.hid (HhW.out w1 v xss r t hR1)
  clear hR1 hb1
  obtain ⟨pf, hpf⟩ : ∃ pf, pf = walkF xss r t := ⟨_, rfl⟩
  rw [← hpf] at HI
  have HPF := Lib.hid hpf
  clear hpf
  obtain ⟨f, q, bb, c⟩ := pf
  go_wp2_with fail
  refine HI.out.mono ?_
  rintro e w2 ⟨rfl, hb2⟩
  unfold plV
  have B2 := Lib.hid (Below.chg B1.out (Chg.of_below hb2) Z1 (.inr rfl))
  have Z2 : W.heap.size ≤ w2.heap.size := Nat.le_trans Z1 hb2.size
  have R2 := Lib.hid (R1.out.below hb2)
  clear hb2 B1 HI R1
  obtain ⟨wA, hwA⟩ : ∃ wA, wA = w2.alloc (.cells #[.int .i64 f, .int .i64 q, .bool bb] 27) := ⟨_, rfl⟩
  have HPA : Hid (wA.heap[w2.heap.size]? = some (.cells #[.int .i64 f, .int .i64 q, .bool bb] 27 (0, 0))) := Lib.hid (by rw [hwA]; exact heap_alloc_new w2 _)
  have BA : Hid (Below W.heap.size W wA) := Lib.hid (by rw [hwA]; exact B2.out.alloc Z2 _)
  have ZA : w2.heap.size < wA.heap.size := by rw [hwA]; simp
  have RA : Hid (Rows2 wA v xss) := Lib.hid (by rw [hwA]; exact R2.out.below ((Below.refl _ _).alloc (Nat.le_refl _) _))
  have HSP := Lib.hid (swalk_any wA v xss r t RA.out)
  rw [← HPF.out] at HSP
  clear B2 R2
  go_wp2_with fail
  rw [← hwA]
  clear hwA
  refine HSP.out.mono ?_
  rintro e w4 ⟨rfl, hb4⟩
  unfold plV
  have Z4 := hb4.size
  have B4 := Lib.hid (Below.chg BA.out (Chg.of_below hb4) (by omega) (.inr rfl))
  have hp4 := (hb4.block w2.heap.size ZA).trans HPA.out
  have R4 := Lib.hid (RA.out.below hb4)
  clear hb4 BA HPA HSP RA
  have hA : ∀ k u, (#[.int .i64 f, .int .i64 q, .bool bb] : Array Value)[k]? = some u → ∀ ob, (w4.alloc ob).cell? ⟨w2.heap.size, k, none⟩ = some u := fun k u hu ob => by
    rw [World.cell?_alloc_lt w4 ob ⟨w2.heap.size, k, none⟩ (by show w2.heap.size < w4.heap.size; omega), cell_of_row w4 w2.heap.size k _ _ _ hp4, hu]
  have hA0 := hA 0 _ rfl
  have hA1 := hA 1 _ rfl
  have hA2 := hA 2 _ rfl
  have HBB : Hid (∀ ob, Below W.heap.size W (w4.alloc ob)) := Lib.hid (fun ob => B4.out.alloc (by omega) ob)
  have HRB : Hid (∀ ob, Rows2 (w4.alloc ob) v xss) := Lib.hid (fun ob => R4.out.below ((Below.refl _ _).alloc (Nat.le_refl _) ob))
  have HR4 := Lib.hid R4.out
  clear hA hp4 B4 R4
  by_cases hc0 : c = 0
  · subst hc0
    obtain ⟨⟨hmem, ⟨hr0, hr1⟩, ht0, ht1⟩, hgx, hgy, hw⟩ := walkF_done (xss := xss) (r := r) (a := t) (by rw [← HPF.out])
    have hpf := HPF.out.trans hw
    injection hpf with hf hq hbb _
    clear hw HPF hP hS
    obtain ⟨r, rfl⟩ := Int.eq_ofNat_of_zero_le hr0
    obtain ⟨i, hi⟩ := Int.eq_ofNat_of_zero_le (show 0 ≤ t / 16 by omega)
    obtain ⟨j, hj⟩ := Int.eq_ofNat_of_zero_le (show 0 ≤ t / 4 % 4 by omega)
    obtain ⟨t4, ht4⟩ := Int.eq_ofNat_of_zero_le (show 0 ≤ t % 4 by omega)
    have HCUT := Lib.hid (fun w => aI_yes t w ht0 ht1)
    rw [hi, hj, ht4] at HCUT
    have hi4 : (i : Int) < 4 := by omega
    have hj4 : (j : Int) < 4 := by omega
    obtain ⟨b, o, cc, g, p, d, rfl, hca, hxa⟩ := walk_words HR4.out hmem (r := r) (i := i) (by omega) (by omega)
    have hxe : wd xss r i = top xss (r : Int) t := by unfold top; rw [hi]; simp
    rw [hxe] at hxa
    obtain ⟨fr, hfr⟩ := Int.eq_ofNat_of_zero_le (good_frame hgx).1
    have hfr12 := (good_frame hgx).2
    obtain ⟨b', o', c', g2, p2, d2, e0, hcb, hyb⟩ := walk_words HR4.out hmem (r := fr) (i := j) (by omega) (by omega)
    injection e0 with e0 _ e3
    injection e0 with e0
    injection e0 with e1 e2
    subst e1
    subst e2
    subst e3
    have hye : wd xss fr j = low xss (r : Int) t := by unfold low; rw [hfr, hj]; simp
    rw [hye] at hyb
    obtain ⟨x, hx⟩ : ∃ x, x = top xss (r : Int) t := ⟨_, rfl⟩
    obtain ⟨y, hy⟩ : ∃ y, y = low xss (r : Int) t := ⟨_, rfl⟩
    rw [← hx] at hxa hgx hfr hfr12 hbb
    rw [← hy] at hyb hgy hf hbb
    have HX := Lib.hid (fun w => eI_yes x w hgx)
    rw [hfr] at HX
    have HY := Lib.hid (fun w => eI_yes y w hgy)
    rw [← hf] at HY
    obtain ⟨b1, hb1⟩ : ∃ b1, b1 = decide (x % 4 = 3) := ⟨_, rfl⟩
    obtain ⟨b2, hb2⟩ : ∃ b2, b2 = decide (y % 4 = 3) := ⟨_, rfl⟩
    rw [← hb1] at HX hbb
    rw [← hb2] at HY hbb
    have hfr12' : (fr : Int) < 12 := by omega
    rw [ht4] at hq
    subst hbb
    subst hq
    clear hx hy hb1 hb2 hgx hgy hf hfr hfr12 hxe hye hmem hi hj ht4 ht0 ht1
    go_wp2_with fail
    refine (HCUT.out _).mono ?_
    rintro e w' ⟨rfl, rfl⟩
    go_wp2_with fail
    refine (HX.out _).mono ?_
    rintro e w' ⟨rfl, rfl⟩
    go_wp2_with fail
    refine (HY.out _).mono ?_
    rintro e w' ⟨rfl, rfl⟩
    cases b1 <;> cases b2 <;> skip
    all_goals
      go_wp2_with fail
      go_ret
      exact ⟨rfl, HBB.out _⟩
  · have hcn : (c != 0) = true := by simpa using hc0
    clear hc0
    go_wp2_with fail
    go_ret
    exact ⟨rfl, HBB.out _⟩
end Go.Proofs.Ytdockkmodjbfpaa
