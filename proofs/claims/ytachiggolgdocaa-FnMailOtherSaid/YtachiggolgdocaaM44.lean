/- What the proofs stand on, part 44. -/
import Derived.Test.YtachiggolgdocaaRows
import Derived.Test.YtachiggolgdocaaM1
import Derived.Test.YtachiggolgdocaaM2
import Derived.Test.YtachiggolgdocaaM3
import Derived.Test.YtachiggolgdocaaM4
import Derived.Test.YtachiggolgdocaaM5
import Derived.Test.YtachiggolgdocaaM6
import Derived.Test.YtachiggolgdocaaM7
import Derived.Test.YtachiggolgdocaaM8
import Derived.Test.YtachiggolgdocaaM9
import Derived.Test.YtachiggolgdocaaM10
import Derived.Test.YtachiggolgdocaaM11
import Derived.Test.YtachiggolgdocaaM12
import Derived.Test.YtachiggolgdocaaM13
import Derived.Test.YtachiggolgdocaaM14
import Derived.Test.YtachiggolgdocaaM15
import Derived.Test.YtachiggolgdocaaM16
import Derived.Test.YtachiggolgdocaaM17
import Derived.Test.YtachiggolgdocaaM18
import Derived.Test.YtachiggolgdocaaM19
import Derived.Test.YtachiggolgdocaaM20
import Derived.Test.YtachiggolgdocaaM24
import Derived.Test.YtachiggolgdocaaM25
import Derived.Test.YtachiggolgdocaaM26
import Derived.Test.YtachiggolgdocaaM29
import Derived.Test.YtachiggolgdocaaM30
set_option linter.unusedSimpArgs false
set_option linter.unusedVariables false
namespace Go.Proofs.Ytachiggolgdocaa
open Go.ChangeShapes Go.WideShapes Go.ChangeAt Go.RowKit
set_option linter.unusedVariables false
theorem mother {ys : List IV} {t f u : Int} (h : mgot ys t = true) (hu : u ≠ t) : mws (mrest ys t) f u = mws ys f u := by
  have hok := mrest_ok h
  obtain ⟨h1, h2, h3, h4⟩ := mgot_yes h
  rw [mws, mws, if_pos h1, if_pos hok, h3]
  have hg := mix_at h2
  conv => rhs; rw [split_at h2]
  rw [mws0_app, mws0_app, mws0_app, mws0_one, if_neg (by unfold msel; rw [hg]; simp; intro _ e; exact hu e.symm), List.nil_append]
end Go.Proofs.Ytachiggolgdocaa
namespace Go.Proofs.Ytachiggolgdocaa
open Go.ChangeShapes Go.WideShapes Go.ChangeAt Go.RowKit
set_option linter.unusedVariables false
set_option maxRecDepth 100000 in
set_option maxHeartbeats 4000000 in
theorem mailOther_walk  (W : World) (a : Option Addr) (len cap : Nat) (zs : List Int) (hr : Row .u8 W a len cap zs) :
    Calls Try.prog 8 #[.slice a len cap] W fun e w' => e = .returned (.bool true) ∧ Below W.heap.size W w' := by
  have hm := row_len hr
  by_cases hL : 1048576 < len
  · have hL1 : (1048576 : Int) < (len : Int) := by omega
    clear hr
    go_enter Try.func8, Try.ntmps8
    go_wp2_with fail
    go_ret
    exact ⟨rfl, Below.refl _ _⟩
  have hL1 : decide ((1048576 : Int) < (len : Int)) = false := by simp; omega
  have hL2 : decide (1048576 < len) = false := by simp; omega
  go_enter Try.func8, Try.ntmps8
  go_wp2_with fail
  refine (drawMailTake_any W a len cap zs hr).mono ?_
  clear hr
  rintro e w1 ⟨v, ys, t, rfl, hd⟩
  have B1 := Lib.hid hd.bel
  have R1 := Lib.hid hd.is
  have N1 := Lib.hid hd.nil
  have hl9 := hd.len
  obtain ⟨g0, c2, hv⟩ := hd.form
  clear hd
  subst hv
  have HC := Lib.hid (imt_any w1 _ ys t R1.out)
  have HS := Lib.hid (fun w h => sMailTake_any w (.slice (some ⟨g0, 0, none⟩) ys.length c2) ys t h N1.out)
  have HOT : Hid (mgot ys t = true → ∀ f u, u ≠ t → mws (mrest ys t) f u = mws ys f u) := Lib.hid (fun h f u hu => mother h hu)
  have HMW : Hid (∀ (f u : Int) w, Is w (.slice (some ⟨g0, 0, none⟩) ys.length c2) ys → Calls Try.prog 19 #[.slice (some ⟨g0, 0, none⟩) ys.length c2, .int .i64 f, .int .i64 u] w (NewR (mws ys f u) w)) := Lib.hid (fun f u w h => imw_any w _ ys f u h)
  generalize mrest ys t = us at HC HS HOT
  generalize mtaken ys t = x at HC HS HOT
  generalize mgot ys t = b at HC HS HOT
  obtain ⟨n, hn⟩ : ∃ n, n = ys.length := ⟨_, rfl⟩
  rw [← hn] at HC HS R1 N1 hl9 HMW ⊢
  have HN := Lib.hid hn
  clear hn
  have hbb := neB b
  go_wp2_with fail
  refine HC.out.mono ?_
  rintro e w2 ⟨p2, rfl, hr2, hb2⟩
  obtain ⟨X, hX⟩ : ∃ X, X = w2.heap.size := ⟨_, rfl⟩
  obtain ⟨w2a, hw2a⟩ : ∃ w2a, w2a = w2.alloc (.cells #[.int .i64 x.k, .int .i64 x.g, .int .i64 x.r] 25) := ⟨_, rfl⟩
  have hb2a : Below w1.heap.size w1 w2a := by rw [hw2a]; exact hb2.alloc hb2.size _
  have T2 : Hid (Tri w2a X 0 x) := Lib.hid (by rw [hX, hw2a]; exact tri_new w2 x _)
  have B2 := Lib.hid (B1.out.trans (hb2a.mono B1.out.size))
  have R2 := Lib.hid (R1.out.below hb2a)
  have U2 := Lib.hid (hr2.is.below (w' := w2a) (by rw [hw2a]; exact (Below.refl _ _).alloc (Nat.le_refl _) _))
  have HW2 := Lib.hid hw2a
  have HX := Lib.hid hX
  clear hb2 hr2 HC R1 B1 hb2a hw2a hX
  go_wp2_with fail
  rw [← HW2.out, ← HX.out]
  refine (HS.out w2a R2.out).mono ?_
  rintro e w3 ⟨p3, rfl, hr3, hb3⟩
  obtain ⟨Y, hY⟩ : ∃ Y, Y = w3.heap.size := ⟨_, rfl⟩
  obtain ⟨w3a, hw3a⟩ : ∃ w3a, w3a = w3.alloc (.cells #[.int .i64 x.k, .int .i64 x.g, .int .i64 x.r] 25) := ⟨_, rfl⟩
  have hb3a : Below w2a.heap.size w2a w3a := by rw [hw3a]; exact hb3.alloc hb3.size _
  have TY3 : Hid (Tri w3a Y 0 x) := Lib.hid (by rw [hY, hw3a]; exact tri_new w3 x _)
  have T3 := Lib.hid (T2.out.below hb3a T2.out.lt)
  have B3 := Lib.hid (B2.out.trans (hb3a.mono B2.out.size))
  have R3 := Lib.hid (R2.out.below hb3a)
  have U23 := Lib.hid (U2.out.below hb3a)
  have U3 := Lib.hid (hr3.is.below (w' := w3a) (by rw [hw3a]; exact (Below.refl _ _).alloc (Nat.le_refl _) _))
  have HW3 := Lib.hid hw3a
  have HY := Lib.hid hY
  obtain ⟨c0, c1, c2'⟩ := T3.out
  obtain ⟨d0, d1, d2⟩ := TY3.out
  simp only [Nat.zero_add] at c0 c1 c2' d0 d1 d2
  rw [hw3a] at c0 c1 c2' d0 d1 d2
  rw [hY] at d0 d1 d2
  clear hb3 hr3 HS R2 B2 U2 hb3a hw3a hY T2
  go_wp2_with fail
  rw [← HW3.out, ← HY.out]
  clear c0 c1 c2' d0 d1 d2
  refine (sameI w3a p2 p3 us U23.out U3.out).mono ?_
  rintro e w4 ⟨rfl, hb4⟩
  have B4 := Lib.hid (B3.out.trans (hb4.mono B3.out.size))
  have R4 := Lib.hid (R3.out.below hb4)
  have U24 := Lib.hid (U23.out.below hb4)
  have U34 := Lib.hid (U3.out.below hb4)
  have T4 := Lib.hid (T3.out.below hb4 T3.out.lt)
  have TY4 := Lib.hid (TY3.out.below hb4 TY3.out.lt)
  clear hb4 B3 U23 U3 R3 T3 TY3
  cases b with
  | false =>
    obtain ⟨c0, c1, c2'⟩ := T4.out
    obtain ⟨d0, d1, d2⟩ := TY4.out
    simp only [Nat.zero_add] at c0 c1 c2' d0 d1 d2
    go_wp2_with fail
    clear c0 c1 c2' d0 d1 d2
    refine (sameI w4 p2 p3 us U24.out U34.out).mono ?_
    rintro e w9 ⟨rfl, hb9⟩
    have B9 := Lib.hid (B4.out.trans (hb9.mono B4.out.size))
    clear hb9
    go_wp2_with fail
    go_ret
    exact ⟨rfl, B9.out⟩
  | true =>
    have HO2 := Lib.hid (HOT.out (by first | trivial | rfl))
    have HMU : Hid (∀ (f u : Int) w, u ≠ t → Is w p2 us → Calls Try.prog 19 #[p2, .int .i64 f, .int .i64 u] w (NewR (mws ys f u) w)) := Lib.hid (fun f u w hu h => by rw [← HO2.out f u hu]; exact imw_any w _ us f u h)
    clear HOT HO2 U34 T4 TY4
    go_wp2
    go_loopw [11] (fun i wr => ∃ k : Nat, k ≤ 3 ∧ i = .int .i64 k ∧ Hid (Below w4.heap.size w4 wr)) (fun i _ => 3 - (intOf i).toNat)
    case atStart => exact ⟨0, Nat.zero_le _, rfl, Lib.hid (Below.refl _ _)⟩
    case round =>
      obtain ⟨k, hk, rfl, HB⟩ := hrel
      by_cases hlt : k < 3
      · have hlt' : (k : Int) < 3 := by omega
        go_wp2
        go_loopw [12] (fun i wr => ∃ j : Nat, j ≤ 3 ∧ i = .int .i64 j ∧ Hid (Below w4.heap.size w4 wr)) (fun i _ => 3 - (intOf i).toNat)
        case atStart => exact ⟨0, Nat.zero_le _, rfl, HB⟩
        case round =>
          obtain ⟨j, hj, rfl, HB2⟩ := hrel
          by_cases hjt : j < 3
          · have hjt' : (j : Int) < 3 := by omega
            by_cases hu : (j : Int) = t
            · have hu' : ((j : Int) != t) = false := by simpa using hu
              clear hu
              go_wp2
              go_roundw
              case rel => exact ⟨j + 1, by omega, by go_num, HB2⟩
              case measure => simp [intOf]; omega
            · have hu' : ((j : Int) != t) = true := by simpa using hu
              have HU := Lib.hid hu
              clear hu
              rename_i wq _
              go_wp2_with fail
              refine (HMU.out (k : Int) (j : Int) _ HU.out (U24.out.below HB2.out)).mono ?_
              rintro e w6 ⟨p6, rfl, hr6, hb6⟩
              have HB6 := Lib.hid (HB2.out.trans (hb6.mono HB2.out.size))
              have I6 := Lib.hid hr6.ints
              clear hb6 hr6
              go_wp2_with fail
              refine (HMW.out (k : Int) (j : Int) w6 (R4.out.below HB6.out)).mono ?_
              rintro e w7 ⟨p7, rfl, hr7, hb7⟩
              have HB7 := Lib.hid (HB6.out.trans (hb7.mono HB6.out.size))
              have I67 := Lib.hid (I6.out.below (B := 0) hb7)
              have I7 := Lib.hid hr7.ints
              clear hb7 hr7
              go_wp2_with fail
              refine (sameN w7 p6 p7 _ I67.out I7.out).mono ?_
              rintro e w8 ⟨rfl, hb8⟩
              have HB8 := Lib.hid (HB7.out.trans (hb8.mono HB7.out.size))
              clear hb8
              go_wp2
              go_roundw
              case rel => exact ⟨j + 1, by omega, by go_num, HB8⟩
              case measure => simp [intOf]; omega
          · have e : j = 3 := by omega
            subst e
            go_wp2
            go_roundw
            case rel => exact ⟨k + 1, by omega, by go_num, HB2⟩
            case measure => simp [intOf]; omega
      · have e : k = 3 := by omega
        subst e
        go_wp2
        go_ret
        exact ⟨rfl, B4.out.trans (HB.out.mono B4.out.size)⟩
end Go.Proofs.Ytachiggolgdocaa
