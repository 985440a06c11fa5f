/- What the proofs stand on, part 41. -/
import Derived.Test.YtachiggolgdocaaRows
import Derived.Test.YtachiggolgdocaaM1
import Derived.Test.YtachiggolgdocaaM2
import Derived.Test.YtachiggolgdocaaM3
import Derived.Test.YtachiggolgdocaaM4
import Derived.Test.YtachiggolgdocaaM5
import Derived.Test.YtachiggolgdocaaM6
import Derived.Test.YtachiggolgdocaaM7
import Derived.Test.YtachiggolgdocaaM8
import Derived.Test.YtachiggolgdocaaM9
import Derived.Test.YtachiggolgdocaaM10
import Derived.Test.YtachiggolgdocaaM11
import Derived.Test.YtachiggolgdocaaM12
import Derived.Test.YtachiggolgdocaaM13
import Derived.Test.YtachiggolgdocaaM14
import Derived.Test.YtachiggolgdocaaM15
import Derived.Test.YtachiggolgdocaaM17
import Derived.Test.YtachiggolgdocaaM28
import Derived.Test.YtachiggolgdocaaM34
set_option linter.unusedSimpArgs false
set_option linter.unusedVariables false
namespace Go.Proofs.Ytachiggolgdocaa
open Go.ChangeShapes Go.WideShapes Go.ChangeAt Go.RowKit
set_option linter.unusedVariables false
theorem msok_one (x : IV) : msok [x] = mok x := by
  rw [Bool.eq_iff_iff, msok_iff]
  simp
theorem msend_full {ys : List IV} {x : IV} (h1 : msok ys = true) (h2 : mok x = true) : msendB ys x = decide (ys.length < 8) ∧ (msendB ys x = false → msend ys x = ys) := by
  have hf : mfit ys x = true := by unfold mfit; rw [h1, h2]; rfl
  refine ⟨by unfold msendB; rw [hf, Bool.true_and], fun h => ?_⟩
  unfold msendB at h
  rw [hf, Bool.true_and, decide_eq_false_iff_not] at h
  unfold msend
  rw [if_pos hf, if_neg h]
end Go.Proofs.Ytachiggolgdocaa
namespace Go.Proofs.Ytachiggolgdocaa
open Go.ChangeShapes Go.WideShapes Go.ChangeAt Go.RowKit
set_option linter.unusedVariables false
set_option maxRecDepth 100000 in
set_option maxHeartbeats 2000000 in
theorem mailFull_walk  (W : World) (a : Option Addr) (len cap : Nat) (zs : List Int) (hr : Row .u8 W a len cap zs) :
    Calls Try.prog 4 #[.slice a len cap] W fun e w' => e = .returned (.bool true) ∧ Below W.heap.size W w' := by
  have hm := row_len hr
  by_cases hL : 1048576 < len
  · have hL1 : (1048576 : Int) < (len : Int) := by omega
    clear hr
    go_enter Try.func4, Try.ntmps4
    go_wp2_with fail
    go_ret
    exact ⟨rfl, Below.refl _ _⟩
  have hL1 : decide ((1048576 : Int) < (len : Int)) = false := by simp; omega
  have hL2 : decide (1048576 < len) = false := by simp; omega
  go_enter Try.func4, Try.ntmps4
  go_wp2_with fail
  refine (drawMailSend_any W a len cap zs hr).mono ?_
  clear hr
  rintro e w1 ⟨v, ys, x, rfl, hd⟩
  have B1 := Lib.hid hd.bel
  have R1 := Lib.hid hd.is
  have N1 := Lib.hid hd.nil
  have hl9 := hd.len
  obtain ⟨g0, c2, hv⟩ := hd.form
  clear hd
  subst hv
  obtain ⟨X, hX⟩ : ∃ X, X = w1.heap.size := ⟨_, rfl⟩
  obtain ⟨w1a, hw1a⟩ : ∃ w1a, w1a = w1.alloc (.cells #[.int .i64 x.k, .int .i64 x.g, .int .i64 x.r] 25) := ⟨_, rfl⟩
  have hb1a : Below w1.heap.size w1 w1a := by rw [hw1a]; exact (Below.refl _ _).alloc (Nat.le_refl _) _
  have T1 : Hid (Tri w1a X 0 x) := Lib.hid (by rw [hX, hw1a]; exact tri_new w1 x _)
  have B1a := Lib.hid (B1.out.trans (hb1a.mono B1.out.size))
  have R1a := Lib.hid (R1.out.below hb1a)
  have HW1 := Lib.hid hw1a
  have HX := Lib.hid hX
  clear hw1a hb1a hX
  have HC := Lib.hid (ims_any w1a _ ys x R1a.out)
  have HS := Lib.hid (fun w h => sMailSend_any w (.slice (some ⟨g0, 0, none⟩) ys.length c2) ys x h N1.out)
  have HYES : Hid (msok ys = true → mok x = true → msendB ys x = decide (ys.length < 8) ∧ (msendB ys x = false → msend ys x = ys)) := Lib.hid (fun h1 h2 => msend_full h1 h2)
  have HV := Lib.hid (fun w h => sMailsValid_any w (.slice (some ⟨g0, 0, none⟩) ys.length c2) ys h)
  have HO := Lib.hid (fun w v (h : Is w v [x]) => by have := sMailsValid_any w v [x] h; rw [msok_one] at this; exact this)
  generalize msok ys = q at HV HYES
  generalize mok x = r at HO HYES
  generalize msend ys x = us at HC HS HYES
  generalize msendB ys x = b at HC HS HYES
  obtain ⟨n, hn⟩ : ∃ n, n = ys.length := ⟨_, rfl⟩
  rw [← hn] at HC HS R1 R1a N1 hl9 HV HYES ⊢
  have HN := Lib.hid hn
  clear hn
  have hbb := neB b
  go_wp2_with fail
  rw [← HW1.out, ← HX.out]
  refine HC.out.mono ?_
  rintro e w2 ⟨p2, rfl, hr2, hb2⟩
  have B2 := Lib.hid (B1a.out.trans (hb2.mono B1a.out.size))
  have R2 := Lib.hid (R1a.out.below hb2)
  have U2 := Lib.hid hr2.is
  have T2 := Lib.hid (T1.out.below hb2 T1.out.lt)
  clear hb2 hr2 HC R1 B1 R1a B1a
  obtain ⟨c0, c1, c2'⟩ := T2.out
  simp only [Nat.zero_add] at c0 c1 c2'
  go_wp2_with fail
  clear c0 c1 c2'
  refine (HS.out w2 R2.out).mono ?_
  rintro e w3 ⟨p3, rfl, hr3, hb3⟩
  have B3 := Lib.hid (B2.out.trans (hb3.mono B2.out.size))
  have R3 := Lib.hid (R2.out.below hb3)
  have U23 := Lib.hid (U2.out.below hb3)
  have U3 := Lib.hid hr3.is
  have T3 := Lib.hid (T2.out.below hb3 T2.out.lt)
  clear hb3 hr3 HS R2 B2 U2 T2 T1
  go_wp2_with fail
  refine (sameI w3 p2 p3 us U23.out U3.out).mono ?_
  rintro e w4 ⟨rfl, hb4⟩
  have B4 := Lib.hid (B3.out.trans (hb4.mono B3.out.size))
  have R4 := Lib.hid (R3.out.below hb4)
  have U24 := Lib.hid (U23.out.below hb4)
  have U34 := Lib.hid (U3.out.below hb4)
  have T4 := Lib.hid (T3.out.below hb4 T3.out.lt)
  clear hb4 B3 U23 U3 R3 T3
  cases q with
  | false =>
    go_wp2_with fail
    refine (HV.out w4 R4.out).mono ?_
    rintro e w5 ⟨rfl, hb5⟩
    have B5 := Lib.hid (B4.out.trans (hb5.mono B4.out.size))
    have U25 := Lib.hid (U24.out.below hb5)
    have U35 := Lib.hid (U34.out.below hb5)
    clear hb5
    go_wp2_with fail
    refine (sameI w5 p2 p3 us U25.out U35.out).mono ?_
    rintro e w6 ⟨rfl, hb6⟩
    have B6 := Lib.hid (B5.out.trans (hb6.mono B5.out.size))
    clear hb6
    go_wp2_with fail
    go_ret
    exact ⟨rfl, B6.out⟩
  | true =>
    go_wp2_with fail
    refine (HV.out w4 R4.out).mono ?_
    rintro e w5 ⟨rfl, hb5⟩
    have B5 := Lib.hid (B4.out.trans (hb5.mono B4.out.size))
    have U25 := Lib.hid (U24.out.below hb5)
    have U35 := Lib.hid (U34.out.below hb5)
    have R5 := Lib.hid (R4.out.below hb5)
    have T5 := Lib.hid (T4.out.below hb5 T4.out.lt)
    clear hb5 U24 U34 R4 T4 B4
    obtain ⟨w6, hw6⟩ : ∃ w6, w6 = w5.alloc (.cells #[.int .i64 x.k, .int .i64 x.g, .int .i64 x.r] 25) := ⟨_, rfl⟩
    have hb6 : Below w5.heap.size w5 w6 := by rw [hw6]; exact (Below.refl _ _).alloc (Nat.le_refl _) _
    have HONE : Hid (Is w6 (.slice (some ⟨w5.heap.size, 0, none⟩) 1 1) [x]) := Lib.hid (by rw [hw6]; exact is_one w5 x)
    have HW6 := Lib.hid hw6
    have B6 := Lib.hid (B5.out.trans (hb6.mono B5.out.size))
    have U26 := Lib.hid (U25.out.below hb6)
    have U36 := Lib.hid (U35.out.below hb6)
    have R6 := Lib.hid (R5.out.below hb6)
    obtain ⟨c0, c1, c2'⟩ := T5.out
    simp only [Nat.zero_add] at c0 c1 c2'
    clear hb6 hw6 U25 U35 R5 B5
    cases r with
    | false =>
      go_wp2_with fail
      rw [← HW6.out]
      refine (HO.out w6 _ HONE.out).mono ?_
      rintro e w7 ⟨rfl, hb7⟩
      have B7 := Lib.hid (B6.out.trans (hb7.mono B6.out.size))
      have U27 := Lib.hid (U26.out.below hb7)
      have U37 := Lib.hid (U36.out.below hb7)
      clear hb7
      go_wp2_with fail
      refine (sameI w7 p2 p3 us U27.out U37.out).mono ?_
      rintro e w8 ⟨rfl, hb8⟩
      have B8 := Lib.hid (B7.out.trans (hb8.mono B7.out.size))
      clear hb8
      go_wp2_with fail
      go_ret
      exact ⟨rfl, B8.out⟩
    | true =>
      obtain ⟨hy1, hy2⟩ := HYES.out (by first | trivial | rfl) (by first | trivial | rfl)
      have HY2 := Lib.hid hy2
      clear hy2
      by_cases h8 : n < 8
      · rw [decide_eq_true h8] at hy1
        subst hy1
        have h8' : (n : Int) < 8 := by omega
        go_wp2_with fail
        rw [← HW6.out]
        refine (HO.out w6 _ HONE.out).mono ?_
        rintro e w7 ⟨rfl, hb7⟩
        have B7 := Lib.hid (B6.out.trans (hb7.mono B6.out.size))
        clear hb7
        go_wp2_with fail
        go_ret
        exact ⟨rfl, B7.out⟩
      · rw [decide_eq_false h8] at hy1
        subst hy1
        have h8' : ¬ (n : Int) < 8 := by omega
        have h8'' : decide ((n : Int) < 8) = false := decide_eq_false (by omega)
        go_wp2_with fail
        rw [← HW6.out]
        refine (HO.out w6 _ HONE.out).mono ?_
        rintro e w7 ⟨rfl, hb7⟩
        have B7 := Lib.hid (B6.out.trans (hb7.mono B6.out.size))
        have U27 := Lib.hid (U26.out.below hb7)
        have R7 := Lib.hid (R6.out.below hb7)
        rw [HY2.out (by first | trivial | rfl)] at U27
        clear hb7
        go_wp2_with fail
        refine (sameI w7 p2 _ ys U27.out R7.out).mono ?_
        rintro e w8 ⟨rfl, hb8⟩
        have B8 := Lib.hid (B7.out.trans (hb8.mono B7.out.size))
        clear hb8
        go_wp2_with fail
        go_ret
        exact ⟨rfl, B8.out⟩
end Go.Proofs.Ytachiggolgdocaa
