/- What the proofs stand on, part 42. -/
import Derived.Test.YtachiggolgdocaaRows
import Derived.Test.YtachiggolgdocaaM1
import Derived.Test.YtachiggolgdocaaM2
import Derived.Test.YtachiggolgdocaaM3
import Derived.Test.YtachiggolgdocaaM4
import Derived.Test.YtachiggolgdocaaM5
import Derived.Test.YtachiggolgdocaaM6
import Derived.Test.YtachiggolgdocaaM7
import Derived.Test.YtachiggolgdocaaM8
import Derived.Test.YtachiggolgdocaaM9
import Derived.Test.YtachiggolgdocaaM10
import Derived.Test.YtachiggolgdocaaM11
import Derived.Test.YtachiggolgdocaaM12
import Derived.Test.YtachiggolgdocaaM13
import Derived.Test.YtachiggolgdocaaM14
import Derived.Test.YtachiggolgdocaaM15
import Derived.Test.YtachiggolgdocaaM16
import Derived.Test.YtachiggolgdocaaM17
import Derived.Test.YtachiggolgdocaaM18
import Derived.Test.YtachiggolgdocaaM19
import Derived.Test.YtachiggolgdocaaM20
import Derived.Test.YtachiggolgdocaaM23
import Derived.Test.YtachiggolgdocaaM25
import Derived.Test.YtachiggolgdocaaM26
import Derived.Test.YtachiggolgdocaaM29
import Derived.Test.YtachiggolgdocaaM35
import Derived.Test.YtachiggolgdocaaM36
set_option linter.unusedSimpArgs false
set_option linter.unusedVariables false
namespace Go.Proofs.Ytachiggolgdocaa
open Go.ChangeShapes Go.WideShapes Go.ChangeAt Go.RowKit
set_option linter.unusedVariables false
theorem mnone {ys : List IV} {t : Int} (h : msok ys = true) : mgot ys t = decide (0 < (mws ys 0 t).length + (mws ys 1 t).length + (mws ys 2 t).length) := by
  cases hg : mgot ys t with
  | true =>
    symm
    rw [decide_eq_true_eq]
    obtain ⟨_, h2, _, h4⟩ := mgot_yes hg
    have ho := morder hg
    have hx := (mok_iff.1 ((msok_iff.1 h).1 _ (by rw [getD_lt h2]; exact List.getElem_mem h2 : ys.getD (mix ys t) iz ∈ ys))).1
    rw [← h4] at hx
    have hl : 0 < (mws ys (mtaken ys t).k t).length := by rw [ho]; simp
    obtain e | e | e : (mtaken ys t).k = 0 ∨ (mtaken ys t).k = 1 ∨ (mtaken ys t).k = 2 := by omega
    all_goals rw [e] at hl; omega
  | false =>
    symm
    rw [decide_eq_false_iff_not]
    unfold mgot at hg
    rw [h, Bool.true_and, decide_eq_false_iff_not] at hg
    have hm : mix ys t = ys.length := by have := mix_le ys t; omega
    have hz : ∀ f, mws ys f t = [] := fun f => by
      rw [mws, if_pos h]
      exact mws0_none (fun z hz => by
        have := take_none_to (ys := ys) (t := t) z (by rw [hm, List.take_length]; exact hz)
        exact this)
    rw [hz, hz, hz]
    simp
theorem mrest_none {ys : List IV} {t : Int} (h : msok ys = true) (hg : mgot ys t = false) : mrest ys t = ys := by
  unfold mgot at hg
  rw [h, Bool.true_and, decide_eq_false_iff_not] at hg
  rw [mrest, if_pos h, List.eraseIdx_of_length_le (by have := mix_le ys t; omega)]
end Go.Proofs.Ytachiggolgdocaa
namespace Go.Proofs.Ytachiggolgdocaa
open Go.ChangeShapes Go.WideShapes Go.ChangeAt Go.RowKit
set_option linter.unusedVariables false
set_option maxRecDepth 100000 in
set_option maxHeartbeats 4000000 in
theorem mailNone_walk  (W : World) (a : Option Addr) (len cap : Nat) (zs : List Int) (hr : Row .u8 W a len cap zs) :
    Calls Try.prog 6 #[.slice a len cap] W fun e w' => e = .returned (.bool true) ∧ Below W.heap.size W w' := by
  have hm := row_len hr
  by_cases hL : 1048576 < len
  · have hL1 : (1048576 : Int) < (len : Int) := by omega
    clear hr
    go_enter Try.func6, Try.ntmps6
    go_wp2_with fail
    go_ret
    exact ⟨rfl, Below.refl _ _⟩
  have hL1 : decide ((1048576 : Int) < (len : Int)) = false := by simp; omega
  have hL2 : decide (1048576 < len) = false := by simp; omega
  go_enter Try.func6, Try.ntmps6
  go_wp2_with fail
  refine (drawMailTake_any W a len cap zs hr).mono ?_
  clear hr
  rintro e w1 ⟨v, ys, t, rfl, hd⟩
  have B1 := Lib.hid hd.bel
  have R1 := Lib.hid hd.is
  have N1 := Lib.hid hd.nil
  have hl9 := hd.len
  obtain ⟨g0, c2, hv⟩ := hd.form
  clear hd
  subst hv
  have HC := Lib.hid (imt_any w1 _ ys t R1.out)
  have HS := Lib.hid (fun w h => sMailTake_any w (.slice (some ⟨g0, 0, none⟩) ys.length c2) ys t h N1.out)
  have HNO : Hid (msok ys = true → mgot ys t = decide (0 < (mws ys 0 t).length + (mws ys 1 t).length + (mws ys 2 t).length)) := Lib.hid (fun h => mnone h)
  have HRE : Hid (msok ys = true → mgot ys t = false → mrest ys t = ys) := Lib.hid (fun h1 h2 => mrest_none h1 h2)
  have HV := Lib.hid (fun w h => sMailsValid_any w (.slice (some ⟨g0, 0, none⟩) ys.length c2) ys h)
  have HMW : Hid (∀ (f : Int) w, Is w (.slice (some ⟨g0, 0, none⟩) ys.length c2) ys → Calls Try.prog 19 #[.slice (some ⟨g0, 0, none⟩) ys.length c2, .int .i64 f, .int .i64 t] w (NewR (mws ys f t) w)) := Lib.hid (fun f w h => imw_any w _ ys f t h)
  have HML : Hid (∀ f, (mws ys f t).length ≤ 8) := Lib.hid (fun f => mws_len)
  generalize msok ys = q at HV HNO HRE
  generalize mrest ys t = us at HC HS HNO HRE
  generalize mtaken ys t = x at HC HS HNO HRE
  generalize mgot ys t = b at HC HS HNO HRE
  obtain ⟨n, hn⟩ : ∃ n, n = ys.length := ⟨_, rfl⟩
  rw [← hn] at HC HS R1 N1 hl9 HV HMW ⊢
  have HN := Lib.hid hn
  clear hn
  have hbb := neB b
  go_wp2_with fail
  refine HC.out.mono ?_
  rintro e w2 ⟨p2, rfl, hr2, hb2⟩
  obtain ⟨X, hX⟩ : ∃ X, X = w2.heap.size := ⟨_, rfl⟩
  obtain ⟨w2a, hw2a⟩ : ∃ w2a, w2a = w2.alloc (.cells #[.int .i64 x.k, .int .i64 x.g, .int .i64 x.r] 25) := ⟨_, rfl⟩
  have hb2a : Below w1.heap.size w1 w2a := by rw [hw2a]; exact hb2.alloc hb2.size _
  have T2 : Hid (Tri w2a X 0 x) := Lib.hid (by rw [hX, hw2a]; exact tri_new w2 x _)
  have B2 := Lib.hid (B1.out.trans (hb2a.mono B1.out.size))
  have R2 := Lib.hid (R1.out.below hb2a)
  have U2 := Lib.hid (hr2.is.below (w' := w2a) (by rw [hw2a]; exact (Below.refl _ _).alloc (Nat.le_refl _) _))
  have HW2 := Lib.hid hw2a
  have HX := Lib.hid hX
  clear hb2 hr2 HC R1 B1 hb2a hw2a hX
  go_wp2_with fail
  rw [← HW2.out, ← HX.out]
  refine (HS.out w2a R2.out).mono ?_
  rintro e w3 ⟨p3, rfl, hr3, hb3⟩
  obtain ⟨Y, hY⟩ : ∃ Y, Y = w3.heap.size := ⟨_, rfl⟩
  obtain ⟨w3a, hw3a⟩ : ∃ w3a, w3a = w3.alloc (.cells #[.int .i64 x.k, .int .i64 x.g, .int .i64 x.r] 25) := ⟨_, rfl⟩
  have hb3a : Below w2a.heap.size w2a w3a := by rw [hw3a]; exact hb3.alloc hb3.size _
  have TY3 : Hid (Tri w3a Y 0 x) := Lib.hid (by rw [hY, hw3a]; exact tri_new w3 x _)
  have T3 := Lib.hid (T2.out.below hb3a T2.out.lt)
  have B3 := Lib.hid (B2.out.trans (hb3a.mono B2.out.size))
  have R3 := Lib.hid (R2.out.below hb3a)
  have U23 := Lib.hid (U2.out.below hb3a)
  have U3 := Lib.hid (hr3.is.below (w' := w3a) (by rw [hw3a]; exact (Below.refl _ _).alloc (Nat.le_refl _) _))
  have HW3 := Lib.hid hw3a
  have HY := Lib.hid hY
  obtain ⟨c0, c1, c2'⟩ := T3.out
  obtain ⟨d0, d1, d2⟩ := TY3.out
  simp only [Nat.zero_add] at c0 c1 c2' d0 d1 d2
  rw [hw3a] at c0 c1 c2' d0 d1 d2
  rw [hY] at d0 d1 d2
  clear hb3 hr3 HS R2 B2 U2 hb3a hw3a hY T2
  go_wp2_with fail
  rw [← HW3.out, ← HY.out]
  clear c0 c1 c2' d0 d1 d2
  refine (sameI w3a p2 p3 us U23.out U3.out).mono ?_
  rintro e w4 ⟨rfl, hb4⟩
  have B4 := Lib.hid (B3.out.trans (hb4.mono B3.out.size))
  have R4 := Lib.hid (R3.out.below hb4)
  have U24 := Lib.hid (U23.out.below hb4)
  have U34 := Lib.hid (U3.out.below hb4)
  have T4 := Lib.hid (T3.out.below hb4 T3.out.lt)
  have TY4 := Lib.hid (TY3.out.below hb4 TY3.out.lt)
  clear hb4 B3 U23 U3 R3 T3 TY3
  cases q with
  | false =>
    go_wp2_with fail
    refine (HV.out w4 R4.out).mono ?_
    rintro e w5 ⟨rfl, hb5⟩
    have B5 := Lib.hid (B4.out.trans (hb5.mono B4.out.size))
    have U25 := Lib.hid (U24.out.below hb5)
    have U35 := Lib.hid (U34.out.below hb5)
    have T5 := Lib.hid (T4.out.below hb5 T4.out.lt)
    have TY5 := Lib.hid (TY4.out.below hb5 TY4.out.lt)
    clear hb5
    obtain ⟨c0, c1, c2'⟩ := T5.out
    obtain ⟨d0, d1, d2⟩ := TY5.out
    simp only [Nat.zero_add] at c0 c1 c2' d0 d1 d2
    go_wp2_with fail
    clear c0 c1 c2' d0 d1 d2
    refine (sameI w5 p2 p3 us U25.out U35.out).mono ?_
    rintro e w9 ⟨rfl, hb9⟩
    have B9 := Lib.hid (B5.out.trans (hb9.mono B5.out.size))
    clear hb9
    go_wp2_with fail
    go_ret
    exact ⟨rfl, B9.out⟩
  | true =>
    go_wp2_with fail
    refine (HV.out w4 R4.out).mono ?_
    rintro e w5 ⟨rfl, hb5⟩
    have B5 := Lib.hid (B4.out.trans (hb5.mono B4.out.size))
    have U25 := Lib.hid (U24.out.below hb5)
    have R5 := Lib.hid (R4.out.below hb5)
    clear hb5 U24 U34 T4 TY4 R4 B4
    have HQ : Hid (b = decide (0 < (mws ys 0 t).length + (mws ys 1 t).length + (mws ys 2 t).length)) := Lib.hid (HNO.out (by first | trivial | rfl))
    have HRE2 : Hid (b = false → us = ys) := Lib.hid (fun h => HRE.out (by first | trivial | rfl) h)
    clear HNO HRE HV
    obtain ⟨l0, hl0⟩ : ∃ l, l = (mws ys 0 t).length := ⟨_, rfl⟩
    obtain ⟨l1, hl1⟩ : ∃ l, l = (mws ys 1 t).length := ⟨_, rfl⟩
    obtain ⟨l2, hl2⟩ : ∃ l, l = (mws ys 2 t).length := ⟨_, rfl⟩
    have h80 : l0 ≤ 8 := by rw [hl0]; exact HML.out 0
    have h81 : l1 ≤ 8 := by rw [hl1]; exact HML.out 1
    have h82 : l2 ≤ 8 := by rw [hl2]; exact HML.out 2
    rw [← hl0, ← hl1, ← hl2] at HQ
    have HL : Hid (l0 = (mws ys 0 t).length ∧ l1 = (mws ys 1 t).length ∧ l2 = (mws ys 2 t).length) := Lib.hid ⟨hl0, hl1, hl2⟩
    clear hl0 hl1 hl2
    go_wp2
    go_loopw [11, 12] (fun s i wr => ∃ k : Nat, k ≤ 3 ∧ i = .int .i64 k ∧ s = .int .i64 (((if 0 < k then l0 else 0) + (if 1 < k then l1 else 0) + (if 2 < k then l2 else 0) : Nat) : Int) ∧ Hid (Below w5.heap.size w5 wr)) (fun _ i _ => 3 - (intOf i).toNat)
    case atStart => exact ⟨0, Nat.zero_le _, rfl, rfl, Lib.hid (Below.refl _ _)⟩
    case round =>
      obtain ⟨k, hk, rfl, rfl, HB⟩ := hrel
      by_cases hlt : k < 3
      · have hlt' : (k : Int) < 3 := by omega
        obtain ⟨s, hs⟩ : ∃ s, s = ((if 0 < k then l0 else 0) + (if 1 < k then l1 else 0) + (if 2 < k then l2 else 0)) := ⟨_, rfl⟩
        rw [← hs]
        obtain ⟨l, hl⟩ : ∃ l, l = (mws ys (k : Int) t).length := ⟨_, rfl⟩
        have hs24 : s ≤ 24 := by rw [hs]; split <;> split <;> split <;> omega
        have hl8 : l ≤ 8 := by rw [hl]; exact HML.out _
        have HST : Hid (s + l = ((if 0 < k + 1 then l0 else 0) + (if 1 < k + 1 then l1 else 0) + (if 2 < k + 1 then l2 else 0))) := Lib.hid (by
          obtain ⟨q0, q1, q2⟩ := HL.out
          obtain rfl | rfl | rfl : k = 0 ∨ k = 1 ∨ k = 2 := by omega
          · rw [hs, hl]; simp [q0]
          · rw [hs, hl]; simp [q1]
          · rw [hs, hl]; simp [q2])
        have HLL := Lib.hid hl
        clear hs hl
        have hwr : IntKind.i64.wrap ((s : Int) + (l : Int)) = ((s + l : Nat) : Int) := by rw [IntKind.wrap_i64]; omega
        go_wp2_with fail
        refine (HMW.out (k : Int) wr (R5.out.below HB.out)).mono ?_
        rintro e w6 ⟨p6, rfl, hr6, hb6⟩
        have HB6 := Lib.hid (HB.out.trans (hb6.mono HB.out.size))
        obtain ⟨a6, c6, rfl, h61, h62, -⟩ := hr6
        rw [← HLL.out] at h61 ⊢
        unfold maxLen at h62
        clear hb6
        go_wp2
        go_roundw
        case rel => exact ⟨k + 1, by omega, by go_num, by rw [← HST.out, Int.natCast_add], HB6⟩
        case measure => simp [intOf]; omega
      · have e : k = 3 := by omega
        subst e
        have HBW := Lib.hid (B5.out.trans (HB.out.mono B5.out.size))
        have R6 := Lib.hid (R5.out.below HB.out)
        have U26 := Lib.hid (U25.out.below HB.out)
        have hss : (if 0 < 3 then l0 else 0) + (if 1 < 3 then l1 else 0) + (if 2 < 3 then l2 else 0) = l0 + l1 + l2 := by simp
        rw [hss]
        obtain ⟨s, hs⟩ : ∃ s, s = l0 + l1 + l2 := ⟨_, rfl⟩
        rw [← hs] at HQ ⊢
        clear hs hss
        by_cases h0 : 0 < s
        · have hb : b = true := by rw [HQ.out]; exact decide_eq_true h0
          subst hb
          have h0' : (0 : Int) < (s : Int) := by omega
          go_wp2_with fail
          go_ret
          exact ⟨rfl, HBW.out⟩
        · have hb : b = false := by rw [HQ.out]; exact decide_eq_false h0
          subst hb
          have h0' : decide ((0 : Int) < (s : Int)) = false := decide_eq_false (by omega)
          have U27 : Hid (Is wr p2 ys) := Lib.hid (by rw [← HRE2.out rfl]; exact U26.out)
          go_wp2_with fail
          refine (sameI wr p2 _ ys U27.out R6.out).mono ?_
          rintro e w8 ⟨rfl, hb8⟩
          have B8 := Lib.hid (HBW.out.trans (hb8.mono HBW.out.size))
          clear hb8
          go_wp2_with fail
          go_ret
          exact ⟨rfl, B8.out⟩
end Go.Proofs.Ytachiggolgdocaa
