/- The walk of the statement that the order of frames has no influence. -/
import Derived.Test.YtijgpimjmphaoaaLawBitsF
import Derived.Deep.RegionHeld
namespace Go.Proofs.Ytijgpimjmphaoaa
open Go.ChangeShapes Go.WideShapes Go.ChangeAt Go.RowKit
set_option linter.unusedVariables false

theorem OwnI.later {w w1 w2 : World} {v : Value} {ys : List Int} (h : OwnI w v ys w1) (hb : Below w1.heap.size w1 w2) : OwnI w v ys w2 := by
  refine ⟨⟨h.own.1, ?_⟩, h.bel.trans (hb.mono h.bel.size), h.nn⟩
  rcases h.own.2 with hn | ⟨g, cap, cur, e, hb2, hbl, rest⟩
  · exact .inl hn
  · exact .inr ⟨g, cap, cur, e, hb2, (hb.block g (Array.getElem?_eq_some_iff.1 hbl).1).trans hbl, rest⟩
theorem rev_get {xs : List Int} {j : Nat} (hj : j < xs.length) : xs.reverse.getD (xs.length - (j + 1)) 0 = xs.getD j 0 := by
  rw [getD_lt (by rw [List.length_reverse]; omega), getD_lt hj, List.getElem_reverse]
  congr 1
  omega
set_option maxRecDepth 100000 in
theorem bitsOrder_walk (hO : IOf) (W : World) (a : Option Addr) (len cap : Nat) (zs : List Int) (hr : Row .u8 W a len cap zs) :
    Calls Try.prog 5 #[.slice a len cap] W fun e w' => e = .returned (.bool true) ∧ Below W.heap.size W w' := by
  have HO := Lib.hid hO
  clear hO
  have hm := row_len hr
  by_cases hL : 1048576 < len
  · have hL1 : (1048576 : Int) < (len : Int) := by omega
    clear hr
    go_enter Try.func5, Try.ntmps5
    go_wp2_with fail
    go_ret
    exact ⟨rfl, Below.refl _ _⟩
  have hL1 : decide ((1048576 : Int) < (len : Int)) = false := by simp; omega
  have hL2 : decide (1048576 < len) = false := by simp; omega
  go_enter Try.func5, Try.ntmps5
  go_wp2_with fail
  refine (drawBitsOf_any W a len cap zs hr).mono ?_
  clear hr
  rintro e w1 ⟨v, xs, rfl, hi1, hx12, hb1⟩
  have B1 := Lib.hid hb1
  clear hb1
  obtain ⟨i0, hi, hz0, hz1, hz2⟩ := info_parts intInfo
  have HI := Lib.hid hi
  have HZ0 := Lib.hid hz0
  have HZ1 := Lib.hid hz1
  have HZ2 := Lib.hid hz2
  clear hi hz0 hz1 hz2
  have R1 := Lib.hid hi1
  clear hi1
  have HC := Lib.hid (HO.out w1 v xs R1.out)
  have HS := Lib.hid (fun w => fun h : Ints w v xs => bitsOf_any w v xs h)
  have HOK := Lib.hid (bof_b (xs := xs))
  have HYES := Lib.hid (fun h : bok xs => bof_yes h)
  obtain ⟨r, hrr⟩ : ∃ r, r = bof xs := ⟨_, rfl⟩
  rw [← hrr] at HC HS HOK HYES
  clear hrr
  obtain ⟨N, b⟩ := r
  obtain ⟨al, cl, rfl, hlc, hlm, _⟩ := R1.out
  unfold maxLen at hlm
  obtain ⟨m, hmm⟩ : ∃ m, m = xs.length := ⟨_, rfl⟩
  rw [← hmm] at R1 HC HS hx12 hlc ⊢
  have HM := Lib.hid hmm
  clear hmm
  go_wp2_with fail
  refine HC.out.mono ?_
  rintro e w2 ⟨rfl, hb2⟩
  have B2 := Lib.hid (B1.out.trans (hb2.mono B1.out.size))
  have R2 := Lib.hid (Ints.below (B := 0) R1.out hb2)
  clear hb2 B1 R1 HC
  go_wp2_with fail
  refine (HS.out w2 R2.out).mono ?_
  rintro e w' ⟨rfl, rfl⟩
  clear HS
  cases b with
  | false =>
    go_wp2_with fail
    go_ret
    exact ⟨by simp, B2.out⟩
  | true =>
    have hok : bok xs := HOK.out.1 rfl
    have HNE := HYES.out hok
    injection HNE with hN _
    have HREV := Lib.hid (show bof xs.reverse = ⟨N, true⟩ by
      obtain ⟨h1, h2⟩ := bok_perm hok (List.reverse_perm xs)
      rw [bof_yes h1, h2, hN])
    clear hok hN HOK HYES
    obtain ⟨_, _, e0, _, _, hxa⟩ := R2.out
    injection e0 with e1 e2 e3
    subst e1
    subst e3
    clear e2
    have hw1 : IntKind.i64.wrap ((m : Int) - 1) = (m : Int) - 1 := by rw [IntKind.wrap_i64]; omega
    go_wp2_with fail
    go_loopw [8, 9] (fun u i wr => ∃ (z : Int) (r : Nat), z = (r : Int) - 1 ∧ r ≤ m ∧ i = .int .i64 z ∧ OwnI w2 u (xs.reverse.take (m - r)) wr) (fun _ i _ => (intOf i + 1).toNat)
    case atStart => exact ⟨_, m, rfl, Nat.le_refl _, rfl, by rw [Nat.sub_self, List.take_zero]; exact OwnI.start w2⟩
    case round =>
      obtain ⟨z, r, hz, hr, rfl, hrel⟩ := hrel
      rcases Nat.eq_zero_or_pos r with h0 | hpos
      · subst h0
        have hz' : z = -1 := by omega
        subst hz'
        rw [Nat.sub_zero, List.take_of_length_le (by rw [List.length_reverse]; have := HM.out; omega)] at hrel
        have HREL := Lib.hid hrel
        have BR := Lib.hid (B2.out.trans (hrel.bel.mono B2.out.size))
        have HX := Lib.hid (HO.out _ _ _ hrel.ints)
        rw [HREV.out] at HX
        clear hrel hz
        go_wp2_with fail
        refine HX.out.mono ?_
        rintro e w5 ⟨rfl, hb5⟩
        have B5 := Lib.hid (BR.out.trans (hb5.mono BR.out.size))
        have HO5 := Lib.hid (HREL.out.later hb5)
        have R5 := Lib.hid (Ints.below (B := 0) R2.out HO5.out.bel)
        clear hb5 HX HREL BR
        by_cases hm0 : m = 0
        · subst hm0
          go_wp2_with fail
          go_ret
          exact ⟨by simp, B5.out⟩
        · have hmp : decide ((0 : Int) < (m : Int)) = true := by simp; omega
          obtain ⟨ba, oa, rfl, hc0⟩ := hxa 0 (by have := HM.out; omega)
          obtain ⟨x, hx⟩ : ∃ x, x = xs.getD 0 0 := ⟨_, rfl⟩
          have hmem : x ∈ xs.reverse := by
            rw [hx, getD_lt (by have := HM.out; omega), List.mem_reverse]
            exact List.getElem_mem _
          have HNO := Lib.hid (bof_no (bok_twice hmem))
          have HXX := Lib.hid hx
          have hc5 := (HO5.out.bel.cell (p := ⟨ba, oa + 0, none⟩) (cell_lt hc0)).trans hc0
          rw [← hx, Nat.add_zero] at hc5
          clear hc0 hx hmem hxa
          have HNL := Lib.hid (show xs.reverse.length ≤ 12 by rw [List.length_reverse]; have := HM.out; omega)
          go_wp2_with (at_builtin; refine wpList_append_own _ rfl (.tmp 73) (.tmp 77) 23 rfl w2.heap.size 3 i0 (.int .i64 0) 1 8 Try.underlying23 HI.out HZ0.out HZ1.out HZ2.out rfl (by decide) _ _ _ rfl (HO5.out.own.alloc _) ⟨w5.heap.size, 0, none⟩ 1 1 [.int .i64 x] rfl rfl (cell_one_new _ _ _) (by intro u hu; simp at hu; subst hu; rfl) (by have := HNL.out; unfold maxLen; omega) (by have := HNL.out; omega) (by have := HO5.out.bel.size; simp; omega) ?_; intro v2 w6 hown2 hgrow2 hnn2)
          have HR2 : Hid (OwnI w2 v2 (xs.reverse ++ [x]) w6) := Lib.hid (HO5.out.grow (zs := [x]) rfl hown2 hgrow2 (fun e => (hnn2.1 e).1))
          clear hown2 hgrow2 hnn2
          have B6 := Lib.hid (B2.out.trans (HR2.out.bel.mono B2.out.size))
          have HX := Lib.hid (HO.out w6 v2 _ HR2.out.ints)
          rw [HNO.out] at HX
          go_wp2_with fail
          refine HX.out.mono ?_
          rintro e w7 ⟨rfl, hb7⟩
          have B7 := Lib.hid (B6.out.trans (hb7.mono B6.out.size))
          clear hb7
          go_wp2_with fail
          go_ret
          exact ⟨by simp, B7.out⟩
      · obtain ⟨j, hj⟩ : ∃ j, r = j + 1 := ⟨r - 1, by omega⟩
        have hz' : z = (j : Int) := by omega
        subst hz'
        obtain ⟨ba, oa, rfl, hc0⟩ := hxa j (by have := HM.out; omega)
        have HSN := Lib.hid (show xs.reverse.take (m - j) = xs.reverse.take (m - r) ++ [xs.getD j 0] by
          have hl := HM.out
          rw [show m - j = (m - r) + 1 by omega, take_snoc_getD _ _ 0 (by rw [List.length_reverse]; omega), ← rev_get (by omega : j < xs.length), show xs.length - (j + 1) = m - r by omega])
        have HNL := Lib.hid (show (xs.reverse.take (m - r)).length ≤ 12 by rw [List.length_take]; omega)
        have HREL := Lib.hid hrel
        have hcr := (hrel.bel.cell (p := ⟨ba, oa + j, none⟩) (cell_lt hc0)).trans hc0
        obtain ⟨x, hx⟩ : ∃ x, x = xs.getD j 0 := ⟨_, rfl⟩
        rw [← hx] at hcr HSN
        obtain ⟨xr, hxr⟩ : ∃ l, l = xs.reverse.take (m - r) := ⟨_, rfl⟩
        obtain ⟨xr2, hxr2⟩ : ∃ l, l = xs.reverse.take (m - j) := ⟨_, rfl⟩
        rw [← hxr] at HSN HNL HREL
        rw [← hxr2] at HSN
        have HXR2 := Lib.hid hxr2
        have hjm : (j : Int) < (m : Int) := by omega
        have HRM := Lib.hid (And.intro hr hj)
        have hsub : IntKind.i64.wrap ((j : Int) - 1) = (j : Int) - 1 := by rw [IntKind.wrap_i64]; omega
        clear hc0 hx hrel hxr hxr2 hj hz hr hpos hxa
        go_wp2_with (at_builtin; refine wpList_append_own _ rfl (.tmp 56) (.tmp 61) 23 rfl w2.heap.size 3 i0 (.int .i64 0) 1 8 Try.underlying23 HI.out HZ0.out HZ1.out HZ2.out rfl (by decide) _ _ _ rfl (HREL.out.own.alloc _) ⟨wr.heap.size, 0, none⟩ 1 1 [.int .i64 x] rfl rfl (cell_one_new _ _ _) (by intro u hu; simp at hu; subst hu; rfl) (by have := HNL.out; unfold maxLen; omega) (by have := HNL.out; omega) (by have := HREL.out.bel.size; simp; omega) ?_; intro v2 w6 hown2 hgrow2 hnn2)
        have HR2 : Hid (OwnI w2 v2 xr2 w6) := Lib.hid (by
          rw [HSN.out]
          exact HREL.out.grow (zs := [x]) rfl hown2 hgrow2 (fun e => (hnn2.1 e).1))
        clear hown2 hgrow2 hnn2
        go_wp2_with fail
        go_roundw
        case rel => exact ⟨_, j, rfl, by have := HRM.out; omega, rfl, by rw [← HXR2.out]; exact HR2.out⟩
        case measure => simp [intOf]
end Go.Proofs.Ytijgpimjmphaoaa
