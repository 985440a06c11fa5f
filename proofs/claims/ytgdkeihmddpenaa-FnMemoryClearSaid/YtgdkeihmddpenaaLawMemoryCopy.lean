/- The walk of the statement that a copy has the same words, out of contracts of the program and of the reference. -/
import Derived.Test.YtgdkeihmddpenaaDrawM
import Derived.Test.YtgdkeihmddpenaaSame
import Derived.Test.YtgdkeihmddpenaaLawMemoryPutBack
namespace Go.Proofs.Ytgdkeihmddpenaa
open Go.ChangeShapes Go.WideShapes Go.ChangeAt Go.RowKit
set_option linter.unusedVariables false

theorem set_get {xss : List (List Int)} {k : Nat} {ys : List Int} (hk : k < xss.length) (q : Nat) : (xss.set k ys).getD q [] = if q = k then ys else xss.getD q [] := by
  rw [getD_set]
  by_cases h : q = k
  · subst h; rw [if_pos ⟨rfl, hk⟩, if_pos rfl]
  · rw [if_neg (fun hh => h hh.1.symm), if_neg h]
theorem set_ok {xss : List (List Int)} {k : Nat} {ys : List Int} (h : memOk xss = true) (hk : k < 12) (hl : ys.length = 4) (hw : ∀ j, j < 4 → 0 ≤ ys.getD j 0 ∧ ys.getD j 0 ≤ 9999) : memOk (xss.set k ys) = true := by
  have hx := mem_len h
  refine mem_mk (by rw [List.length_set]; exact hx) (fun i hi => ?_) (fun i hi j hj => ?_)
  · rw [set_get (by omega)]
    by_cases h' : i = k
    · rw [if_pos h']; exact hl
    · rw [if_neg h']; exact mem_row h hi
  · rw [set_get (by omega)]
    by_cases h' : i = k
    · rw [if_pos h']; exact hw j hj
    · rw [if_neg h']; exact mem_word h hi hj
theorem Rows2.row {w : World} {v : Value} {xss : List (List Int)} (h : Rows2 w v xss) (hl : xss.length = 12) {i : Nat} (hi : i < 12) :
    ∃ b o c u, v = .slice (some ⟨b, o, none⟩) 12 c ∧ w.cell? ⟨b, o + i, none⟩ = some u ∧ Ints w u (xss.getD i []) := by
  obtain ⟨a, c, rfl, h1, h2, h3⟩ := h
  obtain ⟨b, o, u, rfl, hc, hu⟩ := h3 i (by omega)
  exact ⟨b, o, c, u, by rw [hl], hc, hu⟩
theorem same_q (w : World) (va vb : Value) (xs ys : List Int) (h : xs = ys) (ha : Ints w va xs) (hb : Ints w vb ys) (n : Nat) :
    Calls Try.prog 24 #[va, vb] (w.drewN n) (Reads (.bool true) (w.drewN n)) := by
  have := sameInts_any (w.drewN n) va vb xs ys ha hb
  rw [decide_eq_true h] at this
  exact this
theorem Two.drewN {W w : World} {v u : Value} {xss yss : List (List Int)} (h : Two W v u xss yss w) (n : Nat) : Two W v u xss yss (w.drewN n) :=
  h.go ⟨rfl, rfl, rfl, Nat.le_refl _, fun _ _ => rfl⟩
set_option maxHeartbeats 1000000 in
theorem memoryCopy_walk (hCy : ∀ (w : World) (v : Value) (xss : List (List Int)) (i k : Nat), Rows2 w v xss → memOk xss = true → i < 12 → k < 12 → Calls Try.prog 22 #[v, .int .i64 i, .int .i64 k] w (NewMem (xss.set k (xss.getD i [])) true w)) (hCn : ∀ (w : World) (v : Value) (xss : List (List Int)) (f t : Int), Rows2 w v xss → ¬ ((memOk xss = true ∧ 0 ≤ f ∧ f < 12) ∧ 0 ≤ t ∧ t < 12) → Calls Try.prog 22 #[v, .int .i64 f, .int .i64 t] w (NewMem [] false w)) (hV : ∀ (w : World) (v : Value) (xss : List (List Int)), Rows2 w v xss → Calls Try.prog 25 #[v] w fun e w' => e = .returned (.bool (memOk xss)) ∧ Below w.heap.size w w') (W : World) (a : Option Addr) (len cap : Nat) (zs : List Int) (hr : Row .u8 W a len cap zs) :
    Calls Try.prog 6 #[.slice a len cap] W fun e w' => e = .returned (.bool true) ∧ Below W.heap.size W w' := by
  have HhCy := Lib.hid hCy
  clear hCy
  have HhCn := Lib.hid hCn
  clear hCn
  have HhV := Lib.hid hV
  clear hV
  have hm := row_len hr
  by_cases hL : 1048576 < len
  · have hL1 : (1048576 : Int) < (len : Int) := by omega
    clear hr
    go_enter Try.func6, Try.ntmps6
    go_wp2_with fail
    go_ret
    exact ⟨rfl, Below.refl _ _⟩
  have hL1 : decide ((1048576 : Int) < (len : Int)) = false := by simp; omega
  have hL2 : decide (1048576 < len) = false := by simp; omega
  go_enter Try.func6, Try.ntmps6
  go_wp2_with fail
  refine (drawMemoryCopy_any W a len cap zs hr).mono ?_
  clear hr
  rintro e w1 ⟨v, xss, f, t, ⟨hf, ht⟩, rfl, hR1, hS, hb1⟩
  have R1 := Lib.hid hR1
  have B1 := Lib.hid hb1
  have Z1 : W.heap.size ≤ w1.heap.size := hb1.size
  clear hR1 hb1
  by_cases h : (memOk xss = true ∧ 0 ≤ f ∧ f < 12) ∧ 0 ≤ t ∧ t < 12
  · obtain ⟨⟨hmem, hf0, hf1⟩, ht0, ht1⟩ := h
    obtain ⟨i, rfl⟩ : ∃ i : Nat, f = i := ⟨f.toNat, by omega⟩
    obtain ⟨j, rfl⟩ : ∃ j : Nat, t = j := ⟨t.toNat, by omega⟩
    have hi : i < 12 := by omega
    have hj : j < 12 := by omega
    have HOK : Hid (memOk (xss.set j (xss.getD i [])) = true) := Lib.hid (set_ok hmem hj (mem_row hmem hi) (fun q hq => mem_word hmem hi hq))
    have HI := Lib.hid (HhCy.out w1 v xss i j R1.out hmem hi hj)
    have HMEM := Lib.hid hmem
    obtain ⟨yss, hy⟩ : ∃ yss, yss = xss.set j (xss.getD i []) := ⟨_, rfl⟩
    rw [← hy] at HI
    have HY := Lib.hid hy
    have HLEN := Lib.hid (mem_len hmem)
    clear hmem hy
    go_wp2_with fail
    refine HI.out.mono ?_
    rintro e w2 ⟨rA, rfl, hm2, hb2⟩
    have R2 := Lib.hid (R1.out.below hb2)
    have B2 := Lib.hid (Below.chg B1.out (Chg.of_below hb2) Z1 (.inr rfl))
    have Z2 : W.heap.size ≤ w2.heap.size := Nat.le_trans Z1 hb2.size
    have M2 := Lib.hid hm2.rows
    clear hb2 B1 hm2 HI
    have HS2 := Lib.hid (scopy_yes w2 v xss i j R2.out HMEM.out hi hj)
    rw [← HY.out] at HS2
    go_wp2_with fail
    refine HS2.out.mono ?_
    rintro e w3 ⟨rB, rfl, hm3, hb3⟩
    have B3 := Lib.hid (Below.chg B2.out (Chg.of_below hb3) Z2 (.inr rfl))
    have Z3 : W.heap.size ≤ w3.heap.size := Nat.le_trans Z2 hb3.size
    have M3 := Lib.hid hm3.rows
    have M23 := Lib.hid (M2.out.below hb3)
    have R3 := Lib.hid (R2.out.below hb3)
    clear hb3 B2 hm3 HS2 M2 R2
    go_wp2_with fail
    refine (same_c w3 rA rB yss M23.out M3.out).mono ?_
    rintro e w4 ⟨rfl, C4⟩
    have T4 : Two W v rA xss yss w4 := ⟨Below.chg B3.out C4 Z3 (.inr rfl), rows_chg0 C4 R3.out, rows_chg0 C4 M23.out⟩
    clear B3 C4 M3 M23 R3
    have HT4 := Lib.hid T4
    clear T4
    rw [← HY.out] at HOK
    go_wp2_with fail
    go_loopw [10] (fun q wr => ∃ k : Nat, k ≤ 12 ∧ q = .int .i64 k ∧ Two W v rA xss yss wr) (fun q _ => 12 - (intOf q).toNat)
    case atStart => exact ⟨0, by omega, rfl, HT4.out⟩
    case round =>
      obtain ⟨k, hk, rfl, hT⟩ := hrel
      have HTT := Lib.hid hT
      by_cases hlt : k < 12
      · have hk12 := hlt
        have hlt' : (k : Int) < 12 := by omega
        have hi' : (i : Int) < 12 := by omega
        by_cases hkj : k = j
        · subst hkj
          obtain ⟨b1, o1, c1, v1, rfl, hc1, hi1⟩ := hT.two.row (by rw [HY.out, List.length_set]; exact HLEN.out) hk12
          obtain ⟨b2, o2, c2, v2, rfl, hc2, hi2⟩ := hT.one.row HLEN.out (i := i) hi
          have HC := Lib.hid (fun n => same_q wr v1 v2 _ _ (by rw [HY.out, set_get (by have := HLEN.out; omega)]; exact (if_pos rfl)) hi1 hi2 n)
          clear hi1 hi2 hT
          go_wp2_with fail
          go_quiet ((go_at_call 24; exact reads_at (HC.out _)))
          clear hc1 hc2
          go_wp2_with fail
          go_roundw
          case rel => exact ⟨k + 1, by omega, by go_num, HTT.out.drewN _⟩
          case measure => simp [intOf]; omega
        · have e1 : (k == j) = false := by simpa using hkj
          have e2 : ((k : Int) == (j : Int)) = false := by simp; omega
          have e3 : (k != j) = true := by simpa using hkj
          have e4 : ((k : Int) != (j : Int)) = true := by simp; omega
          obtain ⟨b1, o1, c1, v1, rfl, hc1, hi1⟩ := hT.two.row (by rw [HY.out, List.length_set]; exact HLEN.out) hk12
          obtain ⟨b2, o2, c2, v2, rfl, hc2, hi2⟩ := hT.one.row HLEN.out (i := k) hk12
          have HC := Lib.hid (fun n => same_q wr v1 v2 _ _ (by rw [HY.out, set_get (by have := HLEN.out; omega)]; exact (if_neg hkj)) hi1 hi2 n)
          clear hi1 hi2 hT
          go_wp2_with fail
          go_quiet ((go_at_call 24; exact reads_at (HC.out _)))
          clear hc1 hc2
          go_wp2_with fail
          go_roundw
          case rel => exact ⟨k + 1, by omega, by go_num, HTT.out.drewN _⟩
          case measure => simp [intOf]; omega
      · have hge : decide ((k : Int) < 12) = false := by simp; omega
        have HVV := Lib.hid (HhV.out wr rA yss HTT.out.two)
        rw [HOK.out] at HVV
        clear hT
        go_wp2_with fail
        refine HVV.out.mono ?_
        rintro e w6 ⟨rfl, hb6⟩
        have HT6 := Lib.hid (HTT.out.go hb6)
        clear hb6
        go_wp2_with fail
        go_ret
        exact ⟨rfl, HT6.out.old⟩
  · have HI := Lib.hid (HhCn.out w1 v xss f t R1.out h)
    have HN := Lib.hid h
    clear h
    go_wp2_with fail
    refine HI.out.mono ?_
    rintro e w2 ⟨rA, rfl, hm2, hb2⟩
    have R2 := Lib.hid (R1.out.below hb2)
    have B2 := Lib.hid (Below.chg B1.out (Chg.of_below hb2) Z1 (.inr rfl))
    have Z2 : W.heap.size ≤ w2.heap.size := Nat.le_trans Z1 hb2.size
    have M2 := Lib.hid hm2.rows
    clear hb2 B1 hm2 HI
    have HS2 := Lib.hid (scopy_no w2 v xss f t R2.out HN.out)
    go_wp2_with fail
    refine HS2.out.mono ?_
    rintro e w3 ⟨rB, rfl, hm3, hb3⟩
    have B3 := Lib.hid (Below.chg B2.out (Chg.of_below hb3) Z2 (.inr rfl))
    have Z3 : W.heap.size ≤ w3.heap.size := Nat.le_trans Z2 hb3.size
    have M3 := Lib.hid hm3.rows
    have M23 := Lib.hid (M2.out.below hb3)
    clear hb3 B2 hm3 HS2
    go_wp2_with fail
    refine (same_c w3 rA rB [] M23.out M3.out).mono ?_
    rintro e w4 ⟨rfl, C4⟩
    have B4 := Lib.hid (Below.chg B3.out C4 Z3 (.inr rfl))
    have Q4 := Lib.hid (same_after C4 M23.out M3.out)
    clear B3 C4
    go_wp2_with fail
    refine Q4.out.mono ?_
    rintro e w5 ⟨rfl, C5⟩
    have B5 := Lib.hid (Below.chg B4.out C5 (by have := B4.out.size; omega) (.inr rfl))
    clear B4 C5
    go_wp2_with fail
    go_ret
    exact ⟨rfl, B5.out⟩
end Go.Proofs.Ytgdkeihmddpenaa
