/- The walk of the statement that a word can be put back, out of contracts of the program and of the reference. -/
import Derived.Test.YtgdkeihmddpenaaDrawM
import Derived.Test.YtgdkeihmddpenaaSame
import Derived.Test.YtgdkeihmddpenaaLawAux
namespace Go.Proofs.Ytgdkeihmddpenaa
open Go.ChangeShapes Go.WideShapes Go.ChangeAt Go.RowKit
set_option linter.unusedVariables false

theorem rows_chg0 {w w' : World} {v : Value} {xss : List (List Int)} (c : Chg 0 0 w w') (h : Rows2 w v xss) : Rows2 w' v xss := h.below ⟨c.os, c.tape, c.output, c.size, fun b hb => c.block b hb (.inr (Nat.zero_le _))⟩
theorem same_after {w w' : World} {va vb : Value} {xs : List (List Int)} (c : Chg 0 0 w w') (ha : Rows2 w va xs) (hb : Rows2 w vb xs) :
    Calls Try.prog 20 #[va, vb] w' fun e w'' => e = .returned (.bool true) ∧ Chg 0 0 w' w'' := same_c w' va vb xs (rows_chg0 c ha) (rows_chg0 c hb)
set_option maxHeartbeats 1000000 in
theorem memoryPutBack_walk (hPy : ∀ (w : World) (v : Value) (xss : List (List Int)) (i j : Nat) (x : Int), Rows2 w v xss → memOk xss = true → i < 12 → j < 4 → 0 ≤ x → x ≤ 9999 → Calls Try.prog 18 #[v, .int .i64 i, .int .i64 j, .int .i64 x] w (NewMem (mput xss i j x) true w)) (hPn : ∀ (w : World) (v : Value) (xss : List (List Int)) (f t x : Int), Rows2 w v xss → ¬ (((memOk xss = true ∧ 0 ≤ f ∧ f < 12) ∧ 0 ≤ t ∧ t ≤ 3) ∧ 0 ≤ x ∧ x ≤ 9999) → Calls Try.prog 18 #[v, .int .i64 f, .int .i64 t, .int .i64 x] w (NewMem [] false w)) (W : World) (a : Option Addr) (len cap : Nat) (zs : List Int) (hr : Row .u8 W a len cap zs) :
    Calls Try.prog 5 #[.slice a len cap] W fun e w' => e = .returned (.bool true) ∧ Below W.heap.size W w' := by
  have HhPy := Lib.hid hPy
  clear hPy
  have HhPn := Lib.hid hPn
  clear hPn
  have hm := row_len hr
  by_cases hL : 1048576 < len
  · have hL1 : (1048576 : Int) < (len : Int) := by omega
    clear hr
    go_enter Try.func5, Try.ntmps5
    go_wp2_with fail
    go_ret
    exact ⟨rfl, Below.refl _ _⟩
  have hL1 : decide ((1048576 : Int) < (len : Int)) = false := by simp; omega
  have hL2 : decide (1048576 < len) = false := by simp; omega
  go_enter Try.func5, Try.ntmps5
  go_wp2_with fail
  refine (drawMemoryPut_any W a len cap zs hr).mono ?_
  clear hr
  rintro e w1 ⟨v, xss, f, t, x, ⟨⟨hf, ht⟩, hxx⟩, rfl, hR1, hS, hb1⟩
  have R1 := Lib.hid hR1
  have B1 := Lib.hid hb1
  have Z1 : W.heap.size ≤ w1.heap.size := hb1.size
  clear hR1 hb1
  by_cases h : ((memOk xss = true ∧ 0 ≤ f ∧ f < 12) ∧ 0 ≤ t ∧ t ≤ 3) ∧ 0 ≤ x ∧ x ≤ 9999
  · obtain ⟨⟨⟨hmem, hf0, hf1⟩, ht0, ht1⟩, hx0, hx1⟩ := h
    obtain ⟨i, rfl⟩ : ∃ i : Nat, f = i := ⟨f.toNat, by omega⟩
    obtain ⟨j, rfl⟩ : ∃ j : Nat, t = j := ⟨t.toNat, by omega⟩
    have hi : i < 12 := by omega
    have hj : j < 4 := by omega
    have HI := Lib.hid (HhPy.out w1 v xss i j x R1.out hmem hi hj hx0 hx1)
    have HMEM := Lib.hid hmem
    have HOK := Lib.hid (mput_ok (x := x) hmem hi hj hx0 hx1)
    have HLEN := Lib.hid (mem_len hmem)
    have HROW := Lib.hid (mem_row hmem hi)
    clear hmem
    obtain ⟨yss, hy⟩ : ∃ yss, yss = mput xss i j x := ⟨_, rfl⟩
    rw [← hy] at HI HOK
    have HY := Lib.hid hy
    clear hy
    go_wp2_with fail
    refine HI.out.mono ?_
    rintro e w2 ⟨rA, rfl, hm2, hb2⟩
    have R2 := Lib.hid (R1.out.below hb2)
    have B2 := Lib.hid (Below.chg B1.out (Chg.of_below hb2) Z1 (.inr rfl))
    have Z2 : W.heap.size ≤ w2.heap.size := Nat.le_trans Z1 hb2.size
    have M2 := Lib.hid hm2.rows
    clear hb2 B1 hm2 HI
    have HS2 := Lib.hid (sput_yes w2 v xss i j x R2.out HMEM.out hi hj hx0 hx1)
    rw [← HY.out] at HS2
    go_wp2_with fail
    refine HS2.out.mono ?_
    rintro e w3 ⟨rB, rfl, hm3, hb3⟩
    have B3 := Lib.hid (Below.chg B2.out (Chg.of_below hb3) Z2 (.inr rfl))
    have Z3 : W.heap.size ≤ w3.heap.size := Nat.le_trans Z2 hb3.size
    have M3 := Lib.hid hm3.rows
    have M23 := Lib.hid (M2.out.below hb3)
    have R3 := Lib.hid (R2.out.below hb3)
    clear hb3 B2 hm3 HS2 M2 R2
    go_wp2_with fail
    refine (same_c w3 rA rB yss M23.out M3.out).mono ?_
    rintro e w4 ⟨rfl, C4⟩
    have T4 : Two W v rA xss yss w4 := ⟨Below.chg B3.out C4 Z3 (.inr rfl), rows_chg0 C4 R3.out, rows_chg0 C4 M23.out⟩
    clear B3 C4 M3 M23 R3
    obtain ⟨b, o, c, g, p, d, rfl, hc, hgc⟩ := T4.one.word HMEM.out hi hj
    obtain ⟨z, hz⟩ : ∃ z, z = (xss.getD i []).getD j 0 := ⟨_, rfl⟩
    rw [← hz] at hgc
    have hzb : 0 ≤ z ∧ z ≤ 9999 := by rw [hz]; exact mem_word HMEM.out hi hj
    have HB : Hid (mput yss i j z = xss) := Lib.hid (by rw [HY.out, hz]; exact mput_back HMEM.out hi hj)
    have HZ := Lib.hid hz
    have HI4 := Lib.hid (HhPy.out w4 rA yss i j z T4.two HOK.out hi hj hzb.1 hzb.2)
    rw [HB.out] at HI4
    have HT4 := Lib.hid T4
    clear hz T4
    go_wp2_with fail
    refine HI4.out.mono ?_
    rintro e w5 ⟨rC, rfl, hm5, hb5⟩
    have HT5 := Lib.hid (HT4.out.go hb5)
    have M5 := Lib.hid hm5.rows
    clear hm5 hb5 HI4 HT4 hc hgc
    go_wp2_with fail
    refine (same_c w5 rC _ xss M5.out HT5.out.one).mono ?_
    rintro e w6 ⟨rfl, C6⟩
    have B6 := Lib.hid (Below.chg HT5.out.old C6 HT5.out.old.size (.inr rfl))
    clear C6 HT5
    go_wp2_with fail
    go_ret
    exact ⟨rfl, B6.out⟩
  · have HI := Lib.hid (HhPn.out w1 v xss f t x R1.out h)
    have HN := Lib.hid h
    clear h
    go_wp2_with fail
    refine HI.out.mono ?_
    rintro e w2 ⟨rA, rfl, hm2, hb2⟩
    have R2 := Lib.hid (R1.out.below hb2)
    have B2 := Lib.hid (Below.chg B1.out (Chg.of_below hb2) Z1 (.inr rfl))
    have Z2 : W.heap.size ≤ w2.heap.size := Nat.le_trans Z1 hb2.size
    have M2 := Lib.hid hm2.rows
    clear hb2 B1 hm2 HI
    have HS2 := Lib.hid (sput_no w2 v xss f t x R2.out HN.out)
    go_wp2_with fail
    refine HS2.out.mono ?_
    rintro e w3 ⟨rB, rfl, hm3, hb3⟩
    have B3 := Lib.hid (Below.chg B2.out (Chg.of_below hb3) Z2 (.inr rfl))
    have Z3 : W.heap.size ≤ w3.heap.size := Nat.le_trans Z2 hb3.size
    have M3 := Lib.hid hm3.rows
    have M23 := Lib.hid (M2.out.below hb3)
    clear hb3 B2 hm3 HS2
    go_wp2_with fail
    refine (same_c w3 rA rB [] M23.out M3.out).mono ?_
    rintro e w4 ⟨rfl, C4⟩
    have B4 := Lib.hid (Below.chg B3.out C4 Z3 (.inr rfl))
    have Q4 := Lib.hid (same_after C4 M23.out M3.out)
    clear B3 C4
    go_wp2_with fail
    refine Q4.out.mono ?_
    rintro e w5 ⟨rfl, C5⟩
    have B5 := Lib.hid (Below.chg B4.out C5 (by have := B4.out.size; omega) (.inr rfl))
    clear B4 C5
    go_wp2_with fail
    go_ret
    exact ⟨rfl, B5.out⟩
end Go.Proofs.Ytgdkeihmddpenaa
