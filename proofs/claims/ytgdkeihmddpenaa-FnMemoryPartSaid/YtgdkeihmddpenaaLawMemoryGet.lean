/- The walk of the statement on words of a memory, out of contracts of the program and of the reference. -/
import Derived.Test.YtgdkeihmddpenaaDrawM
import Derived.Test.YtgdkeihmddpenaaSame
namespace Go.Proofs.Ytgdkeihmddpenaa
open Go.ChangeShapes Go.WideShapes Go.ChangeAt Go.RowKit
set_option linter.unusedVariables false

theorem row_len {k : IntKind} {w : World} {a : Option Addr} {len cap : Nat} {zs : List Int} (hr : Row k w a len cap zs) : len ≤ 9223372036854775807 := by
  rcases hr with ⟨_, rfl, rfl, _⟩ | ⟨x, _, hl, hm, _⟩
  · omega
  · unfold maxLen at hm; omega
set_option maxHeartbeats 1000000 in
theorem memoryGet_walk (hGy : ∀ (w : World) (v : Value) (xss : List (List Int)) (i j : Nat), Rows2 w v xss → memOk xss = true → i < 12 → j < 4 → Calls Try.prog 15 #[v, .int .i64 i, .int .i64 j] w fun e w' => e = .returned (.tuple #[.int .i64 ((xss.getD i []).getD j 0), .bool true]) ∧ Below w.heap.size w w') (hGn : ∀ (w : World) (v : Value) (xss : List (List Int)) (f t : Int), Rows2 w v xss → ¬ ((memOk xss = true ∧ 0 ≤ f ∧ f < 12) ∧ 0 ≤ t ∧ t ≤ 3) → Calls Try.prog 15 #[v, .int .i64 f, .int .i64 t] w fun e w' => e = .returned (.tuple #[.int .i64 0, .bool false]) ∧ Below w.heap.size w w') (W : World) (a : Option Addr) (len cap : Nat) (zs : List Int) (hr : Row .u8 W a len cap zs) :
    Calls Try.prog 3 #[.slice a len cap] W fun e w' => e = .returned (.bool true) ∧ Below W.heap.size W w' := by
  have HhGy := Lib.hid hGy
  clear hGy
  have HhGn := Lib.hid hGn
  clear hGn
  have hm := row_len hr
  by_cases hL : 1048576 < len
  · have hL1 : (1048576 : Int) < (len : Int) := by omega
    clear hr
    go_enter Try.func3, Try.ntmps3
    go_wp2_with fail
    go_ret
    exact ⟨rfl, Below.refl _ _⟩
  have hL1 : decide ((1048576 : Int) < (len : Int)) = false := by simp; omega
  have hL2 : decide (1048576 < len) = false := by simp; omega
  go_enter Try.func3, Try.ntmps3
  go_wp2_with fail
  refine (drawMemoryGet_any W a len cap zs hr).mono ?_
  clear hr
  rintro e w1 ⟨v, xss, f, t, ⟨hf, ht⟩, rfl, hR1, hS, hb1⟩
  have R1 := Lib.hid hR1
  have B1 := Lib.hid hb1
  have Z1 : W.heap.size ≤ w1.heap.size := hb1.size
  clear hR1 hb1
  by_cases h : (memOk xss = true ∧ 0 ≤ f ∧ f < 12) ∧ 0 ≤ t ∧ t ≤ 3
  · obtain ⟨⟨hmem, hf0, hf1⟩, ht0, ht1⟩ := h
    obtain ⟨i, rfl⟩ : ∃ i : Nat, f = i := ⟨f.toNat, by omega⟩
    obtain ⟨j, rfl⟩ : ∃ j : Nat, t = j := ⟨t.toNat, by omega⟩
    have hw := mem_word hmem (i := i) (j := j) (by omega) (by omega)
    have HI := Lib.hid (HhGy.out w1 v xss i j R1.out hmem (by omega) (by omega))
    obtain ⟨x, hx⟩ : ∃ x, x = (xss.getD i []).getD j 0 := ⟨_, rfl⟩
    rw [← hx] at hw HI
    have HX := Lib.hid hx
    clear hx
    have HMEM := Lib.hid hmem
    have HROW := Lib.hid (mem_row hmem (i := i) (by omega))
    have HLEN := Lib.hid (mem_len hmem)
    clear hmem
    go_wp2_with fail
    refine HI.out.mono ?_
    rintro e w2 ⟨rfl, hb2⟩
    have R2 := Lib.hid (R1.out.below hb2)
    have B2 := Lib.hid (Below.chg B1.out (Chg.of_below hb2) Z1 (.inr rfl))
    clear hb2 B1
    have HS2 := Lib.hid (sget_yes w2 v xss i j R2.out HMEM.out (by omega) (by omega))
    rw [← HX.out] at HS2
    go_wp2_with fail
    refine HS2.out.mono ?_
    rintro e w' ⟨rfl, rfl⟩
    obtain ⟨ra, rc, rfl, hr1, hr2, hr3⟩ := R2.out
    obtain ⟨b, o, u, rfl, hc, hu⟩ := hr3 i (by have := HLEN.out; omega)
    obtain ⟨ga, gc, rfl, hg1, hg2, hg3⟩ := hu
    obtain ⟨g, p, rfl, hgc⟩ := hg3 j (by have := HROW.out; omega)
    rw [HROW.out] at hc
    rw [HLEN.out]
    rw [← HX.out] at hgc
    obtain ⟨hw0, hw1⟩ := hw
    clear hr3 hg3 HI HS2
    go_wp2_with fail
    go_ret
    exact ⟨rfl, B2.out⟩
  · have HI := Lib.hid (HhGn.out w1 v xss f t R1.out h)
    have HN := Lib.hid h
    clear h
    go_wp2_with fail
    refine HI.out.mono ?_
    rintro e w2 ⟨rfl, hb2⟩
    have R2 := Lib.hid (R1.out.below hb2)
    have B2 := Lib.hid (Below.chg B1.out (Chg.of_below hb2) Z1 (.inr rfl))
    clear hb2 B1
    have HS2 := Lib.hid (sget_no w2 v xss f t R2.out HN.out)
    go_wp2_with fail
    refine HS2.out.mono ?_
    rintro e w' ⟨rfl, rfl⟩
    go_wp2_with fail
    go_ret
    exact ⟨rfl, B2.out⟩
end Go.Proofs.Ytgdkeihmddpenaa
