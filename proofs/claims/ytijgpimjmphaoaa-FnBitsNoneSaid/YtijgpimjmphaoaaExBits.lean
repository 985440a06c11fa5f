/- The walks of the exact statements on sets, out of contracts of the program and of the reference that answer the same. -/
import Derived.Test.YtijgpimjmphaoaaHasN
import Derived.Test.YtijgpimjmphaoaaBDraw
namespace Go.Proofs.Ytijgpimjmphaoaa
open Go.ChangeShapes Go.WideShapes Go.ChangeAt Go.RowKit
set_option linter.unusedVariables false

/-- an answer that is a number, or a bool, or both; nothing that was there changes -/
def IntRes (w : World) (n : Int) (e : Ending) (w' : World) : Prop := e = .returned (.int .i64 n) ∧ Below w.heap.size w w'
def BoolRes (w : World) (b : Bool) (e : Ending) (w' : World) : Prop := e = .returned (.bool b) ∧ Below w.heap.size w w'
def OfRes (w : World) (r : BV) (e : Ending) (w' : World) : Prop := e = .returned (.tuple #[.int .i64 r.n, .bool r.b]) ∧ Below w.heap.size w w'
theorem blist_len (n : Int) : (blist n).length ≤ 12 := by
  unfold blist
  split
  · exact frm_len _ _
  · simp
theorem exBitsList_walk (W : World) (n : Int) (ys : List Int) (hy : ys.length ≤ 1000)
    (hS : ∀ w, Calls Try.prog 22 #[.int .i64 n] w (NewR ys w))
    (hI : ∀ w, Calls Try.prog 19 #[.int .i64 n] w (NewR ys w)) :
    Calls Try.prog 12 #[.int .i64 n] W fun e w' => e = .returned (.bool true) ∧ Below W.heap.size W w' := by
  have HSPEC := Lib.hid hS
  have HIMPL := Lib.hid hI
  clear hS hI
  obtain ⟨ny, hny⟩ : ∃ n, n = ys.length := ⟨_, rfl⟩
  have HNY := Lib.hid hny
  have hny1 : ny ≤ 1000 := by omega
  clear hny hy
  go_enter Try.func12, Try.ntmps12
  go_wp2_with fail
  refine (HSPEC.out W).mono ?_
  rintro e w2 ⟨u2, rfl, hm2, hb2⟩
  have B2 := Lib.hid hb2
  have Z2 : W.heap.size ≤ w2.heap.size := hb2.size
  have M2 := Lib.hid hm2
  clear hm2 hb2
  go_wp2_with fail
  refine (HIMPL.out w2).mono ?_
  rintro e w8 ⟨u4, rfl, hm4, hb4⟩
  have Z8 : w2.heap.size ≤ w8.heap.size := hb4.size
  have C4 := Chg.of_below hb4
  have B8 := Lib.hid (Below.chg B2.out C4 (by omega) (.inr rfl))
  have M28 := Lib.hid (M2.out.chg C4 (by omega) (.inr (by omega)))
  have M48 := Lib.hid hm4
  clear hm4 hb4 C4 B2 M2
  -- both results are equal
  go_wp2_with fail
  refine (eqs_c w8 u4 u2 ys M48.out.ints M28.out.ints).mono ?_
  rintro e w9 ⟨rfl, C9⟩
  have Z9 := C9.size
  have B9 := Lib.hid (Below.chg B8.out C9 (by omega) (.inr rfl))
  have M29 := Lib.hid (M28.out.chg C9 (by omega) (.inr (by omega)))
  have M49 := Lib.hid (M48.out.chg C9 (by omega) (.inr (by omega)))
  clear C9 B8 M28 M48
  -- the result is marked
  obtain ⟨a4, cap4, e4, _⟩ := M49.out
  rw [← HNY.out] at e4
  subst e4
  have HM9 := Lib.hid (mark_of M49.out HNY.out (by omega))
  clear M49
  go_wp2_with fail
  refine HM9.out.mono ?_
  rintro e w10 ⟨rfl, hk10, K10⟩
  have C10 := Chg.of_kept K10
  have Z10 := C10.size
  have B10 := Lib.hid (Below.chg B9.out C10 (by omega) (.inl (by omega)))
  have M210 := Lib.hid (M29.out.chg C10 (by omega) (.inl (by omega)))
  have HK10 := Lib.hid hk10
  have HD10 := Lib.hid (held_of hk10 (by omega))
  clear C10 K10 B9 M29 HM9 hk10
  have hge : decide ((1 : Int) + (ny : Int) < 0) = false := by simp; omega
  go_wp2_with fail
  refine HD10.out.mono ?_
  rintro e w' ⟨rfl, rfl⟩
  clear HD10
  -- another call
  go_wp2_with fail
  refine (HIMPL.out w10).mono ?_
  rintro e w12 ⟨u12, rfl, hm12, hb12⟩
  have C12 := Chg.of_below hb12
  have Z12 := C12.size
  have B12 := Lib.hid (Below.chg B10.out C12 (by omega) (.inr rfl))
  have M212 := Lib.hid (M210.out.chg C12 (by omega) (.inr (by omega)))
  have HK12 := Lib.hid (HK10.out.chg C12 (by omega) (.inr (by omega)))
  have M1212 := Lib.hid hm12
  clear C12 B10 M210 HK10 hm12 hb12
  go_wp2_with fail
  refine (eqs_c w12 u12 u2 ys M1212.out.ints M212.out.ints).mono ?_
  rintro e w13 ⟨rfl, C13⟩
  have Z13 := C13.size
  have B13 := Lib.hid (Below.chg B12.out C13 (by omega) (.inr rfl))
  have HK13 := Lib.hid (HK12.out.chg C13 (by omega) (.inr (by omega)))
  have HD13 := Lib.hid (held_of HK13.out (by omega))
  clear C13 B12 M212 HK12 M1212 HK13
  go_wp2_with fail
  refine HD13.out.mono ?_
  rintro e w' ⟨rfl, rfl⟩
  go_wp2_with fail
  go_ret
  exact ⟨rfl, B13.out⟩
theorem exBitsHas_walk (W : World) (a b : Int) (r : Bool)
    (hS : ∀ w, Calls Try.prog 26 #[.int .i64 a, .int .i64 b] w (BoolRes w r))
    (hI : ∀ w, Calls Try.prog 25 #[.int .i64 a, .int .i64 b] w (BoolRes w r)) :
    Calls Try.prog 13 #[.int .i64 a, .int .i64 b] W fun e w' => e = .returned (.bool true) ∧ Below W.heap.size W w' := by
  have HSPEC := Lib.hid hS
  have HIMPL := Lib.hid hI
  clear hS hI
  go_enter Try.func13, Try.ntmps13
  go_wp2_with fail
  refine (HSPEC.out W).mono ?_
  rintro e w2 ⟨rfl, hb2⟩
  have B2 := Lib.hid hb2
  clear hb2
  go_wp2_with fail
  refine (HIMPL.out w2).mono ?_
  rintro e w3 ⟨rfl, hb3⟩
  have B3 := Lib.hid (B2.out.trans (hb3.mono B2.out.size))
  clear hb3
  go_wp2_with fail
  go_ret
  exact ⟨rfl, B3.out⟩
theorem exBitsJoin_walk (W : World) (a b : Int) (r : Int)
    (hS : ∀ w, Calls Try.prog 29 #[.int .i64 a, .int .i64 b] w (IntRes w r))
    (hI : ∀ w, Calls Try.prog 28 #[.int .i64 a, .int .i64 b] w (IntRes w r)) :
    Calls Try.prog 14 #[.int .i64 a, .int .i64 b] W fun e w' => e = .returned (.bool true) ∧ Below W.heap.size W w' := by
  have HSPEC := Lib.hid hS
  have HIMPL := Lib.hid hI
  clear hS hI
  go_enter Try.func14, Try.ntmps14
  go_wp2_with fail
  refine (HSPEC.out W).mono ?_
  rintro e w2 ⟨rfl, hb2⟩
  have B2 := Lib.hid hb2
  clear hb2
  go_wp2_with fail
  refine (HIMPL.out w2).mono ?_
  rintro e w3 ⟨rfl, hb3⟩
  have B3 := Lib.hid (B2.out.trans (hb3.mono B2.out.size))
  clear hb3
  go_wp2_with fail
  go_ret
  exact ⟨rfl, B3.out⟩
theorem exBitsWithout_walk (W : World) (a b : Int) (r : Int)
    (hS : ∀ w, Calls Try.prog 32 #[.int .i64 a, .int .i64 b] w (IntRes w r))
    (hI : ∀ w, Calls Try.prog 31 #[.int .i64 a, .int .i64 b] w (IntRes w r)) :
    Calls Try.prog 15 #[.int .i64 a, .int .i64 b] W fun e w' => e = .returned (.bool true) ∧ Below W.heap.size W w' := by
  have HSPEC := Lib.hid hS
  have HIMPL := Lib.hid hI
  clear hS hI
  go_enter Try.func15, Try.ntmps15
  go_wp2_with fail
  refine (HSPEC.out W).mono ?_
  rintro e w2 ⟨rfl, hb2⟩
  have B2 := Lib.hid hb2
  clear hb2
  go_wp2_with fail
  refine (HIMPL.out w2).mono ?_
  rintro e w3 ⟨rfl, hb3⟩
  have B3 := Lib.hid (B2.out.trans (hb3.mono B2.out.size))
  clear hb3
  go_wp2_with fail
  go_ret
  exact ⟨rfl, B3.out⟩
end Go.Proofs.Ytijgpimjmphaoaa
