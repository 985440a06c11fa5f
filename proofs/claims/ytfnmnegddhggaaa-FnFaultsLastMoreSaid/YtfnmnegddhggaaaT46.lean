/- What the proofs stand on, part 46. -/
import Derived.Test.YtfnmnegddhggaaaRows
import Derived.Test.YtfnmnegddhggaaaT1
import Derived.Test.YtfnmnegddhggaaaT2
import Derived.Test.YtfnmnegddhggaaaT3
import Derived.Test.YtfnmnegddhggaaaT4
import Derived.Test.YtfnmnegddhggaaaT5
import Derived.Test.YtfnmnegddhggaaaT6
import Derived.Test.YtfnmnegddhggaaaT7
import Derived.Test.YtfnmnegddhggaaaT8
import Derived.Test.YtfnmnegddhggaaaT9
import Derived.Test.YtfnmnegddhggaaaT10
import Derived.Test.YtfnmnegddhggaaaT11
import Derived.Test.YtfnmnegddhggaaaT12
import Derived.Test.YtfnmnegddhggaaaT13
import Derived.Test.YtfnmnegddhggaaaT17
import Derived.Test.YtfnmnegddhggaaaT18
import Derived.Test.YtfnmnegddhggaaaT21
import Derived.Test.YtfnmnegddhggaaaT24
import Derived.Test.YtfnmnegddhggaaaT27
import Derived.Test.YtfnmnegddhggaaaT33
set_option linter.unusedSimpArgs false
set_option linter.unusedVariables false
namespace Go.Proofs.Ytfnmnegddhggaaa
set_option linter.unusedVariables false
set_option linter.unusedSimpArgs false
theorem FRun.more {f g : Nat} (hfg : f ≤ g) : ∀ {l S : List Int} {n : Nat}, FRun f S l n → FRun g S l n
  | [], _, _, _ => trivial
  | x :: r, S, n, ⟨T, k, h1, h2, h3, h4, h5⟩ => ⟨T, k, by omega, h2, h3, FRun.more hfg h4, h5⟩
theorem costL_more (f : Nat) : ∀ (l p : List Int), costL (f + 1) p l ≤ costL f p l
  | [], _ => Nat.le_refl _
  | x :: r, p => by
    have := costL_more f r (x :: p)
    have := fMiss_mono (x := x) (S := (rcp p).take (f + 1)) (S' := (rcp p).take f) (fun h => (List.take_subset_take_left (rcp p) (Nat.le_succ f)) h)
    simp only [costL]; omega
theorem costB_more {ev : List Int → List Int → Nat} (hev : FLate ev) {f : Nat} (hf : 0 < f) (l : List Int) : costB ev (f + 1) [] l ≤ costB ev f [] l :=
  costB_le hev (Nat.succ_pos f) l [] _ List.nodup_nil (Nat.zero_le _) (FRun.more (Nat.le_succ f) (costB_run hev hf l [] (Nat.zero_le _)))
end Go.Proofs.Ytfnmnegddhggaaa
namespace Go.Proofs.Ytfnmnegddhggaaa
open Go.ChangeShapes Go.WideShapes Go.ChangeAt Go.RowKit
set_option linter.unusedVariables false
set_option linter.unusedSimpArgs false
theorem fact_more {xs : List Int} {f : Int} (h : 0 ≤ flast xs f) (hf : f ≠ 12) : flast xs (f + 1) ≤ flast xs f ∧ fbest xs (f + 1) ≤ fbest xs f := by
  obtain ⟨F, q⟩ := ft_of (.inr (.inl h))
  have hF := q.eq
  have h12 := q.hi
  have q2 := ft_mk (F := F + 1) q.ok (by omega) (by omega)
  have e : f + 1 = ((F + 1 : Nat) : Int) := by omega
  rw [e, q2.last, q2.best, q.last, q.best]
  have h1 := costL_more F xs []
  have h2 := costB_more evL_late (show 0 < F by have := q.lo; omega) xs
  omega
end Go.Proofs.Ytfnmnegddhggaaa
namespace Go.Proofs.Ytfnmnegddhggaaa
open Go.ChangeShapes Go.WideShapes Go.ChangeAt Go.RowKit
set_option linter.unusedVariables false
set_option linter.unusedSimpArgs false
set_option maxRecDepth 100000 in
set_option maxHeartbeats 2000000 in
theorem faultsLastMore_walk (ctv : CTV) (cts : CTS) (cff : CFF) (cfl : CFL) (cfb : CFB) (W : World) (a : Option Addr) (len cap : Nat) (zs : List Int) (hr : Row .u8 W a len cap zs) :
    Calls Try.prog 5 #[.slice a len cap] W fun e w' => e = .returned (.bool true) ∧ Below W.heap.size W w' := by
  have hm := row_len hr
  by_cases hL : 1048576 < len
  · have hL1 : (1048576 : Int) < (len : Int) := by omega
    clear hr
    go_enter Try.func5, Try.ntmps5
    go_wp2_with fail
    go_ret
    exact ⟨rfl, Below.refl _ _⟩
  have hL1 : decide ((1048576 : Int) < (len : Int)) = false := by simp; omega
  have hL2 : decide (1048576 < len) = false := by simp; omega
  go_enter Try.func5, Try.ntmps5
  go_wp2_with fail
  refine (drawFaultsLast_any W a len cap zs hr).mono ?_
  clear hr
  rintro e w1 ⟨v, ys, f, rfl, hf, hd⟩
  have B1 := Lib.hid hd.bel
  have R1 := Lib.hid hd.ints
  have hl25 := hd.len
  obtain ⟨g, c, hv⟩ := hd.form
  clear hd
  subst hv
  have HL := Lib.hid (fun (w : World) (h : Ints w (.slice (some ⟨g, 0, none⟩) ys.length c) ys) => cfl w _ ys f h)
  have SL := Lib.hid (fun (w : World) (h : Ints w (.slice (some ⟨g, 0, none⟩) ys.length c) ys) => sFaultsLast_any w _ ys f h)
  have HB := Lib.hid (fun (w : World) (h : Ints w (.slice (some ⟨g, 0, none⟩) ys.length c) ys) => cfb w _ ys f h)
  have HL1 := Lib.hid (fun (w : World) (h : Ints w (.slice (some ⟨g, 0, none⟩) ys.length c) ys) => cfl w _ ys (f + 1) h)
  have HB1 := Lib.hid (fun (w : World) (h : Ints w (.slice (some ⟨g, 0, none⟩) ys.length c) ys) => cfb w _ ys (f + 1) h)
  have FA := Lib.hid ((fun h k => fact_more h k : 0 ≤ flast ys f → f ≠ 12 → _))
  have HYN : Hid (ys.length ≤ 25) := Lib.hid hl25
  obtain ⟨n, hn⟩ : ∃ n, n = ys.length := ⟨_, rfl⟩
  rw [← hn] at hl25 R1 HL SL HB HL1 HB1 ⊢
  have HN := Lib.hid hn
  clear hn
  generalize fbest ys (f + 1) = zbm at HB1 FA
  generalize flast ys (f + 1) = zlm at HL1 FA
  generalize fbest ys f = zb at HB FA
  generalize flast ys f = zl at HL SL FA
  have hw : IntKind.i64.wrap (f + 1) = f + 1 := by rw [IntKind.wrap_i64]; omega
  go_wp2_with fail
  refine (HL.out w1 R1.out).mono ?_
  rintro e w2 ⟨rfl, hb⟩
  have B2 := Lib.hid (B1.out.trans (hb.mono B1.out.size))
  have R2 := Lib.hid (Ints.below (B := 0) R1.out hb)
  clear hb
  go_wp2_with fail
  refine (SL.out w2 R2.out).mono ?_
  rintro e w3 ⟨rfl, hb⟩
  have B3 := Lib.hid (B2.out.trans (hb.mono B2.out.size))
  have R3 := Lib.hid (Ints.below (B := 0) R2.out hb)
  clear hb
  by_cases hz : zl < 0
  · go_wp2_with fail
    go_ret
    exact ⟨rfl, B3.out⟩
  · have hz1 : decide (zl < 0) = false := by simp; omega
    by_cases h12 : f = 12
    · subst h12
      go_wp2_with fail
      go_ret
      exact ⟨rfl, B3.out⟩
    · have h12f : (f == 12) = false := by simpa using h12
      obtain ⟨h1, h2⟩ := FA.out (by omega) h12
      go_wp2_with fail
      refine (HL1.out w3 R3.out).mono ?_
      rintro e w4 ⟨rfl, hb⟩
      have B4 := Lib.hid (B3.out.trans (hb.mono B3.out.size))
      have R4 := Lib.hid (Ints.below (B := 0) R3.out hb)
      clear hb
      go_wp2_with fail
      refine (HB1.out w4 R4.out).mono ?_
      rintro e w5 ⟨rfl, hb⟩
      have B5 := Lib.hid (B4.out.trans (hb.mono B4.out.size))
      have R5 := Lib.hid (Ints.below (B := 0) R4.out hb)
      clear hb
      go_wp2_with fail
      refine (HB.out w5 R5.out).mono ?_
      rintro e w6 ⟨rfl, hb⟩
      have B6 := Lib.hid (B5.out.trans (hb.mono B5.out.size))
      have R6 := Lib.hid (Ints.below (B := 0) R5.out hb)
      clear hb
      go_wp2_with fail
      go_ret
      exact ⟨rfl, B6.out⟩
end Go.Proofs.Ytfnmnegddhggaaa
