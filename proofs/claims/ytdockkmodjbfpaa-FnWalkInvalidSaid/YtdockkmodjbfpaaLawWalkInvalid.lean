/- The walk of the statement that a walk needs a memory, out of contracts of the program. -/
import Derived.Test.YtdockkmodjbfpaaWLaw
namespace Go.Proofs.Ytdockkmodjbfpaa
open Go.ChangeShapes Go.WideShapes Go.ChangeAt Go.RowKit
set_option linter.unusedVariables false

set_option maxHeartbeats 1000000 in
theorem walkInvalid_walk (hW : ∀ (w : World) (v : Value) (xss : List (List Int)) (r a : Int), Rows2 w v xss → Calls Try.prog 13 #[v, .int .i64 r, .int .i64 a] w (WalkRes w (walkF xss r a))) (hV : ∀ (w : World) (v : Value) (xss : List (List Int)), Rows2 w v xss → Calls Try.prog 17 #[v] w fun e w' => e = .returned (.bool (memOk xss)) ∧ Below w.heap.size w w') (W : World) (a : Option Addr) (len cap : Nat) (zs : List Int) (hr : Row .u8 W a len cap zs) :
    Calls Try.prog 5 #[.slice a len cap] W fun e w' => e = .returned (.bool true) ∧ Below W.heap.size W w' := by
  have HhW := Lib.hid hW
  clear hW
  have HhV := Lib.hid hV
  clear hV
  have hm := row_len hr
  by_cases hL : 1048576 < len
  · have hL1 : (1048576 : Int) < (len : Int) := by omega
    clear hr
    go_enter Try.func5, Try.ntmps5
    go_wp2_with fail
    go_ret
    exact ⟨rfl, Below.refl _ _⟩
  have hL1 : decide ((1048576 : Int) < (len : Int)) = false := by simp; omega
  have hL2 : decide (1048576 < len) = false := by simp; omega
  go_enter Try.func5, Try.ntmps5
  go_wp2_with fail
  refine (drawWalk_any W a len cap zs hr).mono ?_
  clear hr
  rintro e w1 ⟨v, xss, r, t, hP, rfl, hR1, hS, hb1⟩
  have R1 := Lib.hid hR1
  have B1 := Lib.hid hb1
  have Z1 : W.heap.size ≤ w1.heap.size := hb1.size
  have HI := Lib.hid (HhW.out w1 v xss r t hR1)
  clear hR1 hb1
  obtain ⟨pf, hpf⟩ : ∃ pf, pf = walkF xss r t := ⟨_, rfl⟩
  rw [← hpf] at HI
  have HPF := Lib.hid hpf
  clear hpf
  obtain ⟨f, q, bb, c⟩ := pf
  go_wp2_with fail
  refine HI.out.mono ?_
  rintro e w2 ⟨rfl, hb2⟩
  unfold plV
  have B2 := Lib.hid (Below.chg B1.out (Chg.of_below hb2) Z1 (.inr rfl))
  have Z2 : W.heap.size ≤ w2.heap.size := Nat.le_trans Z1 hb2.size
  have R2 := Lib.hid (R1.out.below hb2)
  clear hb2 B1 HI R1
  obtain ⟨wA, hwA⟩ : ∃ wA, wA = w2.alloc (.cells #[.int .i64 f, .int .i64 q, .bool bb] 27) := ⟨_, rfl⟩
  have HPA : Hid (wA.heap[w2.heap.size]? = some (.cells #[.int .i64 f, .int .i64 q, .bool bb] 27 (0, 0))) := Lib.hid (by rw [hwA]; exact heap_alloc_new w2 _)
  have BA : Hid (Below W.heap.size W wA) := Lib.hid (by rw [hwA]; exact B2.out.alloc Z2 _)
  have ZA : w2.heap.size < wA.heap.size := by rw [hwA]; simp
  have RA : Hid (Rows2 wA v xss) := Lib.hid (by rw [hwA]; exact R2.out.below ((Below.refl _ _).alloc (Nat.le_refl _) _))
  have HSP := Lib.hid (swalk_any wA v xss r t RA.out)
  rw [← HPF.out] at HSP
  clear B2 R2
  go_wp2_with fail
  rw [← hwA]
  clear hwA
  refine HSP.out.mono ?_
  rintro e w4 ⟨rfl, hb4⟩
  unfold plV
  have Z4 := hb4.size
  have B4 := Lib.hid (Below.chg BA.out (Chg.of_below hb4) (by omega) (.inr rfl))
  have hp4 := (hb4.block w2.heap.size ZA).trans HPA.out
  have R4 := Lib.hid (RA.out.below hb4)
  clear hb4 BA HPA HSP RA
  have hA : ∀ k u, (#[.int .i64 f, .int .i64 q, .bool bb] : Array Value)[k]? = some u → ∀ ob, (w4.alloc ob).cell? ⟨w2.heap.size, k, none⟩ = some u := fun k u hu ob => by
    rw [World.cell?_alloc_lt w4 ob ⟨w2.heap.size, k, none⟩ (by show w2.heap.size < w4.heap.size; omega), cell_of_row w4 w2.heap.size k _ _ _ hp4, hu]
  have hA0 := hA 0 _ rfl
  have hA1 := hA 1 _ rfl
  have hA2 := hA 2 _ rfl
  have HBB : Hid (∀ ob, Below W.heap.size W (w4.alloc ob)) := Lib.hid (fun ob => B4.out.alloc (by omega) ob)
  have HRB : Hid (∀ ob, Rows2 (w4.alloc ob) v xss) := Lib.hid (fun ob => R4.out.below ((Below.refl _ _).alloc (Nat.le_refl _) ob))
  have HR4 := Lib.hid R4.out
  clear hA hp4 B4 R4
  have HVB0 := Lib.hid (fun ob => HhV.out (w4.alloc ob) v xss (HRB.out ob))
  by_cases hm0 : memOk xss = true
  · have HVB : Hid (∀ ob, Calls Try.prog 17 #[v] (w4.alloc ob) fun e w' => e = .returned (.bool true) ∧ Below (w4.alloc ob).heap.size (w4.alloc ob) w') := Lib.hid (fun ob => by rw [← hm0]; exact HVB0.out ob)
    clear HVB0
    by_cases hr0 : r < 0
    · have hrx : decide (r < 0) = true := by simpa using hr0
      have hc3 : c = 3 := by have := HPF.out.trans (walkF_no (xss := xss) (r := r) (a := t) (fun h => by have := h.2.1.1; omega)); injection this
      subst hc3
      clear HPF
      go_wp2_with fail
      refine (HVB.out _).mono ?_
      rintro e w5 ⟨rfl, hb5⟩
      have HE := Lib.hid (Below.chg (HBB.out _) (Chg.of_below hb5) (HBB.out _).size (.inr rfl))
      clear hb5
      go_wp2_with fail
      go_ret
      exact ⟨rfl, HE.out⟩
    by_cases hr1 : 12 ≤ r
    · have hrx : decide (r < 0) = false := by simpa using hr0
      have hc3 : c = 3 := by have := HPF.out.trans (walkF_no (xss := xss) (r := r) (a := t) (fun h => by have := h.2.1.2; omega)); injection this
      subst hc3
      clear HPF
      go_wp2_with fail
      refine (HVB.out _).mono ?_
      rintro e w5 ⟨rfl, hb5⟩
      have HE := Lib.hid (Below.chg (HBB.out _) (Chg.of_below hb5) (HBB.out _).size (.inr rfl))
      clear hb5
      go_wp2_with fail
      go_ret
      exact ⟨rfl, HE.out⟩
    by_cases ht0 : t < 0
    · have hrx : decide (r < 0) = false := by simpa using hr0
      have hry : decide (12 ≤ r) = false := by simpa using hr1
      have hc3 : c = 3 := by have := HPF.out.trans (walkF_no (xss := xss) (r := r) (a := t) (fun h => by have := h.2.2.1; omega)); injection this
      subst hc3
      clear HPF
      go_wp2_with fail
      refine (HVB.out _).mono ?_
      rintro e w5 ⟨rfl, hb5⟩
      have HE := Lib.hid (Below.chg (HBB.out _) (Chg.of_below hb5) (HBB.out _).size (.inr rfl))
      clear hb5
      go_wp2_with fail
      go_ret
      exact ⟨rfl, HE.out⟩
    by_cases ht1 : 64 ≤ t
    · have hrx : decide (r < 0) = false := by simpa using hr0
      have hry : decide (12 ≤ r) = false := by simpa using hr1
      have hrz : decide (t < 0) = false := by simpa using ht0
      have hc3 : c = 3 := by have := HPF.out.trans (walkF_no (xss := xss) (r := r) (a := t) (fun h => by have := h.2.2.2; omega)); injection this
      subst hc3
      clear HPF
      go_wp2_with fail
      refine (HVB.out _).mono ?_
      rintro e w5 ⟨rfl, hb5⟩
      have HE := Lib.hid (Below.chg (HBB.out _) (Chg.of_below hb5) (HBB.out _).size (.inr rfl))
      clear hb5
      go_wp2_with fail
      go_ret
      exact ⟨rfl, HE.out⟩
    have hrx : decide (r < 0) = false := by simpa using hr0
    have hry : decide (12 ≤ r) = false := by simpa using hr1
    have hrz : decide (t < 0) = false := by simpa using ht0
    have hrq : decide (64 ≤ t) = false := by simpa using ht1
    have hc3 : (c == 3) = false := by
      have hk : wOk xss r t := ⟨hm0, ⟨by omega, by omega⟩, by omega, by omega⟩
      have h3 := walkF_ok hk
      rw [← HPF.out] at h3
      simpa using h3
    go_wp2_with fail
    refine (HVB.out _).mono ?_
    rintro e w5 ⟨rfl, hb5⟩
    have HE := Lib.hid (Below.chg (HBB.out _) (Chg.of_below hb5) (HBB.out _).size (.inr rfl))
    clear hb5
    go_wp2_with fail
    go_ret
    exact ⟨rfl, HE.out⟩
  · have HVB : Hid (∀ ob, Calls Try.prog 17 #[v] (w4.alloc ob) fun e w' => e = .returned (.bool false) ∧ Below (w4.alloc ob).heap.size (w4.alloc ob) w') := Lib.hid (fun ob => by
      have h0 : memOk xss = false := by simpa using hm0
      rw [← h0]; exact HVB0.out ob)
    clear HVB0
    have hc3 : c = 3 := by have := HPF.out.trans (walkF_no (xss := xss) (r := r) (a := t) (fun h => hm0 h.1)); injection this
    subst hc3
    clear HPF
    go_wp2_with fail
    refine (HVB.out _).mono ?_
    rintro e w5 ⟨rfl, hb5⟩
    have HE := Lib.hid (Below.chg (HBB.out _) (Chg.of_below hb5) (HBB.out _).size (.inr rfl))
    clear hb5
    go_wp2_with fail
    go_ret
    exact ⟨rfl, HE.out⟩
end Go.Proofs.Ytdockkmodjbfpaa
