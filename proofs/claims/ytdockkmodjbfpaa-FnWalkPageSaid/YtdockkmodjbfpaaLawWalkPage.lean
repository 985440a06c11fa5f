/- The walk of the statement that a page is in one frame, out of a contract of the program. -/
import Derived.Test.YtdockkmodjbfpaaWLaw
namespace Go.Proofs.Ytdockkmodjbfpaa
open Go.ChangeShapes Go.WideShapes Go.ChangeAt Go.RowKit
set_option linter.unusedVariables false

set_option maxHeartbeats 1000000 in
theorem walkPage_walk (hW : ∀ (w : World) (v : Value) (xss : List (List Int)) (r a : Int), Rows2 w v xss → Calls Try.prog 13 #[v, .int .i64 r, .int .i64 a] w (WalkRes w (walkF xss r a))) (W : World) (a : Option Addr) (len cap : Nat) (zs : List Int) (hr : Row .u8 W a len cap zs) :
    Calls Try.prog 6 #[.slice a len cap] W fun e w' => e = .returned (.bool true) ∧ Below W.heap.size W w' := by
  have HhW := Lib.hid hW
  clear hW
  have hm := row_len hr
  by_cases hL : 1048576 < len
  · have hL1 : (1048576 : Int) < (len : Int) := by omega
    clear hr
    go_enter Try.func6, Try.ntmps6
    go_wp2_with fail
    go_ret
    exact ⟨rfl, Below.refl _ _⟩
  have hL1 : decide ((1048576 : Int) < (len : Int)) = false := by simp; omega
  have hL2 : decide (1048576 < len) = false := by simp; omega
  go_enter Try.func6, Try.ntmps6
  go_wp2_with fail
  refine (drawWalk_any W a len cap zs hr).mono ?_
  clear hr
  rintro e w1 ⟨v, xss, r, t, hP, rfl, hR1, hS, hb1⟩
  have R1 := Lib.hid hR1
  have B1 := Lib.hid hb1
  have Z1 : W.heap.size ≤ w1.heap.size := hb1.size
  have HI := Lib.hid (HhW.out w1 v xss r t hR1)
  clear hR1 hb1
  obtain ⟨pf, hpf⟩ : ∃ pf, pf = walkF xss r t := ⟨_, rfl⟩
  rw [← hpf] at HI
  have HPF := Lib.hid hpf
  clear hpf
  obtain ⟨f, q, bb, c⟩ := pf
  go_wp2_with fail
  refine HI.out.mono ?_
  rintro e w2 ⟨rfl, hb2⟩
  unfold plV
  have B2 := Lib.hid (Below.chg B1.out (Chg.of_below hb2) Z1 (.inr rfl))
  have Z2 : W.heap.size ≤ w2.heap.size := Nat.le_trans Z1 hb2.size
  have R2 := Lib.hid (R1.out.below hb2)
  clear hb2 B1 HI R1
  obtain ⟨wA, hwA⟩ : ∃ wA, wA = w2.alloc (.cells #[.int .i64 f, .int .i64 q, .bool bb] 27) := ⟨_, rfl⟩
  have HPA : Hid (wA.heap[w2.heap.size]? = some (.cells #[.int .i64 f, .int .i64 q, .bool bb] 27 (0, 0))) := Lib.hid (by rw [hwA]; exact heap_alloc_new w2 _)
  have BA : Hid (Below W.heap.size W wA) := Lib.hid (by rw [hwA]; exact B2.out.alloc Z2 _)
  have ZA : w2.heap.size < wA.heap.size := by rw [hwA]; simp
  have RA : Hid (Rows2 wA v xss) := Lib.hid (by rw [hwA]; exact R2.out.below ((Below.refl _ _).alloc (Nat.le_refl _) _))
  have HSP := Lib.hid (swalk_any wA v xss r t RA.out)
  rw [← HPF.out] at HSP
  clear B2 R2
  go_wp2_with fail
  rw [← hwA]
  clear hwA
  refine HSP.out.mono ?_
  rintro e w4 ⟨rfl, hb4⟩
  unfold plV
  have Z4 := hb4.size
  have B4 := Lib.hid (Below.chg BA.out (Chg.of_below hb4) (by omega) (.inr rfl))
  have hp4 := (hb4.block w2.heap.size ZA).trans HPA.out
  have R4 := Lib.hid (RA.out.below hb4)
  clear hb4 BA HPA HSP RA
  have hA : ∀ k u, (#[.int .i64 f, .int .i64 q, .bool bb] : Array Value)[k]? = some u → ∀ ob, (w4.alloc ob).cell? ⟨w2.heap.size, k, none⟩ = some u := fun k u hu ob => by
    rw [World.cell?_alloc_lt w4 ob ⟨w2.heap.size, k, none⟩ (by show w2.heap.size < w4.heap.size; omega), cell_of_row w4 w2.heap.size k _ _ _ hp4, hu]
  have hA0 := hA 0 _ rfl
  have hA1 := hA 1 _ rfl
  have hA2 := hA 2 _ rfl
  have HBB : Hid (∀ ob, Below W.heap.size W (w4.alloc ob)) := Lib.hid (fun ob => B4.out.alloc (by omega) ob)
  have HRB : Hid (∀ ob, Rows2 (w4.alloc ob) v xss) := Lib.hid (fun ob => R4.out.below ((Below.refl _ _).alloc (Nat.le_refl _) ob))
  have HR4 := Lib.hid R4.out
  have HP4 := Lib.hid hp4
  clear hA hp4 B4 R4
  by_cases hc0 : c = 0
  · subst hc0
    have HPG : Hid (∀ k : Nat, k < 4 → walkF xss r (t - t % 4 + k) = ⟨f, k, bb, 0⟩) := Lib.hid (fun k hk => by
      have h := walkF_page (xss := xss) (r := r) (t := t) (by rw [← HPF.out]) (i := (k : Int)) (by omega) (by omega)
      rw [← HPF.out] at h
      exact h)
    have htb : 0 ≤ t ∧ t < 64 := (walkF_done (xss := xss) (r := r) (a := t) (by rw [← HPF.out])).1.2.2
    obtain ⟨ht0, ht1⟩ := htb
    obtain ⟨PA, hPA⟩ : ∃ PA, PA = w2.heap.size := ⟨_, rfl⟩
    have HST : Hid (∀ ob, (w4.alloc ob).heap[PA]? = some (.cells #[.int .i64 f, .int .i64 q, .bool bb] 27 (0, 0))) := Lib.hid (fun ob => by
      rw [hPA]
      exact (Below.heap_alloc w4 ob _ (by omega)).trans HP4.out)
    have hmod0 : 0 ≤ t % 4 := by omega
    clear HPF hP hS
    go_wp2_with fail
    rw [← hPA]
    have HSZ : Hid (PA < w4.heap.size) := Lib.hid (by omega)
    clear hPA hA0 hA1 hA2
    go_loopw [10] (fun u wr => ∃ k : Nat, k ≤ 4 ∧ u = .int .i64 k ∧ Rows2 wr v xss ∧ Below W.heap.size W wr ∧ wr.heap[PA]? = some (.cells #[.int .i64 f, .int .i64 q, .bool bb] 27 (0, 0))) (fun u _ => 4 - (intOf u).toNat)
    case atStart => exact ⟨0, by omega, rfl, HRB.out _, HBB.out _, HST.out _⟩
    case round =>
      obtain ⟨k, hk, rfl, hrr, hbr, hpr⟩ := hrel
      by_cases hlt : k < 4
      · have hlt' : (k : Int) < 4 := by omega
        have HI2 := Lib.hid (HhW.out wr v xss r (t - t % 4 + k) hrr)
        rw [HPG.out k hlt] at HI2
        have HRR := Lib.hid hrr
        have HBR := Lib.hid hbr
        have HPR := Lib.hid hpr
        have hsub : IntKind.i64.wrap (t - t % 4) = t - t % 4 := by rw [IntKind.wrap_i64]; omega
        clear hrr hbr hpr
        go_wp2_with fail
        refine HI2.out.mono ?_
        rintro e w7 ⟨rfl, hb7⟩
        unfold plV
        have Z7 := hb7.size
        have hPlt : PA < wr.heap.size := (Array.getElem?_eq_some_iff.1 HPR.out).1
        have hp7 := (hb7.block PA hPlt).trans HPR.out
        have hP0 : ∀ ob, (w7.alloc ob).cell? ⟨PA, 0, none⟩ = some (.int .i64 f) := fun ob => by
          rw [World.cell?_alloc_lt w7 ob ⟨PA, 0, none⟩ (by show PA < w7.heap.size; omega), cell_of_row w7 PA 0 _ _ _ hp7]; rfl
        have hP2 : ∀ ob, (w7.alloc ob).cell? ⟨PA, 2, none⟩ = some (.bool bb) := fun ob => by
          rw [World.cell?_alloc_lt w7 ob ⟨PA, 2, none⟩ (by show PA < w7.heap.size; omega), cell_of_row w7 PA 2 _ _ _ hp7]; rfl
        have HR7 : Hid (∀ ob, Rows2 (w7.alloc ob) v xss) := Lib.hid (fun ob => (HRR.out.below hb7).below ((Below.refl _ _).alloc (Nat.le_refl _) ob))
        have HB7 : Hid (∀ ob, Below W.heap.size W (w7.alloc ob)) := Lib.hid (fun ob => (Below.chg HBR.out (Chg.of_below hb7) HBR.out.size (.inr rfl)).alloc (by have := HBR.out.size; omega) ob)
        have HP7 : Hid (∀ ob, (w7.alloc ob).heap[PA]? = some (.cells #[.int .i64 f, .int .i64 q, .bool bb] 27 (0, 0))) := Lib.hid (fun ob => (Below.heap_alloc w7 ob _ (by omega)).trans hp7)
        clear hb7 hp7 HI2
        go_wp2_with fail
        go_roundw
        case rel => exact ⟨k + 1, by omega, by go_num, HR7.out _, HB7.out _, HP7.out _⟩
        case measure => simp [intOf]; omega
      · have HBR := Lib.hid hbr
        clear hrr hbr hpr
        have hge : decide ((k : Int) < 4) = false := by simp; omega
        go_wp2_with fail
        go_ret
        exact ⟨rfl, HBR.out⟩
  · have hcn : (c != 0) = true := by simpa using hc0
    clear hc0
    go_wp2_with fail
    go_ret
    exact ⟨rfl, HBB.out _⟩
end Go.Proofs.Ytdockkmodjbfpaa
