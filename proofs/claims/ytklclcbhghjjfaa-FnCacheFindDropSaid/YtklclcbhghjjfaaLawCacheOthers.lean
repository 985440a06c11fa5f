/- The walk of the statement that others are kept while there is room, out of contracts of the program. -/
import Derived.Test.YtklclcbhghjjfaaLawCachePut
import Derived.Deep.RegionHeld
import Derived.ArgAppend
namespace Go.Proofs.Ytklclcbhghjjfaa
open Go.ChangeShapes Go.WideShapes Go.ChangeAt Go.RowKit
set_option linter.unusedVariables false

theorem put_form {xs : List CV} {x : CV} (h : putB xs x = true) : putF xs x = cut4 (oth xs x) ++ [x] ∧ xs.length ≤ 4 := by
  refine ⟨by unfold putF; rw [h]; rfl, ?_⟩
  unfold putB at h
  simp only [Bool.and_eq_true] at h
  exact cOk_len h.1
/-- a new slice with its spare cells -/
structure RowC (w0 w : World) (g rc : Nat) (L : List CV) : Prop where
  lo : w0.heap.size ≤ g
  th : w.there g 0 (rc * 4)
  fours : ∀ i, i < L.length → FourW w g (i * 4) (L.getD i c0)
  olds : ∀ j u, (csC L)[j]? = some u → w.cell? ⟨g, j, none⟩ = some u
  bel : Below w0.heap.size w0 w
  hi : g < w.heap.size
theorem OwnC.rowC {w0 w : World} {g n rc : Nat} {L : List CV} (h : OwnC w0 (.slice (some ⟨g, 0, none⟩) n rc) L w) : RowC w0 w g rc L := by
  obtain ⟨_, _, _, _, _, _⟩ := h.form
  have hW := CsW.of_own h
  rcases h.own.2 with ⟨e, _⟩ | ⟨g', cap, cur, e, hb, hbl, hnc, hcm, hcs, htk⟩
  · exact absurd e h.nn
  · obtain ⟨⟨rfl⟩, rfl, rfl⟩ : (g = g' ∧ True) ∧ n = L.length ∧ rc = cap := by
      injection e with e1 e2 e3
      injection e1 with e1
      injection e1 with e1
      exact ⟨⟨e1, trivial⟩, e2, e3⟩
    refine ⟨hb, there_row hbl (by omega), fun i hi => ?_, fun j u hj => ?_, h.bel, (Array.getElem?_eq_some_iff.1 hbl).1⟩
    · obtain ⟨a, c, ea, _, _, h3⟩ := hW
      obtain ⟨g2, p2, e2, _, _, hf⟩ := h3 i hi
      injection ea with ea1 _ _
      rw [e2] at ea1
      injection ea1 with ea1
      injection ea1 with ea1 ea2 _
      subst ea1
      subst ea2
      rw [Nat.zero_add] at hf
      exact hf
    · have := h.own.cells (g := g) rfl j u hj
      rwa [add0] at this
theorem RowC.alloc {w0 w : World} {g rc : Nat} {L : List CV} (h : RowC w0 w g rc L) (o : Obj) : RowC w0 (w.alloc o) g rc L := by
  have e : (w.alloc o).heap[g]? = w.heap[g]? := heap_alloc_old w o h.hi
  exact ⟨h.lo, there_blocks h.th e, fun i hi => (h.fours i hi).block e, fun j u hj => (World.cell?_of_block e).trans (h.olds j u hj), h.bel.alloc h.bel.size o, by have := h.hi; simp; omega⟩
theorem RowC.spare {w0 w : World} {g rc : Nat} {L : List CV} (h : RowC w0 w g rc L) (x : CV) (hr : 3 + 1 ≤ rc - 1) : ∀ j, j < (cvC x).length → (w.cell? ⟨g, 4 + 3 * 4 + j, none⟩).isSome = true ∧ w.frozen? ⟨g, 4 + 3 * 4 + j, none⟩ = false := fun j hj => by
  have hj' : j < 4 := hj
  have := h.th (4 + 3 * 4 + j) (by omega)
  rwa [Nat.zero_add] at this
theorem RowC.news {w0 w : World} {g rc : Nat} {L : List CV} (h : RowC w0 w g rc L) (h4 : L.length = 4) : ∀ j u, (csC (L.drop 1))[j]? = some u → w.cell? ⟨g, 4 + j, none⟩ = some u := fun j u hj => by
  rw [csC_drop1, List.getElem?_drop] at hj
  exact h.olds (4 + j) u hj
theorem drop_get {L : List CV} {x : CV} (h4 : L.length = 4) (i : Nat) (hi : i < 3) : (L.drop 1 ++ [x]).getD i c0 = L.getD (i + 1) c0 := by
  rw [List.getD_eq_getElem?_getD, List.getElem?_append_left (by simp; omega), List.getElem?_drop, List.getD_eq_getElem?_getD, Nat.add_comm]
theorem drop_last {L : List CV} {x : CV} (h4 : L.length = 4) : (L.drop 1 ++ [x]).getD 3 c0 = x := by
  rw [List.getD_eq_getElem?_getD, List.getElem?_append_right (by simp; omega)]
  simp [h4]
theorem RowC.room {w0 w : World} {g rc : Nat} {L : List CV} (h : RowC w0 w g rc L) (h4 : L.length = 4) (hm : rc ≤ maxLen) (x : CV) (hr : 3 + 1 ≤ rc - 1) :
    Cs (w.setCells g 16 (cvC x)) (.slice (some ⟨g, 4, none⟩) 4 (rc - 1)) (L.drop 1 ++ [x]) ∧ Below w0.heap.size w0 (w.setCells g 16 (cvC x)) := by
  refine ⟨⟨some ⟨g, 4, none⟩, rc - 1, by simp [h4], by simp [h4]; omega, by omega, fun i hi => ⟨g, 4, rfl, ?_⟩⟩, Below.setCells h.bel g h.lo _ _ _ h.bel⟩
  have hi' : i < 4 := by simp [h4] at hi; omega
  by_cases h3 : i = 3
  · subst h3
    rw [drop_last h4]
    exact (FourW.stored (there_part h.th (by omega))).at4
  · rw [drop_get h4 i (by omega)]
    have := h.fours (i + 1) (by omega)
    rw [show 4 + i * 4 = (i + 1) * 4 by omega]
    exact (this.apart (.inl (by omega))).at4
theorem RowC.grew {w0 w w' : World} {g rc : Nat} {L : List CV} (h : RowC w0 w g rc L) (h4 : L.length = 4) (x : CV) {v : Value}
    (ho : w'.ownsRow w.heap.size 25 4 v (3 + 1) (csC (L.drop 1) ++ cvC x)) (hg : w.grownBy w' none) : Cs w' v (L.drop 1 ++ [x]) ∧ Below w0.heap.size w0 w' := by
  refine ⟨cs_of_own (B := w.heap.size) ?_, h.bel.grown hg h.bel.size (fun b hb => by cases hb)⟩
  rw [show csC (L.drop 1 ++ [x]) = csC (L.drop 1) ++ cvC x from csC_snoc _ _, show (L.drop 1 ++ [x]).length = 3 + 1 by simp [h4]]
  exact ho
set_option maxRecDepth 100000 in
set_option maxHeartbeats 2000000 in
theorem cacheOthers_walk (hP : CPut) (W : World) (a : Option Addr) (len cap : Nat) (zs : List Int) (hr : Row .u8 W a len cap zs) :
    Calls Try.prog 4 #[.slice a len cap] W fun e w' => e = .returned (.bool true) ∧ Below W.heap.size W w' := by
  have HP := Lib.hid hP
  obtain ⟨i0, hi, hz0, hz1, hz2⟩ := info_parts cvInfo
  have HI := Lib.hid hi
  have HZ0 := Lib.hid hz0
  have HZ1 := Lib.hid hz1
  have HZ2 := Lib.hid hz2
  clear hi hz0 hz1 hz2
  clear hP
  have hm := row_len hr
  by_cases hL : 1048576 < len
  · have hL1 : (1048576 : Int) < (len : Int) := by omega
    clear hr
    go_enter Try.func4, Try.ntmps4
    go_wp2_with fail
    go_ret
    exact ⟨rfl, Below.refl _ _⟩
  have hL1 : decide ((1048576 : Int) < (len : Int)) = false := by simp; omega
  have hL2 : decide (1048576 < len) = false := by simp; omega
  go_enter Try.func4, Try.ntmps4
  go_wp2_with fail
  refine (drawCachePut_any W a len cap zs hr).mono ?_
  clear hr
  rintro e w1 ⟨v, xs, x, hx, rfl, hD⟩
  have B1 := Lib.hid hD.bel
  have Z1 : W.heap.size ≤ w1.heap.size := hD.bel.size
  have R1 := Lib.hid hD.cs
  clear hD
  obtain ⟨xe, xp, xf, xb⟩ := x
  unfold cvV
  have HFX := Lib.hid (four_alloc w1 ⟨xe, xp, xf, xb⟩ 25)
  have RA := Lib.hid (R1.out.below ((Below.refl _ _).alloc (Nat.le_refl _) (.cells #[.int .i64 xe, .int .i64 xp, .int .i64 xf, .bool xb] 25)))
  have BA := Lib.hid (B1.out.alloc Z1 (.cells #[.int .i64 xe, .int .i64 xp, .int .i64 xf, .bool xb] 25))
  have ZA : w1.heap.size < (w1.alloc (.cells #[.int .i64 xe, .int .i64 xp, .int .i64 xf, .bool xb] 25)).heap.size := by simp
  go_wp2_with fail
  obtain ⟨X, hX⟩ : ∃ X, w1.heap.size = X := ⟨_, rfl⟩
  obtain ⟨wA, hA⟩ : ∃ wA, w1.alloc (.cells #[.int .i64 xe, .int .i64 xp, .int .i64 xf, .bool xb] 25) = wA := ⟨_, rfl⟩
  simp only [hX, hA] at HFX RA BA ZA ⊢
  clear hA B1 R1
  have HC := Lib.hid (HP.out wA v xs ⟨xe, xp, xf, xb⟩ RA.out)
  have HSQ := Lib.hid (fun h : putB xs ⟨xe, xp, xf, xb⟩ = true => put_form h)
  obtain ⟨b, hb⟩ : ∃ b, b = putB xs ⟨xe, xp, xf, xb⟩ := ⟨_, rfl⟩
  obtain ⟨ys, hys⟩ : ∃ ys, ys = putF xs ⟨xe, xp, xf, xb⟩ := ⟨_, rfl⟩
  have HS := Lib.hid (fun w => fun h : Cs w v xs => cPut_any w v xs ⟨xe, xp, xf, xb⟩ h)
  rw [← hb, ← hys] at HC HS HSQ
  clear hb hys
  refine HC.out.mono ?_
  rintro e w2 ⟨v2, rfl, h2, hb2⟩
  have R2 := Lib.hid (RA.out.below hb2)
  have B2 := Lib.hid (BA.out.trans (hb2.mono BA.out.size))
  have F2 := Lib.hid (HFX.out.below hb2 ZA)
  have O2 := Lib.hid h2.cs
  have Z2 := Nat.lt_of_lt_of_le ZA hb2.size
  clear h2 hb2 HC RA BA HFX
  obtain ⟨q0, q1, q2, q3⟩ := F2.out
  simp only [Nat.zero_add] at q0 q1 q2 q3
  go_wp2_with fail
  refine (HS.out w2 R2.out).mono ?_
  rintro e w3 ⟨v3, rfl, h3⟩
  have O3 := Lib.hid h3.cs
  have B3 := Lib.hid (B2.out.trans (h3.bel.mono B2.out.size))
  have F3 := Lib.hid (F2.out.below h3.bel Z2)
  have P3 := Lib.hid (O2.out.below h3.bel)
  have Z3 := Nat.lt_of_lt_of_le Z2 h3.bel.size
  have R3 := Lib.hid (R2.out.below h3.bel)
  clear h3 R2 B2 F2 O2 HS q0 q1 q2 q3
  have HSA := Lib.hid (fun w => fun h : Below w3.heap.size w3 w => sameCache_any w v2 v3 ys ys (P3.out.below h) (O3.out.below h))
  rw [decide_eq_true (rfl : ys = ys)] at HSA
  cases b
  · go_wp2_with fail
    refine (HSA.out w3 (Below.refl _ _)).mono ?_
    rintro e w4 ⟨rfl, hb4⟩
    have B4 := Lib.hid (B3.out.trans (hb4.mono B3.out.size))
    have HS4 := Lib.hid (HSA.out w4 hb4)
    clear hb4
    go_wp2_with fail
    refine HS4.out.mono ?_
    rintro e w5 ⟨rfl, hb5⟩
    have B5 := Lib.hid (B4.out.trans (hb5.mono B4.out.size))
    clear hb5 HS4
    go_wp2_with fail
    go_ret
    exact ⟨rfl, B5.out⟩
  · obtain ⟨HFM, HL4⟩ := HSQ.out rfl
    have HFORM := Lib.hid HFM
    clear HFM HSQ
    go_wp2_with fail
    refine (HSA.out w3 (Below.refl _ _)).mono ?_
    rintro e w4 ⟨rfl, hb4⟩
    have B4 := Lib.hid (B3.out.trans (hb4.mono B3.out.size))
    have F4 := Lib.hid (F3.out.below hb4 Z3)
    have P4 := Lib.hid (P3.out.below hb4)
    have R4 := Lib.hid (R3.out.below hb4)
    have Z4 := Nat.lt_of_lt_of_le Z3 hb4.size
    clear hb4 B3 F3 P3 O3 R3 HSA
    obtain ⟨oa, oc, rfl, hc1, hc2, hc3⟩ := R4.out
    unfold maxLen at hc2
    have H3 := Lib.hid hc3
    obtain ⟨m, hm'⟩ : ∃ m, m = xs.length := ⟨_, rfl⟩
    have HM := Lib.hid hm'
    rw [← hm'] at hc1 HL4 ⊢
    clear hc3 hm' R4
    obtain ⟨x, hxx⟩ : ∃ x : CV, x = ⟨xe, xp, xf, xb⟩ := ⟨_, rfl⟩
    rw [← hxx] at HFORM F4
    have HXX := Lib.hid hxx
    clear hxx
    go_wp2_with fail
    go_loopw [9, 10] (fun u i wr => ∃ k : Nat, k ≤ m ∧ i = .int .i64 k ∧ OwnC w4 u (oth (xs.take k) x) wr) (fun _ i _ => m - (intOf i).toNat)
    case atStart => exact ⟨0, Nat.zero_le _, rfl, OwnC.start w4⟩
    case round =>
      obtain ⟨k, hk, rfl, hrel⟩ := hrel
      by_cases hlt : k < m
      · obtain ⟨g, o, rfl, hf0⟩ := H3.out k (by have := HM.out; omega)
        have hgl := block_lt_of_cell hf0.c0
        have hsn := oth_snoc xs x k (by have := HM.out; omega)
        obtain ⟨y, hy⟩ : ∃ y, y = xs.getD k c0 := ⟨_, rfl⟩
        rw [← hy] at hf0 hsn
        have FA : Hid (Four wr.drew g (o + k * 4) y) := Lib.hid ((hf0.below hrel.bel hgl).drew)
        have FB : Hid (Four wr.drew X 0 x) := Lib.hid ((F4.out.below hrel.bel Z4).drew)
        have HNL : Hid ((oth (xs.take k) x).length ≤ k) := Lib.hid (by
          have := oth_len (xs.take k) x
          rw [List.length_take] at this
          omega)
        have HSN := Lib.hid hsn
        have HREL := Lib.hid (hrel.drew)
        clear hsn hrel hy hf0
        by_cases he : y.e = x.e
        · by_cases hp : y.p = x.p
          · rw [if_pos (same_iff.2 ⟨he, hp⟩), List.append_nil] at HSN
            have HR2 : Hid (OwnC w4 u9 (oth (xs.take (k + 1)) x) wr.drew) := Lib.hid (by rw [HSN.out]; exact HREL.out)
            have e1 : (y.e != x.e) = false := by simpa using he
            have e2 : (y.p != x.p) = false := by simpa using hp
            clear he hp
            go_wp2_with fail
            refine wp_region_held_drew (S := fun w' => Four w' g (o + k * 4) y ∧ Four w' X 0 x) (by kernel_rfl) ⟨FA.out, FB.out⟩ (fun hHeld => ?_)
            refine wpAnyH_take (i := 0) (oi := { dst := some 59, op := .move (.tmp 3), type := _, pos := _, after := _, guard := none }) (v := .slice (some ⟨g, o, none⟩) m oc) rfl (by kernel_rfl) (by kernel_rfl) (by kernel_rfl) (fun _ _ _ h => h) (Or.inl ⟨by rfl, fun wh hSw => ?_⟩) hHeld ?_
            · (obtain ⟨⟨s0, s1, s2, s3⟩, t0, t1, t2, t3⟩ := hSw; simp only [Nat.zero_add] at t0 t1 t2 t3; go_simp)
            try simp only [Act.put, List.setIfInBounds_toArray, List.set_cons_zero, List.set_cons_succ]
            refine wpAnyH_take (i := 1) (oi := { dst := some 60, op := .move (.tmp 10), type := _, pos := _, after := _, guard := none }) (v := .int .i64 (k : Int)) rfl (by kernel_rfl) (by kernel_rfl) (by kernel_rfl) (fun _ _ _ h => h) (Or.inl ⟨by rfl, fun wh hSw => ?_⟩) hHeld ?_
            · (obtain ⟨⟨s0, s1, s2, s3⟩, t0, t1, t2, t3⟩ := hSw; simp only [Nat.zero_add] at t0 t1 t2 t3; go_simp)
            try simp only [Act.put, List.setIfInBounds_toArray, List.set_cons_zero, List.set_cons_succ]
            refine wpAnyH_take (i := 2) (oi := { dst := some 61, op := .indexAddr 23 (.tmp 59) (.tmp 60), type := _, pos := _, after := _, guard := none }) (v := .pointer (some ⟨g, o + k * 4, none⟩)) rfl (by kernel_rfl) (by kernel_rfl) (by kernel_rfl) (fun _ _ _ h => h) (Or.inl ⟨by rfl, fun wh hSw => ?_⟩) hHeld ?_
            · (obtain ⟨⟨s0, s1, s2, s3⟩, t0, t1, t2, t3⟩ := hSw; simp only [Nat.zero_add] at t0 t1 t2 t3; go_simp)
            try simp only [Act.put, List.setIfInBounds_toArray, List.set_cons_zero, List.set_cons_succ]
            refine wpAnyH_take (i := 3) (oi := { dst := some 62, op := .fieldAddr 25 (.tmp 61) 0, type := _, pos := _, after := _, guard := none }) (v := .pointer (some ⟨g, o + k * 4, none⟩)) rfl (by kernel_rfl) (by kernel_rfl) (by kernel_rfl) (fun _ _ _ h => h) (Or.inl ⟨by rfl, fun wh hSw => ?_⟩) hHeld ?_
            · (obtain ⟨⟨s0, s1, s2, s3⟩, t0, t1, t2, t3⟩ := hSw; simp only [Nat.zero_add] at t0 t1 t2 t3; go_simp)
            try simp only [Act.put, List.setIfInBounds_toArray, List.set_cons_zero, List.set_cons_succ]
            refine wpAnyH_take (i := 4) (oi := { dst := some 63, op := .load 3 (.tmp 62), type := _, pos := _, after := _, guard := none }) (v := .int .i64 y.e) rfl (by kernel_rfl) (by kernel_rfl) (by kernel_rfl) (fun _ _ _ h => h) (Or.inl ⟨by rfl, fun wh hSw => ?_⟩) hHeld ?_
            · (obtain ⟨⟨s0, s1, s2, s3⟩, t0, t1, t2, t3⟩ := hSw; simp only [Nat.zero_add] at t0 t1 t2 t3; go_simp)
            try simp only [Act.put, List.setIfInBounds_toArray, List.set_cons_zero, List.set_cons_succ]
            refine wpAnyH_take (i := 5) (oi := { dst := some 64, op := .fieldAddr 25 (.tmp 4) 0, type := _, pos := _, after := _, guard := none }) (v := .pointer (some ⟨X, 0, none⟩)) rfl (by kernel_rfl) (by kernel_rfl) (by kernel_rfl) (fun _ _ _ h => h) (Or.inl ⟨by rfl, fun wh hSw => ?_⟩) hHeld ?_
            · (obtain ⟨⟨s0, s1, s2, s3⟩, t0, t1, t2, t3⟩ := hSw; simp only [Nat.zero_add] at t0 t1 t2 t3; go_simp)
            try simp only [Act.put, List.setIfInBounds_toArray, List.set_cons_zero, List.set_cons_succ]
            refine wpAnyH_take (i := 6) (oi := { dst := some 65, op := .load 3 (.tmp 64), type := _, pos := _, after := _, guard := none }) (v := .int .i64 x.e) rfl (by kernel_rfl) (by kernel_rfl) (by kernel_rfl) (fun _ _ _ h => h) (Or.inl ⟨by rfl, fun wh hSw => ?_⟩) hHeld ?_
            · (obtain ⟨⟨s0, s1, s2, s3⟩, t0, t1, t2, t3⟩ := hSw; simp only [Nat.zero_add] at t0 t1 t2 t3; go_simp)
            try simp only [Act.put, List.setIfInBounds_toArray, List.set_cons_zero, List.set_cons_succ]
            refine wpAnyH_take (i := 7) (oi := { dst := some 66, op := .binOp .neq 3 (.tmp 63) (.tmp 65) 3, type := _, pos := _, after := _, guard := none }) (v := .bool false) rfl (by kernel_rfl) (by kernel_rfl) (by kernel_rfl) (fun _ _ _ h => h) (Or.inl ⟨by rfl, fun wh hSw => ?_⟩) hHeld ?_
            · (obtain ⟨⟨s0, s1, s2, s3⟩, t0, t1, t2, t3⟩ := hSw; simp only [Nat.zero_add] at t0 t1 t2 t3; go_simp)
            try simp only [Act.put, List.setIfInBounds_toArray, List.set_cons_zero, List.set_cons_succ]
            refine wpAnyH_take (i := 8) (oi := { dst := some 67, op := .move (.tmp 66), type := _, pos := _, after := _, guard := none }) (v := .bool false) rfl (by kernel_rfl) (by kernel_rfl) (by kernel_rfl) (fun _ _ _ h => h) (Or.inl ⟨by rfl, fun wh hSw => ?_⟩) hHeld ?_
            · (obtain ⟨⟨s0, s1, s2, s3⟩, t0, t1, t2, t3⟩ := hSw; simp only [Nat.zero_add] at t0 t1 t2 t3; go_simp)
            try simp only [Act.put, List.setIfInBounds_toArray, List.set_cons_zero, List.set_cons_succ]
            refine wpAnyH_take (i := 9) (oi := { dst := some 68, op := .move (.tmp 3), type := _, pos := _, after := _, guard := some (8, false) }) (v := .slice (some ⟨g, o, none⟩) m oc) rfl (by kernel_rfl) (by kernel_rfl) (by kernel_rfl) (fun _ _ _ h => h) (Or.inl ⟨by rfl, fun wh hSw => ?_⟩) hHeld ?_
            · (obtain ⟨⟨s0, s1, s2, s3⟩, t0, t1, t2, t3⟩ := hSw; simp only [Nat.zero_add] at t0 t1 t2 t3; go_simp)
            try simp only [Act.put, List.setIfInBounds_toArray, List.set_cons_zero, List.set_cons_succ]
            refine wpAnyH_take (i := 10) (oi := { dst := some 69, op := .move (.tmp 10), type := _, pos := _, after := _, guard := some (8, false) }) (v := .int .i64 (k : Int)) rfl (by kernel_rfl) (by kernel_rfl) (by kernel_rfl) (fun _ _ _ h => h) (Or.inl ⟨by rfl, fun wh hSw => ?_⟩) hHeld ?_
            · (obtain ⟨⟨s0, s1, s2, s3⟩, t0, t1, t2, t3⟩ := hSw; simp only [Nat.zero_add] at t0 t1 t2 t3; go_simp)
            try simp only [Act.put, List.setIfInBounds_toArray, List.set_cons_zero, List.set_cons_succ]
            refine wpAnyH_take (i := 11) (oi := { dst := some 70, op := .indexAddr 23 (.tmp 68) (.tmp 69), type := _, pos := _, after := _, guard := some (8, false) }) (v := .pointer (some ⟨g, o + k * 4, none⟩)) rfl (by kernel_rfl) (by kernel_rfl) (by kernel_rfl) (fun _ _ _ h => h) (Or.inl ⟨by rfl, fun wh hSw => ?_⟩) hHeld ?_
            · (obtain ⟨⟨s0, s1, s2, s3⟩, t0, t1, t2, t3⟩ := hSw; simp only [Nat.zero_add] at t0 t1 t2 t3; go_simp)
            try simp only [Act.put, List.setIfInBounds_toArray, List.set_cons_zero, List.set_cons_succ]
            refine wpAnyH_take (i := 12) (oi := { dst := some 71, op := .fieldAddr 25 (.tmp 70) 1, type := _, pos := _, after := _, guard := some (8, false) }) (v := .pointer (some ⟨g, o + k * 4 + 1, none⟩)) rfl (by kernel_rfl) (by kernel_rfl) (by kernel_rfl) (fun _ _ _ h => h) (Or.inl ⟨by rfl, fun wh hSw => ?_⟩) hHeld ?_
            · (obtain ⟨⟨s0, s1, s2, s3⟩, t0, t1, t2, t3⟩ := hSw; simp only [Nat.zero_add] at t0 t1 t2 t3; go_simp)
            try simp only [Act.put, List.setIfInBounds_toArray, List.set_cons_zero, List.set_cons_succ]
            refine wpAnyH_take (i := 13) (oi := { dst := some 72, op := .load 3 (.tmp 71), type := _, pos := _, after := _, guard := some (8, false) }) (v := .int .i64 y.p) rfl (by kernel_rfl) (by kernel_rfl) (by kernel_rfl) (fun _ _ _ h => h) (Or.inl ⟨by rfl, fun wh hSw => ?_⟩) hHeld ?_
            · (obtain ⟨⟨s0, s1, s2, s3⟩, t0, t1, t2, t3⟩ := hSw; simp only [Nat.zero_add] at t0 t1 t2 t3; go_simp)
            try simp only [Act.put, List.setIfInBounds_toArray, List.set_cons_zero, List.set_cons_succ]
            refine wpAnyH_take (i := 14) (oi := { dst := some 73, op := .fieldAddr 25 (.tmp 4) 1, type := _, pos := _, after := _, guard := some (8, false) }) (v := .pointer (some ⟨X, 1, none⟩)) rfl (by kernel_rfl) (by kernel_rfl) (by kernel_rfl) (fun _ _ _ h => h) (Or.inl ⟨by rfl, fun wh hSw => ?_⟩) hHeld ?_
            · (obtain ⟨⟨s0, s1, s2, s3⟩, t0, t1, t2, t3⟩ := hSw; simp only [Nat.zero_add] at t0 t1 t2 t3; go_simp)
            try simp only [Act.put, List.setIfInBounds_toArray, List.set_cons_zero, List.set_cons_succ]
            refine wpAnyH_take (i := 15) (oi := { dst := some 74, op := .load 3 (.tmp 73), type := _, pos := _, after := _, guard := some (8, false) }) (v := .int .i64 x.p) rfl (by kernel_rfl) (by kernel_rfl) (by kernel_rfl) (fun _ _ _ h => h) (Or.inl ⟨by rfl, fun wh hSw => ?_⟩) hHeld ?_
            · (obtain ⟨⟨s0, s1, s2, s3⟩, t0, t1, t2, t3⟩ := hSw; simp only [Nat.zero_add] at t0 t1 t2 t3; go_simp)
            try simp only [Act.put, List.setIfInBounds_toArray, List.set_cons_zero, List.set_cons_succ]
            refine wpAnyH_take (i := 16) (oi := { dst := some 75, op := .binOp .neq 3 (.tmp 72) (.tmp 74) 3, type := _, pos := _, after := _, guard := some (8, false) }) (v := .bool false) rfl (by kernel_rfl) (by kernel_rfl) (by kernel_rfl) (fun _ _ _ h => h) (Or.inl ⟨by rfl, fun wh hSw => ?_⟩) hHeld ?_
            · (obtain ⟨⟨s0, s1, s2, s3⟩, t0, t1, t2, t3⟩ := hSw; simp only [Nat.zero_add] at t0 t1 t2 t3; go_simp)
            try simp only [Act.put, List.setIfInBounds_toArray, List.set_cons_zero, List.set_cons_succ]
            refine wpAnyH_take (i := 17) (oi := { dst := some 76, op := .pick (.tmp 67) (.const (.bool true)) (.tmp 75), type := _, pos := _, after := _, guard := none }) (v := .bool false) rfl (by kernel_rfl) (by kernel_rfl) (by kernel_rfl) (fun _ _ _ h => h) (Or.inl ⟨by rfl, fun wh hSw => ?_⟩) hHeld ?_
            · (obtain ⟨⟨s0, s1, s2, s3⟩, t0, t1, t2, t3⟩ := hSw; simp only [Nat.zero_add] at t0 t1 t2 t3; go_simp)
            try simp only [Act.put, List.setIfInBounds_toArray, List.set_cons_zero, List.set_cons_succ]
            refine wpAnyH_done (by kernel_rfl) ?_ _
            go_wp2_with fail
            go_roundw
            case rel => exact ⟨k + 1, by omega, by go_num, HR2.out⟩
            case measure => simp [intOf]; omega
          · rw [if_neg (by rw [same_iff]; exact fun hh => hp hh.2)] at HSN
            have e1 : (y.e != x.e) = false := by simpa using he
            have e2 : (y.p != x.p) = true := by simpa using hp
            clear he hp
            go_wp2_with fail
            refine wp_region_held_drew (S := fun w' => Four w' g (o + k * 4) y ∧ Four w' X 0 x) (by kernel_rfl) ⟨FA.out, FB.out⟩ (fun hHeld => ?_)
            refine wpAnyH_take (i := 0) (oi := { dst := some 59, op := .move (.tmp 3), type := _, pos := _, after := _, guard := none }) (v := .slice (some ⟨g, o, none⟩) m oc) rfl (by kernel_rfl) (by kernel_rfl) (by kernel_rfl) (fun _ _ _ h => h) (Or.inl ⟨by rfl, fun wh hSw => ?_⟩) hHeld ?_
            · (obtain ⟨⟨s0, s1, s2, s3⟩, t0, t1, t2, t3⟩ := hSw; simp only [Nat.zero_add] at t0 t1 t2 t3; go_simp)
            try simp only [Act.put, List.setIfInBounds_toArray, List.set_cons_zero, List.set_cons_succ]
            refine wpAnyH_take (i := 1) (oi := { dst := some 60, op := .move (.tmp 10), type := _, pos := _, after := _, guard := none }) (v := .int .i64 (k : Int)) rfl (by kernel_rfl) (by kernel_rfl) (by kernel_rfl) (fun _ _ _ h => h) (Or.inl ⟨by rfl, fun wh hSw => ?_⟩) hHeld ?_
            · (obtain ⟨⟨s0, s1, s2, s3⟩, t0, t1, t2, t3⟩ := hSw; simp only [Nat.zero_add] at t0 t1 t2 t3; go_simp)
            try simp only [Act.put, List.setIfInBounds_toArray, List.set_cons_zero, List.set_cons_succ]
            refine wpAnyH_take (i := 2) (oi := { dst := some 61, op := .indexAddr 23 (.tmp 59) (.tmp 60), type := _, pos := _, after := _, guard := none }) (v := .pointer (some ⟨g, o + k * 4, none⟩)) rfl (by kernel_rfl) (by kernel_rfl) (by kernel_rfl) (fun _ _ _ h => h) (Or.inl ⟨by rfl, fun wh hSw => ?_⟩) hHeld ?_
            · (obtain ⟨⟨s0, s1, s2, s3⟩, t0, t1, t2, t3⟩ := hSw; simp only [Nat.zero_add] at t0 t1 t2 t3; go_simp)
            try simp only [Act.put, List.setIfInBounds_toArray, List.set_cons_zero, List.set_cons_succ]
            refine wpAnyH_take (i := 3) (oi := { dst := some 62, op := .fieldAddr 25 (.tmp 61) 0, type := _, pos := _, after := _, guard := none }) (v := .pointer (some ⟨g, o + k * 4, none⟩)) rfl (by kernel_rfl) (by kernel_rfl) (by kernel_rfl) (fun _ _ _ h => h) (Or.inl ⟨by rfl, fun wh hSw => ?_⟩) hHeld ?_
            · (obtain ⟨⟨s0, s1, s2, s3⟩, t0, t1, t2, t3⟩ := hSw; simp only [Nat.zero_add] at t0 t1 t2 t3; go_simp)
            try simp only [Act.put, List.setIfInBounds_toArray, List.set_cons_zero, List.set_cons_succ]
            refine wpAnyH_take (i := 4) (oi := { dst := some 63, op := .load 3 (.tmp 62), type := _, pos := _, after := _, guard := none }) (v := .int .i64 y.e) rfl (by kernel_rfl) (by kernel_rfl) (by kernel_rfl) (fun _ _ _ h => h) (Or.inl ⟨by rfl, fun wh hSw => ?_⟩) hHeld ?_
            · (obtain ⟨⟨s0, s1, s2, s3⟩, t0, t1, t2, t3⟩ := hSw; simp only [Nat.zero_add] at t0 t1 t2 t3; go_simp)
            try simp only [Act.put, List.setIfInBounds_toArray, List.set_cons_zero, List.set_cons_succ]
            refine wpAnyH_take (i := 5) (oi := { dst := some 64, op := .fieldAddr 25 (.tmp 4) 0, type := _, pos := _, after := _, guard := none }) (v := .pointer (some ⟨X, 0, none⟩)) rfl (by kernel_rfl) (by kernel_rfl) (by kernel_rfl) (fun _ _ _ h => h) (Or.inl ⟨by rfl, fun wh hSw => ?_⟩) hHeld ?_
            · (obtain ⟨⟨s0, s1, s2, s3⟩, t0, t1, t2, t3⟩ := hSw; simp only [Nat.zero_add] at t0 t1 t2 t3; go_simp)
            try simp only [Act.put, List.setIfInBounds_toArray, List.set_cons_zero, List.set_cons_succ]
            refine wpAnyH_take (i := 6) (oi := { dst := some 65, op := .load 3 (.tmp 64), type := _, pos := _, after := _, guard := none }) (v := .int .i64 x.e) rfl (by kernel_rfl) (by kernel_rfl) (by kernel_rfl) (fun _ _ _ h => h) (Or.inl ⟨by rfl, fun wh hSw => ?_⟩) hHeld ?_
            · (obtain ⟨⟨s0, s1, s2, s3⟩, t0, t1, t2, t3⟩ := hSw; simp only [Nat.zero_add] at t0 t1 t2 t3; go_simp)
            try simp only [Act.put, List.setIfInBounds_toArray, List.set_cons_zero, List.set_cons_succ]
            refine wpAnyH_take (i := 7) (oi := { dst := some 66, op := .binOp .neq 3 (.tmp 63) (.tmp 65) 3, type := _, pos := _, after := _, guard := none }) (v := .bool false) rfl (by kernel_rfl) (by kernel_rfl) (by kernel_rfl) (fun _ _ _ h => h) (Or.inl ⟨by rfl, fun wh hSw => ?_⟩) hHeld ?_
            · (obtain ⟨⟨s0, s1, s2, s3⟩, t0, t1, t2, t3⟩ := hSw; simp only [Nat.zero_add] at t0 t1 t2 t3; go_simp)
            try simp only [Act.put, List.setIfInBounds_toArray, List.set_cons_zero, List.set_cons_succ]
            refine wpAnyH_take (i := 8) (oi := { dst := some 67, op := .move (.tmp 66), type := _, pos := _, after := _, guard := none }) (v := .bool false) rfl (by kernel_rfl) (by kernel_rfl) (by kernel_rfl) (fun _ _ _ h => h) (Or.inl ⟨by rfl, fun wh hSw => ?_⟩) hHeld ?_
            · (obtain ⟨⟨s0, s1, s2, s3⟩, t0, t1, t2, t3⟩ := hSw; simp only [Nat.zero_add] at t0 t1 t2 t3; go_simp)
            try simp only [Act.put, List.setIfInBounds_toArray, List.set_cons_zero, List.set_cons_succ]
            refine wpAnyH_take (i := 9) (oi := { dst := some 68, op := .move (.tmp 3), type := _, pos := _, after := _, guard := some (8, false) }) (v := .slice (some ⟨g, o, none⟩) m oc) rfl (by kernel_rfl) (by kernel_rfl) (by kernel_rfl) (fun _ _ _ h => h) (Or.inl ⟨by rfl, fun wh hSw => ?_⟩) hHeld ?_
            · (obtain ⟨⟨s0, s1, s2, s3⟩, t0, t1, t2, t3⟩ := hSw; simp only [Nat.zero_add] at t0 t1 t2 t3; go_simp)
            try simp only [Act.put, List.setIfInBounds_toArray, List.set_cons_zero, List.set_cons_succ]
            refine wpAnyH_take (i := 10) (oi := { dst := some 69, op := .move (.tmp 10), type := _, pos := _, after := _, guard := some (8, false) }) (v := .int .i64 (k : Int)) rfl (by kernel_rfl) (by kernel_rfl) (by kernel_rfl) (fun _ _ _ h => h) (Or.inl ⟨by rfl, fun wh hSw => ?_⟩) hHeld ?_
            · (obtain ⟨⟨s0, s1, s2, s3⟩, t0, t1, t2, t3⟩ := hSw; simp only [Nat.zero_add] at t0 t1 t2 t3; go_simp)
            try simp only [Act.put, List.setIfInBounds_toArray, List.set_cons_zero, List.set_cons_succ]
            refine wpAnyH_take (i := 11) (oi := { dst := some 70, op := .indexAddr 23 (.tmp 68) (.tmp 69), type := _, pos := _, after := _, guard := some (8, false) }) (v := .pointer (some ⟨g, o + k * 4, none⟩)) rfl (by kernel_rfl) (by kernel_rfl) (by kernel_rfl) (fun _ _ _ h => h) (Or.inl ⟨by rfl, fun wh hSw => ?_⟩) hHeld ?_
            · (obtain ⟨⟨s0, s1, s2, s3⟩, t0, t1, t2, t3⟩ := hSw; simp only [Nat.zero_add] at t0 t1 t2 t3; go_simp)
            try simp only [Act.put, List.setIfInBounds_toArray, List.set_cons_zero, List.set_cons_succ]
            refine wpAnyH_take (i := 12) (oi := { dst := some 71, op := .fieldAddr 25 (.tmp 70) 1, type := _, pos := _, after := _, guard := some (8, false) }) (v := .pointer (some ⟨g, o + k * 4 + 1, none⟩)) rfl (by kernel_rfl) (by kernel_rfl) (by kernel_rfl) (fun _ _ _ h => h) (Or.inl ⟨by rfl, fun wh hSw => ?_⟩) hHeld ?_
            · (obtain ⟨⟨s0, s1, s2, s3⟩, t0, t1, t2, t3⟩ := hSw; simp only [Nat.zero_add] at t0 t1 t2 t3; go_simp)
            try simp only [Act.put, List.setIfInBounds_toArray, List.set_cons_zero, List.set_cons_succ]
            refine wpAnyH_take (i := 13) (oi := { dst := some 72, op := .load 3 (.tmp 71), type := _, pos := _, after := _, guard := some (8, false) }) (v := .int .i64 y.p) rfl (by kernel_rfl) (by kernel_rfl) (by kernel_rfl) (fun _ _ _ h => h) (Or.inl ⟨by rfl, fun wh hSw => ?_⟩) hHeld ?_
            · (obtain ⟨⟨s0, s1, s2, s3⟩, t0, t1, t2, t3⟩ := hSw; simp only [Nat.zero_add] at t0 t1 t2 t3; go_simp)
            try simp only [Act.put, List.setIfInBounds_toArray, List.set_cons_zero, List.set_cons_succ]
            refine wpAnyH_take (i := 14) (oi := { dst := some 73, op := .fieldAddr 25 (.tmp 4) 1, type := _, pos := _, after := _, guard := some (8, false) }) (v := .pointer (some ⟨X, 1, none⟩)) rfl (by kernel_rfl) (by kernel_rfl) (by kernel_rfl) (fun _ _ _ h => h) (Or.inl ⟨by rfl, fun wh hSw => ?_⟩) hHeld ?_
            · (obtain ⟨⟨s0, s1, s2, s3⟩, t0, t1, t2, t3⟩ := hSw; simp only [Nat.zero_add] at t0 t1 t2 t3; go_simp)
            try simp only [Act.put, List.setIfInBounds_toArray, List.set_cons_zero, List.set_cons_succ]
            refine wpAnyH_take (i := 15) (oi := { dst := some 74, op := .load 3 (.tmp 73), type := _, pos := _, after := _, guard := some (8, false) }) (v := .int .i64 x.p) rfl (by kernel_rfl) (by kernel_rfl) (by kernel_rfl) (fun _ _ _ h => h) (Or.inl ⟨by rfl, fun wh hSw => ?_⟩) hHeld ?_
            · (obtain ⟨⟨s0, s1, s2, s3⟩, t0, t1, t2, t3⟩ := hSw; simp only [Nat.zero_add] at t0 t1 t2 t3; go_simp)
            try simp only [Act.put, List.setIfInBounds_toArray, List.set_cons_zero, List.set_cons_succ]
            refine wpAnyH_take (i := 16) (oi := { dst := some 75, op := .binOp .neq 3 (.tmp 72) (.tmp 74) 3, type := _, pos := _, after := _, guard := some (8, false) }) (v := .bool true) rfl (by kernel_rfl) (by kernel_rfl) (by kernel_rfl) (fun _ _ _ h => h) (Or.inl ⟨by rfl, fun wh hSw => ?_⟩) hHeld ?_
            · (obtain ⟨⟨s0, s1, s2, s3⟩, t0, t1, t2, t3⟩ := hSw; simp only [Nat.zero_add] at t0 t1 t2 t3; go_simp)
            try simp only [Act.put, List.setIfInBounds_toArray, List.set_cons_zero, List.set_cons_succ]
            refine wpAnyH_take (i := 17) (oi := { dst := some 76, op := .pick (.tmp 67) (.const (.bool true)) (.tmp 75), type := _, pos := _, after := _, guard := none }) (v := .bool true) rfl (by kernel_rfl) (by kernel_rfl) (by kernel_rfl) (fun _ _ _ h => h) (Or.inl ⟨by rfl, fun wh hSw => ?_⟩) hHeld ?_
            · (obtain ⟨⟨s0, s1, s2, s3⟩, t0, t1, t2, t3⟩ := hSw; simp only [Nat.zero_add] at t0 t1 t2 t3; go_simp)
            try simp only [Act.put, List.setIfInBounds_toArray, List.set_cons_zero, List.set_cons_succ]
            refine wpAnyH_done (by kernel_rfl) ?_ _
            obtain ⟨f0, f1, f2, f3⟩ := FA.out
            go_wp2_with (at_builtin; refine wpList_append_own _ rfl (.tmp 77) (.tmp 82) 23 rfl w4.heap.size 25 i0 (.agg #[.int .i64 0, .int .i64 0, .int .i64 0, .bool false]) 4 32 Try.underlying23 HI.out HZ0.out HZ1.out HZ2.out rfl (by decide) _ _ _ rfl (HREL.out.own.alloc _) ⟨wr.heap.size, 0, none⟩ 1 1 (cvC y) rfl rfl (cell_four_new wr.drew _ _) (by intro u hu; simp [cvC] at hu; rcases hu with rfl | rfl | rfl | rfl <;> rfl) (by have := HNL.out; unfold maxLen; omega) (by have := HNL.out; omega) (by have := HREL.out.bel.size; simp at this ⊢; omega) ?_; intro v4 w6 hown2 hgrow2 hnn2)
            have HR2 : Hid (OwnC w4 v4 (oth (xs.take (k + 1)) x) w6) := Lib.hid (by
              rw [HSN.out]
              exact HREL.out.grow (zs := [y]) rfl (by rw [show csC [y] = cvC y from by simp [csC]]; exact hown2) hgrow2 (fun e => (hnn2.1 e).1))
            clear hown2 hgrow2 hnn2
            go_wp2_with fail
            go_roundw
            case rel => exact ⟨k + 1, by omega, by go_num, HR2.out⟩
            case measure => simp [intOf]; omega
        · rw [if_neg (by rw [same_iff]; exact fun hh => he hh.1)] at HSN
          have e1 : (y.e != x.e) = true := by simpa using he
          clear he
          go_wp2_with fail
          refine wp_region_held_drew (S := fun w' => Four w' g (o + k * 4) y ∧ Four w' X 0 x) (by kernel_rfl) ⟨FA.out, FB.out⟩ (fun hHeld => ?_)
          refine wpAnyH_take (i := 0) (oi := { dst := some 59, op := .move (.tmp 3), type := _, pos := _, after := _, guard := none }) (v := .slice (some ⟨g, o, none⟩) m oc) rfl (by kernel_rfl) (by kernel_rfl) (by kernel_rfl) (fun _ _ _ h => h) (Or.inl ⟨by rfl, fun wh hSw => ?_⟩) hHeld ?_
          · (obtain ⟨⟨s0, s1, s2, s3⟩, t0, t1, t2, t3⟩ := hSw; simp only [Nat.zero_add] at t0 t1 t2 t3; go_simp)
          try simp only [Act.put, List.setIfInBounds_toArray, List.set_cons_zero, List.set_cons_succ]
          refine wpAnyH_take (i := 1) (oi := { dst := some 60, op := .move (.tmp 10), type := _, pos := _, after := _, guard := none }) (v := .int .i64 (k : Int)) rfl (by kernel_rfl) (by kernel_rfl) (by kernel_rfl) (fun _ _ _ h => h) (Or.inl ⟨by rfl, fun wh hSw => ?_⟩) hHeld ?_
          · (obtain ⟨⟨s0, s1, s2, s3⟩, t0, t1, t2, t3⟩ := hSw; simp only [Nat.zero_add] at t0 t1 t2 t3; go_simp)
          try simp only [Act.put, List.setIfInBounds_toArray, List.set_cons_zero, List.set_cons_succ]
          refine wpAnyH_take (i := 2) (oi := { dst := some 61, op := .indexAddr 23 (.tmp 59) (.tmp 60), type := _, pos := _, after := _, guard := none }) (v := .pointer (some ⟨g, o + k * 4, none⟩)) rfl (by kernel_rfl) (by kernel_rfl) (by kernel_rfl) (fun _ _ _ h => h) (Or.inl ⟨by rfl, fun wh hSw => ?_⟩) hHeld ?_
          · (obtain ⟨⟨s0, s1, s2, s3⟩, t0, t1, t2, t3⟩ := hSw; simp only [Nat.zero_add] at t0 t1 t2 t3; go_simp)
          try simp only [Act.put, List.setIfInBounds_toArray, List.set_cons_zero, List.set_cons_succ]
          refine wpAnyH_take (i := 3) (oi := { dst := some 62, op := .fieldAddr 25 (.tmp 61) 0, type := _, pos := _, after := _, guard := none }) (v := .pointer (some ⟨g, o + k * 4, none⟩)) rfl (by kernel_rfl) (by kernel_rfl) (by kernel_rfl) (fun _ _ _ h => h) (Or.inl ⟨by rfl, fun wh hSw => ?_⟩) hHeld ?_
          · (obtain ⟨⟨s0, s1, s2, s3⟩, t0, t1, t2, t3⟩ := hSw; simp only [Nat.zero_add] at t0 t1 t2 t3; go_simp)
          try simp only [Act.put, List.setIfInBounds_toArray, List.set_cons_zero, List.set_cons_succ]
          refine wpAnyH_take (i := 4) (oi := { dst := some 63, op := .load 3 (.tmp 62), type := _, pos := _, after := _, guard := none }) (v := .int .i64 y.e) rfl (by kernel_rfl) (by kernel_rfl) (by kernel_rfl) (fun _ _ _ h => h) (Or.inl ⟨by rfl, fun wh hSw => ?_⟩) hHeld ?_
          · (obtain ⟨⟨s0, s1, s2, s3⟩, t0, t1, t2, t3⟩ := hSw; simp only [Nat.zero_add] at t0 t1 t2 t3; go_simp)
          try simp only [Act.put, List.setIfInBounds_toArray, List.set_cons_zero, List.set_cons_succ]
          refine wpAnyH_take (i := 5) (oi := { dst := some 64, op := .fieldAddr 25 (.tmp 4) 0, type := _, pos := _, after := _, guard := none }) (v := .pointer (some ⟨X, 0, none⟩)) rfl (by kernel_rfl) (by kernel_rfl) (by kernel_rfl) (fun _ _ _ h => h) (Or.inl ⟨by rfl, fun wh hSw => ?_⟩) hHeld ?_
          · (obtain ⟨⟨s0, s1, s2, s3⟩, t0, t1, t2, t3⟩ := hSw; simp only [Nat.zero_add] at t0 t1 t2 t3; go_simp)
          try simp only [Act.put, List.setIfInBounds_toArray, List.set_cons_zero, List.set_cons_succ]
          refine wpAnyH_take (i := 6) (oi := { dst := some 65, op := .load 3 (.tmp 64), type := _, pos := _, after := _, guard := none }) (v := .int .i64 x.e) rfl (by kernel_rfl) (by kernel_rfl) (by kernel_rfl) (fun _ _ _ h => h) (Or.inl ⟨by rfl, fun wh hSw => ?_⟩) hHeld ?_
          · (obtain ⟨⟨s0, s1, s2, s3⟩, t0, t1, t2, t3⟩ := hSw; simp only [Nat.zero_add] at t0 t1 t2 t3; go_simp)
          try simp only [Act.put, List.setIfInBounds_toArray, List.set_cons_zero, List.set_cons_succ]
          refine wpAnyH_take (i := 7) (oi := { dst := some 66, op := .binOp .neq 3 (.tmp 63) (.tmp 65) 3, type := _, pos := _, after := _, guard := none }) (v := .bool true) rfl (by kernel_rfl) (by kernel_rfl) (by kernel_rfl) (fun _ _ _ h => h) (Or.inl ⟨by rfl, fun wh hSw => ?_⟩) hHeld ?_
          · (obtain ⟨⟨s0, s1, s2, s3⟩, t0, t1, t2, t3⟩ := hSw; simp only [Nat.zero_add] at t0 t1 t2 t3; go_simp)
          try simp only [Act.put, List.setIfInBounds_toArray, List.set_cons_zero, List.set_cons_succ]
          refine wpAnyH_take (i := 8) (oi := { dst := some 67, op := .move (.tmp 66), type := _, pos := _, after := _, guard := none }) (v := .bool true) rfl (by kernel_rfl) (by kernel_rfl) (by kernel_rfl) (fun _ _ _ h => h) (Or.inl ⟨by rfl, fun wh hSw => ?_⟩) hHeld ?_
          · (obtain ⟨⟨s0, s1, s2, s3⟩, t0, t1, t2, t3⟩ := hSw; simp only [Nat.zero_add] at t0 t1 t2 t3; go_simp)
          try simp only [Act.put, List.setIfInBounds_toArray, List.set_cons_zero, List.set_cons_succ]
          refine wpAnyH_take (i := 9) (oi := { dst := some 68, op := .move (.tmp 3), type := _, pos := _, after := _, guard := some (8, false) }) (v := undef) rfl (by kernel_rfl) (by kernel_rfl) (by kernel_rfl) (fun _ _ _ h => h) (Or.inr ⟨by rfl, rfl⟩) hHeld ?_
          try simp only [Act.put, List.setIfInBounds_toArray, List.set_cons_zero, List.set_cons_succ]
          refine wpAnyH_take (i := 10) (oi := { dst := some 69, op := .move (.tmp 10), type := _, pos := _, after := _, guard := some (8, false) }) (v := undef) rfl (by kernel_rfl) (by kernel_rfl) (by kernel_rfl) (fun _ _ _ h => h) (Or.inr ⟨by rfl, rfl⟩) hHeld ?_
          try simp only [Act.put, List.setIfInBounds_toArray, List.set_cons_zero, List.set_cons_succ]
          refine wpAnyH_take (i := 11) (oi := { dst := some 70, op := .indexAddr 23 (.tmp 68) (.tmp 69), type := _, pos := _, after := _, guard := some (8, false) }) (v := undef) rfl (by kernel_rfl) (by kernel_rfl) (by kernel_rfl) (fun _ _ _ h => h) (Or.inr ⟨by rfl, rfl⟩) hHeld ?_
          try simp only [Act.put, List.setIfInBounds_toArray, List.set_cons_zero, List.set_cons_succ]
          refine wpAnyH_take (i := 12) (oi := { dst := some 71, op := .fieldAddr 25 (.tmp 70) 1, type := _, pos := _, after := _, guard := some (8, false) }) (v := undef) rfl (by kernel_rfl) (by kernel_rfl) (by kernel_rfl) (fun _ _ _ h => h) (Or.inr ⟨by rfl, rfl⟩) hHeld ?_
          try simp only [Act.put, List.setIfInBounds_toArray, List.set_cons_zero, List.set_cons_succ]
          refine wpAnyH_take (i := 13) (oi := { dst := some 72, op := .load 3 (.tmp 71), type := _, pos := _, after := _, guard := some (8, false) }) (v := undef) rfl (by kernel_rfl) (by kernel_rfl) (by kernel_rfl) (fun _ _ _ h => h) (Or.inr ⟨by rfl, rfl⟩) hHeld ?_
          try simp only [Act.put, List.setIfInBounds_toArray, List.set_cons_zero, List.set_cons_succ]
          refine wpAnyH_take (i := 14) (oi := { dst := some 73, op := .fieldAddr 25 (.tmp 4) 1, type := _, pos := _, after := _, guard := some (8, false) }) (v := undef) rfl (by kernel_rfl) (by kernel_rfl) (by kernel_rfl) (fun _ _ _ h => h) (Or.inr ⟨by rfl, rfl⟩) hHeld ?_
          try simp only [Act.put, List.setIfInBounds_toArray, List.set_cons_zero, List.set_cons_succ]
          refine wpAnyH_take (i := 15) (oi := { dst := some 74, op := .load 3 (.tmp 73), type := _, pos := _, after := _, guard := some (8, false) }) (v := undef) rfl (by kernel_rfl) (by kernel_rfl) (by kernel_rfl) (fun _ _ _ h => h) (Or.inr ⟨by rfl, rfl⟩) hHeld ?_
          try simp only [Act.put, List.setIfInBounds_toArray, List.set_cons_zero, List.set_cons_succ]
          refine wpAnyH_take (i := 16) (oi := { dst := some 75, op := .binOp .neq 3 (.tmp 72) (.tmp 74) 3, type := _, pos := _, after := _, guard := some (8, false) }) (v := undef) rfl (by kernel_rfl) (by kernel_rfl) (by kernel_rfl) (fun _ _ _ h => h) (Or.inr ⟨by rfl, rfl⟩) hHeld ?_
          try simp only [Act.put, List.setIfInBounds_toArray, List.set_cons_zero, List.set_cons_succ]
          refine wpAnyH_take (i := 17) (oi := { dst := some 76, op := .pick (.tmp 67) (.const (.bool true)) (.tmp 75), type := _, pos := _, after := _, guard := none }) (v := .bool true) rfl (by kernel_rfl) (by kernel_rfl) (by kernel_rfl) (fun _ _ _ h => h) (Or.inl ⟨by rfl, fun wh hSw => ?_⟩) hHeld ?_
          · (obtain ⟨⟨s0, s1, s2, s3⟩, t0, t1, t2, t3⟩ := hSw; simp only [Nat.zero_add] at t0 t1 t2 t3; go_simp)
          try simp only [Act.put, List.setIfInBounds_toArray, List.set_cons_zero, List.set_cons_succ]
          refine wpAnyH_done (by kernel_rfl) ?_ _
          obtain ⟨f0, f1, f2, f3⟩ := FA.out
          go_wp2_with (at_builtin; refine wpList_append_own _ rfl (.tmp 77) (.tmp 82) 23 rfl w4.heap.size 25 i0 (.agg #[.int .i64 0, .int .i64 0, .int .i64 0, .bool false]) 4 32 Try.underlying23 HI.out HZ0.out HZ1.out HZ2.out rfl (by decide) _ _ _ rfl (HREL.out.own.alloc _) ⟨wr.heap.size, 0, none⟩ 1 1 (cvC y) rfl rfl (cell_four_new wr.drew _ _) (by intro u hu; simp [cvC] at hu; rcases hu with rfl | rfl | rfl | rfl <;> rfl) (by have := HNL.out; unfold maxLen; omega) (by have := HNL.out; omega) (by have := HREL.out.bel.size; simp at this ⊢; omega) ?_; intro v4 w6 hown2 hgrow2 hnn2)
          have HR2 : Hid (OwnC w4 v4 (oth (xs.take (k + 1)) x) w6) := Lib.hid (by
            rw [HSN.out]
            exact HREL.out.grow (zs := [y]) rfl (by rw [show csC [y] = cvC y from by simp [csC]]; exact hown2) hgrow2 (fun e => (hnn2.1 e).1))
          clear hown2 hgrow2 hnn2
          go_wp2_with fail
          go_roundw
          case rel => exact ⟨k + 1, by omega, by go_num, HR2.out⟩
          case measure => simp [intOf]; omega
      · have ek : k = m := by omega
        subst ek
        rw [take_all HM.out] at hrel
        have hol : (oth xs x).length ≤ 4 := by have := oth_len xs x; have := HM.out; omega
        obtain ⟨L, hLL⟩ : ∃ L, L = oth xs x := ⟨_, rfl⟩
        rw [← hLL] at hrel hol HFORM
        clear hLL
        have FR := Lib.hid (F4.out.below hrel.bel Z4)
        obtain ⟨q0, q1, q2, q3⟩ := FR.out
        simp only [Nat.zero_add] at q0 q1 q2 q3
        have HREL := Lib.hid hrel
        obtain ⟨g, rc, rfl, hr1, hr2, hr3⟩ := hrel.form
        unfold maxLen at hr2
        clear hrel
        have BR := Lib.hid (B4.out.trans (HREL.out.bel.mono B4.out.size))
        have PR := Lib.hid (P4.out.below HREL.out.bel)
        by_cases h4 : L.length = 4
        · have HF4 := Lib.hid (show ys = L.drop 1 ++ [x] by rw [HFORM.out]; unfold cut4; rw [if_pos (by omega)])
          have hr4 : 4 ≤ rc := by omega
          have HVL : Hid (Value.slice (some ⟨g, 0, none⟩) L.length rc = .slice (some ⟨g, 0, none⟩) 4 rc) := Lib.hid (by rw [h4])
          have H4 := Lib.hid h4
          rw [h4]
          clear h4 hr1
          have HRW := Lib.hid HREL.out.rowC
          have HRM := Lib.hid hr2
          go_wp2_with (first | (at_builtin; refine wpList_append_arg _ rfl (.tmp 90) (.tmp 92) 23 rfl 25 i0 (.agg #[.int .i64 0, .int .i64 0, .int .i64 0, .bool false]) 4 32 Try.underlying23 HI.out HZ0.out HZ1.out HZ2.out rfl (by decide) g 4 3 (rc - 1) (csC (L.drop 1)) rfl (by rw [csC_len, List.length_drop, H4.out]) ((HRW.out.alloc _).news H4.out) ⟨wr.heap.size, 0, none⟩ 1 1 (cvC x) rfl rfl (cell_four_new wr x _) (by intro u hu; simp [cvC] at hu; rcases hu with rfl | rfl | rfl | rfl <;> rfl) ((HRW.out.alloc _).spare x) (by unfold maxLen; omega) (by omega) (fun hroom => ?_) (fun hgrow v4 w6 hown2 hgrow2 => ?_)) | fail)
          · have HR2 := Lib.hid ((HRW.out.alloc (.cells #[.int .i64 x.e, .int .i64 x.p, .int .i64 x.f, .bool x.b] 25)).room H4.out HRM.out x hroom)
            obtain ⟨w6, hw6⟩ : ∃ w6, w6 = (wr.alloc (.cells #[.int .i64 x.e, .int .i64 x.p, .int .i64 x.f, .bool x.b] 25)).setCells g 16 (cvC x) := ⟨_, rfl⟩
            rw [← hw6] at HR2 ⊢
            clear hw6
            have HSE := Lib.hid (sameCache_any w6 v2 _ ys ys (P4.out.below HR2.out.2) (by rw [HF4.out]; exact HR2.out.1))
            rw [decide_eq_true (rfl : ys = ys)] at HSE
            have B6 := Lib.hid (B4.out.trans (HR2.out.2.mono B4.out.size))
            refine HSE.out.mono ?_
            rintro e w7 ⟨rfl, hb7⟩
            have B7 := Lib.hid (B6.out.trans (hb7.mono B6.out.size))
            clear hb7
            go_wp2_with fail
            go_ret
            exact ⟨rfl, B7.out⟩
          · have HR2 := Lib.hid ((HRW.out.alloc (.cells #[.int .i64 x.e, .int .i64 x.p, .int .i64 x.f, .bool x.b] 25)).grew H4.out x hown2 hgrow2)
            clear hown2 hgrow2
            have HSE := Lib.hid (sameCache_any w6 v2 v4 ys ys (P4.out.below HR2.out.2) (by rw [HF4.out]; exact HR2.out.1))
            rw [decide_eq_true (rfl : ys = ys)] at HSE
            have B6 := Lib.hid (B4.out.trans (HR2.out.2.mono B4.out.size))
            refine HSE.out.mono ?_
            rintro e w7 ⟨rfl, hb7⟩
            have B7 := Lib.hid (B6.out.trans (hb7.mono B6.out.size))
            clear hb7
            go_wp2_with fail
            go_ret
            exact ⟨rfl, B7.out⟩
        · have HF4 := Lib.hid (show ys = L ++ [x] by rw [HFORM.out]; unfold cut4; rw [if_neg (by omega)])
          have e4 : ((L.length : Int) == 4) = false := by simp; omega
          go_wp2_with (at_builtin; refine wpList_append_own _ rfl (.tmp 90) (.tmp 92) 23 rfl w4.heap.size 25 i0 (.agg #[.int .i64 0, .int .i64 0, .int .i64 0, .bool false]) 4 32 Try.underlying23 HI.out HZ0.out HZ1.out HZ2.out rfl (by decide) _ _ _ rfl (HREL.out.own.alloc _) ⟨wr.heap.size, 0, none⟩ 1 1 (cvC x) rfl rfl (cell_four_new wr _ _) (by intro u hu; simp [cvC] at hu; rcases hu with rfl | rfl | rfl | rfl <;> rfl) (by unfold maxLen; omega) (by omega) (by have := HREL.out.bel.size; simp; omega) ?_; intro v4 w6 hown2 hgrow2 hnn2)
          have HR2 : Hid (OwnC w4 v4 ys w6) := Lib.hid (by
            rw [HF4.out]
            exact HREL.out.grow (zs := [x]) rfl (by rw [show csC [x] = cvC x from by simp [csC]]; exact hown2) hgrow2 (fun e => (hnn2.1 e).1))
          clear hown2 hgrow2 hnn2
          have HSE := Lib.hid (sameCache_any w6 v2 v4 ys ys (P4.out.below HR2.out.bel) HR2.out.cs)
          rw [decide_eq_true (rfl : ys = ys)] at HSE
          have B6 := Lib.hid (B4.out.trans (HR2.out.bel.mono B4.out.size))
          go_wp2_with fail
          refine HSE.out.mono ?_
          rintro e w7 ⟨rfl, hb7⟩
          have B7 := Lib.hid (B6.out.trans (hb7.mono B6.out.size))
          clear hb7
          go_wp2_with fail
          go_ret
          exact ⟨rfl, B7.out⟩
end Go.Proofs.Ytklclcbhghjjfaa
