/- What the reference puts into a cache. -/
import Derived.Test.YtklclcbhghjjfaaCOwn
import Derived.Deep.RegionHeld3
namespace Go.Proofs.Ytklclcbhghjjfaa
open Go.ChangeShapes Go.WideShapes Go.ChangeAt Go.RowKit
set_option linter.unusedVariables false

/-- the translations of other pages, in order -/
def oth (xs : List CV) (x : CV) : List CV := xs.filter (fun y => !same y x.e x.p)
theorem oth_snoc (xs : List CV) (x : CV) (k : Nat) (hk : k < xs.length) : oth (xs.take (k + 1)) x = oth (xs.take k) x ++ (if same (xs.getD k c0) x.e x.p = true then [] else [xs.getD k c0]) := by
  rw [take_snoc_getD xs k c0 hk]
  unfold oth
  by_cases h : same (xs.getD k c0) x.e x.p = true
  · rw [if_pos h]; simp only [List.filter_append, List.filter_cons, List.filter_nil]; rw [if_neg (by simpa using h)]
  · rw [if_neg h]; simp only [List.filter_append, List.filter_cons, List.filter_nil]; rw [if_pos (by simpa using h)]
theorem oth_len (xs : List CV) (x : CV) : (oth xs x).length ≤ xs.length := List.length_filter_le _ _
def cut4 (o : List CV) : List CV := if 4 ≤ o.length then o.drop 1 else o
def put4 (xs : List CV) (x : CV) : List CV := cut4 (oth xs x) ++ [x]
theorem anyH_gen {P : Program} {md : Region.Mode} {ops : Array Oper} {Q : Exit → Act → World → Prop} {S : World → Prop} {fuel : Nat} {listed : Array Bool} {a : Act} (w : World) (h : ∀ w', w' = w → wpAnyH P md ops Q S fuel listed a w') : wpAnyH P md ops Q S fuel listed a w := h w rfl
theorem csC_one (M : List CV) : ∀ u ∈ csC M, u.oneCell' = true := fun u hu => by
  obtain ⟨x, _, hx⟩ := List.mem_flatMap.1 hu
  simp [cvC] at hx
  rcases hx with rfl | rfl | rfl | rfl <;> rfl
theorem csC_drop1 (L : List CV) : csC (L.drop 1) = (csC L).drop 4 := by
  cases L with
  | nil => rfl
  | cons x L => simp [csC, cvC]
set_option maxRecDepth 100000 in
set_option maxHeartbeats 2000000 in
theorem l4Put_any (w : World) (v : Value) (xs : List CV) (x : CV) (h : Cs w v xs) (hl : xs.length ≤ 1000000) :
    Calls Try.prog 45 #[v, cvV x] w (NewC (put4 xs x) w) := by
  obtain ⟨i0, hi, hz0, hz1, hz2⟩ := info_parts cvInfo
  have HI := Lib.hid hi
  have HZ0 := Lib.hid hz0
  have HZ1 := Lib.hid hz1
  have HZ2 := Lib.hid hz2
  clear hi hz0 hz1 hz2
  obtain ⟨xe, xp, xf, xb⟩ := x
  obtain ⟨x, hxx⟩ : ∃ x : CV, x = ⟨xe, xp, xf, xb⟩ := ⟨_, rfl⟩
  obtain ⟨R, HRR⟩ : ∃ R, Hid (R = put4 xs x) := ⟨_, Lib.hid rfl⟩
  rw [← hxx, ← HRR.out, hxx]
  obtain ⟨a, cap, rfl, h1, h2, h3⟩ := h
  unfold maxLen at h2
  have H3 := Lib.hid h3
  obtain ⟨m, hm⟩ : ∃ m, m = xs.length := ⟨_, rfl⟩
  have HM := Lib.hid hm
  rw [← hm] at h1 hl ⊢
  have HXX := Lib.hid hxx
  clear hm h3 hxx
  go_enter Try.func45, Try.ntmps45
  go_wp2
  obtain ⟨w0, hw0⟩ : ∃ w0, w0 = w.alloc (.cells #[.int .i64 xe, .int .i64 xp, .int .i64 xf, .bool xb] 25) := ⟨_, rfl⟩
  have hsz : w.heap.size + 1 = w0.heap.size := by rw [hw0]; simp
  have hB0 : Below w.heap.size w w0 := by rw [hw0]; exact (Below.refl _ _).alloc (Nat.le_refl _) _
  have hX : Four w0 w.heap.size 0 x := by
    have e := fun j => cell_of_row w0 w.heap.size j _ _ (0, 0) (by rw [hw0]; exact heap_alloc_new w _)
    rw [HXX.out]
    exact ⟨(e 0).trans rfl, (e 1).trans rfl, (e 2).trans rfl, (e 3).trans rfl⟩
  have HB0 := Lib.hid hB0
  have HX := Lib.hid hX
  rw [← hw0, hsz]
  have HSZ : Hid (w.heap.size < w0.heap.size) := Lib.hid (by omega)
  clear hw0 hB0 hX hsz
  go_loopw [5, 6] (fun u i wr => ∃ k : Nat, k ≤ m ∧ i = .int .i64 k ∧ OwnC w0 u (oth (xs.take k) x) wr) (fun _ i _ => m - (intOf i).toNat)
  case atStart => exact ⟨0, Nat.zero_le _, rfl, OwnC.start w0⟩
  case round =>
    obtain ⟨k, hk, rfl, hrel⟩ := hrel
    by_cases hlt : k < m
    · obtain ⟨b, o, rfl, hf0⟩ := H3.out k (by have := HM.out; omega)
      have hsn := oth_snoc xs x k (by have := HM.out; omega)
      obtain ⟨y, hy⟩ : ∃ y, y = xs.getD k c0 := ⟨_, rfl⟩
      rw [← hy] at hf0 hsn
      have hbl := block_lt_of_cell hf0.c0
      obtain ⟨g0, g1, g2, g3⟩ := (hf0.below HB0.out hbl).below hrel.bel (Nat.lt_trans hbl HSZ.out)
      obtain ⟨q0, q1, q2, q3⟩ := HX.out.below hrel.bel HSZ.out
      rw [HXX.out] at q0 q1
      rw [Nat.zero_add] at q1
      clear q2 q3
      have HNL : Hid ((oth (xs.take k) x).length ≤ k) := Lib.hid (by
        have := oth_len (xs.take k) x
        rw [List.length_take] at this
        omega)
      have HSN := Lib.hid hsn
      have HREL := Lib.hid hrel
      clear hsn hrel hy hf0
      by_cases he : same y x.e x.p = true
      · rw [if_pos he, List.append_nil] at HSN
        have h2' := of_decide_eq_true he
        rw [HXX.out] at h2'
        have e1 : (y.e != xe) = false := by simpa using h2'.1
        have e2 : (y.p != xp) = false := by simpa using h2'.2
        have HR2 : Hid (OwnC w0 u5 (oth (xs.take (k + 1)) x) wr) := Lib.hid (by rw [HSN.out]; exact HREL.out)
        clear he h2'
        go_wp2_with fail
        refine wp_region_held_drew (S := fun w' => (Four w' b (o + k * 4) y ∧ w'.cell? ⟨w.heap.size, 0, none⟩ = some (.int .i64 xe)) ∧ w'.cell? ⟨w.heap.size, 1, none⟩ = some (.int .i64 xp)) (by kernel_rfl) ⟨⟨⟨g0, g1, g2, g3⟩, q0⟩, q1⟩ (fun hHeld => ?_)
        refine wpAnyH_take (i := 0) (oi := { dst := some 14, op := .move (.tmp 0), type := _, pos := _, after := _, guard := none }) (v := .slice (some ⟨b, o, none⟩) m cap) rfl (by kernel_rfl) (by kernel_rfl) (by kernel_rfl) (fun _ _ _ h => h) (Or.inl ⟨by rfl, fun wh hSw => ?_⟩) hHeld ?_
        · (obtain ⟨⟨⟨s0, s1, s2, s3⟩, t0⟩, t1⟩ := hSw; go_simp)
        try simp only [Act.put, List.setIfInBounds_toArray, List.set_cons_zero, List.set_cons_succ]
        refine wpAnyH_take (i := 1) (oi := { dst := some 15, op := .move (.tmp 6), type := _, pos := _, after := _, guard := none }) (v := .int .i64 (k : Int)) rfl (by kernel_rfl) (by kernel_rfl) (by kernel_rfl) (fun _ _ _ h => h) (Or.inl ⟨by rfl, fun wh hSw => ?_⟩) hHeld ?_
        · (obtain ⟨⟨⟨s0, s1, s2, s3⟩, t0⟩, t1⟩ := hSw; go_simp)
        try simp only [Act.put, List.setIfInBounds_toArray, List.set_cons_zero, List.set_cons_succ]
        refine wpAnyH_take (i := 2) (oi := { dst := some 16, op := .indexAddr 23 (.tmp 14) (.tmp 15), type := _, pos := _, after := _, guard := none }) (v := .pointer (some ⟨b, o + k * 4, none⟩)) rfl (by kernel_rfl) (by kernel_rfl) (by kernel_rfl) (fun _ _ _ h => h) (Or.inl ⟨by rfl, fun wh hSw => ?_⟩) hHeld ?_
        · (obtain ⟨⟨⟨s0, s1, s2, s3⟩, t0⟩, t1⟩ := hSw; go_simp)
        try simp only [Act.put, List.setIfInBounds_toArray, List.set_cons_zero, List.set_cons_succ]
        refine wpAnyH_take (i := 3) (oi := { dst := some 17, op := .fieldAddr 25 (.tmp 16) 0, type := _, pos := _, after := _, guard := none }) (v := .pointer (some ⟨b, o + k * 4, none⟩)) rfl (by kernel_rfl) (by kernel_rfl) (by kernel_rfl) (fun _ _ _ h => h) (Or.inl ⟨by rfl, fun wh hSw => ?_⟩) hHeld ?_
        · (obtain ⟨⟨⟨s0, s1, s2, s3⟩, t0⟩, t1⟩ := hSw; go_simp)
        try simp only [Act.put, List.setIfInBounds_toArray, List.set_cons_zero, List.set_cons_succ]
        refine wpAnyH_take (i := 4) (oi := { dst := some 18, op := .load 3 (.tmp 17), type := _, pos := _, after := _, guard := none }) (v := .int .i64 y.e) rfl (by kernel_rfl) (by kernel_rfl) (by kernel_rfl) (fun _ _ _ h => h) (Or.inl ⟨by rfl, fun wh hSw => ?_⟩) hHeld ?_
        · (obtain ⟨⟨⟨s0, s1, s2, s3⟩, t0⟩, t1⟩ := hSw; go_simp)
        try simp only [Act.put, List.setIfInBounds_toArray, List.set_cons_zero, List.set_cons_succ]
        refine wpAnyH_take (i := 5) (oi := { dst := some 19, op := .fieldAddr 25 (.tmp 3) 0, type := _, pos := _, after := _, guard := none }) (v := .pointer (some ⟨w.heap.size, 0, none⟩)) rfl (by kernel_rfl) (by kernel_rfl) (by kernel_rfl) (fun _ _ _ h => h) (Or.inl ⟨by rfl, fun wh hSw => ?_⟩) hHeld ?_
        · (obtain ⟨⟨⟨s0, s1, s2, s3⟩, t0⟩, t1⟩ := hSw; go_simp)
        try simp only [Act.put, List.setIfInBounds_toArray, List.set_cons_zero, List.set_cons_succ]
        refine wpAnyH_take (i := 6) (oi := { dst := some 20, op := .load 3 (.tmp 19), type := _, pos := _, after := _, guard := none }) (v := .int .i64 xe) rfl (by kernel_rfl) (by kernel_rfl) (by kernel_rfl) (fun _ _ _ h => h) (Or.inl ⟨by rfl, fun wh hSw => ?_⟩) hHeld ?_
        · (obtain ⟨⟨⟨s0, s1, s2, s3⟩, t0⟩, t1⟩ := hSw; go_simp)
        try simp only [Act.put, List.setIfInBounds_toArray, List.set_cons_zero, List.set_cons_succ]
        refine wpAnyH_take (i := 7) (oi := { dst := some 21, op := .binOp .neq 3 (.tmp 18) (.tmp 20) 3, type := _, pos := _, after := _, guard := none }) (v := .bool false) rfl (by kernel_rfl) (by kernel_rfl) (by kernel_rfl) (fun _ _ _ h => h) (Or.inl ⟨by rfl, fun wh hSw => ?_⟩) hHeld ?_
        · (obtain ⟨⟨⟨s0, s1, s2, s3⟩, t0⟩, t1⟩ := hSw; go_simp)
        try simp only [Act.put, List.setIfInBounds_toArray, List.set_cons_zero, List.set_cons_succ]
        refine wpAnyH_take (i := 8) (oi := { dst := some 22, op := .move (.tmp 21), type := _, pos := _, after := _, guard := none }) (v := .bool false) rfl (by kernel_rfl) (by kernel_rfl) (by kernel_rfl) (fun _ _ _ h => h) (Or.inl ⟨by rfl, fun wh hSw => ?_⟩) hHeld ?_
        · (obtain ⟨⟨⟨s0, s1, s2, s3⟩, t0⟩, t1⟩ := hSw; go_simp)
        try simp only [Act.put, List.setIfInBounds_toArray, List.set_cons_zero, List.set_cons_succ]
        refine wpAnyH_take (i := 9) (oi := { dst := some 23, op := .move (.tmp 0), type := _, pos := _, after := _, guard := some (8, false) }) (v := .slice (some ⟨b, o, none⟩) m cap) rfl (by kernel_rfl) (by kernel_rfl) (by kernel_rfl) (fun _ _ _ h => h) (Or.inl ⟨by rfl, fun wh hSw => ?_⟩) hHeld ?_
        · (obtain ⟨⟨⟨s0, s1, s2, s3⟩, t0⟩, t1⟩ := hSw; go_simp)
        try simp only [Act.put, List.setIfInBounds_toArray, List.set_cons_zero, List.set_cons_succ]
        refine wpAnyH_take (i := 10) (oi := { dst := some 24, op := .move (.tmp 6), type := _, pos := _, after := _, guard := some (8, false) }) (v := .int .i64 (k : Int)) rfl (by kernel_rfl) (by kernel_rfl) (by kernel_rfl) (fun _ _ _ h => h) (Or.inl ⟨by rfl, fun wh hSw => ?_⟩) hHeld ?_
        · (obtain ⟨⟨⟨s0, s1, s2, s3⟩, t0⟩, t1⟩ := hSw; go_simp)
        try simp only [Act.put, List.setIfInBounds_toArray, List.set_cons_zero, List.set_cons_succ]
        refine wpAnyH_take (i := 11) (oi := { dst := some 25, op := .indexAddr 23 (.tmp 23) (.tmp 24), type := _, pos := _, after := _, guard := some (8, false) }) (v := .pointer (some ⟨b, o + k * 4, none⟩)) rfl (by kernel_rfl) (by kernel_rfl) (by kernel_rfl) (fun _ _ _ h => h) (Or.inl ⟨by rfl, fun wh hSw => ?_⟩) hHeld ?_
        · (obtain ⟨⟨⟨s0, s1, s2, s3⟩, t0⟩, t1⟩ := hSw; go_simp)
        try simp only [Act.put, List.setIfInBounds_toArray, List.set_cons_zero, List.set_cons_succ]
        refine wpAnyH_take (i := 12) (oi := { dst := some 26, op := .fieldAddr 25 (.tmp 25) 1, type := _, pos := _, after := _, guard := some (8, false) }) (v := .pointer (some ⟨b, o + k * 4 + 1, none⟩)) rfl (by kernel_rfl) (by kernel_rfl) (by kernel_rfl) (fun _ _ _ h => h) (Or.inl ⟨by rfl, fun wh hSw => ?_⟩) hHeld ?_
        · (obtain ⟨⟨⟨s0, s1, s2, s3⟩, t0⟩, t1⟩ := hSw; go_simp)
        try simp only [Act.put, List.setIfInBounds_toArray, List.set_cons_zero, List.set_cons_succ]
        refine wpAnyH_take (i := 13) (oi := { dst := some 27, op := .load 3 (.tmp 26), type := _, pos := _, after := _, guard := some (8, false) }) (v := .int .i64 y.p) rfl (by kernel_rfl) (by kernel_rfl) (by kernel_rfl) (fun _ _ _ h => h) (Or.inl ⟨by rfl, fun wh hSw => ?_⟩) hHeld ?_
        · (obtain ⟨⟨⟨s0, s1, s2, s3⟩, t0⟩, t1⟩ := hSw; go_simp)
        try simp only [Act.put, List.setIfInBounds_toArray, List.set_cons_zero, List.set_cons_succ]
        refine wpAnyH_take (i := 14) (oi := { dst := some 28, op := .fieldAddr 25 (.tmp 3) 1, type := _, pos := _, after := _, guard := some (8, false) }) (v := .pointer (some ⟨w.heap.size, 1, none⟩)) rfl (by kernel_rfl) (by kernel_rfl) (by kernel_rfl) (fun _ _ _ h => h) (Or.inl ⟨by rfl, fun wh hSw => ?_⟩) hHeld ?_
        · (obtain ⟨⟨⟨s0, s1, s2, s3⟩, t0⟩, t1⟩ := hSw; go_simp)
        try simp only [Act.put, List.setIfInBounds_toArray, List.set_cons_zero, List.set_cons_succ]
        refine wpAnyH_take (i := 15) (oi := { dst := some 29, op := .load 3 (.tmp 28), type := _, pos := _, after := _, guard := some (8, false) }) (v := .int .i64 xp) rfl (by kernel_rfl) (by kernel_rfl) (by kernel_rfl) (fun _ _ _ h => h) (Or.inl ⟨by rfl, fun wh hSw => ?_⟩) hHeld ?_
        · (obtain ⟨⟨⟨s0, s1, s2, s3⟩, t0⟩, t1⟩ := hSw; go_simp)
        try simp only [Act.put, List.setIfInBounds_toArray, List.set_cons_zero, List.set_cons_succ]
        refine wpAnyH_take (i := 16) (oi := { dst := some 30, op := .binOp .neq 3 (.tmp 27) (.tmp 29) 3, type := _, pos := _, after := _, guard := some (8, false) }) (v := .bool false) rfl (by kernel_rfl) (by kernel_rfl) (by kernel_rfl) (fun _ _ _ h => h) (Or.inl ⟨by rfl, fun wh hSw => ?_⟩) hHeld ?_
        · (obtain ⟨⟨⟨s0, s1, s2, s3⟩, t0⟩, t1⟩ := hSw; go_simp)
        try simp only [Act.put, List.setIfInBounds_toArray, List.set_cons_zero, List.set_cons_succ]
        refine wpAnyH_take (i := 17) (oi := { dst := some 31, op := .pick (.tmp 22) (.const (.bool true)) (.tmp 30), type := _, pos := _, after := _, guard := none }) (v := .bool false) rfl (by kernel_rfl) (by kernel_rfl) (by kernel_rfl) (fun _ _ _ h => h) (Or.inl ⟨by rfl, fun wh hSw => ?_⟩) hHeld ?_
        · (obtain ⟨⟨⟨s0, s1, s2, s3⟩, t0⟩, t1⟩ := hSw; go_simp)
        try simp only [Act.put, List.setIfInBounds_toArray, List.set_cons_zero, List.set_cons_succ]
        refine wpAnyH_done (by kernel_rfl) ?_ _
        go_wp2
        go_roundw
        case rel => exact ⟨k + 1, by omega, by go_num, HR2.out.drew⟩
        case measure => simp [intOf]; omega
      · rw [if_neg he] at HSN
        by_cases h1e : y.e = xe
        · have h2e : ¬ y.p = xp := fun hh => he (decide_eq_true (by rw [HXX.out]; exact ⟨h1e, hh⟩))
          have e1 : (y.e != xe) = false := by simpa using h1e
          have e2 : (y.p != xp) = true := by simpa using h2e
          clear he h1e h2e
          go_wp2_with fail
          refine wp_region_held_drew (S := fun w' => (Four w' b (o + k * 4) y ∧ w'.cell? ⟨w.heap.size, 0, none⟩ = some (.int .i64 xe)) ∧ w'.cell? ⟨w.heap.size, 1, none⟩ = some (.int .i64 xp)) (by kernel_rfl) ⟨⟨⟨g0, g1, g2, g3⟩, q0⟩, q1⟩ (fun hHeld => ?_)
          refine wpAnyH_take (i := 0) (oi := { dst := some 14, op := .move (.tmp 0), type := _, pos := _, after := _, guard := none }) (v := .slice (some ⟨b, o, none⟩) m cap) rfl (by kernel_rfl) (by kernel_rfl) (by kernel_rfl) (fun _ _ _ h => h) (Or.inl ⟨by rfl, fun wh hSw => ?_⟩) hHeld ?_
          · (obtain ⟨⟨⟨s0, s1, s2, s3⟩, t0⟩, t1⟩ := hSw; go_simp)
          try simp only [Act.put, List.setIfInBounds_toArray, List.set_cons_zero, List.set_cons_succ]
          refine wpAnyH_take (i := 1) (oi := { dst := some 15, op := .move (.tmp 6), type := _, pos := _, after := _, guard := none }) (v := .int .i64 (k : Int)) rfl (by kernel_rfl) (by kernel_rfl) (by kernel_rfl) (fun _ _ _ h => h) (Or.inl ⟨by rfl, fun wh hSw => ?_⟩) hHeld ?_
          · (obtain ⟨⟨⟨s0, s1, s2, s3⟩, t0⟩, t1⟩ := hSw; go_simp)
          try simp only [Act.put, List.setIfInBounds_toArray, List.set_cons_zero, List.set_cons_succ]
          refine wpAnyH_take (i := 2) (oi := { dst := some 16, op := .indexAddr 23 (.tmp 14) (.tmp 15), type := _, pos := _, after := _, guard := none }) (v := .pointer (some ⟨b, o + k * 4, none⟩)) rfl (by kernel_rfl) (by kernel_rfl) (by kernel_rfl) (fun _ _ _ h => h) (Or.inl ⟨by rfl, fun wh hSw => ?_⟩) hHeld ?_
          · (obtain ⟨⟨⟨s0, s1, s2, s3⟩, t0⟩, t1⟩ := hSw; go_simp)
          try simp only [Act.put, List.setIfInBounds_toArray, List.set_cons_zero, List.set_cons_succ]
          refine wpAnyH_take (i := 3) (oi := { dst := some 17, op := .fieldAddr 25 (.tmp 16) 0, type := _, pos := _, after := _, guard := none }) (v := .pointer (some ⟨b, o + k * 4, none⟩)) rfl (by kernel_rfl) (by kernel_rfl) (by kernel_rfl) (fun _ _ _ h => h) (Or.inl ⟨by rfl, fun wh hSw => ?_⟩) hHeld ?_
          · (obtain ⟨⟨⟨s0, s1, s2, s3⟩, t0⟩, t1⟩ := hSw; go_simp)
          try simp only [Act.put, List.setIfInBounds_toArray, List.set_cons_zero, List.set_cons_succ]
          refine wpAnyH_take (i := 4) (oi := { dst := some 18, op := .load 3 (.tmp 17), type := _, pos := _, after := _, guard := none }) (v := .int .i64 y.e) rfl (by kernel_rfl) (by kernel_rfl) (by kernel_rfl) (fun _ _ _ h => h) (Or.inl ⟨by rfl, fun wh hSw => ?_⟩) hHeld ?_
          · (obtain ⟨⟨⟨s0, s1, s2, s3⟩, t0⟩, t1⟩ := hSw; go_simp)
          try simp only [Act.put, List.setIfInBounds_toArray, List.set_cons_zero, List.set_cons_succ]
          refine wpAnyH_take (i := 5) (oi := { dst := some 19, op := .fieldAddr 25 (.tmp 3) 0, type := _, pos := _, after := _, guard := none }) (v := .pointer (some ⟨w.heap.size, 0, none⟩)) rfl (by kernel_rfl) (by kernel_rfl) (by kernel_rfl) (fun _ _ _ h => h) (Or.inl ⟨by rfl, fun wh hSw => ?_⟩) hHeld ?_
          · (obtain ⟨⟨⟨s0, s1, s2, s3⟩, t0⟩, t1⟩ := hSw; go_simp)
          try simp only [Act.put, List.setIfInBounds_toArray, List.set_cons_zero, List.set_cons_succ]
          refine wpAnyH_take (i := 6) (oi := { dst := some 20, op := .load 3 (.tmp 19), type := _, pos := _, after := _, guard := none }) (v := .int .i64 xe) rfl (by kernel_rfl) (by kernel_rfl) (by kernel_rfl) (fun _ _ _ h => h) (Or.inl ⟨by rfl, fun wh hSw => ?_⟩) hHeld ?_
          · (obtain ⟨⟨⟨s0, s1, s2, s3⟩, t0⟩, t1⟩ := hSw; go_simp)
          try simp only [Act.put, List.setIfInBounds_toArray, List.set_cons_zero, List.set_cons_succ]
          refine wpAnyH_take (i := 7) (oi := { dst := some 21, op := .binOp .neq 3 (.tmp 18) (.tmp 20) 3, type := _, pos := _, after := _, guard := none }) (v := .bool false) rfl (by kernel_rfl) (by kernel_rfl) (by kernel_rfl) (fun _ _ _ h => h) (Or.inl ⟨by rfl, fun wh hSw => ?_⟩) hHeld ?_
          · (obtain ⟨⟨⟨s0, s1, s2, s3⟩, t0⟩, t1⟩ := hSw; go_simp)
          try simp only [Act.put, List.setIfInBounds_toArray, List.set_cons_zero, List.set_cons_succ]
          refine wpAnyH_take (i := 8) (oi := { dst := some 22, op := .move (.tmp 21), type := _, pos := _, after := _, guard := none }) (v := .bool false) rfl (by kernel_rfl) (by kernel_rfl) (by kernel_rfl) (fun _ _ _ h => h) (Or.inl ⟨by rfl, fun wh hSw => ?_⟩) hHeld ?_
          · (obtain ⟨⟨⟨s0, s1, s2, s3⟩, t0⟩, t1⟩ := hSw; go_simp)
          try simp only [Act.put, List.setIfInBounds_toArray, List.set_cons_zero, List.set_cons_succ]
          refine wpAnyH_take (i := 9) (oi := { dst := some 23, op := .move (.tmp 0), type := _, pos := _, after := _, guard := some (8, false) }) (v := .slice (some ⟨b, o, none⟩) m cap) rfl (by kernel_rfl) (by kernel_rfl) (by kernel_rfl) (fun _ _ _ h => h) (Or.inl ⟨by rfl, fun wh hSw => ?_⟩) hHeld ?_
          · (obtain ⟨⟨⟨s0, s1, s2, s3⟩, t0⟩, t1⟩ := hSw; go_simp)
          try simp only [Act.put, List.setIfInBounds_toArray, List.set_cons_zero, List.set_cons_succ]
          refine wpAnyH_take (i := 10) (oi := { dst := some 24, op := .move (.tmp 6), type := _, pos := _, after := _, guard := some (8, false) }) (v := .int .i64 (k : Int)) rfl (by kernel_rfl) (by kernel_rfl) (by kernel_rfl) (fun _ _ _ h => h) (Or.inl ⟨by rfl, fun wh hSw => ?_⟩) hHeld ?_
          · (obtain ⟨⟨⟨s0, s1, s2, s3⟩, t0⟩, t1⟩ := hSw; go_simp)
          try simp only [Act.put, List.setIfInBounds_toArray, List.set_cons_zero, List.set_cons_succ]
          refine wpAnyH_take (i := 11) (oi := { dst := some 25, op := .indexAddr 23 (.tmp 23) (.tmp 24), type := _, pos := _, after := _, guard := some (8, false) }) (v := .pointer (some ⟨b, o + k * 4, none⟩)) rfl (by kernel_rfl) (by kernel_rfl) (by kernel_rfl) (fun _ _ _ h => h) (Or.inl ⟨by rfl, fun wh hSw => ?_⟩) hHeld ?_
          · (obtain ⟨⟨⟨s0, s1, s2, s3⟩, t0⟩, t1⟩ := hSw; go_simp)
          try simp only [Act.put, List.setIfInBounds_toArray, List.set_cons_zero, List.set_cons_succ]
          refine wpAnyH_take (i := 12) (oi := { dst := some 26, op := .fieldAddr 25 (.tmp 25) 1, type := _, pos := _, after := _, guard := some (8, false) }) (v := .pointer (some ⟨b, o + k * 4 + 1, none⟩)) rfl (by kernel_rfl) (by kernel_rfl) (by kernel_rfl) (fun _ _ _ h => h) (Or.inl ⟨by rfl, fun wh hSw => ?_⟩) hHeld ?_
          · (obtain ⟨⟨⟨s0, s1, s2, s3⟩, t0⟩, t1⟩ := hSw; go_simp)
          try simp only [Act.put, List.setIfInBounds_toArray, List.set_cons_zero, List.set_cons_succ]
          refine wpAnyH_take (i := 13) (oi := { dst := some 27, op := .load 3 (.tmp 26), type := _, pos := _, after := _, guard := some (8, false) }) (v := .int .i64 y.p) rfl (by kernel_rfl) (by kernel_rfl) (by kernel_rfl) (fun _ _ _ h => h) (Or.inl ⟨by rfl, fun wh hSw => ?_⟩) hHeld ?_
          · (obtain ⟨⟨⟨s0, s1, s2, s3⟩, t0⟩, t1⟩ := hSw; go_simp)
          try simp only [Act.put, List.setIfInBounds_toArray, List.set_cons_zero, List.set_cons_succ]
          refine wpAnyH_take (i := 14) (oi := { dst := some 28, op := .fieldAddr 25 (.tmp 3) 1, type := _, pos := _, after := _, guard := some (8, false) }) (v := .pointer (some ⟨w.heap.size, 1, none⟩)) rfl (by kernel_rfl) (by kernel_rfl) (by kernel_rfl) (fun _ _ _ h => h) (Or.inl ⟨by rfl, fun wh hSw => ?_⟩) hHeld ?_
          · (obtain ⟨⟨⟨s0, s1, s2, s3⟩, t0⟩, t1⟩ := hSw; go_simp)
          try simp only [Act.put, List.setIfInBounds_toArray, List.set_cons_zero, List.set_cons_succ]
          refine wpAnyH_take (i := 15) (oi := { dst := some 29, op := .load 3 (.tmp 28), type := _, pos := _, after := _, guard := some (8, false) }) (v := .int .i64 xp) rfl (by kernel_rfl) (by kernel_rfl) (by kernel_rfl) (fun _ _ _ h => h) (Or.inl ⟨by rfl, fun wh hSw => ?_⟩) hHeld ?_
          · (obtain ⟨⟨⟨s0, s1, s2, s3⟩, t0⟩, t1⟩ := hSw; go_simp)
          try simp only [Act.put, List.setIfInBounds_toArray, List.set_cons_zero, List.set_cons_succ]
          refine wpAnyH_take (i := 16) (oi := { dst := some 30, op := .binOp .neq 3 (.tmp 27) (.tmp 29) 3, type := _, pos := _, after := _, guard := some (8, false) }) (v := .bool true) rfl (by kernel_rfl) (by kernel_rfl) (by kernel_rfl) (fun _ _ _ h => h) (Or.inl ⟨by rfl, fun wh hSw => ?_⟩) hHeld ?_
          · (obtain ⟨⟨⟨s0, s1, s2, s3⟩, t0⟩, t1⟩ := hSw; go_simp)
          try simp only [Act.put, List.setIfInBounds_toArray, List.set_cons_zero, List.set_cons_succ]
          refine wpAnyH_take (i := 17) (oi := { dst := some 31, op := .pick (.tmp 22) (.const (.bool true)) (.tmp 30), type := _, pos := _, after := _, guard := none }) (v := .bool true) rfl (by kernel_rfl) (by kernel_rfl) (by kernel_rfl) (fun _ _ _ h => h) (Or.inl ⟨by rfl, fun wh hSw => ?_⟩) hHeld ?_
          · (obtain ⟨⟨⟨s0, s1, s2, s3⟩, t0⟩, t1⟩ := hSw; go_simp)
          try simp only [Act.put, List.setIfInBounds_toArray, List.set_cons_zero, List.set_cons_succ]
          refine wpAnyH_done (by kernel_rfl) ?_ _
          go_wp2_with (at_builtin; refine wpList_append_own _ rfl (.tmp 32) (.tmp 37) 23 rfl w0.heap.size 25 i0 (.agg #[.int .i64 0, .int .i64 0, .int .i64 0, .bool false]) 4 32 Try.underlying23 HI.out HZ0.out HZ1.out HZ2.out rfl (by decide) _ _ _ rfl (HREL.out.own.alloc _) ⟨wr.heap.size, 0, none⟩ 1 1 (cvC y) rfl rfl (cell_four_new _ _ _) (by intro u hu; simp [cvC] at hu; rcases hu with rfl | rfl | rfl | rfl <;> rfl) (by have := HNL.out; unfold maxLen; omega) (by have := HNL.out; omega) (by have := HREL.out.bel.size; simp; omega) ?_; intro v2 w2 hown2 hgrow2 hnn2)
          have HR2 : Hid (OwnC w0 v2 (oth (xs.take (k + 1)) x) w2) := Lib.hid (by
            rw [HSN.out]
            exact HREL.out.drew.grow (o := .cells #[.int .i64 y.e, .int .i64 y.p, .int .i64 y.f, .bool y.b] 25) (zs := [y]) rfl (by rw [show csC [y] = cvC y from by simp [csC]]; exact hown2) hgrow2 (fun e => (hnn2.1 e).1))
          clear hown2 hgrow2 hnn2
          go_wp2
          go_roundw
          case rel => exact ⟨k + 1, by omega, by go_num, HR2.out⟩
          case measure => simp [intOf]; omega
        · have e1 : (y.e != xe) = true := by simpa using h1e
          clear he h1e
          go_wp2_with fail
          refine wp_region_held_drew (S := fun w' => (Four w' b (o + k * 4) y ∧ w'.cell? ⟨w.heap.size, 0, none⟩ = some (.int .i64 xe)) ∧ w'.cell? ⟨w.heap.size, 1, none⟩ = some (.int .i64 xp)) (by kernel_rfl) ⟨⟨⟨g0, g1, g2, g3⟩, q0⟩, q1⟩ (fun hHeld => ?_)
          refine wpAnyH_take (i := 0) (oi := { dst := some 14, op := .move (.tmp 0), type := _, pos := _, after := _, guard := none }) (v := .slice (some ⟨b, o, none⟩) m cap) rfl (by kernel_rfl) (by kernel_rfl) (by kernel_rfl) (fun _ _ _ h => h) (Or.inl ⟨by rfl, fun wh hSw => ?_⟩) hHeld ?_
          · (obtain ⟨⟨⟨s0, s1, s2, s3⟩, t0⟩, t1⟩ := hSw; go_simp)
          try simp only [Act.put, List.setIfInBounds_toArray, List.set_cons_zero, List.set_cons_succ]
          refine wpAnyH_take (i := 1) (oi := { dst := some 15, op := .move (.tmp 6), type := _, pos := _, after := _, guard := none }) (v := .int .i64 (k : Int)) rfl (by kernel_rfl) (by kernel_rfl) (by kernel_rfl) (fun _ _ _ h => h) (Or.inl ⟨by rfl, fun wh hSw => ?_⟩) hHeld ?_
          · (obtain ⟨⟨⟨s0, s1, s2, s3⟩, t0⟩, t1⟩ := hSw; go_simp)
          try simp only [Act.put, List.setIfInBounds_toArray, List.set_cons_zero, List.set_cons_succ]
          refine wpAnyH_take (i := 2) (oi := { dst := some 16, op := .indexAddr 23 (.tmp 14) (.tmp 15), type := _, pos := _, after := _, guard := none }) (v := .pointer (some ⟨b, o + k * 4, none⟩)) rfl (by kernel_rfl) (by kernel_rfl) (by kernel_rfl) (fun _ _ _ h => h) (Or.inl ⟨by rfl, fun wh hSw => ?_⟩) hHeld ?_
          · (obtain ⟨⟨⟨s0, s1, s2, s3⟩, t0⟩, t1⟩ := hSw; go_simp)
          try simp only [Act.put, List.setIfInBounds_toArray, List.set_cons_zero, List.set_cons_succ]
          refine wpAnyH_take (i := 3) (oi := { dst := some 17, op := .fieldAddr 25 (.tmp 16) 0, type := _, pos := _, after := _, guard := none }) (v := .pointer (some ⟨b, o + k * 4, none⟩)) rfl (by kernel_rfl) (by kernel_rfl) (by kernel_rfl) (fun _ _ _ h => h) (Or.inl ⟨by rfl, fun wh hSw => ?_⟩) hHeld ?_
          · (obtain ⟨⟨⟨s0, s1, s2, s3⟩, t0⟩, t1⟩ := hSw; go_simp)
          try simp only [Act.put, List.setIfInBounds_toArray, List.set_cons_zero, List.set_cons_succ]
          refine wpAnyH_take (i := 4) (oi := { dst := some 18, op := .load 3 (.tmp 17), type := _, pos := _, after := _, guard := none }) (v := .int .i64 y.e) rfl (by kernel_rfl) (by kernel_rfl) (by kernel_rfl) (fun _ _ _ h => h) (Or.inl ⟨by rfl, fun wh hSw => ?_⟩) hHeld ?_
          · (obtain ⟨⟨⟨s0, s1, s2, s3⟩, t0⟩, t1⟩ := hSw; go_simp)
          try simp only [Act.put, List.setIfInBounds_toArray, List.set_cons_zero, List.set_cons_succ]
          refine wpAnyH_take (i := 5) (oi := { dst := some 19, op := .fieldAddr 25 (.tmp 3) 0, type := _, pos := _, after := _, guard := none }) (v := .pointer (some ⟨w.heap.size, 0, none⟩)) rfl (by kernel_rfl) (by kernel_rfl) (by kernel_rfl) (fun _ _ _ h => h) (Or.inl ⟨by rfl, fun wh hSw => ?_⟩) hHeld ?_
          · (obtain ⟨⟨⟨s0, s1, s2, s3⟩, t0⟩, t1⟩ := hSw; go_simp)
          try simp only [Act.put, List.setIfInBounds_toArray, List.set_cons_zero, List.set_cons_succ]
          refine wpAnyH_take (i := 6) (oi := { dst := some 20, op := .load 3 (.tmp 19), type := _, pos := _, after := _, guard := none }) (v := .int .i64 xe) rfl (by kernel_rfl) (by kernel_rfl) (by kernel_rfl) (fun _ _ _ h => h) (Or.inl ⟨by rfl, fun wh hSw => ?_⟩) hHeld ?_
          · (obtain ⟨⟨⟨s0, s1, s2, s3⟩, t0⟩, t1⟩ := hSw; go_simp)
          try simp only [Act.put, List.setIfInBounds_toArray, List.set_cons_zero, List.set_cons_succ]
          refine wpAnyH_take (i := 7) (oi := { dst := some 21, op := .binOp .neq 3 (.tmp 18) (.tmp 20) 3, type := _, pos := _, after := _, guard := none }) (v := .bool true) rfl (by kernel_rfl) (by kernel_rfl) (by kernel_rfl) (fun _ _ _ h => h) (Or.inl ⟨by rfl, fun wh hSw => ?_⟩) hHeld ?_
          · (obtain ⟨⟨⟨s0, s1, s2, s3⟩, t0⟩, t1⟩ := hSw; go_simp)
          try simp only [Act.put, List.setIfInBounds_toArray, List.set_cons_zero, List.set_cons_succ]
          refine wpAnyH_take (i := 8) (oi := { dst := some 22, op := .move (.tmp 21), type := _, pos := _, after := _, guard := none }) (v := .bool true) rfl (by kernel_rfl) (by kernel_rfl) (by kernel_rfl) (fun _ _ _ h => h) (Or.inl ⟨by rfl, fun wh hSw => ?_⟩) hHeld ?_
          · (obtain ⟨⟨⟨s0, s1, s2, s3⟩, t0⟩, t1⟩ := hSw; go_simp)
          try simp only [Act.put, List.setIfInBounds_toArray, List.set_cons_zero, List.set_cons_succ]
          refine wpAnyH_take (i := 9) (oi := { dst := some 23, op := .move (.tmp 0), type := _, pos := _, after := _, guard := some (8, false) }) (v := undef) rfl (by kernel_rfl) (by kernel_rfl) (by kernel_rfl) (fun _ _ _ h => h) (Or.inr ⟨by rfl, rfl⟩) hHeld ?_
          try simp only [Act.put, List.setIfInBounds_toArray, List.set_cons_zero, List.set_cons_succ]
          refine wpAnyH_take (i := 10) (oi := { dst := some 24, op := .move (.tmp 6), type := _, pos := _, after := _, guard := some (8, false) }) (v := undef) rfl (by kernel_rfl) (by kernel_rfl) (by kernel_rfl) (fun _ _ _ h => h) (Or.inr ⟨by rfl, rfl⟩) hHeld ?_
          try simp only [Act.put, List.setIfInBounds_toArray, List.set_cons_zero, List.set_cons_succ]
          refine wpAnyH_take (i := 11) (oi := { dst := some 25, op := .indexAddr 23 (.tmp 23) (.tmp 24), type := _, pos := _, after := _, guard := some (8, false) }) (v := undef) rfl (by kernel_rfl) (by kernel_rfl) (by kernel_rfl) (fun _ _ _ h => h) (Or.inr ⟨by rfl, rfl⟩) hHeld ?_
          try simp only [Act.put, List.setIfInBounds_toArray, List.set_cons_zero, List.set_cons_succ]
          refine wpAnyH_take (i := 12) (oi := { dst := some 26, op := .fieldAddr 25 (.tmp 25) 1, type := _, pos := _, after := _, guard := some (8, false) }) (v := undef) rfl (by kernel_rfl) (by kernel_rfl) (by kernel_rfl) (fun _ _ _ h => h) (Or.inr ⟨by rfl, rfl⟩) hHeld ?_
          try simp only [Act.put, List.setIfInBounds_toArray, List.set_cons_zero, List.set_cons_succ]
          refine wpAnyH_take (i := 13) (oi := { dst := some 27, op := .load 3 (.tmp 26), type := _, pos := _, after := _, guard := some (8, false) }) (v := undef) rfl (by kernel_rfl) (by kernel_rfl) (by kernel_rfl) (fun _ _ _ h => h) (Or.inr ⟨by rfl, rfl⟩) hHeld ?_
          try simp only [Act.put, List.setIfInBounds_toArray, List.set_cons_zero, List.set_cons_succ]
          refine wpAnyH_take (i := 14) (oi := { dst := some 28, op := .fieldAddr 25 (.tmp 3) 1, type := _, pos := _, after := _, guard := some (8, false) }) (v := undef) rfl (by kernel_rfl) (by kernel_rfl) (by kernel_rfl) (fun _ _ _ h => h) (Or.inr ⟨by rfl, rfl⟩) hHeld ?_
          try simp only [Act.put, List.setIfInBounds_toArray, List.set_cons_zero, List.set_cons_succ]
          refine wpAnyH_take (i := 15) (oi := { dst := some 29, op := .load 3 (.tmp 28), type := _, pos := _, after := _, guard := some (8, false) }) (v := undef) rfl (by kernel_rfl) (by kernel_rfl) (by kernel_rfl) (fun _ _ _ h => h) (Or.inr ⟨by rfl, rfl⟩) hHeld ?_
          try simp only [Act.put, List.setIfInBounds_toArray, List.set_cons_zero, List.set_cons_succ]
          refine wpAnyH_take (i := 16) (oi := { dst := some 30, op := .binOp .neq 3 (.tmp 27) (.tmp 29) 3, type := _, pos := _, after := _, guard := some (8, false) }) (v := undef) rfl (by kernel_rfl) (by kernel_rfl) (by kernel_rfl) (fun _ _ _ h => h) (Or.inr ⟨by rfl, rfl⟩) hHeld ?_
          try simp only [Act.put, List.setIfInBounds_toArray, List.set_cons_zero, List.set_cons_succ]
          refine wpAnyH_take (i := 17) (oi := { dst := some 31, op := .pick (.tmp 22) (.const (.bool true)) (.tmp 30), type := _, pos := _, after := _, guard := none }) (v := .bool true) rfl (by kernel_rfl) (by kernel_rfl) (by kernel_rfl) (fun _ _ _ h => h) (Or.inl ⟨by rfl, fun wh hSw => ?_⟩) hHeld ?_
          · (obtain ⟨⟨⟨s0, s1, s2, s3⟩, t0⟩, t1⟩ := hSw; go_simp)
          try simp only [Act.put, List.setIfInBounds_toArray, List.set_cons_zero, List.set_cons_succ]
          refine wpAnyH_done (by kernel_rfl) ?_ _
          go_wp2_with (at_builtin; refine wpList_append_own _ rfl (.tmp 32) (.tmp 37) 23 rfl w0.heap.size 25 i0 (.agg #[.int .i64 0, .int .i64 0, .int .i64 0, .bool false]) 4 32 Try.underlying23 HI.out HZ0.out HZ1.out HZ2.out rfl (by decide) _ _ _ rfl (HREL.out.own.alloc _) ⟨wr.heap.size, 0, none⟩ 1 1 (cvC y) rfl rfl (cell_four_new _ _ _) (by intro u hu; simp [cvC] at hu; rcases hu with rfl | rfl | rfl | rfl <;> rfl) (by have := HNL.out; unfold maxLen; omega) (by have := HNL.out; omega) (by have := HREL.out.bel.size; simp; omega) ?_; intro v2 w2 hown2 hgrow2 hnn2)
          have HR2 : Hid (OwnC w0 v2 (oth (xs.take (k + 1)) x) w2) := Lib.hid (by
            rw [HSN.out]
            exact HREL.out.drew.grow (o := .cells #[.int .i64 y.e, .int .i64 y.p, .int .i64 y.f, .bool y.b] 25) (zs := [y]) rfl (by rw [show csC [y] = cvC y from by simp [csC]]; exact hown2) hgrow2 (fun e => (hnn2.1 e).1))
          clear hown2 hgrow2 hnn2
          go_wp2
          go_roundw
          case rel => exact ⟨k + 1, by omega, by go_num, HR2.out⟩
          case measure => simp [intOf]; omega
    · have ek : k = m := by omega
      subst ek
      rw [take_all HM.out] at hrel
      obtain ⟨L, hL⟩ : ∃ L, L = oth xs x := ⟨_, rfl⟩
      rw [← hL] at hrel
      have HL := Lib.hid hL
      have hLn : L.length ≤ k := by have := oth_len xs x; have := HM.out; rw [hL]; omega
      obtain ⟨g, cp, rfl, hn1, hn2, hn3⟩ := hrel.form
      have HREL := Lib.hid hrel
      obtain ⟨n, hn⟩ : ∃ n, n = L.length := ⟨_, rfl⟩
      have HN := Lib.hid hn
      rw [← hn] at hn1 hLn ⊢
      unfold maxLen at hn2
      have HN2 := Lib.hid hn2
      clear hL hrel hn
      by_cases h4 : 4 ≤ n
      · have h4' : (4 : Int) ≤ (n : Int) := by omega
        obtain ⟨M, hM⟩ : ∃ M, M = cut4 L := ⟨_, rfl⟩
        have hM2 : M = L.drop 1 := by rw [hM]; unfold cut4; rw [if_pos (by have := HN.out; omega)]
        have HMM := Lib.hid hM
        have HMq : Hid (n - 1 = M.length) := Lib.hid (by rw [hM2, List.length_drop]; have := HN.out; omega)
        have HQL : Hid (n - 1 ≤ 1000000) := Lib.hid (by omega)
        have HCX : Hid (∀ W, Below wr.heap.size wr W → ∀ j u, (csC M)[j]? = some u → W.cell? ((⟨g, 4, none⟩ : Addr).add j) = some u) := Lib.hid (fun W hb j u hj => by
          rw [hM2, csC_drop1] at hj
          have h1 := HREL.out.own.cells (g := g) rfl (4 + j) u (by rw [List.getElem?_drop] at hj; exact hj)
          rw [add0] at h1
          rw [Addr.add_mid]
          exact (hb.cell (p := ⟨g, 4 + j, none⟩) (block_lt_of_cell h1)).trans h1)
        clear hM hM2
        have HXB : Hid (∀ W, Below wr.heap.size wr W → Four W w.heap.size 0 ⟨xe, xp, xf, xb⟩) := Lib.hid (fun W hb => by
          have h1 := HX.out.below (HREL.out.bel.trans (hb.mono HREL.out.bel.size)) HSZ.out
          rw [HXX.out] at h1
          exact h1)
        have HXr : Hid (Four wr.drew w.heap.size 0 ⟨xe, xp, xf, xb⟩) := Lib.hid (HXB.out _ (Below.refl _ _).drew)
        have HON : Hid (∀ u ∈ csC M, u.oneCell' = true) := Lib.hid (csC_one M)
        have hgl := (HREL.out.own.lt g rfl).2
        have fin : Hid (∀ (v2 : Value) (W : World), W.ownsRow wr.heap.size 25 4 v2 (0 + (n - 1) + 1) ([] ++ csC M ++ cvC ⟨xe, xp, xf, xb⟩) → Below wr.heap.size wr W → ∀ {v1 : Value}, (v2 = .slice none 0 0 ↔ v1 = .slice none 0 0 ∧ 1 = 0) → OwnC w v2 R W) := Lib.hid (fun v2 W ho hb v1 hnn => by
          have e : R = M ++ [x] := by rw [HRR.out]; unfold put4; rw [← HL.out, ← HMM.out]
          have hbw : Below w.heap.size w wr := HB0.out.trans (HREL.out.bel.mono HB0.out.size)
          refine ⟨?_, hbw.trans (hb.mono hbw.size), fun e => by have := (hnn.1 e).2; omega⟩
          rw [e, List.length_append, ← HMq.out, csC_snoc, HXX.out]
          have := own_lowerC ho hbw.size
          rw [List.nil_append, Nat.zero_add] at this
          exact this)
        go_wp2_with fail
        refine wp_region_held_drew (S := fun w' => Four w' w.heap.size 0 ⟨xe, xp, xf, xb⟩) (by kernel_rfl) HXr.out (fun hHeld => ?_)
        refine wpAnyH_take (i := 1) (oi := { dst := some 45, op := .move (.tmp 5), type := _, pos := _, after := _, guard := none }) (v := .slice (some ⟨g, 4, none⟩) (n - 1) (cp - 1)) rfl (by kernel_rfl) (by kernel_rfl) (by kernel_rfl) (fun _ _ _ h => h) (Or.inl ⟨by rfl, fun wh hSw => ?_⟩) hHeld ?_
        · (obtain ⟨s0, s1, s2, s3⟩ := hSw; simp only [Nat.zero_add] at s1 s2 s3; go_simp)
        try simp only [Act.put, List.setIfInBounds_toArray, List.set_cons_zero, List.set_cons_succ]
        refine wpAnyH_take (i := 3) (oi := { dst := some 47, op := .load 25 (.tmp 3), type := _, pos := _, after := _, guard := none }) (v := .agg #[.int .i64 xe, .int .i64 xp, .int .i64 xf, .bool xb]) rfl (by kernel_rfl) (by kernel_rfl) (by kernel_rfl) (fun _ _ _ h => h) (Or.inl ⟨by rfl, fun wh hSw => ?_⟩) hHeld ?_
        · (obtain ⟨s0, s1, s2, s3⟩ := hSw; simp only [Nat.zero_add] at s1 s2 s3; go_simp)
        try simp only [Act.put, List.setIfInBounds_toArray, List.set_cons_zero, List.set_cons_succ]
        refine anyH_gen _ (fun W0 hW0 => ?_)
        have HB0w : Hid (Below wr.heap.size wr W0) := Lib.hid (by rw [hW0]; exact (Below.refl _ _).drew)
        clear hW0
        refine wpAnyH_ready (rs := [0, 4]) (by kernel_rfl) (by simp) ?_
        refine AllReadyH.cons (o := { dst := some 44, op := .buildSlice 23 0 #[], type := _, pos := _, after := _, guard := none }) rfl (fun K hK => ?_) (AllReadyH.cons (o := { dst := some 48, op := .buildSlice 23 1 #[(0, .tmp 47)], type := _, pos := _, after := _, guard := none }) rfl (fun K hK => ?_) AllReadyH.nil)
        · go_simp
          refine hK.out _ _ (HXB.out _ ((HB0w.out).alloc (HB0w.out).size _)) (fun hHeld => ?_)
          clear hK K
          try simp only [Act.put, List.setIfInBounds_toArray, List.set_cons_zero, List.set_cons_succ]
          refine anyH_gen _ (fun W1 hW1 => ?_)
          have HBW1 : Hid (Below wr.heap.size wr W1) := Lib.hid (by rw [hW1]; exact (HB0w.out).alloc (HB0w.out).size _)
          have HOW1 : Hid (W1.ownsRow wr.heap.size 25 4 (.slice (some ⟨W0.heap.size, 0, none⟩) 0 0) 0 []) := Lib.hid (by rw [hW1]; exact World.ownsRow_made W0 #[] 0 (HB0w.out).size (Nat.zero_le _) rfl)
          clear hW1
          refine wpAnyH_ready (rs := [2, 4]) (by kernel_rfl) (by simp) ?_
          refine AllReadyH.cons (o := { dst := some 46, op := .call { callee := .builtin .append, args := #[.tmp 44, .tmp 45], argTypes := #[23, 23] }, type := _, pos := _, after := _, guard := none }) rfl (fun K hK => ?_) (AllReadyH.cons (o := { dst := some 48, op := .buildSlice 23 1 #[(0, .tmp 47)], type := _, pos := _, after := _, guard := none }) rfl (fun K hK => ?_) AllReadyH.nil)
          · rw [if_pos (by rfl)]
            refine wp_append_own W1 (.tmp 44) (.tmp 45) 23 rfl wr.heap.size 25 i0 (.agg #[.int .i64 0, .int .i64 0, .int .i64 0, .bool false]) 4 32 Try.underlying23 HI.out HZ0.out HZ1.out HZ2.out rfl (by decide) _ 0 [] rfl (HOW1.out) ⟨g, 4, none⟩ (n - 1) (cp - 1) (csC M) rfl (by rw [csC_len, HMq.out]) (HCX.out W1 (HBW1.out)) HON.out (by have := HQL.out; unfold maxLen; omega) (by have := HQL.out; omega) (HBW1.out).size ?_
            intro vW2 W2 hown hg hnn
            have HBW2 : Hid (Below wr.heap.size wr W2) := Lib.hid ((HBW1.out).grown hg (HBW1.out).size (fun q hq => ((HOW1.out).lt q hq).1))
            have HPW2 := Lib.hid hown
            clear hown hg hnn
            refine hK.out _ _ (HXB.out _ (HBW2.out)) (fun hHeld => ?_)
            clear hK K
            try simp only [Act.put, List.setIfInBounds_toArray, List.set_cons_zero, List.set_cons_succ]
            refine wpAnyH_ready (rs := [4]) (by kernel_rfl) (by simp) ?_
            refine AllReadyH.cons (o := { dst := some 48, op := .buildSlice 23 1 #[(0, .tmp 47)], type := _, pos := _, after := _, guard := none }) rfl (fun K hK => ?_) AllReadyH.nil
            go_simp
            refine hK.out _ _ (HXB.out _ ((HBW2.out).alloc (HBW2.out).size _)) (fun hHeld => ?_)
            clear hK K
            try simp only [Act.put, List.setIfInBounds_toArray, List.set_cons_zero, List.set_cons_succ]
            refine anyH_gen _ (fun W3 hW3 => ?_)
            have HBW3 : Hid (Below wr.heap.size wr W3) := Lib.hid (by rw [hW3]; exact (HBW2.out).alloc (HBW2.out).size _)
            have HQW3 : Hid (∀ j u, (cvC ⟨xe, xp, xf, xb⟩)[j]? = some u → W3.cell? ((⟨W2.heap.size, 0, none⟩ : Addr).add j) = some u) := Lib.hid (fun j u hj => by rw [hW3]; exact cell_four_new _ _ _ j u hj)
            have HLTW3 : Hid (W2.heap.size < W3.heap.size) := Lib.hid (by rw [hW3]; simp)
            have HOW3 : Hid (W3.ownsRow wr.heap.size 25 4 vW2 (0 + (n - 1)) ([] ++ csC M)) := Lib.hid (by rw [hW3]; exact (HPW2.out).alloc _)
            clear hW3
            refine wpAnyH_ready (rs := [5]) (by kernel_rfl) (by simp) ?_
            refine AllReadyH.cons (o := { dst := some 49, op := .call { callee := .builtin .append, args := #[.tmp 46, .tmp 48], argTypes := #[23, 23] }, type := _, pos := _, after := _, guard := none }) rfl (fun K hK => ?_) AllReadyH.nil
            rw [if_pos (by rfl)]
            refine wp_append_own W3 (.tmp 46) (.tmp 48) 23 rfl wr.heap.size 25 i0 (.agg #[.int .i64 0, .int .i64 0, .int .i64 0, .bool false]) 4 32 Try.underlying23 HI.out HZ0.out HZ1.out HZ2.out rfl (by decide) _ _ _ rfl (HOW3.out) ⟨W2.heap.size, 0, none⟩ 1 1 (cvC ⟨xe, xp, xf, xb⟩) rfl rfl (HQW3.out) (by intro u hu; simp [cvC] at hu; rcases hu with rfl | rfl | rfl | rfl <;> rfl) (by have := HQL.out; unfold maxLen; omega) (by have := HQL.out; omega) (HBW3.out).size ?_
            intro vW4 W4 hown hg hnn
            have HBW4 : Hid (Below wr.heap.size wr W4) := Lib.hid ((HBW3.out).grown hg (HBW3.out).size (fun q hq => ((HOW3.out).lt q hq).1))
            have HFW4 : Hid (OwnC w vW4 R W4) := Lib.hid (fin.out vW4 W4 hown HBW4.out hnn)
            clear hown hg hnn
            refine hK.out _ _ (HXB.out _ (HBW4.out)) (fun hHeld => ?_)
            clear hK K
            try simp only [Act.put, List.setIfInBounds_toArray, List.set_cons_zero, List.set_cons_succ]
            refine wpAnyH_take (i := 6) (oi := { dst := some 4, op := .assign (.tmp 49), type := _, pos := _, after := _, guard := none }) (v := vW4) rfl (by kernel_rfl) (by kernel_rfl) (by kernel_rfl) (fun _ _ _ h => h) (Or.inl ⟨by rfl, fun wh hSw => ?_⟩) hHeld ?_
            · (obtain ⟨s0, s1, s2, s3⟩ := hSw; simp only [Nat.zero_add] at s1 s2 s3; go_simp)
            try simp only [Act.put, List.setIfInBounds_toArray, List.set_cons_zero, List.set_cons_succ]
            refine wpAnyH_done (by kernel_rfl) ?_ _
            go_wp2
            go_ret
            exact ⟨_, rfl, HFW4.out⟩
          · go_simp
            refine hK.out _ _ (HXB.out _ ((HBW1.out).alloc (HBW1.out).size _)) (fun hHeld => ?_)
            clear hK K
            try simp only [Act.put, List.setIfInBounds_toArray, List.set_cons_zero, List.set_cons_succ]
            refine anyH_gen _ (fun W5 hW5 => ?_)
            have HBW5 : Hid (Below wr.heap.size wr W5) := Lib.hid (by rw [hW5]; exact (HBW1.out).alloc (HBW1.out).size _)
            have HQW5 : Hid (∀ j u, (cvC ⟨xe, xp, xf, xb⟩)[j]? = some u → W5.cell? ((⟨W1.heap.size, 0, none⟩ : Addr).add j) = some u) := Lib.hid (fun j u hj => by rw [hW5]; exact cell_four_new _ _ _ j u hj)
            have HLTW5 : Hid (W1.heap.size < W5.heap.size) := Lib.hid (by rw [hW5]; simp)
            have HOW5 : Hid (W5.ownsRow wr.heap.size 25 4 (.slice (some ⟨W0.heap.size, 0, none⟩) 0 0) 0 []) := Lib.hid (by rw [hW5]; exact (HOW1.out).alloc _)
            have HNW5 : Hid (W0.heap.size < W1.heap.size) := Lib.hid ((HOW1.out).lt _ rfl).2
            clear hW5
            refine wpAnyH_ready (rs := [2]) (by kernel_rfl) (by simp) ?_
            refine AllReadyH.cons (o := { dst := some 46, op := .call { callee := .builtin .append, args := #[.tmp 44, .tmp 45], argTypes := #[23, 23] }, type := _, pos := _, after := _, guard := none }) rfl (fun K hK => ?_) AllReadyH.nil
            rw [if_pos (by rfl)]
            refine wp_append_own W5 (.tmp 44) (.tmp 45) 23 rfl wr.heap.size 25 i0 (.agg #[.int .i64 0, .int .i64 0, .int .i64 0, .bool false]) 4 32 Try.underlying23 HI.out HZ0.out HZ1.out HZ2.out rfl (by decide) _ 0 [] rfl (HOW5.out) ⟨g, 4, none⟩ (n - 1) (cp - 1) (csC M) rfl (by rw [csC_len, HMq.out]) (HCX.out W5 (HBW5.out)) HON.out (by have := HQL.out; unfold maxLen; omega) (by have := HQL.out; omega) (HBW5.out).size ?_
            intro vW6 W6 hown hg hnn
            have HBW6 : Hid (Below wr.heap.size wr W6) := Lib.hid ((HBW5.out).grown hg (HBW5.out).size (fun q hq => ((HOW5.out).lt q hq).1))
            have HPW6 := Lib.hid hown
            have HQW6 : Hid (∀ j u, (cvC ⟨xe, xp, xf, xb⟩)[j]? = some u → W6.cell? ((⟨W1.heap.size, 0, none⟩ : Addr).add j) = some u) := Lib.hid (fun j u hj => by
              have := HQW5.out j u hj; rw [add0] at this ⊢; refine (World.cell?_of_block (hg.block _ (block_lt_of_cell this) (fun e => ?_))).trans this; injection e with e; try dsimp only at e
              have := HNW5.out; omega)
            clear hown hg hnn
            refine hK.out _ _ (HXB.out _ (HBW6.out)) (fun hHeld => ?_)
            clear hK K
            try simp only [Act.put, List.setIfInBounds_toArray, List.set_cons_zero, List.set_cons_succ]
            refine wpAnyH_ready (rs := [5]) (by kernel_rfl) (by simp) ?_
            refine AllReadyH.cons (o := { dst := some 49, op := .call { callee := .builtin .append, args := #[.tmp 46, .tmp 48], argTypes := #[23, 23] }, type := _, pos := _, after := _, guard := none }) rfl (fun K hK => ?_) AllReadyH.nil
            rw [if_pos (by rfl)]
            refine wp_append_own W6 (.tmp 46) (.tmp 48) 23 rfl wr.heap.size 25 i0 (.agg #[.int .i64 0, .int .i64 0, .int .i64 0, .bool false]) 4 32 Try.underlying23 HI.out HZ0.out HZ1.out HZ2.out rfl (by decide) _ _ _ rfl (HPW6.out) ⟨W1.heap.size, 0, none⟩ 1 1 (cvC ⟨xe, xp, xf, xb⟩) rfl rfl (HQW6.out) (by intro u hu; simp [cvC] at hu; rcases hu with rfl | rfl | rfl | rfl <;> rfl) (by have := HQL.out; unfold maxLen; omega) (by have := HQL.out; omega) (HBW6.out).size ?_
            intro vW7 W7 hown hg hnn
            have HBW7 : Hid (Below wr.heap.size wr W7) := Lib.hid ((HBW6.out).grown hg (HBW6.out).size (fun q hq => ((HPW6.out).lt q hq).1))
            have HFW7 : Hid (OwnC w vW7 R W7) := Lib.hid (fin.out vW7 W7 hown HBW7.out hnn)
            clear hown hg hnn
            refine hK.out _ _ (HXB.out _ (HBW7.out)) (fun hHeld => ?_)
            clear hK K
            try simp only [Act.put, List.setIfInBounds_toArray, List.set_cons_zero, List.set_cons_succ]
            refine wpAnyH_take (i := 6) (oi := { dst := some 4, op := .assign (.tmp 49), type := _, pos := _, after := _, guard := none }) (v := vW7) rfl (by kernel_rfl) (by kernel_rfl) (by kernel_rfl) (fun _ _ _ h => h) (Or.inl ⟨by rfl, fun wh hSw => ?_⟩) hHeld ?_
            · (obtain ⟨s0, s1, s2, s3⟩ := hSw; simp only [Nat.zero_add] at s1 s2 s3; go_simp)
            try simp only [Act.put, List.setIfInBounds_toArray, List.set_cons_zero, List.set_cons_succ]
            refine wpAnyH_done (by kernel_rfl) ?_ _
            go_wp2
            go_ret
            exact ⟨_, rfl, HFW7.out⟩
        · go_simp
          refine hK.out _ _ (HXB.out _ ((HB0w.out).alloc (HB0w.out).size _)) (fun hHeld => ?_)
          clear hK K
          try simp only [Act.put, List.setIfInBounds_toArray, List.set_cons_zero, List.set_cons_succ]
          refine anyH_gen _ (fun W8 hW8 => ?_)
          have HBW8 : Hid (Below wr.heap.size wr W8) := Lib.hid (by rw [hW8]; exact (HB0w.out).alloc (HB0w.out).size _)
          have HQW8 : Hid (∀ j u, (cvC ⟨xe, xp, xf, xb⟩)[j]? = some u → W8.cell? ((⟨W0.heap.size, 0, none⟩ : Addr).add j) = some u) := Lib.hid (fun j u hj => by rw [hW8]; exact cell_four_new _ _ _ j u hj)
          have HLTW8 : Hid (W0.heap.size < W8.heap.size) := Lib.hid (by rw [hW8]; simp)
          clear hW8
          refine wpAnyH_ready (rs := [0]) (by kernel_rfl) (by simp) ?_
          refine AllReadyH.cons (o := { dst := some 44, op := .buildSlice 23 0 #[], type := _, pos := _, after := _, guard := none }) rfl (fun K hK => ?_) AllReadyH.nil
          go_simp
          refine hK.out _ _ (HXB.out _ ((HBW8.out).alloc (HBW8.out).size _)) (fun hHeld => ?_)
          clear hK K
          try simp only [Act.put, List.setIfInBounds_toArray, List.set_cons_zero, List.set_cons_succ]
          refine anyH_gen _ (fun W9 hW9 => ?_)
          have HBW9 : Hid (Below wr.heap.size wr W9) := Lib.hid (by rw [hW9]; exact (HBW8.out).alloc (HBW8.out).size _)
          have HOW9 : Hid (W9.ownsRow wr.heap.size 25 4 (.slice (some ⟨W8.heap.size, 0, none⟩) 0 0) 0 []) := Lib.hid (by rw [hW9]; exact World.ownsRow_made W8 #[] 0 (HBW8.out).size (Nat.zero_le _) rfl)
          have HQW9 : Hid (∀ j u, (cvC ⟨xe, xp, xf, xb⟩)[j]? = some u → W9.cell? ((⟨W0.heap.size, 0, none⟩ : Addr).add j) = some u) := Lib.hid (fun j u hj => by rw [hW9]; have := HQW8.out j u hj; rw [add0] at this ⊢; exact (World.cell?_alloc_past _ _ _ (block_lt_of_cell this)).trans this)
          have HNW9 : Hid (W0.heap.size < W8.heap.size) := Lib.hid (HLTW8.out)
          clear hW9
          refine wpAnyH_ready (rs := [2]) (by kernel_rfl) (by simp) ?_
          refine AllReadyH.cons (o := { dst := some 46, op := .call { callee := .builtin .append, args := #[.tmp 44, .tmp 45], argTypes := #[23, 23] }, type := _, pos := _, after := _, guard := none }) rfl (fun K hK => ?_) AllReadyH.nil
          rw [if_pos (by rfl)]
          refine wp_append_own W9 (.tmp 44) (.tmp 45) 23 rfl wr.heap.size 25 i0 (.agg #[.int .i64 0, .int .i64 0, .int .i64 0, .bool false]) 4 32 Try.underlying23 HI.out HZ0.out HZ1.out HZ2.out rfl (by decide) _ 0 [] rfl (HOW9.out) ⟨g, 4, none⟩ (n - 1) (cp - 1) (csC M) rfl (by rw [csC_len, HMq.out]) (HCX.out W9 (HBW9.out)) HON.out (by have := HQL.out; unfold maxLen; omega) (by have := HQL.out; omega) (HBW9.out).size ?_
          intro vW10 W10 hown hg hnn
          have HBW10 : Hid (Below wr.heap.size wr W10) := Lib.hid ((HBW9.out).grown hg (HBW9.out).size (fun q hq => ((HOW9.out).lt q hq).1))
          have HPW10 := Lib.hid hown
          have HQW10 : Hid (∀ j u, (cvC ⟨xe, xp, xf, xb⟩)[j]? = some u → W10.cell? ((⟨W0.heap.size, 0, none⟩ : Addr).add j) = some u) := Lib.hid (fun j u hj => by
            have := HQW9.out j u hj; rw [add0] at this ⊢; refine (World.cell?_of_block (hg.block _ (block_lt_of_cell this) (fun e => ?_))).trans this; injection e with e; try dsimp only at e
            have := HNW9.out; omega)
          clear hown hg hnn
          refine hK.out _ _ (HXB.out _ (HBW10.out)) (fun hHeld => ?_)
          clear hK K
          try simp only [Act.put, List.setIfInBounds_toArray, List.set_cons_zero, List.set_cons_succ]
          refine wpAnyH_ready (rs := [5]) (by kernel_rfl) (by simp) ?_
          refine AllReadyH.cons (o := { dst := some 49, op := .call { callee := .builtin .append, args := #[.tmp 46, .tmp 48], argTypes := #[23, 23] }, type := _, pos := _, after := _, guard := none }) rfl (fun K hK => ?_) AllReadyH.nil
          rw [if_pos (by rfl)]
          refine wp_append_own W10 (.tmp 46) (.tmp 48) 23 rfl wr.heap.size 25 i0 (.agg #[.int .i64 0, .int .i64 0, .int .i64 0, .bool false]) 4 32 Try.underlying23 HI.out HZ0.out HZ1.out HZ2.out rfl (by decide) _ _ _ rfl (HPW10.out) ⟨W0.heap.size, 0, none⟩ 1 1 (cvC ⟨xe, xp, xf, xb⟩) rfl rfl (HQW10.out) (by intro u hu; simp [cvC] at hu; rcases hu with rfl | rfl | rfl | rfl <;> rfl) (by have := HQL.out; unfold maxLen; omega) (by have := HQL.out; omega) (HBW10.out).size ?_
          intro vW11 W11 hown hg hnn
          have HBW11 : Hid (Below wr.heap.size wr W11) := Lib.hid ((HBW10.out).grown hg (HBW10.out).size (fun q hq => ((HPW10.out).lt q hq).1))
          have HFW11 : Hid (OwnC w vW11 R W11) := Lib.hid (fin.out vW11 W11 hown HBW11.out hnn)
          clear hown hg hnn
          refine hK.out _ _ (HXB.out _ (HBW11.out)) (fun hHeld => ?_)
          clear hK K
          try simp only [Act.put, List.setIfInBounds_toArray, List.set_cons_zero, List.set_cons_succ]
          refine wpAnyH_take (i := 6) (oi := { dst := some 4, op := .assign (.tmp 49), type := _, pos := _, after := _, guard := none }) (v := vW11) rfl (by kernel_rfl) (by kernel_rfl) (by kernel_rfl) (fun _ _ _ h => h) (Or.inl ⟨by rfl, fun wh hSw => ?_⟩) hHeld ?_
          · (obtain ⟨s0, s1, s2, s3⟩ := hSw; simp only [Nat.zero_add] at s1 s2 s3; go_simp)
          try simp only [Act.put, List.setIfInBounds_toArray, List.set_cons_zero, List.set_cons_succ]
          refine wpAnyH_done (by kernel_rfl) ?_ _
          go_wp2
          go_ret
          exact ⟨_, rfl, HFW11.out⟩
      · have h4' : decide ((4 : Int) ≤ (n : Int)) = false := by simp; omega
        obtain ⟨M, hM⟩ : ∃ M, M = cut4 L := ⟨_, rfl⟩
        have hM2 : M = L := by rw [hM]; unfold cut4; rw [if_neg (by have := HN.out; omega)]
        have HMM := Lib.hid hM
        have HMq : Hid (n = M.length) := Lib.hid (by rw [hM2]; exact HN.out)
        have HQL : Hid (n ≤ 1000000) := Lib.hid (by omega)
        have HCX : Hid (∀ W, Below wr.heap.size wr W → ∀ j u, (csC M)[j]? = some u → W.cell? ((⟨g, 0, none⟩ : Addr).add j) = some u) := Lib.hid (fun W hb j u hj => by
          rw [hM2] at hj
          have h1 := HREL.out.own.cells (g := g) rfl j u hj
          rw [add0] at h1 ⊢
          exact (hb.cell (p := ⟨g, j, none⟩) (block_lt_of_cell h1)).trans h1)
        clear hM hM2
        have HXB : Hid (∀ W, Below wr.heap.size wr W → Four W w.heap.size 0 ⟨xe, xp, xf, xb⟩) := Lib.hid (fun W hb => by
          have h1 := HX.out.below (HREL.out.bel.trans (hb.mono HREL.out.bel.size)) HSZ.out
          rw [HXX.out] at h1
          exact h1)
        have HXr : Hid (Four wr.drew w.heap.size 0 ⟨xe, xp, xf, xb⟩) := Lib.hid (HXB.out _ (Below.refl _ _).drew)
        have HON : Hid (∀ u ∈ csC M, u.oneCell' = true) := Lib.hid (csC_one M)
        have hgl := (HREL.out.own.lt g rfl).2
        have fin : Hid (∀ (v2 : Value) (W : World), W.ownsRow wr.heap.size 25 4 v2 (0 + (n) + 1) ([] ++ csC M ++ cvC ⟨xe, xp, xf, xb⟩) → Below wr.heap.size wr W → ∀ {v1 : Value}, (v2 = .slice none 0 0 ↔ v1 = .slice none 0 0 ∧ 1 = 0) → OwnC w v2 R W) := Lib.hid (fun v2 W ho hb v1 hnn => by
          have e : R = M ++ [x] := by rw [HRR.out]; unfold put4; rw [← HL.out, ← HMM.out]
          have hbw : Below w.heap.size w wr := HB0.out.trans (HREL.out.bel.mono HB0.out.size)
          refine ⟨?_, hbw.trans (hb.mono hbw.size), fun e => by have := (hnn.1 e).2; omega⟩
          rw [e, List.length_append, ← HMq.out, csC_snoc, HXX.out]
          have := own_lowerC ho hbw.size
          rw [List.nil_append, Nat.zero_add] at this
          exact this)
        go_wp2_with fail
        refine wp_region_held_drew (S := fun w' => Four w' w.heap.size 0 ⟨xe, xp, xf, xb⟩) (by kernel_rfl) HXr.out (fun hHeld => ?_)
        refine wpAnyH_take (i := 1) (oi := { dst := some 45, op := .move (.tmp 5), type := _, pos := _, after := _, guard := none }) (v := .slice (some ⟨g, 0, none⟩) (n) (cp)) rfl (by kernel_rfl) (by kernel_rfl) (by kernel_rfl) (fun _ _ _ h => h) (Or.inl ⟨by rfl, fun wh hSw => ?_⟩) hHeld ?_
        · (obtain ⟨s0, s1, s2, s3⟩ := hSw; simp only [Nat.zero_add] at s1 s2 s3; go_simp)
        try simp only [Act.put, List.setIfInBounds_toArray, List.set_cons_zero, List.set_cons_succ]
        refine wpAnyH_take (i := 3) (oi := { dst := some 47, op := .load 25 (.tmp 3), type := _, pos := _, after := _, guard := none }) (v := .agg #[.int .i64 xe, .int .i64 xp, .int .i64 xf, .bool xb]) rfl (by kernel_rfl) (by kernel_rfl) (by kernel_rfl) (fun _ _ _ h => h) (Or.inl ⟨by rfl, fun wh hSw => ?_⟩) hHeld ?_
        · (obtain ⟨s0, s1, s2, s3⟩ := hSw; simp only [Nat.zero_add] at s1 s2 s3; go_simp)
        try simp only [Act.put, List.setIfInBounds_toArray, List.set_cons_zero, List.set_cons_succ]
        refine anyH_gen _ (fun W0 hW0 => ?_)
        have HB0w : Hid (Below wr.heap.size wr W0) := Lib.hid (by rw [hW0]; exact (Below.refl _ _).drew)
        clear hW0
        refine wpAnyH_ready (rs := [0, 4]) (by kernel_rfl) (by simp) ?_
        refine AllReadyH.cons (o := { dst := some 44, op := .buildSlice 23 0 #[], type := _, pos := _, after := _, guard := none }) rfl (fun K hK => ?_) (AllReadyH.cons (o := { dst := some 48, op := .buildSlice 23 1 #[(0, .tmp 47)], type := _, pos := _, after := _, guard := none }) rfl (fun K hK => ?_) AllReadyH.nil)
        · go_simp
          refine hK.out _ _ (HXB.out _ ((HB0w.out).alloc (HB0w.out).size _)) (fun hHeld => ?_)
          clear hK K
          try simp only [Act.put, List.setIfInBounds_toArray, List.set_cons_zero, List.set_cons_succ]
          refine anyH_gen _ (fun W1 hW1 => ?_)
          have HBW1 : Hid (Below wr.heap.size wr W1) := Lib.hid (by rw [hW1]; exact (HB0w.out).alloc (HB0w.out).size _)
          have HOW1 : Hid (W1.ownsRow wr.heap.size 25 4 (.slice (some ⟨W0.heap.size, 0, none⟩) 0 0) 0 []) := Lib.hid (by rw [hW1]; exact World.ownsRow_made W0 #[] 0 (HB0w.out).size (Nat.zero_le _) rfl)
          clear hW1
          refine wpAnyH_ready (rs := [2, 4]) (by kernel_rfl) (by simp) ?_
          refine AllReadyH.cons (o := { dst := some 46, op := .call { callee := .builtin .append, args := #[.tmp 44, .tmp 45], argTypes := #[23, 23] }, type := _, pos := _, after := _, guard := none }) rfl (fun K hK => ?_) (AllReadyH.cons (o := { dst := some 48, op := .buildSlice 23 1 #[(0, .tmp 47)], type := _, pos := _, after := _, guard := none }) rfl (fun K hK => ?_) AllReadyH.nil)
          · rw [if_pos (by rfl)]
            refine wp_append_own W1 (.tmp 44) (.tmp 45) 23 rfl wr.heap.size 25 i0 (.agg #[.int .i64 0, .int .i64 0, .int .i64 0, .bool false]) 4 32 Try.underlying23 HI.out HZ0.out HZ1.out HZ2.out rfl (by decide) _ 0 [] rfl (HOW1.out) ⟨g, 0, none⟩ (n) (cp) (csC M) rfl (by rw [csC_len, HMq.out]) (HCX.out W1 (HBW1.out)) HON.out (by have := HQL.out; unfold maxLen; omega) (by have := HQL.out; omega) (HBW1.out).size ?_
            intro vW2 W2 hown hg hnn
            have HBW2 : Hid (Below wr.heap.size wr W2) := Lib.hid ((HBW1.out).grown hg (HBW1.out).size (fun q hq => ((HOW1.out).lt q hq).1))
            have HPW2 := Lib.hid hown
            clear hown hg hnn
            refine hK.out _ _ (HXB.out _ (HBW2.out)) (fun hHeld => ?_)
            clear hK K
            try simp only [Act.put, List.setIfInBounds_toArray, List.set_cons_zero, List.set_cons_succ]
            refine wpAnyH_ready (rs := [4]) (by kernel_rfl) (by simp) ?_
            refine AllReadyH.cons (o := { dst := some 48, op := .buildSlice 23 1 #[(0, .tmp 47)], type := _, pos := _, after := _, guard := none }) rfl (fun K hK => ?_) AllReadyH.nil
            go_simp
            refine hK.out _ _ (HXB.out _ ((HBW2.out).alloc (HBW2.out).size _)) (fun hHeld => ?_)
            clear hK K
            try simp only [Act.put, List.setIfInBounds_toArray, List.set_cons_zero, List.set_cons_succ]
            refine anyH_gen _ (fun W3 hW3 => ?_)
            have HBW3 : Hid (Below wr.heap.size wr W3) := Lib.hid (by rw [hW3]; exact (HBW2.out).alloc (HBW2.out).size _)
            have HQW3 : Hid (∀ j u, (cvC ⟨xe, xp, xf, xb⟩)[j]? = some u → W3.cell? ((⟨W2.heap.size, 0, none⟩ : Addr).add j) = some u) := Lib.hid (fun j u hj => by rw [hW3]; exact cell_four_new _ _ _ j u hj)
            have HLTW3 : Hid (W2.heap.size < W3.heap.size) := Lib.hid (by rw [hW3]; simp)
            have HOW3 : Hid (W3.ownsRow wr.heap.size 25 4 vW2 (0 + (n)) ([] ++ csC M)) := Lib.hid (by rw [hW3]; exact (HPW2.out).alloc _)
            clear hW3
            refine wpAnyH_ready (rs := [5]) (by kernel_rfl) (by simp) ?_
            refine AllReadyH.cons (o := { dst := some 49, op := .call { callee := .builtin .append, args := #[.tmp 46, .tmp 48], argTypes := #[23, 23] }, type := _, pos := _, after := _, guard := none }) rfl (fun K hK => ?_) AllReadyH.nil
            rw [if_pos (by rfl)]
            refine wp_append_own W3 (.tmp 46) (.tmp 48) 23 rfl wr.heap.size 25 i0 (.agg #[.int .i64 0, .int .i64 0, .int .i64 0, .bool false]) 4 32 Try.underlying23 HI.out HZ0.out HZ1.out HZ2.out rfl (by decide) _ _ _ rfl (HOW3.out) ⟨W2.heap.size, 0, none⟩ 1 1 (cvC ⟨xe, xp, xf, xb⟩) rfl rfl (HQW3.out) (by intro u hu; simp [cvC] at hu; rcases hu with rfl | rfl | rfl | rfl <;> rfl) (by have := HQL.out; unfold maxLen; omega) (by have := HQL.out; omega) (HBW3.out).size ?_
            intro vW4 W4 hown hg hnn
            have HBW4 : Hid (Below wr.heap.size wr W4) := Lib.hid ((HBW3.out).grown hg (HBW3.out).size (fun q hq => ((HOW3.out).lt q hq).1))
            have HFW4 : Hid (OwnC w vW4 R W4) := Lib.hid (fin.out vW4 W4 hown HBW4.out hnn)
            clear hown hg hnn
            refine hK.out _ _ (HXB.out _ (HBW4.out)) (fun hHeld => ?_)
            clear hK K
            try simp only [Act.put, List.setIfInBounds_toArray, List.set_cons_zero, List.set_cons_succ]
            refine wpAnyH_take (i := 6) (oi := { dst := some 4, op := .assign (.tmp 49), type := _, pos := _, after := _, guard := none }) (v := vW4) rfl (by kernel_rfl) (by kernel_rfl) (by kernel_rfl) (fun _ _ _ h => h) (Or.inl ⟨by rfl, fun wh hSw => ?_⟩) hHeld ?_
            · (obtain ⟨s0, s1, s2, s3⟩ := hSw; simp only [Nat.zero_add] at s1 s2 s3; go_simp)
            try simp only [Act.put, List.setIfInBounds_toArray, List.set_cons_zero, List.set_cons_succ]
            refine wpAnyH_done (by kernel_rfl) ?_ _
            go_wp2
            go_ret
            exact ⟨_, rfl, HFW4.out⟩
          · go_simp
            refine hK.out _ _ (HXB.out _ ((HBW1.out).alloc (HBW1.out).size _)) (fun hHeld => ?_)
            clear hK K
            try simp only [Act.put, List.setIfInBounds_toArray, List.set_cons_zero, List.set_cons_succ]
            refine anyH_gen _ (fun W5 hW5 => ?_)
            have HBW5 : Hid (Below wr.heap.size wr W5) := Lib.hid (by rw [hW5]; exact (HBW1.out).alloc (HBW1.out).size _)
            have HQW5 : Hid (∀ j u, (cvC ⟨xe, xp, xf, xb⟩)[j]? = some u → W5.cell? ((⟨W1.heap.size, 0, none⟩ : Addr).add j) = some u) := Lib.hid (fun j u hj => by rw [hW5]; exact cell_four_new _ _ _ j u hj)
            have HLTW5 : Hid (W1.heap.size < W5.heap.size) := Lib.hid (by rw [hW5]; simp)
            have HOW5 : Hid (W5.ownsRow wr.heap.size 25 4 (.slice (some ⟨W0.heap.size, 0, none⟩) 0 0) 0 []) := Lib.hid (by rw [hW5]; exact (HOW1.out).alloc _)
            have HNW5 : Hid (W0.heap.size < W1.heap.size) := Lib.hid ((HOW1.out).lt _ rfl).2
            clear hW5
            refine wpAnyH_ready (rs := [2]) (by kernel_rfl) (by simp) ?_
            refine AllReadyH.cons (o := { dst := some 46, op := .call { callee := .builtin .append, args := #[.tmp 44, .tmp 45], argTypes := #[23, 23] }, type := _, pos := _, after := _, guard := none }) rfl (fun K hK => ?_) AllReadyH.nil
            rw [if_pos (by rfl)]
            refine wp_append_own W5 (.tmp 44) (.tmp 45) 23 rfl wr.heap.size 25 i0 (.agg #[.int .i64 0, .int .i64 0, .int .i64 0, .bool false]) 4 32 Try.underlying23 HI.out HZ0.out HZ1.out HZ2.out rfl (by decide) _ 0 [] rfl (HOW5.out) ⟨g, 0, none⟩ (n) (cp) (csC M) rfl (by rw [csC_len, HMq.out]) (HCX.out W5 (HBW5.out)) HON.out (by have := HQL.out; unfold maxLen; omega) (by have := HQL.out; omega) (HBW5.out).size ?_
            intro vW6 W6 hown hg hnn
            have HBW6 : Hid (Below wr.heap.size wr W6) := Lib.hid ((HBW5.out).grown hg (HBW5.out).size (fun q hq => ((HOW5.out).lt q hq).1))
            have HPW6 := Lib.hid hown
            have HQW6 : Hid (∀ j u, (cvC ⟨xe, xp, xf, xb⟩)[j]? = some u → W6.cell? ((⟨W1.heap.size, 0, none⟩ : Addr).add j) = some u) := Lib.hid (fun j u hj => by
              have := HQW5.out j u hj; rw [add0] at this ⊢; refine (World.cell?_of_block (hg.block _ (block_lt_of_cell this) (fun e => ?_))).trans this; injection e with e; try dsimp only at e
              have := HNW5.out; omega)
            clear hown hg hnn
            refine hK.out _ _ (HXB.out _ (HBW6.out)) (fun hHeld => ?_)
            clear hK K
            try simp only [Act.put, List.setIfInBounds_toArray, List.set_cons_zero, List.set_cons_succ]
            refine wpAnyH_ready (rs := [5]) (by kernel_rfl) (by simp) ?_
            refine AllReadyH.cons (o := { dst := some 49, op := .call { callee := .builtin .append, args := #[.tmp 46, .tmp 48], argTypes := #[23, 23] }, type := _, pos := _, after := _, guard := none }) rfl (fun K hK => ?_) AllReadyH.nil
            rw [if_pos (by rfl)]
            refine wp_append_own W6 (.tmp 46) (.tmp 48) 23 rfl wr.heap.size 25 i0 (.agg #[.int .i64 0, .int .i64 0, .int .i64 0, .bool false]) 4 32 Try.underlying23 HI.out HZ0.out HZ1.out HZ2.out rfl (by decide) _ _ _ rfl (HPW6.out) ⟨W1.heap.size, 0, none⟩ 1 1 (cvC ⟨xe, xp, xf, xb⟩) rfl rfl (HQW6.out) (by intro u hu; simp [cvC] at hu; rcases hu with rfl | rfl | rfl | rfl <;> rfl) (by have := HQL.out; unfold maxLen; omega) (by have := HQL.out; omega) (HBW6.out).size ?_
            intro vW7 W7 hown hg hnn
            have HBW7 : Hid (Below wr.heap.size wr W7) := Lib.hid ((HBW6.out).grown hg (HBW6.out).size (fun q hq => ((HPW6.out).lt q hq).1))
            have HFW7 : Hid (OwnC w vW7 R W7) := Lib.hid (fin.out vW7 W7 hown HBW7.out hnn)
            clear hown hg hnn
            refine hK.out _ _ (HXB.out _ (HBW7.out)) (fun hHeld => ?_)
            clear hK K
            try simp only [Act.put, List.setIfInBounds_toArray, List.set_cons_zero, List.set_cons_succ]
            refine wpAnyH_take (i := 6) (oi := { dst := some 4, op := .assign (.tmp 49), type := _, pos := _, after := _, guard := none }) (v := vW7) rfl (by kernel_rfl) (by kernel_rfl) (by kernel_rfl) (fun _ _ _ h => h) (Or.inl ⟨by rfl, fun wh hSw => ?_⟩) hHeld ?_
            · (obtain ⟨s0, s1, s2, s3⟩ := hSw; simp only [Nat.zero_add] at s1 s2 s3; go_simp)
            try simp only [Act.put, List.setIfInBounds_toArray, List.set_cons_zero, List.set_cons_succ]
            refine wpAnyH_done (by kernel_rfl) ?_ _
            go_wp2
            go_ret
            exact ⟨_, rfl, HFW7.out⟩
        · go_simp
          refine hK.out _ _ (HXB.out _ ((HB0w.out).alloc (HB0w.out).size _)) (fun hHeld => ?_)
          clear hK K
          try simp only [Act.put, List.setIfInBounds_toArray, List.set_cons_zero, List.set_cons_succ]
          refine anyH_gen _ (fun W8 hW8 => ?_)
          have HBW8 : Hid (Below wr.heap.size wr W8) := Lib.hid (by rw [hW8]; exact (HB0w.out).alloc (HB0w.out).size _)
          have HQW8 : Hid (∀ j u, (cvC ⟨xe, xp, xf, xb⟩)[j]? = some u → W8.cell? ((⟨W0.heap.size, 0, none⟩ : Addr).add j) = some u) := Lib.hid (fun j u hj => by rw [hW8]; exact cell_four_new _ _ _ j u hj)
          have HLTW8 : Hid (W0.heap.size < W8.heap.size) := Lib.hid (by rw [hW8]; simp)
          clear hW8
          refine wpAnyH_ready (rs := [0]) (by kernel_rfl) (by simp) ?_
          refine AllReadyH.cons (o := { dst := some 44, op := .buildSlice 23 0 #[], type := _, pos := _, after := _, guard := none }) rfl (fun K hK => ?_) AllReadyH.nil
          go_simp
          refine hK.out _ _ (HXB.out _ ((HBW8.out).alloc (HBW8.out).size _)) (fun hHeld => ?_)
          clear hK K
          try simp only [Act.put, List.setIfInBounds_toArray, List.set_cons_zero, List.set_cons_succ]
          refine anyH_gen _ (fun W9 hW9 => ?_)
          have HBW9 : Hid (Below wr.heap.size wr W9) := Lib.hid (by rw [hW9]; exact (HBW8.out).alloc (HBW8.out).size _)
          have HOW9 : Hid (W9.ownsRow wr.heap.size 25 4 (.slice (some ⟨W8.heap.size, 0, none⟩) 0 0) 0 []) := Lib.hid (by rw [hW9]; exact World.ownsRow_made W8 #[] 0 (HBW8.out).size (Nat.zero_le _) rfl)
          have HQW9 : Hid (∀ j u, (cvC ⟨xe, xp, xf, xb⟩)[j]? = some u → W9.cell? ((⟨W0.heap.size, 0, none⟩ : Addr).add j) = some u) := Lib.hid (fun j u hj => by rw [hW9]; have := HQW8.out j u hj; rw [add0] at this ⊢; exact (World.cell?_alloc_past _ _ _ (block_lt_of_cell this)).trans this)
          have HNW9 : Hid (W0.heap.size < W8.heap.size) := Lib.hid (HLTW8.out)
          clear hW9
          refine wpAnyH_ready (rs := [2]) (by kernel_rfl) (by simp) ?_
          refine AllReadyH.cons (o := { dst := some 46, op := .call { callee := .builtin .append, args := #[.tmp 44, .tmp 45], argTypes := #[23, 23] }, type := _, pos := _, after := _, guard := none }) rfl (fun K hK => ?_) AllReadyH.nil
          rw [if_pos (by rfl)]
          refine wp_append_own W9 (.tmp 44) (.tmp 45) 23 rfl wr.heap.size 25 i0 (.agg #[.int .i64 0, .int .i64 0, .int .i64 0, .bool false]) 4 32 Try.underlying23 HI.out HZ0.out HZ1.out HZ2.out rfl (by decide) _ 0 [] rfl (HOW9.out) ⟨g, 0, none⟩ (n) (cp) (csC M) rfl (by rw [csC_len, HMq.out]) (HCX.out W9 (HBW9.out)) HON.out (by have := HQL.out; unfold maxLen; omega) (by have := HQL.out; omega) (HBW9.out).size ?_
          intro vW10 W10 hown hg hnn
          have HBW10 : Hid (Below wr.heap.size wr W10) := Lib.hid ((HBW9.out).grown hg (HBW9.out).size (fun q hq => ((HOW9.out).lt q hq).1))
          have HPW10 := Lib.hid hown
          have HQW10 : Hid (∀ j u, (cvC ⟨xe, xp, xf, xb⟩)[j]? = some u → W10.cell? ((⟨W0.heap.size, 0, none⟩ : Addr).add j) = some u) := Lib.hid (fun j u hj => by
            have := HQW9.out j u hj; rw [add0] at this ⊢; refine (World.cell?_of_block (hg.block _ (block_lt_of_cell this) (fun e => ?_))).trans this; injection e with e; try dsimp only at e
            have := HNW9.out; omega)
          clear hown hg hnn
          refine hK.out _ _ (HXB.out _ (HBW10.out)) (fun hHeld => ?_)
          clear hK K
          try simp only [Act.put, List.setIfInBounds_toArray, List.set_cons_zero, List.set_cons_succ]
          refine wpAnyH_ready (rs := [5]) (by kernel_rfl) (by simp) ?_
          refine AllReadyH.cons (o := { dst := some 49, op := .call { callee := .builtin .append, args := #[.tmp 46, .tmp 48], argTypes := #[23, 23] }, type := _, pos := _, after := _, guard := none }) rfl (fun K hK => ?_) AllReadyH.nil
          rw [if_pos (by rfl)]
          refine wp_append_own W10 (.tmp 46) (.tmp 48) 23 rfl wr.heap.size 25 i0 (.agg #[.int .i64 0, .int .i64 0, .int .i64 0, .bool false]) 4 32 Try.underlying23 HI.out HZ0.out HZ1.out HZ2.out rfl (by decide) _ _ _ rfl (HPW10.out) ⟨W0.heap.size, 0, none⟩ 1 1 (cvC ⟨xe, xp, xf, xb⟩) rfl rfl (HQW10.out) (by intro u hu; simp [cvC] at hu; rcases hu with rfl | rfl | rfl | rfl <;> rfl) (by have := HQL.out; unfold maxLen; omega) (by have := HQL.out; omega) (HBW10.out).size ?_
          intro vW11 W11 hown hg hnn
          have HBW11 : Hid (Below wr.heap.size wr W11) := Lib.hid ((HBW10.out).grown hg (HBW10.out).size (fun q hq => ((HPW10.out).lt q hq).1))
          have HFW11 : Hid (OwnC w vW11 R W11) := Lib.hid (fin.out vW11 W11 hown HBW11.out hnn)
          clear hown hg hnn
          refine hK.out _ _ (HXB.out _ (HBW11.out)) (fun hHeld => ?_)
          clear hK K
          try simp only [Act.put, List.setIfInBounds_toArray, List.set_cons_zero, List.set_cons_succ]
          refine wpAnyH_take (i := 6) (oi := { dst := some 4, op := .assign (.tmp 49), type := _, pos := _, after := _, guard := none }) (v := vW11) rfl (by kernel_rfl) (by kernel_rfl) (by kernel_rfl) (fun _ _ _ h => h) (Or.inl ⟨by rfl, fun wh hSw => ?_⟩) hHeld ?_
          · (obtain ⟨s0, s1, s2, s3⟩ := hSw; simp only [Nat.zero_add] at s1 s2 s3; go_simp)
          try simp only [Act.put, List.setIfInBounds_toArray, List.set_cons_zero, List.set_cons_succ]
          refine wpAnyH_done (by kernel_rfl) ?_ _
          go_wp2
          go_ret
          exact ⟨_, rfl, HFW11.out⟩
end Go.Proofs.Ytklclcbhghjjfaa
