/- Valid translations and caches: what the reference answers. -/
import Derived.Test.YtklclcbhghjjfaaCs
import Derived.Deep.RegionWith
import Derived.Deep.RegionHeld3
namespace Go.Proofs.Ytklclcbhghjjfaa
open Go.ChangeShapes Go.WideShapes Go.ChangeAt Go.RowKit
set_option linter.unusedVariables false

def inR (x lo hi : Int) : Bool := decide (lo ≤ x ∧ x ≤ hi)
theorem l6In_any (w : World) (x lo hi : Int) : Calls Try.prog 55 #[.int .i64 x, .int .i64 lo, .int .i64 hi] w fun e w' => e = .returned (.bool (inR x lo hi)) ∧ w = w' := by
  unfold inR
  by_cases h : lo ≤ x ∧ x ≤ hi
  · rw [decide_eq_true h]
    obtain ⟨h1, h2⟩ := h
    go_enter Try.func55, Try.ntmps55
    go_wp2
    go_ret
    exact ⟨rfl, rfl⟩
  · rw [decide_eq_false h]
    by_cases h1 : lo ≤ x
    · have h2 : decide (x ≤ hi) = false := by simp; omega
      clear h
      go_enter Try.func55, Try.ntmps55
      go_wp2
      go_ret
      exact ⟨rfl, rfl⟩
    · have h2 : decide (lo ≤ x) = false := by simpa using h1
      clear h
      go_enter Try.func55, Try.ntmps55
      go_wp2
      go_ret
      exact ⟨rfl, rfl⟩
theorem l4Env_any (w : World) (x : Int) : Calls Try.prog 54 #[.int .i64 x] w fun e w' => e = .returned (.bool (inR x 0 2)) ∧ w = w' := by
  go_enter Try.func54, Try.ntmps54
  go_wp2_with (go_at_call 55; refine (l6In_any _ _ _ _).mono ?_; rintro e w' ⟨rfl, rfl⟩)
  go_ret
  exact ⟨rfl, rfl⟩
theorem l1Frame_any4 (w : World) (x : Int) : Calls Try.prog 56 #[.int .i64 x] w fun e w' => e = .returned (.bool (inR x 0 11)) ∧ w = w' := by
  go_enter Try.func56, Try.ntmps56
  go_wp2_with (go_at_call 55; refine (l6In_any _ _ _ _).mono ?_; rintro e w' ⟨rfl, rfl⟩)
  go_ret
  exact ⟨rfl, rfl⟩
/-- a valid translation -/
def cvOk (x : CV) : Bool := inR x.e 0 2 && inR x.p 0 15 && inR x.f 0 11
/-- an answer that is a bool; nothing that was there changes -/
def BoolRes (w : World) (b : Bool) (e : Ending) (w' : World) : Prop := e = .returned (.bool b) ∧ Below w.heap.size w w'
set_option maxRecDepth 100000 in
theorem l4Cached_any (w : World) (x : CV) : Calls Try.prog 44 #[cvV x] w (BoolRes w (cvOk x)) := by
  obtain ⟨xe, xp, xf, xb⟩ := x
  unfold cvOk
  have hB : Below w.heap.size w (w.alloc (.cells #[.int .i64 xe, .int .i64 xp, .int .i64 xf, .bool xb] 25)) := (Below.refl _ _).alloc (Nat.le_refl _) _
  have H1 := fun w => l4Env_any w xe
  have H2 := fun w => l6In_any w xp 0 15
  have H3 := fun w => l1Frame_any4 w xf
  have HB := Lib.hid hB
  clear hB
  cases h1 : inR xe 0 2
  · rw [h1] at H1
    clear h1
    go_enter Try.func44, Try.ntmps44
    go_wp2_with fail
    refine (H1 _).mono ?_
    rintro e w' ⟨rfl, rfl⟩
    go_wp2
    go_ret
    exact ⟨rfl, HB.out⟩
  · rw [h1] at H1
    clear h1
    cases h2 : inR xp 0 15
    · rw [h2] at H2
      clear h2
      go_enter Try.func44, Try.ntmps44
      go_wp2_with fail
      refine (H1 _).mono ?_
      rintro e w' ⟨rfl, rfl⟩
      go_wp2_with fail
      refine (H2 _).mono ?_
      rintro e w' ⟨rfl, rfl⟩
      go_wp2
      go_ret
      exact ⟨rfl, HB.out⟩
    · rw [h2] at H2
      clear h2
      go_enter Try.func44, Try.ntmps44
      go_wp2_with fail
      refine (H1 _).mono ?_
      rintro e w' ⟨rfl, rfl⟩
      go_wp2_with fail
      refine (H2 _).mono ?_
      rintro e w' ⟨rfl, rfl⟩
      go_wp2_with fail
      refine (H3 _).mono ?_
      rintro e w' ⟨rfl, rfl⟩
      go_wp2
      go_ret
      exact ⟨rfl, HB.out⟩
/-- a valid cache, as the reference goes about it -/
def cOk (xs : List CV) : Bool := decide ((∀ i, i < xs.length → cvOk (xs.getD i c0) = true ∧ (i : Int) ≤ fnd xs (xs.getD i c0).e (xs.getD i c0).p) ∧ xs.length ≤ 4)
set_option maxRecDepth 100000 in
theorem cValid_any (w : World) (v : Value) (xs : List CV) (h : Cs w v xs) :
    Calls Try.prog 23 #[v] w (BoolRes w (cOk xs)) := by
  have hcs := h
  obtain ⟨a, cap, rfl, h1, h2, h3⟩ := h
  unfold maxLen at h2
  obtain ⟨R, HRR⟩ : ∃ R : Bool, Hid (R = cOk xs) := ⟨_, Lib.hid rfl⟩
  rw [← HRR.out]
  have H3 := Lib.hid h3
  have HCS := Lib.hid hcs
  clear h3 hcs
  obtain ⟨m, hm⟩ : ∃ m, m = xs.length := ⟨_, rfl⟩
  have HM := Lib.hid hm
  rw [← hm] at h1 HCS ⊢
  clear hm
  go_enter Try.func23, Try.ntmps23
  go_wp2
  go_loopw [3] (fun i wr => ∃ k : Nat, k ≤ m ∧ i = .int .i64 k ∧ Hid (Below w.heap.size w wr) ∧ Hid (∀ j, j < k → cvOk (xs.getD j c0) = true ∧ (j : Int) ≤ fnd xs (xs.getD j c0).e (xs.getD j c0).p)) (fun i _ => m - (intOf i).toNat)
  case atStart => exact ⟨0, Nat.zero_le _, rfl, Lib.hid (Below.refl _ _), Lib.hid (fun j hj => by omega)⟩
  case round =>
    obtain ⟨k, hk, rfl, HBW, HYES⟩ := hrel
    by_cases hlt : k < m
    · obtain ⟨b, o, rfl, hf0⟩ := H3.out k (by have := HM.out; omega)
      obtain ⟨x, hx⟩ : ∃ x, x = xs.getD k c0 := ⟨_, rfl⟩
      rw [← hx] at hf0
      have HX := Lib.hid hx
      clear hx
      have hbl := block_lt_of_cell hf0.c0
      have hf := hf0.below HBW.out hbl
      have HF0 := Lib.hid hf0
      clear hf0
      obtain ⟨g0, g1, g2, g3⟩ := hf
      have HC1 := Lib.hid (l4Cached_any wr.drew x)
      have HKM := Lib.hid hk
      cases hok : cvOk x
      · rw [hok] at HC1
        have HR : Hid (R = false) := Lib.hid (by
          rw [HRR.out]
          refine decide_eq_false (fun hh => ?_)
          have := (hh.1 k (by have := HM.out; omega)).1
          rw [← HX.out, hok] at this
          cases this)
        clear hok hk
        go_wp2_with fail
        refine wp_region_held_drew (S := fun w' => Four w' b (o + k * 4) x) (by kernel_rfl) ⟨g0, g1, g2, g3⟩ (fun hHeld => ?_)
        refine wpAnyH_take (i := 0) (oi := { dst := some 10, op := .move (.tmp 0), type := _, pos := _, after := _, guard := none }) (v := .slice (some ⟨b, o, none⟩) m cap) rfl (by kernel_rfl) (by kernel_rfl) (by kernel_rfl) (fun _ _ _ h => h) (Or.inl ⟨by rfl, fun wh hSw => ?_⟩) hHeld ?_
        · (obtain ⟨s0, s1, s2, s3⟩ := hSw; go_simp)
        try simp only [Act.put, List.setIfInBounds_toArray, List.set_cons_zero, List.set_cons_succ]
        refine wpAnyH_take (i := 1) (oi := { dst := some 11, op := .move (.tmp 3), type := _, pos := _, after := _, guard := none }) (v := .int .i64 (k : Int)) rfl (by kernel_rfl) (by kernel_rfl) (by kernel_rfl) (fun _ _ _ h => h) (Or.inl ⟨by rfl, fun wh hSw => ?_⟩) hHeld ?_
        · (obtain ⟨s0, s1, s2, s3⟩ := hSw; go_simp)
        try simp only [Act.put, List.setIfInBounds_toArray, List.set_cons_zero, List.set_cons_succ]
        refine wpAnyH_take (i := 2) (oi := { dst := some 12, op := .indexAddr 23 (.tmp 10) (.tmp 11), type := _, pos := _, after := _, guard := none }) (v := .pointer (some ⟨b, o + k * 4, none⟩)) rfl (by kernel_rfl) (by kernel_rfl) (by kernel_rfl) (fun _ _ _ h => h) (Or.inl ⟨by rfl, fun wh hSw => ?_⟩) hHeld ?_
        · (obtain ⟨s0, s1, s2, s3⟩ := hSw; go_simp)
        try simp only [Act.put, List.setIfInBounds_toArray, List.set_cons_zero, List.set_cons_succ]
        refine wpAnyH_take (i := 3) (oi := { dst := some 13, op := .load 25 (.tmp 12), type := _, pos := _, after := _, guard := none }) (v := cvV x) rfl (by kernel_rfl) (by kernel_rfl) (by kernel_rfl) (fun _ _ _ h => h) (Or.inl ⟨by rfl, fun wh hSw => ?_⟩) hHeld ?_
        · (obtain ⟨s0, s1, s2, s3⟩ := hSw; go_simp)
        try simp only [Act.put, List.setIfInBounds_toArray, List.set_cons_zero, List.set_cons_succ]
        refine wpAnyH_ready (rs := [4]) (by kernel_rfl) (by simp) ?_
        refine AllReadyH.cons (o := { dst := some 14, op := .call { callee := .value (.func 44), args := #[.tmp 13], argTypes := #[25] }, type := _, pos := _, after := _, guard := none }) rfl (fun K hK => ?_) AllReadyH.nil
        go_simp
        refine HC1.out.mono ?_
        rintro e w1 ⟨rfl, hb1⟩
        have HB1 := Lib.hid ((HBW.out.drew).trans (hb1.mono HBW.out.size))
        clear hb1
        try go_simp
        refine hK.out _ _ ?_ (fun hHeld => ?_)
        · exact HF0.out.below HB1.out hbl
        clear hK K
        try simp only [Act.put, List.setIfInBounds_toArray, List.set_cons_zero, List.set_cons_succ]
        refine wpAnyH_take (i := 5) (oi := { dst := some 15, op := .unOp .not 4 (.tmp 14), type := _, pos := _, after := _, guard := none }) (v := .bool true) rfl (by kernel_rfl) (by kernel_rfl) (by kernel_rfl) (fun _ _ _ h => h) (Or.inl ⟨by rfl, fun wh hSw => ?_⟩) hHeld ?_
        · (obtain ⟨s0, s1, s2, s3⟩ := hSw; go_simp)
        try simp only [Act.put, List.setIfInBounds_toArray, List.set_cons_zero, List.set_cons_succ]
        refine wpAnyH_take (i := 6) (oi := { dst := some 16, op := .move (.tmp 15), type := _, pos := _, after := _, guard := none }) (v := .bool true) rfl (by kernel_rfl) (by kernel_rfl) (by kernel_rfl) (fun _ _ _ h => h) (Or.inl ⟨by rfl, fun wh hSw => ?_⟩) hHeld ?_
        · (obtain ⟨s0, s1, s2, s3⟩ := hSw; go_simp)
        try simp only [Act.put, List.setIfInBounds_toArray, List.set_cons_zero, List.set_cons_succ]
        refine wpAnyH_take (i := 7) (oi := { dst := some 17, op := .move (.tmp 0), type := _, pos := _, after := _, guard := some (6, false) }) (v := undef) rfl (by kernel_rfl) (by kernel_rfl) (by kernel_rfl) (fun _ _ _ h => h) (Or.inr ⟨by rfl, rfl⟩) hHeld ?_
        try simp only [Act.put, List.setIfInBounds_toArray, List.set_cons_zero, List.set_cons_succ]
        refine wpAnyH_take (i := 8) (oi := { dst := some 18, op := .move (.tmp 0), type := _, pos := _, after := _, guard := some (6, false) }) (v := undef) rfl (by kernel_rfl) (by kernel_rfl) (by kernel_rfl) (fun _ _ _ h => h) (Or.inr ⟨by rfl, rfl⟩) hHeld ?_
        try simp only [Act.put, List.setIfInBounds_toArray, List.set_cons_zero, List.set_cons_succ]
        refine wpAnyH_take (i := 9) (oi := { dst := some 19, op := .move (.tmp 3), type := _, pos := _, after := _, guard := some (6, false) }) (v := undef) rfl (by kernel_rfl) (by kernel_rfl) (by kernel_rfl) (fun _ _ _ h => h) (Or.inr ⟨by rfl, rfl⟩) hHeld ?_
        try simp only [Act.put, List.setIfInBounds_toArray, List.set_cons_zero, List.set_cons_succ]
        refine wpAnyH_take (i := 10) (oi := { dst := some 20, op := .indexAddr 23 (.tmp 18) (.tmp 19), type := _, pos := _, after := _, guard := some (6, false) }) (v := undef) rfl (by kernel_rfl) (by kernel_rfl) (by kernel_rfl) (fun _ _ _ h => h) (Or.inr ⟨by rfl, rfl⟩) hHeld ?_
        try simp only [Act.put, List.setIfInBounds_toArray, List.set_cons_zero, List.set_cons_succ]
        refine wpAnyH_take (i := 11) (oi := { dst := some 21, op := .fieldAddr 25 (.tmp 20) 0, type := _, pos := _, after := _, guard := some (6, false) }) (v := undef) rfl (by kernel_rfl) (by kernel_rfl) (by kernel_rfl) (fun _ _ _ h => h) (Or.inr ⟨by rfl, rfl⟩) hHeld ?_
        try simp only [Act.put, List.setIfInBounds_toArray, List.set_cons_zero, List.set_cons_succ]
        refine wpAnyH_take (i := 12) (oi := { dst := some 22, op := .load 3 (.tmp 21), type := _, pos := _, after := _, guard := some (6, false) }) (v := undef) rfl (by kernel_rfl) (by kernel_rfl) (by kernel_rfl) (fun _ _ _ h => h) (Or.inr ⟨by rfl, rfl⟩) hHeld ?_
        try simp only [Act.put, List.setIfInBounds_toArray, List.set_cons_zero, List.set_cons_succ]
        refine wpAnyH_take (i := 13) (oi := { dst := some 23, op := .move (.tmp 0), type := _, pos := _, after := _, guard := some (6, false) }) (v := undef) rfl (by kernel_rfl) (by kernel_rfl) (by kernel_rfl) (fun _ _ _ h => h) (Or.inr ⟨by rfl, rfl⟩) hHeld ?_
        try simp only [Act.put, List.setIfInBounds_toArray, List.set_cons_zero, List.set_cons_succ]
        refine wpAnyH_take (i := 14) (oi := { dst := some 24, op := .move (.tmp 3), type := _, pos := _, after := _, guard := some (6, false) }) (v := undef) rfl (by kernel_rfl) (by kernel_rfl) (by kernel_rfl) (fun _ _ _ h => h) (Or.inr ⟨by rfl, rfl⟩) hHeld ?_
        try simp only [Act.put, List.setIfInBounds_toArray, List.set_cons_zero, List.set_cons_succ]
        refine wpAnyH_take (i := 15) (oi := { dst := some 25, op := .indexAddr 23 (.tmp 23) (.tmp 24), type := _, pos := _, after := _, guard := some (6, false) }) (v := undef) rfl (by kernel_rfl) (by kernel_rfl) (by kernel_rfl) (fun _ _ _ h => h) (Or.inr ⟨by rfl, rfl⟩) hHeld ?_
        try simp only [Act.put, List.setIfInBounds_toArray, List.set_cons_zero, List.set_cons_succ]
        refine wpAnyH_take (i := 16) (oi := { dst := some 26, op := .fieldAddr 25 (.tmp 25) 1, type := _, pos := _, after := _, guard := some (6, false) }) (v := undef) rfl (by kernel_rfl) (by kernel_rfl) (by kernel_rfl) (fun _ _ _ h => h) (Or.inr ⟨by rfl, rfl⟩) hHeld ?_
        try simp only [Act.put, List.setIfInBounds_toArray, List.set_cons_zero, List.set_cons_succ]
        refine wpAnyH_take (i := 17) (oi := { dst := some 27, op := .load 3 (.tmp 26), type := _, pos := _, after := _, guard := some (6, false) }) (v := undef) rfl (by kernel_rfl) (by kernel_rfl) (by kernel_rfl) (fun _ _ _ h => h) (Or.inr ⟨by rfl, rfl⟩) hHeld ?_
        try simp only [Act.put, List.setIfInBounds_toArray, List.set_cons_zero, List.set_cons_succ]
        refine wpAnyH_take (i := 18) (oi := { dst := some 28, op := .call { callee := .value (.func 50), args := #[.tmp 17, .tmp 22, .tmp 27], argTypes := #[23, 3, 3] }, type := _, pos := _, after := _, guard := some (6, false) }) (v := undef) rfl (by kernel_rfl) (by kernel_rfl) (by kernel_rfl) (fun _ _ _ h => h) (Or.inr ⟨by rfl, rfl⟩) hHeld ?_
        try simp only [Act.put, List.setIfInBounds_toArray, List.set_cons_zero, List.set_cons_succ]
        refine wpAnyH_take (i := 19) (oi := { dst := some 29, op := .move (.tmp 3), type := _, pos := _, after := _, guard := some (6, false) }) (v := undef) rfl (by kernel_rfl) (by kernel_rfl) (by kernel_rfl) (fun _ _ _ h => h) (Or.inr ⟨by rfl, rfl⟩) hHeld ?_
        try simp only [Act.put, List.setIfInBounds_toArray, List.set_cons_zero, List.set_cons_succ]
        refine wpAnyH_take (i := 20) (oi := { dst := some 30, op := .binOp .lss 3 (.tmp 28) (.tmp 29) 3, type := _, pos := _, after := _, guard := some (6, false) }) (v := undef) rfl (by kernel_rfl) (by kernel_rfl) (by kernel_rfl) (fun _ _ _ h => h) (Or.inr ⟨by rfl, rfl⟩) hHeld ?_
        try simp only [Act.put, List.setIfInBounds_toArray, List.set_cons_zero, List.set_cons_succ]
        refine wpAnyH_take (i := 21) (oi := { dst := some 31, op := .pick (.tmp 16) (.const (.bool true)) (.tmp 30), type := _, pos := _, after := _, guard := none }) (v := .bool true) rfl (by kernel_rfl) (by kernel_rfl) (by kernel_rfl) (fun _ _ _ h => h) (Or.inl ⟨by rfl, fun wh hSw => ?_⟩) hHeld ?_
        · (obtain ⟨s0, s1, s2, s3⟩ := hSw; go_simp)
        try simp only [Act.put, List.setIfInBounds_toArray, List.set_cons_zero, List.set_cons_succ]
        refine wpAnyH_done (by kernel_rfl) ?_ _
        go_wp2
        go_ret
        exact ⟨by rw [HR.out]; rfl, HB1.out⟩
      · rw [hok] at HC1
        have HOK := Lib.hid hok
        clear hok hk
        obtain ⟨fk, hfk⟩ : ∃ fk, fk = fnd xs x.e x.p := ⟨_, rfl⟩
        have HFK := Lib.hid hfk
        clear hfk
        by_cases hcmp : fk < (k : Int)
        · have HR : Hid (R = false) := Lib.hid (by
            rw [HRR.out]
            refine decide_eq_false (fun hh => ?_)
            have := (hh.1 k (by have := HM.out; omega)).2
            rw [← HX.out, ← HFK.out] at this
            omega)
          go_wp2_with fail
          refine wp_region_held_drew (S := fun w' => Four w' b (o + k * 4) x) (by kernel_rfl) ⟨g0, g1, g2, g3⟩ (fun hHeld => ?_)
          refine wpAnyH_take (i := 0) (oi := { dst := some 10, op := .move (.tmp 0), type := _, pos := _, after := _, guard := none }) (v := .slice (some ⟨b, o, none⟩) m cap) rfl (by kernel_rfl) (by kernel_rfl) (by kernel_rfl) (fun _ _ _ h => h) (Or.inl ⟨by rfl, fun wh hSw => ?_⟩) hHeld ?_
          · (obtain ⟨s0, s1, s2, s3⟩ := hSw; go_simp)
          try simp only [Act.put, List.setIfInBounds_toArray, List.set_cons_zero, List.set_cons_succ]
          refine wpAnyH_take (i := 1) (oi := { dst := some 11, op := .move (.tmp 3), type := _, pos := _, after := _, guard := none }) (v := .int .i64 (k : Int)) rfl (by kernel_rfl) (by kernel_rfl) (by kernel_rfl) (fun _ _ _ h => h) (Or.inl ⟨by rfl, fun wh hSw => ?_⟩) hHeld ?_
          · (obtain ⟨s0, s1, s2, s3⟩ := hSw; go_simp)
          try simp only [Act.put, List.setIfInBounds_toArray, List.set_cons_zero, List.set_cons_succ]
          refine wpAnyH_take (i := 2) (oi := { dst := some 12, op := .indexAddr 23 (.tmp 10) (.tmp 11), type := _, pos := _, after := _, guard := none }) (v := .pointer (some ⟨b, o + k * 4, none⟩)) rfl (by kernel_rfl) (by kernel_rfl) (by kernel_rfl) (fun _ _ _ h => h) (Or.inl ⟨by rfl, fun wh hSw => ?_⟩) hHeld ?_
          · (obtain ⟨s0, s1, s2, s3⟩ := hSw; go_simp)
          try simp only [Act.put, List.setIfInBounds_toArray, List.set_cons_zero, List.set_cons_succ]
          refine wpAnyH_take (i := 3) (oi := { dst := some 13, op := .load 25 (.tmp 12), type := _, pos := _, after := _, guard := none }) (v := cvV x) rfl (by kernel_rfl) (by kernel_rfl) (by kernel_rfl) (fun _ _ _ h => h) (Or.inl ⟨by rfl, fun wh hSw => ?_⟩) hHeld ?_
          · (obtain ⟨s0, s1, s2, s3⟩ := hSw; go_simp)
          try simp only [Act.put, List.setIfInBounds_toArray, List.set_cons_zero, List.set_cons_succ]
          refine wpAnyH_ready (rs := [4]) (by kernel_rfl) (by simp) ?_
          refine AllReadyH.cons (o := { dst := some 14, op := .call { callee := .value (.func 44), args := #[.tmp 13], argTypes := #[25] }, type := _, pos := _, after := _, guard := none }) rfl (fun K hK => ?_) AllReadyH.nil
          go_simp
          refine HC1.out.mono ?_
          rintro e w1 ⟨rfl, hb1⟩
          have HB1 := Lib.hid ((HBW.out.drew).trans (hb1.mono HBW.out.size))
          clear hb1
          have HC2 := Lib.hid (l4Find_any w1 _ xs x.e x.p (HCS.out.below HB1.out))
          rw [← HFK.out] at HC2
          try go_simp
          refine hK.out _ _ ?_ (fun hHeld => ?_)
          · exact HF0.out.below HB1.out hbl
          clear hK K
          try simp only [Act.put, List.setIfInBounds_toArray, List.set_cons_zero, List.set_cons_succ]
          refine wpAnyH_take (i := 5) (oi := { dst := some 15, op := .unOp .not 4 (.tmp 14), type := _, pos := _, after := _, guard := none }) (v := .bool false) rfl (by kernel_rfl) (by kernel_rfl) (by kernel_rfl) (fun _ _ _ h => h) (Or.inl ⟨by rfl, fun wh hSw => ?_⟩) hHeld ?_
          · (obtain ⟨s0, s1, s2, s3⟩ := hSw; go_simp)
          try simp only [Act.put, List.setIfInBounds_toArray, List.set_cons_zero, List.set_cons_succ]
          refine wpAnyH_take (i := 6) (oi := { dst := some 16, op := .move (.tmp 15), type := _, pos := _, after := _, guard := none }) (v := .bool false) rfl (by kernel_rfl) (by kernel_rfl) (by kernel_rfl) (fun _ _ _ h => h) (Or.inl ⟨by rfl, fun wh hSw => ?_⟩) hHeld ?_
          · (obtain ⟨s0, s1, s2, s3⟩ := hSw; go_simp)
          try simp only [Act.put, List.setIfInBounds_toArray, List.set_cons_zero, List.set_cons_succ]
          refine wpAnyH_take (i := 7) (oi := { dst := some 17, op := .move (.tmp 0), type := _, pos := _, after := _, guard := some (6, false) }) (v := .slice (some ⟨b, o, none⟩) m cap) rfl (by kernel_rfl) (by kernel_rfl) (by kernel_rfl) (fun _ _ _ h => h) (Or.inl ⟨by rfl, fun wh hSw => ?_⟩) hHeld ?_
          · (obtain ⟨s0, s1, s2, s3⟩ := hSw; go_simp)
          try simp only [Act.put, List.setIfInBounds_toArray, List.set_cons_zero, List.set_cons_succ]
          refine wpAnyH_take (i := 8) (oi := { dst := some 18, op := .move (.tmp 0), type := _, pos := _, after := _, guard := some (6, false) }) (v := .slice (some ⟨b, o, none⟩) m cap) rfl (by kernel_rfl) (by kernel_rfl) (by kernel_rfl) (fun _ _ _ h => h) (Or.inl ⟨by rfl, fun wh hSw => ?_⟩) hHeld ?_
          · (obtain ⟨s0, s1, s2, s3⟩ := hSw; go_simp)
          try simp only [Act.put, List.setIfInBounds_toArray, List.set_cons_zero, List.set_cons_succ]
          refine wpAnyH_take (i := 9) (oi := { dst := some 19, op := .move (.tmp 3), type := _, pos := _, after := _, guard := some (6, false) }) (v := .int .i64 (k : Int)) rfl (by kernel_rfl) (by kernel_rfl) (by kernel_rfl) (fun _ _ _ h => h) (Or.inl ⟨by rfl, fun wh hSw => ?_⟩) hHeld ?_
          · (obtain ⟨s0, s1, s2, s3⟩ := hSw; go_simp)
          try simp only [Act.put, List.setIfInBounds_toArray, List.set_cons_zero, List.set_cons_succ]
          refine wpAnyH_take (i := 10) (oi := { dst := some 20, op := .indexAddr 23 (.tmp 18) (.tmp 19), type := _, pos := _, after := _, guard := some (6, false) }) (v := .pointer (some ⟨b, o + k * 4, none⟩)) rfl (by kernel_rfl) (by kernel_rfl) (by kernel_rfl) (fun _ _ _ h => h) (Or.inl ⟨by rfl, fun wh hSw => ?_⟩) hHeld ?_
          · (obtain ⟨s0, s1, s2, s3⟩ := hSw; go_simp)
          try simp only [Act.put, List.setIfInBounds_toArray, List.set_cons_zero, List.set_cons_succ]
          refine wpAnyH_take (i := 11) (oi := { dst := some 21, op := .fieldAddr 25 (.tmp 20) 0, type := _, pos := _, after := _, guard := some (6, false) }) (v := .pointer (some ⟨b, o + k * 4, none⟩)) rfl (by kernel_rfl) (by kernel_rfl) (by kernel_rfl) (fun _ _ _ h => h) (Or.inl ⟨by rfl, fun wh hSw => ?_⟩) hHeld ?_
          · (obtain ⟨s0, s1, s2, s3⟩ := hSw; go_simp)
          try simp only [Act.put, List.setIfInBounds_toArray, List.set_cons_zero, List.set_cons_succ]
          refine wpAnyH_take (i := 12) (oi := { dst := some 22, op := .load 3 (.tmp 21), type := _, pos := _, after := _, guard := some (6, false) }) (v := .int .i64 x.e) rfl (by kernel_rfl) (by kernel_rfl) (by kernel_rfl) (fun _ _ _ h => h) (Or.inl ⟨by rfl, fun wh hSw => ?_⟩) hHeld ?_
          · (obtain ⟨s0, s1, s2, s3⟩ := hSw; go_simp)
          try simp only [Act.put, List.setIfInBounds_toArray, List.set_cons_zero, List.set_cons_succ]
          refine wpAnyH_take (i := 13) (oi := { dst := some 23, op := .move (.tmp 0), type := _, pos := _, after := _, guard := some (6, false) }) (v := .slice (some ⟨b, o, none⟩) m cap) rfl (by kernel_rfl) (by kernel_rfl) (by kernel_rfl) (fun _ _ _ h => h) (Or.inl ⟨by rfl, fun wh hSw => ?_⟩) hHeld ?_
          · (obtain ⟨s0, s1, s2, s3⟩ := hSw; go_simp)
          try simp only [Act.put, List.setIfInBounds_toArray, List.set_cons_zero, List.set_cons_succ]
          refine wpAnyH_take (i := 14) (oi := { dst := some 24, op := .move (.tmp 3), type := _, pos := _, after := _, guard := some (6, false) }) (v := .int .i64 (k : Int)) rfl (by kernel_rfl) (by kernel_rfl) (by kernel_rfl) (fun _ _ _ h => h) (Or.inl ⟨by rfl, fun wh hSw => ?_⟩) hHeld ?_
          · (obtain ⟨s0, s1, s2, s3⟩ := hSw; go_simp)
          try simp only [Act.put, List.setIfInBounds_toArray, List.set_cons_zero, List.set_cons_succ]
          refine wpAnyH_take (i := 15) (oi := { dst := some 25, op := .indexAddr 23 (.tmp 23) (.tmp 24), type := _, pos := _, after := _, guard := some (6, false) }) (v := .pointer (some ⟨b, o + k * 4, none⟩)) rfl (by kernel_rfl) (by kernel_rfl) (by kernel_rfl) (fun _ _ _ h => h) (Or.inl ⟨by rfl, fun wh hSw => ?_⟩) hHeld ?_
          · (obtain ⟨s0, s1, s2, s3⟩ := hSw; go_simp)
          try simp only [Act.put, List.setIfInBounds_toArray, List.set_cons_zero, List.set_cons_succ]
          refine wpAnyH_take (i := 16) (oi := { dst := some 26, op := .fieldAddr 25 (.tmp 25) 1, type := _, pos := _, after := _, guard := some (6, false) }) (v := .pointer (some ⟨b, o + k * 4 + 1, none⟩)) rfl (by kernel_rfl) (by kernel_rfl) (by kernel_rfl) (fun _ _ _ h => h) (Or.inl ⟨by rfl, fun wh hSw => ?_⟩) hHeld ?_
          · (obtain ⟨s0, s1, s2, s3⟩ := hSw; go_simp)
          try simp only [Act.put, List.setIfInBounds_toArray, List.set_cons_zero, List.set_cons_succ]
          refine wpAnyH_take (i := 17) (oi := { dst := some 27, op := .load 3 (.tmp 26), type := _, pos := _, after := _, guard := some (6, false) }) (v := .int .i64 x.p) rfl (by kernel_rfl) (by kernel_rfl) (by kernel_rfl) (fun _ _ _ h => h) (Or.inl ⟨by rfl, fun wh hSw => ?_⟩) hHeld ?_
          · (obtain ⟨s0, s1, s2, s3⟩ := hSw; go_simp)
          try simp only [Act.put, List.setIfInBounds_toArray, List.set_cons_zero, List.set_cons_succ]
          refine wpAnyH_take (i := 19) (oi := { dst := some 29, op := .move (.tmp 3), type := _, pos := _, after := _, guard := some (6, false) }) (v := .int .i64 (k : Int)) rfl (by kernel_rfl) (by kernel_rfl) (by kernel_rfl) (fun _ _ _ h => h) (Or.inl ⟨by rfl, fun wh hSw => ?_⟩) hHeld ?_
          · (obtain ⟨s0, s1, s2, s3⟩ := hSw; go_simp)
          try simp only [Act.put, List.setIfInBounds_toArray, List.set_cons_zero, List.set_cons_succ]
          refine wpAnyH_ready (rs := [18]) (by kernel_rfl) (by simp) ?_
          refine AllReadyH.cons (o := { dst := some 28, op := .call { callee := .value (.func 50), args := #[.tmp 17, .tmp 22, .tmp 27], argTypes := #[23, 3, 3] }, type := _, pos := _, after := _, guard := some (6, false) }) rfl (fun K hK => ?_) AllReadyH.nil
          go_simp
          refine HC2.out.mono ?_
          rintro e w2 ⟨rfl, hw2⟩
          subst hw2
          try go_simp
          refine hK.out _ _ ?_ (fun hHeld => ?_)
          · exact HF0.out.below HB1.out hbl
          clear hK K
          try simp only [Act.put, List.setIfInBounds_toArray, List.set_cons_zero, List.set_cons_succ]
          refine wpAnyH_take (i := 20) (oi := { dst := some 30, op := .binOp .lss 3 (.tmp 28) (.tmp 29) 3, type := _, pos := _, after := _, guard := some (6, false) }) (v := .bool true) rfl (by kernel_rfl) (by kernel_rfl) (by kernel_rfl) (fun _ _ _ h => h) (Or.inl ⟨by rfl, fun wh hSw => ?_⟩) hHeld ?_
          · (obtain ⟨s0, s1, s2, s3⟩ := hSw; go_simp)
          try simp only [Act.put, List.setIfInBounds_toArray, List.set_cons_zero, List.set_cons_succ]
          refine wpAnyH_take (i := 21) (oi := { dst := some 31, op := .pick (.tmp 16) (.const (.bool true)) (.tmp 30), type := _, pos := _, after := _, guard := none }) (v := .bool true) rfl (by kernel_rfl) (by kernel_rfl) (by kernel_rfl) (fun _ _ _ h => h) (Or.inl ⟨by rfl, fun wh hSw => ?_⟩) hHeld ?_
          · (obtain ⟨s0, s1, s2, s3⟩ := hSw; go_simp)
          try simp only [Act.put, List.setIfInBounds_toArray, List.set_cons_zero, List.set_cons_succ]
          refine wpAnyH_done (by kernel_rfl) ?_ _
          go_wp2
          go_ret
          exact ⟨by rw [HR.out]; rfl, HB1.out⟩
        · have hcmp' : decide (fk < (k : Int)) = false := decide_eq_false hcmp
          have HY2 : Hid (∀ j, j < k + 1 → cvOk (xs.getD j c0) = true ∧ (j : Int) ≤ fnd xs (xs.getD j c0).e (xs.getD j c0).p) := Lib.hid (fun j hj => by
            by_cases hjk : j < k
            · exact HYES.out j hjk
            · obtain rfl : j = k := by omega
              rw [← HX.out, ← HFK.out]
              exact ⟨HOK.out, by omega⟩)
          clear hcmp
          go_wp2_with fail
          refine wp_region_held_drew (S := fun w' => Four w' b (o + k * 4) x) (by kernel_rfl) ⟨g0, g1, g2, g3⟩ (fun hHeld => ?_)
          refine wpAnyH_take (i := 0) (oi := { dst := some 10, op := .move (.tmp 0), type := _, pos := _, after := _, guard := none }) (v := .slice (some ⟨b, o, none⟩) m cap) rfl (by kernel_rfl) (by kernel_rfl) (by kernel_rfl) (fun _ _ _ h => h) (Or.inl ⟨by rfl, fun wh hSw => ?_⟩) hHeld ?_
          · (obtain ⟨s0, s1, s2, s3⟩ := hSw; go_simp)
          try simp only [Act.put, List.setIfInBounds_toArray, List.set_cons_zero, List.set_cons_succ]
          refine wpAnyH_take (i := 1) (oi := { dst := some 11, op := .move (.tmp 3), type := _, pos := _, after := _, guard := none }) (v := .int .i64 (k : Int)) rfl (by kernel_rfl) (by kernel_rfl) (by kernel_rfl) (fun _ _ _ h => h) (Or.inl ⟨by rfl, fun wh hSw => ?_⟩) hHeld ?_
          · (obtain ⟨s0, s1, s2, s3⟩ := hSw; go_simp)
          try simp only [Act.put, List.setIfInBounds_toArray, List.set_cons_zero, List.set_cons_succ]
          refine wpAnyH_take (i := 2) (oi := { dst := some 12, op := .indexAddr 23 (.tmp 10) (.tmp 11), type := _, pos := _, after := _, guard := none }) (v := .pointer (some ⟨b, o + k * 4, none⟩)) rfl (by kernel_rfl) (by kernel_rfl) (by kernel_rfl) (fun _ _ _ h => h) (Or.inl ⟨by rfl, fun wh hSw => ?_⟩) hHeld ?_
          · (obtain ⟨s0, s1, s2, s3⟩ := hSw; go_simp)
          try simp only [Act.put, List.setIfInBounds_toArray, List.set_cons_zero, List.set_cons_succ]
          refine wpAnyH_take (i := 3) (oi := { dst := some 13, op := .load 25 (.tmp 12), type := _, pos := _, after := _, guard := none }) (v := cvV x) rfl (by kernel_rfl) (by kernel_rfl) (by kernel_rfl) (fun _ _ _ h => h) (Or.inl ⟨by rfl, fun wh hSw => ?_⟩) hHeld ?_
          · (obtain ⟨s0, s1, s2, s3⟩ := hSw; go_simp)
          try simp only [Act.put, List.setIfInBounds_toArray, List.set_cons_zero, List.set_cons_succ]
          refine wpAnyH_ready (rs := [4]) (by kernel_rfl) (by simp) ?_
          refine AllReadyH.cons (o := { dst := some 14, op := .call { callee := .value (.func 44), args := #[.tmp 13], argTypes := #[25] }, type := _, pos := _, after := _, guard := none }) rfl (fun K hK => ?_) AllReadyH.nil
          go_simp
          refine HC1.out.mono ?_
          rintro e w1 ⟨rfl, hb1⟩
          have HB1 := Lib.hid ((HBW.out.drew).trans (hb1.mono HBW.out.size))
          clear hb1
          have HC2 := Lib.hid (l4Find_any w1 _ xs x.e x.p (HCS.out.below HB1.out))
          rw [← HFK.out] at HC2
          try go_simp
          refine hK.out _ _ ?_ (fun hHeld => ?_)
          · exact HF0.out.below HB1.out hbl
          clear hK K
          try simp only [Act.put, List.setIfInBounds_toArray, List.set_cons_zero, List.set_cons_succ]
          refine wpAnyH_take (i := 5) (oi := { dst := some 15, op := .unOp .not 4 (.tmp 14), type := _, pos := _, after := _, guard := none }) (v := .bool false) rfl (by kernel_rfl) (by kernel_rfl) (by kernel_rfl) (fun _ _ _ h => h) (Or.inl ⟨by rfl, fun wh hSw => ?_⟩) hHeld ?_
          · (obtain ⟨s0, s1, s2, s3⟩ := hSw; go_simp)
          try simp only [Act.put, List.setIfInBounds_toArray, List.set_cons_zero, List.set_cons_succ]
          refine wpAnyH_take (i := 6) (oi := { dst := some 16, op := .move (.tmp 15), type := _, pos := _, after := _, guard := none }) (v := .bool false) rfl (by kernel_rfl) (by kernel_rfl) (by kernel_rfl) (fun _ _ _ h => h) (Or.inl ⟨by rfl, fun wh hSw => ?_⟩) hHeld ?_
          · (obtain ⟨s0, s1, s2, s3⟩ := hSw; go_simp)
          try simp only [Act.put, List.setIfInBounds_toArray, List.set_cons_zero, List.set_cons_succ]
          refine wpAnyH_take (i := 7) (oi := { dst := some 17, op := .move (.tmp 0), type := _, pos := _, after := _, guard := some (6, false) }) (v := .slice (some ⟨b, o, none⟩) m cap) rfl (by kernel_rfl) (by kernel_rfl) (by kernel_rfl) (fun _ _ _ h => h) (Or.inl ⟨by rfl, fun wh hSw => ?_⟩) hHeld ?_
          · (obtain ⟨s0, s1, s2, s3⟩ := hSw; go_simp)
          try simp only [Act.put, List.setIfInBounds_toArray, List.set_cons_zero, List.set_cons_succ]
          refine wpAnyH_take (i := 8) (oi := { dst := some 18, op := .move (.tmp 0), type := _, pos := _, after := _, guard := some (6, false) }) (v := .slice (some ⟨b, o, none⟩) m cap) rfl (by kernel_rfl) (by kernel_rfl) (by kernel_rfl) (fun _ _ _ h => h) (Or.inl ⟨by rfl, fun wh hSw => ?_⟩) hHeld ?_
          · (obtain ⟨s0, s1, s2, s3⟩ := hSw; go_simp)
          try simp only [Act.put, List.setIfInBounds_toArray, List.set_cons_zero, List.set_cons_succ]
          refine wpAnyH_take (i := 9) (oi := { dst := some 19, op := .move (.tmp 3), type := _, pos := _, after := _, guard := some (6, false) }) (v := .int .i64 (k : Int)) rfl (by kernel_rfl) (by kernel_rfl) (by kernel_rfl) (fun _ _ _ h => h) (Or.inl ⟨by rfl, fun wh hSw => ?_⟩) hHeld ?_
          · (obtain ⟨s0, s1, s2, s3⟩ := hSw; go_simp)
          try simp only [Act.put, List.setIfInBounds_toArray, List.set_cons_zero, List.set_cons_succ]
          refine wpAnyH_take (i := 10) (oi := { dst := some 20, op := .indexAddr 23 (.tmp 18) (.tmp 19), type := _, pos := _, after := _, guard := some (6, false) }) (v := .pointer (some ⟨b, o + k * 4, none⟩)) rfl (by kernel_rfl) (by kernel_rfl) (by kernel_rfl) (fun _ _ _ h => h) (Or.inl ⟨by rfl, fun wh hSw => ?_⟩) hHeld ?_
          · (obtain ⟨s0, s1, s2, s3⟩ := hSw; go_simp)
          try simp only [Act.put, List.setIfInBounds_toArray, List.set_cons_zero, List.set_cons_succ]
          refine wpAnyH_take (i := 11) (oi := { dst := some 21, op := .fieldAddr 25 (.tmp 20) 0, type := _, pos := _, after := _, guard := some (6, false) }) (v := .pointer (some ⟨b, o + k * 4, none⟩)) rfl (by kernel_rfl) (by kernel_rfl) (by kernel_rfl) (fun _ _ _ h => h) (Or.inl ⟨by rfl, fun wh hSw => ?_⟩) hHeld ?_
          · (obtain ⟨s0, s1, s2, s3⟩ := hSw; go_simp)
          try simp only [Act.put, List.setIfInBounds_toArray, List.set_cons_zero, List.set_cons_succ]
          refine wpAnyH_take (i := 12) (oi := { dst := some 22, op := .load 3 (.tmp 21), type := _, pos := _, after := _, guard := some (6, false) }) (v := .int .i64 x.e) rfl (by kernel_rfl) (by kernel_rfl) (by kernel_rfl) (fun _ _ _ h => h) (Or.inl ⟨by rfl, fun wh hSw => ?_⟩) hHeld ?_
          · (obtain ⟨s0, s1, s2, s3⟩ := hSw; go_simp)
          try simp only [Act.put, List.setIfInBounds_toArray, List.set_cons_zero, List.set_cons_succ]
          refine wpAnyH_take (i := 13) (oi := { dst := some 23, op := .move (.tmp 0), type := _, pos := _, after := _, guard := some (6, false) }) (v := .slice (some ⟨b, o, none⟩) m cap) rfl (by kernel_rfl) (by kernel_rfl) (by kernel_rfl) (fun _ _ _ h => h) (Or.inl ⟨by rfl, fun wh hSw => ?_⟩) hHeld ?_
          · (obtain ⟨s0, s1, s2, s3⟩ := hSw; go_simp)
          try simp only [Act.put, List.setIfInBounds_toArray, List.set_cons_zero, List.set_cons_succ]
          refine wpAnyH_take (i := 14) (oi := { dst := some 24, op := .move (.tmp 3), type := _, pos := _, after := _, guard := some (6, false) }) (v := .int .i64 (k : Int)) rfl (by kernel_rfl) (by kernel_rfl) (by kernel_rfl) (fun _ _ _ h => h) (Or.inl ⟨by rfl, fun wh hSw => ?_⟩) hHeld ?_
          · (obtain ⟨s0, s1, s2, s3⟩ := hSw; go_simp)
          try simp only [Act.put, List.setIfInBounds_toArray, List.set_cons_zero, List.set_cons_succ]
          refine wpAnyH_take (i := 15) (oi := { dst := some 25, op := .indexAddr 23 (.tmp 23) (.tmp 24), type := _, pos := _, after := _, guard := some (6, false) }) (v := .pointer (some ⟨b, o + k * 4, none⟩)) rfl (by kernel_rfl) (by kernel_rfl) (by kernel_rfl) (fun _ _ _ h => h) (Or.inl ⟨by rfl, fun wh hSw => ?_⟩) hHeld ?_
          · (obtain ⟨s0, s1, s2, s3⟩ := hSw; go_simp)
          try simp only [Act.put, List.setIfInBounds_toArray, List.set_cons_zero, List.set_cons_succ]
          refine wpAnyH_take (i := 16) (oi := { dst := some 26, op := .fieldAddr 25 (.tmp 25) 1, type := _, pos := _, after := _, guard := some (6, false) }) (v := .pointer (some ⟨b, o + k * 4 + 1, none⟩)) rfl (by kernel_rfl) (by kernel_rfl) (by kernel_rfl) (fun _ _ _ h => h) (Or.inl ⟨by rfl, fun wh hSw => ?_⟩) hHeld ?_
          · (obtain ⟨s0, s1, s2, s3⟩ := hSw; go_simp)
          try simp only [Act.put, List.setIfInBounds_toArray, List.set_cons_zero, List.set_cons_succ]
          refine wpAnyH_take (i := 17) (oi := { dst := some 27, op := .load 3 (.tmp 26), type := _, pos := _, after := _, guard := some (6, false) }) (v := .int .i64 x.p) rfl (by kernel_rfl) (by kernel_rfl) (by kernel_rfl) (fun _ _ _ h => h) (Or.inl ⟨by rfl, fun wh hSw => ?_⟩) hHeld ?_
          · (obtain ⟨s0, s1, s2, s3⟩ := hSw; go_simp)
          try simp only [Act.put, List.setIfInBounds_toArray, List.set_cons_zero, List.set_cons_succ]
          refine wpAnyH_take (i := 19) (oi := { dst := some 29, op := .move (.tmp 3), type := _, pos := _, after := _, guard := some (6, false) }) (v := .int .i64 (k : Int)) rfl (by kernel_rfl) (by kernel_rfl) (by kernel_rfl) (fun _ _ _ h => h) (Or.inl ⟨by rfl, fun wh hSw => ?_⟩) hHeld ?_
          · (obtain ⟨s0, s1, s2, s3⟩ := hSw; go_simp)
          try simp only [Act.put, List.setIfInBounds_toArray, List.set_cons_zero, List.set_cons_succ]
          refine wpAnyH_ready (rs := [18]) (by kernel_rfl) (by simp) ?_
          refine AllReadyH.cons (o := { dst := some 28, op := .call { callee := .value (.func 50), args := #[.tmp 17, .tmp 22, .tmp 27], argTypes := #[23, 3, 3] }, type := _, pos := _, after := _, guard := some (6, false) }) rfl (fun K hK => ?_) AllReadyH.nil
          go_simp
          refine HC2.out.mono ?_
          rintro e w2 ⟨rfl, hw2⟩
          subst hw2
          try go_simp
          refine hK.out _ _ ?_ (fun hHeld => ?_)
          · exact HF0.out.below HB1.out hbl
          clear hK K
          try simp only [Act.put, List.setIfInBounds_toArray, List.set_cons_zero, List.set_cons_succ]
          refine wpAnyH_take (i := 20) (oi := { dst := some 30, op := .binOp .lss 3 (.tmp 28) (.tmp 29) 3, type := _, pos := _, after := _, guard := some (6, false) }) (v := .bool false) rfl (by kernel_rfl) (by kernel_rfl) (by kernel_rfl) (fun _ _ _ h => h) (Or.inl ⟨by rfl, fun wh hSw => ?_⟩) hHeld ?_
          · (obtain ⟨s0, s1, s2, s3⟩ := hSw; go_simp)
          try simp only [Act.put, List.setIfInBounds_toArray, List.set_cons_zero, List.set_cons_succ]
          refine wpAnyH_take (i := 21) (oi := { dst := some 31, op := .pick (.tmp 16) (.const (.bool true)) (.tmp 30), type := _, pos := _, after := _, guard := none }) (v := .bool false) rfl (by kernel_rfl) (by kernel_rfl) (by kernel_rfl) (fun _ _ _ h => h) (Or.inl ⟨by rfl, fun wh hSw => ?_⟩) hHeld ?_
          · (obtain ⟨s0, s1, s2, s3⟩ := hSw; go_simp)
          try simp only [Act.put, List.setIfInBounds_toArray, List.set_cons_zero, List.set_cons_succ]
          refine wpAnyH_done (by kernel_rfl) ?_ _
          go_wp2
          go_roundw
          case rel => exact ⟨k + 1, by omega, by go_num, HB1, HY2⟩
          case measure => simp [intOf]; omega
    · have ek : k = m := by omega
      subst ek
      have HR : Hid (R = decide ((k : Int) ≤ 4)) := Lib.hid (by
        rw [HRR.out]
        unfold cOk
        rw [Bool.eq_iff_iff, decide_eq_true_iff, decide_eq_true_iff]
        constructor
        · rintro ⟨_, h4⟩
          have := HM.out
          omega
        · intro h4
          exact ⟨fun i hi => HYES.out i (by have := HM.out; omega), by have := HM.out; omega⟩)
      go_wp2
      go_ret
      exact ⟨by rw [HR.out]; rfl, HBW.out⟩
end Go.Proofs.Ytklclcbhghjjfaa
