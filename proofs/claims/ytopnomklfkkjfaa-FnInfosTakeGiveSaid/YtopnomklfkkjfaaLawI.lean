/- The walks of the statements on taken frames, out of contracts of the program. -/
import Derived.Test.YtopnomklfkkjfaaIDraws2
import Derived.Test.YtopnomklfkkjfaaIEx
import Derived.Test.YtopnomklfkkjfaaISame
namespace Go.Proofs.Ytopnomklfkkjfaa
open Go.ChangeShapes Go.WideShapes Go.ChangeAt Go.RowKit
set_option linter.unusedVariables false

abbrev IRV : Prop := ∀ (w : World) (s : Bs), s.length ≤ 2000000 → Calls Try.prog 18 #[.string ⟨s.toArray⟩] w (BRes (rv s) w)
theorem row_len {k : IntKind} {w : World} {a : Option Addr} {len cap : Nat} {zs : List Int} (hr : Row k w a len cap zs) : len ≤ 9223372036854775807 := by
  rcases hr with ⟨_, rfl, rfl, _⟩ | ⟨x, _, hl, hm, _⟩
  · omega
  · unfold maxLen at hm; omega
theorem shortI {ys : List IV} (h : ∀ y ∈ ys, shI y) : ShortI ys := fun y hy => by have := h y hy; unfold shI at this; omega
theorem sameI (w : World) (va vb : Value) (xs : List IV) (ha : Is w va xs) (hb : Is w vb xs) :
    Calls Try.prog 16 #[va, vb] w fun e w' => e = .returned (.bool true) ∧ Below w.heap.size w w' := by
  refine (sameInfos_any w va vb xs xs ha hb).mono ?_
  rintro e w' ⟨rfl, hb⟩
  rw [decide_eq_true (rfl : xs = xs)]
  exact ⟨rfl, hb⟩
theorem itake_short {ys : List IV} {x : Bs} (h : ∀ y ∈ ys, shI y) (hx : shortP x) : ∀ y ∈ itake ys x, shI y := fun y hy => by
  unfold itake at hy
  split at hy
  · rcases List.mem_or_eq_of_mem_set hy with h1 | h1
    · exact h y h1
    · rw [h1]; exact hx
  · cases hy
theorem igive_short {ys : List IV} {f : Int} (h : ∀ y ∈ ys, shI y) : ∀ y ∈ igive ys f, shI y := fun y hy => by
  unfold igive at hy
  split at hy
  · rcases List.mem_or_eq_of_mem_set hy with h1 | h1
    · exact h y h1
    · rw [h1]; exact Nat.zero_le _
  · cases hy
theorem ifree_range {ys : List IV} (h : ys.length ≤ 12) : -1 ≤ ifree ys ∧ ifree ys ≤ 12 := by
  have := cnt_le ys
  unfold ifree
  split <;> omega
/-- what taking leads to, place by place -/
theorem itake_at {ys : List IV} {x : Bs} (h : tok ys x = true) {i : Nat} (hi : i < ys.length) :
    (((i : Int) = itakeN ys x → (ys.getD i iz).k = 0 ∧ (itake ys x).getD i iz = ⟨1, x, 0⟩) ∧ ((i : Int) ≠ itakeN ys x → (itake ys x).getD i iz = ys.getD i iz)) ∧ ((i : Int) < itakeN ys x → (ys.getD i iz).k ≠ 0) := by
  have ht := (tok_iff.1 h).2.2
  unfold itake itakeN
  rw [if_pos h, if_pos h]
  refine ⟨⟨fun e => ?_, fun e => ?_⟩, fun e => ?_⟩
  · have e : i = fidx ys := by omega
    rw [e, set_getD_eq ht, if_pos rfl]
    exact ⟨fidx_free ht, rfl⟩
  · rw [set_getD_eq ht, if_neg (by omega)]
  · exact fidx_before (by omega)
theorem itake_len_eq {ys : List IV} {x : Bs} (h : tok ys x = true) : (itake ys x).length = ys.length := by
  unfold itake
  rw [if_pos h, List.length_set]
set_option maxRecDepth 100000 in
set_option maxHeartbeats 2000000 in
theorem infosTake_walk (hT : IIT) (hF : IIF) (W : World) (a : Option Addr) (len cap : Nat) (zs : List Int) (hr : Row .u8 W a len cap zs) :
    Calls Try.prog 3 #[.slice a len cap] W fun e w' => e = .returned (.bool true) ∧ Below W.heap.size W w' := by
  have HT := Lib.hid hT
  have HF := Lib.hid hF
  clear hT hF
  have hm := row_len hr
  by_cases hL : 1048576 < len
  · have hL1 : (1048576 : Int) < (len : Int) := by omega
    clear hr
    go_enter Try.func3, Try.ntmps3
    go_wp2_with fail
    go_ret
    exact ⟨rfl, Below.refl _ _⟩
  have hL1 : decide ((1048576 : Int) < (len : Int)) = false := by simp; omega
  have hL2 : decide (1048576 < len) = false := by simp; omega
  go_enter Try.func3, Try.ntmps3
  go_wp2_with fail
  refine (drawInfosTake_any W a len cap zs hr).mono ?_
  clear hr
  rintro e w1 ⟨v, ys, x, hx, rfl, hd⟩
  have B1 := Lib.hid hd.bel
  have R1 := Lib.hid hd.is
  have HSH := Lib.hid hd.rng
  obtain ⟨a1, c2, hv⟩ : ∃ (a1 : Option Addr) (c : Nat), v = .slice a1 ys.length c := by
    obtain ⟨g, c, h⟩ := hd.form
    exact ⟨_, _, h⟩
  have hl8 : ys.length ≤ 12 := hd.len
  have hxl : x.length ≤ 10 := hx
  have HXS := Lib.hid hx
  clear hd hx
  subst hv
  have HC := Lib.hid (HT.out w1 _ ys x R1.out (shortI HSH.out) (by omega))
  have HS := Lib.hid (fun w h => infosTake_any w (.slice a1 ys.length c2) ys x h (shortI HSH.out) (by omega))
  have HZS := Lib.hid (itake_short HSH.out HXS.out)
  have HLEN := Lib.hid (itake_len_eq (ys := ys) (x := x))
  have HAT := Lib.hid (fun h i hi => itake_at (ys := ys) (x := x) h (i := i) hi)
  have HFT := Lib.hid (free_take (xs := ys) (g := x))
  generalize itake ys x = us at HC HS HZS HLEN HAT HFT
  generalize itakeN ys x = f0 at HC HS HAT
  generalize tok ys x = b at HC HS HLEN HAT HFT
  obtain ⟨n, hn⟩ : ∃ n, n = ys.length := ⟨_, rfl⟩
  rw [← hn] at HC HS R1 hl8 ⊢
  have HN := Lib.hid hn
  clear hn
  have hff := neI f0
  cases b with
  | false =>
    go_wp2_with fail
    refine HC.out.mono ?_
    rintro e w2 ⟨p2, rfl, hr2, hb2⟩
    have B2 := Lib.hid (B1.out.trans (hb2.mono B1.out.size))
    have R2 := Lib.hid (R1.out.below hb2)
    have U2 := Lib.hid hr2.is
    clear hb2 hr2 HC R1 B1
    go_wp2_with fail
    refine (HS.out w2 R2.out).mono ?_
    rintro e w3 ⟨p3, rfl, hr3, hb3⟩
    have B3 := Lib.hid (B2.out.trans (hb3.mono B2.out.size))
    have R3 := Lib.hid (R2.out.below hb3)
    have U23 := Lib.hid (U2.out.below hb3)
    have U3 := Lib.hid hr3.is
    clear hb3 hr3 HS R2 B2 U2
    go_wp2_with fail
    refine (sameI w3 p2 p3 us U23.out U3.out).mono ?_
    rintro e w4 ⟨rfl, hb4⟩
    have B4 := Lib.hid (B3.out.trans (hb4.mono B3.out.size))
    have R4 := Lib.hid (R3.out.below hb4)
    have U24 := Lib.hid (U23.out.below hb4)
    have U34 := Lib.hid (U3.out.below hb4)
    clear hb4 B3 U23 U3 R3
    go_wp2_with fail
    refine (sameI w4 p2 p3 us U24.out U34.out).mono ?_
    rintro e w5 ⟨rfl, hb5⟩
    have B5 := Lib.hid (B4.out.trans (hb5.mono B4.out.size))
    clear hb5
    go_wp2_with fail
    go_ret
    exact ⟨rfl, B5.out⟩
  | true =>
    have HL2 := Lib.hid (HLEN.out rfl)
    have HFR := Lib.hid (HFT.out rfl)
    have HA2 := Lib.hid (fun i hi => HAT.out rfl i hi)
    clear HLEN HFT HAT
    go_wp2_with fail
    refine HC.out.mono ?_
    rintro e w2 ⟨p2, rfl, hr2, hb2⟩
    have B2 := Lib.hid (B1.out.trans (hb2.mono B1.out.size))
    have R2 := Lib.hid (R1.out.below hb2)
    have U2 := Lib.hid hr2.is
    clear hb2 hr2 HC R1 B1
    go_wp2_with fail
    refine (HS.out w2 R2.out).mono ?_
    rintro e w3 ⟨p3, rfl, hr3, hb3⟩
    have B3 := Lib.hid (B2.out.trans (hb3.mono B2.out.size))
    have R3 := Lib.hid (R2.out.below hb3)
    have U23 := Lib.hid (U2.out.below hb3)
    have U3 := Lib.hid hr3.is
    clear hb3 hr3 HS R2 B2 U2
    go_wp2_with fail
    refine (sameI w3 p2 p3 us U23.out U3.out).mono ?_
    rintro e w4 ⟨rfl, hb4⟩
    have B4 := Lib.hid (B3.out.trans (hb4.mono B3.out.size))
    have R4 := Lib.hid (R3.out.below hb4)
    have U24 := Lib.hid (U23.out.below hb4)
    have U34 := Lib.hid (U3.out.below hb4)
    clear hb4 B3 U23 U3 R3
    obtain ⟨a2, cu, e, hu1, hu2, hu3⟩ := U24.out
    rw [HL2.out, ← HN.out] at e
    subst e
    have HU3 := Lib.hid hu3
    clear hu1 hu2 hu3 U34
    obtain ⟨a3, c3, e, hr1, hr2, hr3⟩ := R4.out
    injection e with e1 e2 e3
    subst e1
    subst e3
    have HR3 := Lib.hid hr3
    clear hr1 hr2 hr3 e2
    go_wp2_with fail
    go_loopw [11] (fun i wr => ∃ k : Nat, k ≤ n ∧ i = .int .i64 k ∧ Hid (Below w4.heap.size w4 wr)) (fun i _ => n - (intOf i).toNat)
    case atStart => exact ⟨0, Nat.zero_le _, rfl, Lib.hid (Below.refl _ _)⟩
    case round =>
      obtain ⟨k, hk, rfl, HBW⟩ := hrel
      by_cases hlt : k < n
      · obtain ⟨ba, oa, rfl, hfa⟩ := HR3.out k (by rw [← HN.out]; exact hlt)
        obtain ⟨bb, ob, rfl, hfb⟩ := HU3.out k (by rw [HL2.out, ← HN.out]; exact hlt)
        obtain ⟨⟨q1, q2⟩, q3⟩ := HA2.out k (by rw [← HN.out]; exact hlt)
        have hba := block_lt_of_cell hfa.c0
        have hbb := block_lt_of_cell hfb.c0
        obtain ⟨y, hy⟩ : ∃ y, y = ys.getD k iz := ⟨_, rfl⟩
        rw [← hy] at hfa q1 q2 q3
        clear hy
        have hlt' : (k : Int) < (n : Int) := by omega
        by_cases he : (k : Int) = f0
        · obtain ⟨z1, z2⟩ := q1 he
          rw [z2] at hfb
          have e4 : (y.k != 0) = false := by rw [z1]; rfl
          have e1 : ((k : Int) == f0) = true := by simpa using he
          have e2 : ((k : Int) != f0) = false := by simpa using he
          have e3 : decide ((k : Int) < f0) = false := by simp; omega
          have FA : Hid (Tri wr.drew ba (oa + k * 3) y) := Lib.hid (hfa.below HBW.out.drew hba)
          have FB : Hid (Tri wr.drew bb (ob + k * 3) ⟨1, x, 0⟩) := Lib.hid (hfb.below HBW.out.drew hbb)
          clear hfa hfb q1 q2 q3 z1 z2 he
          go_wp2_with fail
          refine wp_region_held_drew (S := fun w' => Tri w' ba (oa + k * 3) y ∧ Tri w' bb (ob + k * 3) ⟨1, x, 0⟩) (by kernel_rfl) ⟨FA.out, FB.out⟩ (fun hHeld => ?_)
          refine wpAnyH_take (i := 0) (oi := { dst := some 71, op := .move (.tmp 11), type := _, pos := _, after := _, guard := none }) (v := .int .i64 (k : Int)) rfl (by kernel_rfl) (by kernel_rfl) (by kernel_rfl) (fun _ _ _ h => h) (Or.inl ⟨by rfl, fun wh hSw => ?_⟩) hHeld ?_
          · (obtain ⟨⟨s0, s1, s2⟩, t0, t1, t2⟩ := hSw; go_simp)
          try simp only [Act.put, List.setIfInBounds_toArray, List.set_cons_zero, List.set_cons_succ]
          refine wpAnyH_take (i := 1) (oi := { dst := some 72, op := .move (.tmp 6), type := _, pos := _, after := _, guard := none }) (v := .int .i64 f0) rfl (by kernel_rfl) (by kernel_rfl) (by kernel_rfl) (fun _ _ _ h => h) (Or.inl ⟨by rfl, fun wh hSw => ?_⟩) hHeld ?_
          · (obtain ⟨⟨s0, s1, s2⟩, t0, t1, t2⟩ := hSw; go_simp)
          try simp only [Act.put, List.setIfInBounds_toArray, List.set_cons_zero, List.set_cons_succ]
          refine wpAnyH_take (i := 2) (oi := { dst := some 73, op := .binOp .eql 3 (.tmp 71) (.tmp 72) 3, type := _, pos := _, after := _, guard := none }) (v := .bool true) rfl (by kernel_rfl) (by kernel_rfl) (by kernel_rfl) (fun _ _ _ h => h) (Or.inl ⟨by rfl, fun wh hSw => ?_⟩) hHeld ?_
          · (obtain ⟨⟨s0, s1, s2⟩, t0, t1, t2⟩ := hSw; go_simp)
          try simp only [Act.put, List.setIfInBounds_toArray, List.set_cons_zero, List.set_cons_succ]
          refine wpAnyH_take (i := 3) (oi := { dst := some 74, op := .move (.tmp 73), type := _, pos := _, after := _, guard := none }) (v := .bool true) rfl (by kernel_rfl) (by kernel_rfl) (by kernel_rfl) (fun _ _ _ h => h) (Or.inl ⟨by rfl, fun wh hSw => ?_⟩) hHeld ?_
          · (obtain ⟨⟨s0, s1, s2⟩, t0, t1, t2⟩ := hSw; go_simp)
          try simp only [Act.put, List.setIfInBounds_toArray, List.set_cons_zero, List.set_cons_succ]
          refine wpAnyH_take (i := 4) (oi := { dst := some 75, op := .move (.tmp 3), type := _, pos := _, after := _, guard := some (3, true) }) (v := .slice (some ⟨ba, oa, none⟩) n c2) rfl (by kernel_rfl) (by kernel_rfl) (by kernel_rfl) (fun _ _ _ h => h) (Or.inl ⟨by rfl, fun wh hSw => ?_⟩) hHeld ?_
          · (obtain ⟨⟨s0, s1, s2⟩, t0, t1, t2⟩ := hSw; go_simp)
          try simp only [Act.put, List.setIfInBounds_toArray, List.set_cons_zero, List.set_cons_succ]
          refine wpAnyH_take (i := 5) (oi := { dst := some 76, op := .move (.tmp 11), type := _, pos := _, after := _, guard := some (3, true) }) (v := .int .i64 (k : Int)) rfl (by kernel_rfl) (by kernel_rfl) (by kernel_rfl) (fun _ _ _ h => h) (Or.inl ⟨by rfl, fun wh hSw => ?_⟩) hHeld ?_
          · (obtain ⟨⟨s0, s1, s2⟩, t0, t1, t2⟩ := hSw; go_simp)
          try simp only [Act.put, List.setIfInBounds_toArray, List.set_cons_zero, List.set_cons_succ]
          refine wpAnyH_take (i := 6) (oi := { dst := some 77, op := .indexAddr 23 (.tmp 75) (.tmp 76), type := _, pos := _, after := _, guard := some (3, true) }) (v := .pointer (some ⟨ba, oa + k * 3, none⟩)) rfl (by kernel_rfl) (by kernel_rfl) (by kernel_rfl) (fun _ _ _ h => h) (Or.inl ⟨by rfl, fun wh hSw => ?_⟩) hHeld ?_
          · (obtain ⟨⟨s0, s1, s2⟩, t0, t1, t2⟩ := hSw; go_simp)
          try simp only [Act.put, List.setIfInBounds_toArray, List.set_cons_zero, List.set_cons_succ]
          refine wpAnyH_take (i := 7) (oi := { dst := some 78, op := .fieldAddr 30 (.tmp 77) 0, type := _, pos := _, after := _, guard := some (3, true) }) (v := .pointer (some ⟨ba, oa + k * 3, none⟩)) rfl (by kernel_rfl) (by kernel_rfl) (by kernel_rfl) (fun _ _ _ h => h) (Or.inl ⟨by rfl, fun wh hSw => ?_⟩) hHeld ?_
          · (obtain ⟨⟨s0, s1, s2⟩, t0, t1, t2⟩ := hSw; go_simp)
          try simp only [Act.put, List.setIfInBounds_toArray, List.set_cons_zero, List.set_cons_succ]
          refine wpAnyH_take (i := 8) (oi := { dst := some 79, op := .load 3 (.tmp 78), type := _, pos := _, after := _, guard := some (3, true) }) (v := .int .i64 y.k) rfl (by kernel_rfl) (by kernel_rfl) (by kernel_rfl) (fun _ _ _ h => h) (Or.inl ⟨by rfl, fun wh hSw => ?_⟩) hHeld ?_
          · (obtain ⟨⟨s0, s1, s2⟩, t0, t1, t2⟩ := hSw; go_simp)
          try simp only [Act.put, List.setIfInBounds_toArray, List.set_cons_zero, List.set_cons_succ]
          refine wpAnyH_take (i := 9) (oi := { dst := some 80, op := .binOp .neq 3 (.tmp 79) (.const (.int .i64 0)) 3, type := _, pos := _, after := _, guard := some (3, true) }) (v := .bool false) rfl (by kernel_rfl) (by kernel_rfl) (by kernel_rfl) (fun _ _ _ h => h) (Or.inl ⟨by rfl, fun wh hSw => ?_⟩) hHeld ?_
          · (obtain ⟨⟨s0, s1, s2⟩, t0, t1, t2⟩ := hSw; go_simp)
          try simp only [Act.put, List.setIfInBounds_toArray, List.set_cons_zero, List.set_cons_succ]
          refine wpAnyH_take (i := 10) (oi := { dst := some 81, op := .move (.tmp 80), type := _, pos := _, after := _, guard := some (3, true) }) (v := .bool false) rfl (by kernel_rfl) (by kernel_rfl) (by kernel_rfl) (fun _ _ _ h => h) (Or.inl ⟨by rfl, fun wh hSw => ?_⟩) hHeld ?_
          · (obtain ⟨⟨s0, s1, s2⟩, t0, t1, t2⟩ := hSw; go_simp)
          try simp only [Act.put, List.setIfInBounds_toArray, List.set_cons_zero, List.set_cons_succ]
          refine wpAnyH_take (i := 11) (oi := { dst := some 82, op := .move (.tmp 5), type := _, pos := _, after := _, guard := some (10, false) }) (v := .slice (some ⟨bb, ob, none⟩) n cu) rfl (by kernel_rfl) (by kernel_rfl) (by kernel_rfl) (fun _ _ _ h => h) (Or.inl ⟨by rfl, fun wh hSw => ?_⟩) hHeld ?_
          · (obtain ⟨⟨s0, s1, s2⟩, t0, t1, t2⟩ := hSw; go_simp)
          try simp only [Act.put, List.setIfInBounds_toArray, List.set_cons_zero, List.set_cons_succ]
          refine wpAnyH_take (i := 12) (oi := { dst := some 83, op := .move (.tmp 11), type := _, pos := _, after := _, guard := some (10, false) }) (v := .int .i64 (k : Int)) rfl (by kernel_rfl) (by kernel_rfl) (by kernel_rfl) (fun _ _ _ h => h) (Or.inl ⟨by rfl, fun wh hSw => ?_⟩) hHeld ?_
          · (obtain ⟨⟨s0, s1, s2⟩, t0, t1, t2⟩ := hSw; go_simp)
          try simp only [Act.put, List.setIfInBounds_toArray, List.set_cons_zero, List.set_cons_succ]
          refine wpAnyH_take (i := 13) (oi := { dst := some 84, op := .indexAddr 23 (.tmp 82) (.tmp 83), type := _, pos := _, after := _, guard := some (10, false) }) (v := .pointer (some ⟨bb, ob + k * 3, none⟩)) rfl (by kernel_rfl) (by kernel_rfl) (by kernel_rfl) (fun _ _ _ h => h) (Or.inl ⟨by rfl, fun wh hSw => ?_⟩) hHeld ?_
          · (obtain ⟨⟨s0, s1, s2⟩, t0, t1, t2⟩ := hSw; go_simp)
          try simp only [Act.put, List.setIfInBounds_toArray, List.set_cons_zero, List.set_cons_succ]
          refine wpAnyH_take (i := 14) (oi := { dst := some 85, op := .load 30 (.tmp 84), type := _, pos := _, after := _, guard := some (10, false) }) (v := ivV ⟨1, x, 0⟩) rfl (by kernel_rfl) (by kernel_rfl) (by kernel_rfl) (fun _ _ _ h => h) (Or.inl ⟨by rfl, fun wh hSw => ?_⟩) hHeld ?_
          · (obtain ⟨⟨s0, s1, s2⟩, t0, t1, t2⟩ := hSw; go_simp)
          try simp only [Act.put, List.setIfInBounds_toArray, List.set_cons_zero, List.set_cons_succ]
          refine wpAnyH_take (i := 15) (oi := { dst := some 86, op := .move (.tmp 4), type := _, pos := _, after := _, guard := some (10, false) }) (v := .string { data := List.toArray x }) rfl (by kernel_rfl) (by kernel_rfl) (by kernel_rfl) (fun _ _ _ h => h) (Or.inl ⟨by rfl, fun wh hSw => ?_⟩) hHeld ?_
          · (obtain ⟨⟨s0, s1, s2⟩, t0, t1, t2⟩ := hSw; go_simp)
          try simp only [Act.put, List.setIfInBounds_toArray, List.set_cons_zero, List.set_cons_succ]
          refine wpAnyH_take (i := 16) (oi := { dst := some 87, op := .build 30 #[(0, .const (.int .i64 1)), (1, .tmp 86)], type := _, pos := _, after := _, guard := some (10, false) }) (v := ivV ⟨1, x, 0⟩) rfl (by kernel_rfl) (by kernel_rfl) (by kernel_rfl) (fun _ _ _ h => h) (Or.inl ⟨by rfl, fun wh hSw => ?_⟩) hHeld ?_
          · (obtain ⟨⟨s0, s1, s2⟩, t0, t1, t2⟩ := hSw; go_simp)
          try simp only [Act.put, List.setIfInBounds_toArray, List.set_cons_zero, List.set_cons_succ]
          refine wpAnyH_take (i := 17) (oi := { dst := some 88, op := .binOp .neq 30 (.tmp 85) (.tmp 87) 30, type := _, pos := _, after := _, guard := some (10, false) }) (v := .bool false) rfl (by kernel_rfl) (by kernel_rfl) (by kernel_rfl) (fun _ _ _ h => h) (Or.inl ⟨by rfl, fun wh hSw => ?_⟩) hHeld ?_
          · (obtain ⟨⟨s0, s1, s2⟩, t0, t1, t2⟩ := hSw; go_simp)
          try simp only [Act.put, List.setIfInBounds_toArray, List.set_cons_zero, List.set_cons_succ]
          refine wpAnyH_take (i := 18) (oi := { dst := some 89, op := .pick (.tmp 81) (.const (.bool true)) (.tmp 88), type := _, pos := _, after := _, guard := some (3, true) }) (v := .bool false) rfl (by kernel_rfl) (by kernel_rfl) (by kernel_rfl) (fun _ _ _ h => h) (Or.inl ⟨by rfl, fun wh hSw => ?_⟩) hHeld ?_
          · (obtain ⟨⟨s0, s1, s2⟩, t0, t1, t2⟩ := hSw; go_simp)
          try simp only [Act.put, List.setIfInBounds_toArray, List.set_cons_zero, List.set_cons_succ]
          refine wpAnyH_take (i := 19) (oi := { dst := some 90, op := .pick (.tmp 74) (.tmp 89) (.const (.bool false)), type := _, pos := _, after := _, guard := none }) (v := .bool false) rfl (by kernel_rfl) (by kernel_rfl) (by kernel_rfl) (fun _ _ _ h => h) (Or.inl ⟨by rfl, fun wh hSw => ?_⟩) hHeld ?_
          · (obtain ⟨⟨s0, s1, s2⟩, t0, t1, t2⟩ := hSw; go_simp)
          try simp only [Act.put, List.setIfInBounds_toArray, List.set_cons_zero, List.set_cons_succ]
          refine wpAnyH_take (i := 20) (oi := { dst := some 91, op := .move (.tmp 90), type := _, pos := _, after := _, guard := none }) (v := .bool false) rfl (by kernel_rfl) (by kernel_rfl) (by kernel_rfl) (fun _ _ _ h => h) (Or.inl ⟨by rfl, fun wh hSw => ?_⟩) hHeld ?_
          · (obtain ⟨⟨s0, s1, s2⟩, t0, t1, t2⟩ := hSw; go_simp)
          try simp only [Act.put, List.setIfInBounds_toArray, List.set_cons_zero, List.set_cons_succ]
          refine wpAnyH_take (i := 21) (oi := { dst := some 92, op := .move (.tmp 11), type := _, pos := _, after := _, guard := some (20, false) }) (v := .int .i64 (k : Int)) rfl (by kernel_rfl) (by kernel_rfl) (by kernel_rfl) (fun _ _ _ h => h) (Or.inl ⟨by rfl, fun wh hSw => ?_⟩) hHeld ?_
          · (obtain ⟨⟨s0, s1, s2⟩, t0, t1, t2⟩ := hSw; go_simp)
          try simp only [Act.put, List.setIfInBounds_toArray, List.set_cons_zero, List.set_cons_succ]
          refine wpAnyH_take (i := 22) (oi := { dst := some 93, op := .move (.tmp 6), type := _, pos := _, after := _, guard := some (20, false) }) (v := .int .i64 f0) rfl (by kernel_rfl) (by kernel_rfl) (by kernel_rfl) (fun _ _ _ h => h) (Or.inl ⟨by rfl, fun wh hSw => ?_⟩) hHeld ?_
          · (obtain ⟨⟨s0, s1, s2⟩, t0, t1, t2⟩ := hSw; go_simp)
          try simp only [Act.put, List.setIfInBounds_toArray, List.set_cons_zero, List.set_cons_succ]
          refine wpAnyH_take (i := 23) (oi := { dst := some 94, op := .binOp .neq 3 (.tmp 92) (.tmp 93) 3, type := _, pos := _, after := _, guard := some (20, false) }) (v := .bool false) rfl (by kernel_rfl) (by kernel_rfl) (by kernel_rfl) (fun _ _ _ h => h) (Or.inl ⟨by rfl, fun wh hSw => ?_⟩) hHeld ?_
          · (obtain ⟨⟨s0, s1, s2⟩, t0, t1, t2⟩ := hSw; go_simp)
          try simp only [Act.put, List.setIfInBounds_toArray, List.set_cons_zero, List.set_cons_succ]
          refine wpAnyH_take (i := 24) (oi := { dst := some 95, op := .move (.tmp 94), type := _, pos := _, after := _, guard := some (20, false) }) (v := .bool false) rfl (by kernel_rfl) (by kernel_rfl) (by kernel_rfl) (fun _ _ _ h => h) (Or.inl ⟨by rfl, fun wh hSw => ?_⟩) hHeld ?_
          · (obtain ⟨⟨s0, s1, s2⟩, t0, t1, t2⟩ := hSw; go_simp)
          try simp only [Act.put, List.setIfInBounds_toArray, List.set_cons_zero, List.set_cons_succ]
          refine wpAnyH_take (i := 25) (oi := { dst := some 96, op := .move (.tmp 5), type := _, pos := _, after := _, guard := some (24, true) }) (v := undef) rfl (by kernel_rfl) (by kernel_rfl) (by kernel_rfl) (fun _ _ _ h => h) (Or.inr ⟨by rfl, rfl⟩) hHeld ?_
          try simp only [Act.put, List.setIfInBounds_toArray, List.set_cons_zero, List.set_cons_succ]
          refine wpAnyH_take (i := 26) (oi := { dst := some 97, op := .move (.tmp 11), type := _, pos := _, after := _, guard := some (24, true) }) (v := undef) rfl (by kernel_rfl) (by kernel_rfl) (by kernel_rfl) (fun _ _ _ h => h) (Or.inr ⟨by rfl, rfl⟩) hHeld ?_
          try simp only [Act.put, List.setIfInBounds_toArray, List.set_cons_zero, List.set_cons_succ]
          refine wpAnyH_take (i := 27) (oi := { dst := some 98, op := .indexAddr 23 (.tmp 96) (.tmp 97), type := _, pos := _, after := _, guard := some (24, true) }) (v := undef) rfl (by kernel_rfl) (by kernel_rfl) (by kernel_rfl) (fun _ _ _ h => h) (Or.inr ⟨by rfl, rfl⟩) hHeld ?_
          try simp only [Act.put, List.setIfInBounds_toArray, List.set_cons_zero, List.set_cons_succ]
          refine wpAnyH_take (i := 28) (oi := { dst := some 99, op := .load 30 (.tmp 98), type := _, pos := _, after := _, guard := some (24, true) }) (v := undef) rfl (by kernel_rfl) (by kernel_rfl) (by kernel_rfl) (fun _ _ _ h => h) (Or.inr ⟨by rfl, rfl⟩) hHeld ?_
          try simp only [Act.put, List.setIfInBounds_toArray, List.set_cons_zero, List.set_cons_succ]
          refine wpAnyH_take (i := 29) (oi := { dst := some 100, op := .move (.tmp 3), type := _, pos := _, after := _, guard := some (24, true) }) (v := undef) rfl (by kernel_rfl) (by kernel_rfl) (by kernel_rfl) (fun _ _ _ h => h) (Or.inr ⟨by rfl, rfl⟩) hHeld ?_
          try simp only [Act.put, List.setIfInBounds_toArray, List.set_cons_zero, List.set_cons_succ]
          refine wpAnyH_take (i := 30) (oi := { dst := some 101, op := .move (.tmp 11), type := _, pos := _, after := _, guard := some (24, true) }) (v := undef) rfl (by kernel_rfl) (by kernel_rfl) (by kernel_rfl) (fun _ _ _ h => h) (Or.inr ⟨by rfl, rfl⟩) hHeld ?_
          try simp only [Act.put, List.setIfInBounds_toArray, List.set_cons_zero, List.set_cons_succ]
          refine wpAnyH_take (i := 31) (oi := { dst := some 102, op := .indexAddr 23 (.tmp 100) (.tmp 101), type := _, pos := _, after := _, guard := some (24, true) }) (v := undef) rfl (by kernel_rfl) (by kernel_rfl) (by kernel_rfl) (fun _ _ _ h => h) (Or.inr ⟨by rfl, rfl⟩) hHeld ?_
          try simp only [Act.put, List.setIfInBounds_toArray, List.set_cons_zero, List.set_cons_succ]
          refine wpAnyH_take (i := 32) (oi := { dst := some 103, op := .load 30 (.tmp 102), type := _, pos := _, after := _, guard := some (24, true) }) (v := undef) rfl (by kernel_rfl) (by kernel_rfl) (by kernel_rfl) (fun _ _ _ h => h) (Or.inr ⟨by rfl, rfl⟩) hHeld ?_
          try simp only [Act.put, List.setIfInBounds_toArray, List.set_cons_zero, List.set_cons_succ]
          refine wpAnyH_take (i := 33) (oi := { dst := some 104, op := .binOp .neq 30 (.tmp 99) (.tmp 103) 30, type := _, pos := _, after := _, guard := some (24, true) }) (v := undef) rfl (by kernel_rfl) (by kernel_rfl) (by kernel_rfl) (fun _ _ _ h => h) (Or.inr ⟨by rfl, rfl⟩) hHeld ?_
          try simp only [Act.put, List.setIfInBounds_toArray, List.set_cons_zero, List.set_cons_succ]
          refine wpAnyH_take (i := 34) (oi := { dst := some 105, op := .pick (.tmp 95) (.tmp 104) (.const (.bool false)), type := _, pos := _, after := _, guard := some (20, false) }) (v := .bool false) rfl (by kernel_rfl) (by kernel_rfl) (by kernel_rfl) (fun _ _ _ h => h) (Or.inl ⟨by rfl, fun wh hSw => ?_⟩) hHeld ?_
          · (obtain ⟨⟨s0, s1, s2⟩, t0, t1, t2⟩ := hSw; go_simp)
          try simp only [Act.put, List.setIfInBounds_toArray, List.set_cons_zero, List.set_cons_succ]
          refine wpAnyH_take (i := 35) (oi := { dst := some 106, op := .pick (.tmp 91) (.const (.bool true)) (.tmp 105), type := _, pos := _, after := _, guard := none }) (v := .bool false) rfl (by kernel_rfl) (by kernel_rfl) (by kernel_rfl) (fun _ _ _ h => h) (Or.inl ⟨by rfl, fun wh hSw => ?_⟩) hHeld ?_
          · (obtain ⟨⟨s0, s1, s2⟩, t0, t1, t2⟩ := hSw; go_simp)
          try simp only [Act.put, List.setIfInBounds_toArray, List.set_cons_zero, List.set_cons_succ]
          refine wpAnyH_take (i := 36) (oi := { dst := some 107, op := .move (.tmp 106), type := _, pos := _, after := _, guard := none }) (v := .bool false) rfl (by kernel_rfl) (by kernel_rfl) (by kernel_rfl) (fun _ _ _ h => h) (Or.inl ⟨by rfl, fun wh hSw => ?_⟩) hHeld ?_
          · (obtain ⟨⟨s0, s1, s2⟩, t0, t1, t2⟩ := hSw; go_simp)
          try simp only [Act.put, List.setIfInBounds_toArray, List.set_cons_zero, List.set_cons_succ]
          refine wpAnyH_take (i := 37) (oi := { dst := some 108, op := .move (.tmp 11), type := _, pos := _, after := _, guard := some (36, false) }) (v := .int .i64 (k : Int)) rfl (by kernel_rfl) (by kernel_rfl) (by kernel_rfl) (fun _ _ _ h => h) (Or.inl ⟨by rfl, fun wh hSw => ?_⟩) hHeld ?_
          · (obtain ⟨⟨s0, s1, s2⟩, t0, t1, t2⟩ := hSw; go_simp)
          try simp only [Act.put, List.setIfInBounds_toArray, List.set_cons_zero, List.set_cons_succ]
          refine wpAnyH_take (i := 38) (oi := { dst := some 109, op := .move (.tmp 6), type := _, pos := _, after := _, guard := some (36, false) }) (v := .int .i64 f0) rfl (by kernel_rfl) (by kernel_rfl) (by kernel_rfl) (fun _ _ _ h => h) (Or.inl ⟨by rfl, fun wh hSw => ?_⟩) hHeld ?_
          · (obtain ⟨⟨s0, s1, s2⟩, t0, t1, t2⟩ := hSw; go_simp)
          try simp only [Act.put, List.setIfInBounds_toArray, List.set_cons_zero, List.set_cons_succ]
          refine wpAnyH_take (i := 39) (oi := { dst := some 110, op := .binOp .lss 3 (.tmp 108) (.tmp 109) 3, type := _, pos := _, after := _, guard := some (36, false) }) (v := .bool false) rfl (by kernel_rfl) (by kernel_rfl) (by kernel_rfl) (fun _ _ _ h => h) (Or.inl ⟨by rfl, fun wh hSw => ?_⟩) hHeld ?_
          · (obtain ⟨⟨s0, s1, s2⟩, t0, t1, t2⟩ := hSw; go_simp)
          try simp only [Act.put, List.setIfInBounds_toArray, List.set_cons_zero, List.set_cons_succ]
          refine wpAnyH_take (i := 40) (oi := { dst := some 111, op := .move (.tmp 110), type := _, pos := _, after := _, guard := some (36, false) }) (v := .bool false) rfl (by kernel_rfl) (by kernel_rfl) (by kernel_rfl) (fun _ _ _ h => h) (Or.inl ⟨by rfl, fun wh hSw => ?_⟩) hHeld ?_
          · (obtain ⟨⟨s0, s1, s2⟩, t0, t1, t2⟩ := hSw; go_simp)
          try simp only [Act.put, List.setIfInBounds_toArray, List.set_cons_zero, List.set_cons_succ]
          refine wpAnyH_take (i := 41) (oi := { dst := some 112, op := .move (.tmp 3), type := _, pos := _, after := _, guard := some (40, true) }) (v := undef) rfl (by kernel_rfl) (by kernel_rfl) (by kernel_rfl) (fun _ _ _ h => h) (Or.inr ⟨by rfl, rfl⟩) hHeld ?_
          try simp only [Act.put, List.setIfInBounds_toArray, List.set_cons_zero, List.set_cons_succ]
          refine wpAnyH_take (i := 42) (oi := { dst := some 113, op := .move (.tmp 11), type := _, pos := _, after := _, guard := some (40, true) }) (v := undef) rfl (by kernel_rfl) (by kernel_rfl) (by kernel_rfl) (fun _ _ _ h => h) (Or.inr ⟨by rfl, rfl⟩) hHeld ?_
          try simp only [Act.put, List.setIfInBounds_toArray, List.set_cons_zero, List.set_cons_succ]
          refine wpAnyH_take (i := 43) (oi := { dst := some 114, op := .indexAddr 23 (.tmp 112) (.tmp 113), type := _, pos := _, after := _, guard := some (40, true) }) (v := undef) rfl (by kernel_rfl) (by kernel_rfl) (by kernel_rfl) (fun _ _ _ h => h) (Or.inr ⟨by rfl, rfl⟩) hHeld ?_
          try simp only [Act.put, List.setIfInBounds_toArray, List.set_cons_zero, List.set_cons_succ]
          refine wpAnyH_take (i := 44) (oi := { dst := some 115, op := .fieldAddr 30 (.tmp 114) 0, type := _, pos := _, after := _, guard := some (40, true) }) (v := undef) rfl (by kernel_rfl) (by kernel_rfl) (by kernel_rfl) (fun _ _ _ h => h) (Or.inr ⟨by rfl, rfl⟩) hHeld ?_
          try simp only [Act.put, List.setIfInBounds_toArray, List.set_cons_zero, List.set_cons_succ]
          refine wpAnyH_take (i := 45) (oi := { dst := some 116, op := .load 3 (.tmp 115), type := _, pos := _, after := _, guard := some (40, true) }) (v := undef) rfl (by kernel_rfl) (by kernel_rfl) (by kernel_rfl) (fun _ _ _ h => h) (Or.inr ⟨by rfl, rfl⟩) hHeld ?_
          try simp only [Act.put, List.setIfInBounds_toArray, List.set_cons_zero, List.set_cons_succ]
          refine wpAnyH_take (i := 46) (oi := { dst := some 117, op := .binOp .eql 3 (.tmp 116) (.const (.int .i64 0)) 3, type := _, pos := _, after := _, guard := some (40, true) }) (v := undef) rfl (by kernel_rfl) (by kernel_rfl) (by kernel_rfl) (fun _ _ _ h => h) (Or.inr ⟨by rfl, rfl⟩) hHeld ?_
          try simp only [Act.put, List.setIfInBounds_toArray, List.set_cons_zero, List.set_cons_succ]
          refine wpAnyH_take (i := 47) (oi := { dst := some 118, op := .pick (.tmp 111) (.tmp 117) (.const (.bool false)), type := _, pos := _, after := _, guard := some (36, false) }) (v := .bool false) rfl (by kernel_rfl) (by kernel_rfl) (by kernel_rfl) (fun _ _ _ h => h) (Or.inl ⟨by rfl, fun wh hSw => ?_⟩) hHeld ?_
          · (obtain ⟨⟨s0, s1, s2⟩, t0, t1, t2⟩ := hSw; go_simp)
          try simp only [Act.put, List.setIfInBounds_toArray, List.set_cons_zero, List.set_cons_succ]
          refine wpAnyH_take (i := 48) (oi := { dst := some 119, op := .pick (.tmp 107) (.const (.bool true)) (.tmp 118), type := _, pos := _, after := _, guard := none }) (v := .bool false) rfl (by kernel_rfl) (by kernel_rfl) (by kernel_rfl) (fun _ _ _ h => h) (Or.inl ⟨by rfl, fun wh hSw => ?_⟩) hHeld ?_
          · (obtain ⟨⟨s0, s1, s2⟩, t0, t1, t2⟩ := hSw; go_simp)
          try simp only [Act.put, List.setIfInBounds_toArray, List.set_cons_zero, List.set_cons_succ]
          refine wpAnyH_done (by kernel_rfl) ?_ _
          go_wp2
          go_roundw
          case rel => exact ⟨k + 1, by omega, by go_num, Lib.hid HBW.out.drew⟩
          case measure => simp [intOf]; omega
        · rw [q2 he] at hfb
          have e1 : ((k : Int) == f0) = false := by simpa using he
          have e2 : ((k : Int) != f0) = true := by simpa using he
          have FA : Hid (Tri wr.drew ba (oa + k * 3) y) := Lib.hid (hfa.below HBW.out.drew hba)
          have FB : Hid (Tri wr.drew bb (ob + k * 3) y) := Lib.hid (hfb.below HBW.out.drew hbb)
          clear hfa hfb q1 q2 he
          by_cases hl : (k : Int) < f0
          · have e3 : decide ((k : Int) < f0) = true := by simpa using hl
            have e4 : (y.k == 0) = false := by simpa using q3 hl
            clear q3 hl
            go_wp2_with fail
            refine wp_region_held_drew (S := fun w' => Tri w' ba (oa + k * 3) y ∧ Tri w' bb (ob + k * 3) y) (by kernel_rfl) ⟨FA.out, FB.out⟩ (fun hHeld => ?_)
            refine wpAnyH_take (i := 0) (oi := { dst := some 71, op := .move (.tmp 11), type := _, pos := _, after := _, guard := none }) (v := .int .i64 (k : Int)) rfl (by kernel_rfl) (by kernel_rfl) (by kernel_rfl) (fun _ _ _ h => h) (Or.inl ⟨by rfl, fun wh hSw => ?_⟩) hHeld ?_
            · (obtain ⟨⟨s0, s1, s2⟩, t0, t1, t2⟩ := hSw; go_simp)
            try simp only [Act.put, List.setIfInBounds_toArray, List.set_cons_zero, List.set_cons_succ]
            refine wpAnyH_take (i := 1) (oi := { dst := some 72, op := .move (.tmp 6), type := _, pos := _, after := _, guard := none }) (v := .int .i64 f0) rfl (by kernel_rfl) (by kernel_rfl) (by kernel_rfl) (fun _ _ _ h => h) (Or.inl ⟨by rfl, fun wh hSw => ?_⟩) hHeld ?_
            · (obtain ⟨⟨s0, s1, s2⟩, t0, t1, t2⟩ := hSw; go_simp)
            try simp only [Act.put, List.setIfInBounds_toArray, List.set_cons_zero, List.set_cons_succ]
            refine wpAnyH_take (i := 2) (oi := { dst := some 73, op := .binOp .eql 3 (.tmp 71) (.tmp 72) 3, type := _, pos := _, after := _, guard := none }) (v := .bool false) rfl (by kernel_rfl) (by kernel_rfl) (by kernel_rfl) (fun _ _ _ h => h) (Or.inl ⟨by rfl, fun wh hSw => ?_⟩) hHeld ?_
            · (obtain ⟨⟨s0, s1, s2⟩, t0, t1, t2⟩ := hSw; go_simp)
            try simp only [Act.put, List.setIfInBounds_toArray, List.set_cons_zero, List.set_cons_succ]
            refine wpAnyH_take (i := 3) (oi := { dst := some 74, op := .move (.tmp 73), type := _, pos := _, after := _, guard := none }) (v := .bool false) rfl (by kernel_rfl) (by kernel_rfl) (by kernel_rfl) (fun _ _ _ h => h) (Or.inl ⟨by rfl, fun wh hSw => ?_⟩) hHeld ?_
            · (obtain ⟨⟨s0, s1, s2⟩, t0, t1, t2⟩ := hSw; go_simp)
            try simp only [Act.put, List.setIfInBounds_toArray, List.set_cons_zero, List.set_cons_succ]
            refine wpAnyH_take (i := 4) (oi := { dst := some 75, op := .move (.tmp 3), type := _, pos := _, after := _, guard := some (3, true) }) (v := undef) rfl (by kernel_rfl) (by kernel_rfl) (by kernel_rfl) (fun _ _ _ h => h) (Or.inr ⟨by rfl, rfl⟩) hHeld ?_
            try simp only [Act.put, List.setIfInBounds_toArray, List.set_cons_zero, List.set_cons_succ]
            refine wpAnyH_take (i := 5) (oi := { dst := some 76, op := .move (.tmp 11), type := _, pos := _, after := _, guard := some (3, true) }) (v := undef) rfl (by kernel_rfl) (by kernel_rfl) (by kernel_rfl) (fun _ _ _ h => h) (Or.inr ⟨by rfl, rfl⟩) hHeld ?_
            try simp only [Act.put, List.setIfInBounds_toArray, List.set_cons_zero, List.set_cons_succ]
            refine wpAnyH_take (i := 6) (oi := { dst := some 77, op := .indexAddr 23 (.tmp 75) (.tmp 76), type := _, pos := _, after := _, guard := some (3, true) }) (v := undef) rfl (by kernel_rfl) (by kernel_rfl) (by kernel_rfl) (fun _ _ _ h => h) (Or.inr ⟨by rfl, rfl⟩) hHeld ?_
            try simp only [Act.put, List.setIfInBounds_toArray, List.set_cons_zero, List.set_cons_succ]
            refine wpAnyH_take (i := 7) (oi := { dst := some 78, op := .fieldAddr 30 (.tmp 77) 0, type := _, pos := _, after := _, guard := some (3, true) }) (v := undef) rfl (by kernel_rfl) (by kernel_rfl) (by kernel_rfl) (fun _ _ _ h => h) (Or.inr ⟨by rfl, rfl⟩) hHeld ?_
            try simp only [Act.put, List.setIfInBounds_toArray, List.set_cons_zero, List.set_cons_succ]
            refine wpAnyH_take (i := 8) (oi := { dst := some 79, op := .load 3 (.tmp 78), type := _, pos := _, after := _, guard := some (3, true) }) (v := undef) rfl (by kernel_rfl) (by kernel_rfl) (by kernel_rfl) (fun _ _ _ h => h) (Or.inr ⟨by rfl, rfl⟩) hHeld ?_
            try simp only [Act.put, List.setIfInBounds_toArray, List.set_cons_zero, List.set_cons_succ]
            refine wpAnyH_take (i := 9) (oi := { dst := some 80, op := .binOp .neq 3 (.tmp 79) (.const (.int .i64 0)) 3, type := _, pos := _, after := _, guard := some (3, true) }) (v := undef) rfl (by kernel_rfl) (by kernel_rfl) (by kernel_rfl) (fun _ _ _ h => h) (Or.inr ⟨by rfl, rfl⟩) hHeld ?_
            try simp only [Act.put, List.setIfInBounds_toArray, List.set_cons_zero, List.set_cons_succ]
            refine wpAnyH_take (i := 10) (oi := { dst := some 81, op := .move (.tmp 80), type := _, pos := _, after := _, guard := some (3, true) }) (v := undef) rfl (by kernel_rfl) (by kernel_rfl) (by kernel_rfl) (fun _ _ _ h => h) (Or.inr ⟨by rfl, rfl⟩) hHeld ?_
            try simp only [Act.put, List.setIfInBounds_toArray, List.set_cons_zero, List.set_cons_succ]
            refine wpAnyH_take (i := 11) (oi := { dst := some 82, op := .move (.tmp 5), type := _, pos := _, after := _, guard := some (10, false) }) (v := undef) rfl (by kernel_rfl) (by kernel_rfl) (by kernel_rfl) (fun _ _ _ h => h) (Or.inr ⟨by rfl, rfl⟩) hHeld ?_
            try simp only [Act.put, List.setIfInBounds_toArray, List.set_cons_zero, List.set_cons_succ]
            refine wpAnyH_take (i := 12) (oi := { dst := some 83, op := .move (.tmp 11), type := _, pos := _, after := _, guard := some (10, false) }) (v := undef) rfl (by kernel_rfl) (by kernel_rfl) (by kernel_rfl) (fun _ _ _ h => h) (Or.inr ⟨by rfl, rfl⟩) hHeld ?_
            try simp only [Act.put, List.setIfInBounds_toArray, List.set_cons_zero, List.set_cons_succ]
            refine wpAnyH_take (i := 13) (oi := { dst := some 84, op := .indexAddr 23 (.tmp 82) (.tmp 83), type := _, pos := _, after := _, guard := some (10, false) }) (v := undef) rfl (by kernel_rfl) (by kernel_rfl) (by kernel_rfl) (fun _ _ _ h => h) (Or.inr ⟨by rfl, rfl⟩) hHeld ?_
            try simp only [Act.put, List.setIfInBounds_toArray, List.set_cons_zero, List.set_cons_succ]
            refine wpAnyH_take (i := 14) (oi := { dst := some 85, op := .load 30 (.tmp 84), type := _, pos := _, after := _, guard := some (10, false) }) (v := undef) rfl (by kernel_rfl) (by kernel_rfl) (by kernel_rfl) (fun _ _ _ h => h) (Or.inr ⟨by rfl, rfl⟩) hHeld ?_
            try simp only [Act.put, List.setIfInBounds_toArray, List.set_cons_zero, List.set_cons_succ]
            refine wpAnyH_take (i := 15) (oi := { dst := some 86, op := .move (.tmp 4), type := _, pos := _, after := _, guard := some (10, false) }) (v := undef) rfl (by kernel_rfl) (by kernel_rfl) (by kernel_rfl) (fun _ _ _ h => h) (Or.inr ⟨by rfl, rfl⟩) hHeld ?_
            try simp only [Act.put, List.setIfInBounds_toArray, List.set_cons_zero, List.set_cons_succ]
            refine wpAnyH_take (i := 16) (oi := { dst := some 87, op := .build 30 #[(0, .const (.int .i64 1)), (1, .tmp 86)], type := _, pos := _, after := _, guard := some (10, false) }) (v := undef) rfl (by kernel_rfl) (by kernel_rfl) (by kernel_rfl) (fun _ _ _ h => h) (Or.inr ⟨by rfl, rfl⟩) hHeld ?_
            try simp only [Act.put, List.setIfInBounds_toArray, List.set_cons_zero, List.set_cons_succ]
            refine wpAnyH_take (i := 17) (oi := { dst := some 88, op := .binOp .neq 30 (.tmp 85) (.tmp 87) 30, type := _, pos := _, after := _, guard := some (10, false) }) (v := undef) rfl (by kernel_rfl) (by kernel_rfl) (by kernel_rfl) (fun _ _ _ h => h) (Or.inr ⟨by rfl, rfl⟩) hHeld ?_
            try simp only [Act.put, List.setIfInBounds_toArray, List.set_cons_zero, List.set_cons_succ]
            refine wpAnyH_take (i := 18) (oi := { dst := some 89, op := .pick (.tmp 81) (.const (.bool true)) (.tmp 88), type := _, pos := _, after := _, guard := some (3, true) }) (v := undef) rfl (by kernel_rfl) (by kernel_rfl) (by kernel_rfl) (fun _ _ _ h => h) (Or.inr ⟨by rfl, rfl⟩) hHeld ?_
            try simp only [Act.put, List.setIfInBounds_toArray, List.set_cons_zero, List.set_cons_succ]
            refine wpAnyH_take (i := 19) (oi := { dst := some 90, op := .pick (.tmp 74) (.tmp 89) (.const (.bool false)), type := _, pos := _, after := _, guard := none }) (v := .bool false) rfl (by kernel_rfl) (by kernel_rfl) (by kernel_rfl) (fun _ _ _ h => h) (Or.inl ⟨by rfl, fun wh hSw => ?_⟩) hHeld ?_
            · (obtain ⟨⟨s0, s1, s2⟩, t0, t1, t2⟩ := hSw; go_simp)
            try simp only [Act.put, List.setIfInBounds_toArray, List.set_cons_zero, List.set_cons_succ]
            refine wpAnyH_take (i := 20) (oi := { dst := some 91, op := .move (.tmp 90), type := _, pos := _, after := _, guard := none }) (v := .bool false) rfl (by kernel_rfl) (by kernel_rfl) (by kernel_rfl) (fun _ _ _ h => h) (Or.inl ⟨by rfl, fun wh hSw => ?_⟩) hHeld ?_
            · (obtain ⟨⟨s0, s1, s2⟩, t0, t1, t2⟩ := hSw; go_simp)
            try simp only [Act.put, List.setIfInBounds_toArray, List.set_cons_zero, List.set_cons_succ]
            refine wpAnyH_take (i := 21) (oi := { dst := some 92, op := .move (.tmp 11), type := _, pos := _, after := _, guard := some (20, false) }) (v := .int .i64 (k : Int)) rfl (by kernel_rfl) (by kernel_rfl) (by kernel_rfl) (fun _ _ _ h => h) (Or.inl ⟨by rfl, fun wh hSw => ?_⟩) hHeld ?_
            · (obtain ⟨⟨s0, s1, s2⟩, t0, t1, t2⟩ := hSw; go_simp)
            try simp only [Act.put, List.setIfInBounds_toArray, List.set_cons_zero, List.set_cons_succ]
            refine wpAnyH_take (i := 22) (oi := { dst := some 93, op := .move (.tmp 6), type := _, pos := _, after := _, guard := some (20, false) }) (v := .int .i64 f0) rfl (by kernel_rfl) (by kernel_rfl) (by kernel_rfl) (fun _ _ _ h => h) (Or.inl ⟨by rfl, fun wh hSw => ?_⟩) hHeld ?_
            · (obtain ⟨⟨s0, s1, s2⟩, t0, t1, t2⟩ := hSw; go_simp)
            try simp only [Act.put, List.setIfInBounds_toArray, List.set_cons_zero, List.set_cons_succ]
            refine wpAnyH_take (i := 23) (oi := { dst := some 94, op := .binOp .neq 3 (.tmp 92) (.tmp 93) 3, type := _, pos := _, after := _, guard := some (20, false) }) (v := .bool true) rfl (by kernel_rfl) (by kernel_rfl) (by kernel_rfl) (fun _ _ _ h => h) (Or.inl ⟨by rfl, fun wh hSw => ?_⟩) hHeld ?_
            · (obtain ⟨⟨s0, s1, s2⟩, t0, t1, t2⟩ := hSw; go_simp)
            try simp only [Act.put, List.setIfInBounds_toArray, List.set_cons_zero, List.set_cons_succ]
            refine wpAnyH_take (i := 24) (oi := { dst := some 95, op := .move (.tmp 94), type := _, pos := _, after := _, guard := some (20, false) }) (v := .bool true) rfl (by kernel_rfl) (by kernel_rfl) (by kernel_rfl) (fun _ _ _ h => h) (Or.inl ⟨by rfl, fun wh hSw => ?_⟩) hHeld ?_
            · (obtain ⟨⟨s0, s1, s2⟩, t0, t1, t2⟩ := hSw; go_simp)
            try simp only [Act.put, List.setIfInBounds_toArray, List.set_cons_zero, List.set_cons_succ]
            refine wpAnyH_take (i := 25) (oi := { dst := some 96, op := .move (.tmp 5), type := _, pos := _, after := _, guard := some (24, true) }) (v := .slice (some ⟨bb, ob, none⟩) n cu) rfl (by kernel_rfl) (by kernel_rfl) (by kernel_rfl) (fun _ _ _ h => h) (Or.inl ⟨by rfl, fun wh hSw => ?_⟩) hHeld ?_
            · (obtain ⟨⟨s0, s1, s2⟩, t0, t1, t2⟩ := hSw; go_simp)
            try simp only [Act.put, List.setIfInBounds_toArray, List.set_cons_zero, List.set_cons_succ]
            refine wpAnyH_take (i := 26) (oi := { dst := some 97, op := .move (.tmp 11), type := _, pos := _, after := _, guard := some (24, true) }) (v := .int .i64 (k : Int)) rfl (by kernel_rfl) (by kernel_rfl) (by kernel_rfl) (fun _ _ _ h => h) (Or.inl ⟨by rfl, fun wh hSw => ?_⟩) hHeld ?_
            · (obtain ⟨⟨s0, s1, s2⟩, t0, t1, t2⟩ := hSw; go_simp)
            try simp only [Act.put, List.setIfInBounds_toArray, List.set_cons_zero, List.set_cons_succ]
            refine wpAnyH_take (i := 27) (oi := { dst := some 98, op := .indexAddr 23 (.tmp 96) (.tmp 97), type := _, pos := _, after := _, guard := some (24, true) }) (v := .pointer (some ⟨bb, ob + k * 3, none⟩)) rfl (by kernel_rfl) (by kernel_rfl) (by kernel_rfl) (fun _ _ _ h => h) (Or.inl ⟨by rfl, fun wh hSw => ?_⟩) hHeld ?_
            · (obtain ⟨⟨s0, s1, s2⟩, t0, t1, t2⟩ := hSw; go_simp)
            try simp only [Act.put, List.setIfInBounds_toArray, List.set_cons_zero, List.set_cons_succ]
            refine wpAnyH_take (i := 28) (oi := { dst := some 99, op := .load 30 (.tmp 98), type := _, pos := _, after := _, guard := some (24, true) }) (v := ivV y) rfl (by kernel_rfl) (by kernel_rfl) (by kernel_rfl) (fun _ _ _ h => h) (Or.inl ⟨by rfl, fun wh hSw => ?_⟩) hHeld ?_
            · (obtain ⟨⟨s0, s1, s2⟩, t0, t1, t2⟩ := hSw; go_simp)
            try simp only [Act.put, List.setIfInBounds_toArray, List.set_cons_zero, List.set_cons_succ]
            refine wpAnyH_take (i := 29) (oi := { dst := some 100, op := .move (.tmp 3), type := _, pos := _, after := _, guard := some (24, true) }) (v := .slice (some ⟨ba, oa, none⟩) n c2) rfl (by kernel_rfl) (by kernel_rfl) (by kernel_rfl) (fun _ _ _ h => h) (Or.inl ⟨by rfl, fun wh hSw => ?_⟩) hHeld ?_
            · (obtain ⟨⟨s0, s1, s2⟩, t0, t1, t2⟩ := hSw; go_simp)
            try simp only [Act.put, List.setIfInBounds_toArray, List.set_cons_zero, List.set_cons_succ]
            refine wpAnyH_take (i := 30) (oi := { dst := some 101, op := .move (.tmp 11), type := _, pos := _, after := _, guard := some (24, true) }) (v := .int .i64 (k : Int)) rfl (by kernel_rfl) (by kernel_rfl) (by kernel_rfl) (fun _ _ _ h => h) (Or.inl ⟨by rfl, fun wh hSw => ?_⟩) hHeld ?_
            · (obtain ⟨⟨s0, s1, s2⟩, t0, t1, t2⟩ := hSw; go_simp)
            try simp only [Act.put, List.setIfInBounds_toArray, List.set_cons_zero, List.set_cons_succ]
            refine wpAnyH_take (i := 31) (oi := { dst := some 102, op := .indexAddr 23 (.tmp 100) (.tmp 101), type := _, pos := _, after := _, guard := some (24, true) }) (v := .pointer (some ⟨ba, oa + k * 3, none⟩)) rfl (by kernel_rfl) (by kernel_rfl) (by kernel_rfl) (fun _ _ _ h => h) (Or.inl ⟨by rfl, fun wh hSw => ?_⟩) hHeld ?_
            · (obtain ⟨⟨s0, s1, s2⟩, t0, t1, t2⟩ := hSw; go_simp)
            try simp only [Act.put, List.setIfInBounds_toArray, List.set_cons_zero, List.set_cons_succ]
            refine wpAnyH_take (i := 32) (oi := { dst := some 103, op := .load 30 (.tmp 102), type := _, pos := _, after := _, guard := some (24, true) }) (v := ivV y) rfl (by kernel_rfl) (by kernel_rfl) (by kernel_rfl) (fun _ _ _ h => h) (Or.inl ⟨by rfl, fun wh hSw => ?_⟩) hHeld ?_
            · (obtain ⟨⟨s0, s1, s2⟩, t0, t1, t2⟩ := hSw; go_simp)
            try simp only [Act.put, List.setIfInBounds_toArray, List.set_cons_zero, List.set_cons_succ]
            refine wpAnyH_take (i := 33) (oi := { dst := some 104, op := .binOp .neq 30 (.tmp 99) (.tmp 103) 30, type := _, pos := _, after := _, guard := some (24, true) }) (v := .bool false) rfl (by kernel_rfl) (by kernel_rfl) (by kernel_rfl) (fun _ _ _ h => h) (Or.inl ⟨by rfl, fun wh hSw => ?_⟩) hHeld ?_
            · (obtain ⟨⟨s0, s1, s2⟩, t0, t1, t2⟩ := hSw; go_simp)
            try simp only [Act.put, List.setIfInBounds_toArray, List.set_cons_zero, List.set_cons_succ]
            refine wpAnyH_take (i := 34) (oi := { dst := some 105, op := .pick (.tmp 95) (.tmp 104) (.const (.bool false)), type := _, pos := _, after := _, guard := some (20, false) }) (v := .bool false) rfl (by kernel_rfl) (by kernel_rfl) (by kernel_rfl) (fun _ _ _ h => h) (Or.inl ⟨by rfl, fun wh hSw => ?_⟩) hHeld ?_
            · (obtain ⟨⟨s0, s1, s2⟩, t0, t1, t2⟩ := hSw; go_simp)
            try simp only [Act.put, List.setIfInBounds_toArray, List.set_cons_zero, List.set_cons_succ]
            refine wpAnyH_take (i := 35) (oi := { dst := some 106, op := .pick (.tmp 91) (.const (.bool true)) (.tmp 105), type := _, pos := _, after := _, guard := none }) (v := .bool false) rfl (by kernel_rfl) (by kernel_rfl) (by kernel_rfl) (fun _ _ _ h => h) (Or.inl ⟨by rfl, fun wh hSw => ?_⟩) hHeld ?_
            · (obtain ⟨⟨s0, s1, s2⟩, t0, t1, t2⟩ := hSw; go_simp)
            try simp only [Act.put, List.setIfInBounds_toArray, List.set_cons_zero, List.set_cons_succ]
            refine wpAnyH_take (i := 36) (oi := { dst := some 107, op := .move (.tmp 106), type := _, pos := _, after := _, guard := none }) (v := .bool false) rfl (by kernel_rfl) (by kernel_rfl) (by kernel_rfl) (fun _ _ _ h => h) (Or.inl ⟨by rfl, fun wh hSw => ?_⟩) hHeld ?_
            · (obtain ⟨⟨s0, s1, s2⟩, t0, t1, t2⟩ := hSw; go_simp)
            try simp only [Act.put, List.setIfInBounds_toArray, List.set_cons_zero, List.set_cons_succ]
            refine wpAnyH_take (i := 37) (oi := { dst := some 108, op := .move (.tmp 11), type := _, pos := _, after := _, guard := some (36, false) }) (v := .int .i64 (k : Int)) rfl (by kernel_rfl) (by kernel_rfl) (by kernel_rfl) (fun _ _ _ h => h) (Or.inl ⟨by rfl, fun wh hSw => ?_⟩) hHeld ?_
            · (obtain ⟨⟨s0, s1, s2⟩, t0, t1, t2⟩ := hSw; go_simp)
            try simp only [Act.put, List.setIfInBounds_toArray, List.set_cons_zero, List.set_cons_succ]
            refine wpAnyH_take (i := 38) (oi := { dst := some 109, op := .move (.tmp 6), type := _, pos := _, after := _, guard := some (36, false) }) (v := .int .i64 f0) rfl (by kernel_rfl) (by kernel_rfl) (by kernel_rfl) (fun _ _ _ h => h) (Or.inl ⟨by rfl, fun wh hSw => ?_⟩) hHeld ?_
            · (obtain ⟨⟨s0, s1, s2⟩, t0, t1, t2⟩ := hSw; go_simp)
            try simp only [Act.put, List.setIfInBounds_toArray, List.set_cons_zero, List.set_cons_succ]
            refine wpAnyH_take (i := 39) (oi := { dst := some 110, op := .binOp .lss 3 (.tmp 108) (.tmp 109) 3, type := _, pos := _, after := _, guard := some (36, false) }) (v := .bool true) rfl (by kernel_rfl) (by kernel_rfl) (by kernel_rfl) (fun _ _ _ h => h) (Or.inl ⟨by rfl, fun wh hSw => ?_⟩) hHeld ?_
            · (obtain ⟨⟨s0, s1, s2⟩, t0, t1, t2⟩ := hSw; go_simp)
            try simp only [Act.put, List.setIfInBounds_toArray, List.set_cons_zero, List.set_cons_succ]
            refine wpAnyH_take (i := 40) (oi := { dst := some 111, op := .move (.tmp 110), type := _, pos := _, after := _, guard := some (36, false) }) (v := .bool true) rfl (by kernel_rfl) (by kernel_rfl) (by kernel_rfl) (fun _ _ _ h => h) (Or.inl ⟨by rfl, fun wh hSw => ?_⟩) hHeld ?_
            · (obtain ⟨⟨s0, s1, s2⟩, t0, t1, t2⟩ := hSw; go_simp)
            try simp only [Act.put, List.setIfInBounds_toArray, List.set_cons_zero, List.set_cons_succ]
            refine wpAnyH_take (i := 41) (oi := { dst := some 112, op := .move (.tmp 3), type := _, pos := _, after := _, guard := some (40, true) }) (v := .slice (some ⟨ba, oa, none⟩) n c2) rfl (by kernel_rfl) (by kernel_rfl) (by kernel_rfl) (fun _ _ _ h => h) (Or.inl ⟨by rfl, fun wh hSw => ?_⟩) hHeld ?_
            · (obtain ⟨⟨s0, s1, s2⟩, t0, t1, t2⟩ := hSw; go_simp)
            try simp only [Act.put, List.setIfInBounds_toArray, List.set_cons_zero, List.set_cons_succ]
            refine wpAnyH_take (i := 42) (oi := { dst := some 113, op := .move (.tmp 11), type := _, pos := _, after := _, guard := some (40, true) }) (v := .int .i64 (k : Int)) rfl (by kernel_rfl) (by kernel_rfl) (by kernel_rfl) (fun _ _ _ h => h) (Or.inl ⟨by rfl, fun wh hSw => ?_⟩) hHeld ?_
            · (obtain ⟨⟨s0, s1, s2⟩, t0, t1, t2⟩ := hSw; go_simp)
            try simp only [Act.put, List.setIfInBounds_toArray, List.set_cons_zero, List.set_cons_succ]
            refine wpAnyH_take (i := 43) (oi := { dst := some 114, op := .indexAddr 23 (.tmp 112) (.tmp 113), type := _, pos := _, after := _, guard := some (40, true) }) (v := .pointer (some ⟨ba, oa + k * 3, none⟩)) rfl (by kernel_rfl) (by kernel_rfl) (by kernel_rfl) (fun _ _ _ h => h) (Or.inl ⟨by rfl, fun wh hSw => ?_⟩) hHeld ?_
            · (obtain ⟨⟨s0, s1, s2⟩, t0, t1, t2⟩ := hSw; go_simp)
            try simp only [Act.put, List.setIfInBounds_toArray, List.set_cons_zero, List.set_cons_succ]
            refine wpAnyH_take (i := 44) (oi := { dst := some 115, op := .fieldAddr 30 (.tmp 114) 0, type := _, pos := _, after := _, guard := some (40, true) }) (v := .pointer (some ⟨ba, oa + k * 3, none⟩)) rfl (by kernel_rfl) (by kernel_rfl) (by kernel_rfl) (fun _ _ _ h => h) (Or.inl ⟨by rfl, fun wh hSw => ?_⟩) hHeld ?_
            · (obtain ⟨⟨s0, s1, s2⟩, t0, t1, t2⟩ := hSw; go_simp)
            try simp only [Act.put, List.setIfInBounds_toArray, List.set_cons_zero, List.set_cons_succ]
            refine wpAnyH_take (i := 45) (oi := { dst := some 116, op := .load 3 (.tmp 115), type := _, pos := _, after := _, guard := some (40, true) }) (v := .int .i64 y.k) rfl (by kernel_rfl) (by kernel_rfl) (by kernel_rfl) (fun _ _ _ h => h) (Or.inl ⟨by rfl, fun wh hSw => ?_⟩) hHeld ?_
            · (obtain ⟨⟨s0, s1, s2⟩, t0, t1, t2⟩ := hSw; go_simp)
            try simp only [Act.put, List.setIfInBounds_toArray, List.set_cons_zero, List.set_cons_succ]
            refine wpAnyH_take (i := 46) (oi := { dst := some 117, op := .binOp .eql 3 (.tmp 116) (.const (.int .i64 0)) 3, type := _, pos := _, after := _, guard := some (40, true) }) (v := .bool false) rfl (by kernel_rfl) (by kernel_rfl) (by kernel_rfl) (fun _ _ _ h => h) (Or.inl ⟨by rfl, fun wh hSw => ?_⟩) hHeld ?_
            · (obtain ⟨⟨s0, s1, s2⟩, t0, t1, t2⟩ := hSw; go_simp)
            try simp only [Act.put, List.setIfInBounds_toArray, List.set_cons_zero, List.set_cons_succ]
            refine wpAnyH_take (i := 47) (oi := { dst := some 118, op := .pick (.tmp 111) (.tmp 117) (.const (.bool false)), type := _, pos := _, after := _, guard := some (36, false) }) (v := .bool false) rfl (by kernel_rfl) (by kernel_rfl) (by kernel_rfl) (fun _ _ _ h => h) (Or.inl ⟨by rfl, fun wh hSw => ?_⟩) hHeld ?_
            · (obtain ⟨⟨s0, s1, s2⟩, t0, t1, t2⟩ := hSw; go_simp)
            try simp only [Act.put, List.setIfInBounds_toArray, List.set_cons_zero, List.set_cons_succ]
            refine wpAnyH_take (i := 48) (oi := { dst := some 119, op := .pick (.tmp 107) (.const (.bool true)) (.tmp 118), type := _, pos := _, after := _, guard := none }) (v := .bool false) rfl (by kernel_rfl) (by kernel_rfl) (by kernel_rfl) (fun _ _ _ h => h) (Or.inl ⟨by rfl, fun wh hSw => ?_⟩) hHeld ?_
            · (obtain ⟨⟨s0, s1, s2⟩, t0, t1, t2⟩ := hSw; go_simp)
            try simp only [Act.put, List.setIfInBounds_toArray, List.set_cons_zero, List.set_cons_succ]
            refine wpAnyH_done (by kernel_rfl) ?_ _
            go_wp2
            go_roundw
            case rel => exact ⟨k + 1, by omega, by go_num, Lib.hid HBW.out.drew⟩
            case measure => simp [intOf]; omega
          · have e3 : decide ((k : Int) < f0) = false := by simpa using hl
            clear q3 hl
            go_wp2_with fail
            refine wp_region_held_drew (S := fun w' => Tri w' ba (oa + k * 3) y ∧ Tri w' bb (ob + k * 3) y) (by kernel_rfl) ⟨FA.out, FB.out⟩ (fun hHeld => ?_)
            refine wpAnyH_take (i := 0) (oi := { dst := some 71, op := .move (.tmp 11), type := _, pos := _, after := _, guard := none }) (v := .int .i64 (k : Int)) rfl (by kernel_rfl) (by kernel_rfl) (by kernel_rfl) (fun _ _ _ h => h) (Or.inl ⟨by rfl, fun wh hSw => ?_⟩) hHeld ?_
            · (obtain ⟨⟨s0, s1, s2⟩, t0, t1, t2⟩ := hSw; go_simp)
            try simp only [Act.put, List.setIfInBounds_toArray, List.set_cons_zero, List.set_cons_succ]
            refine wpAnyH_take (i := 1) (oi := { dst := some 72, op := .move (.tmp 6), type := _, pos := _, after := _, guard := none }) (v := .int .i64 f0) rfl (by kernel_rfl) (by kernel_rfl) (by kernel_rfl) (fun _ _ _ h => h) (Or.inl ⟨by rfl, fun wh hSw => ?_⟩) hHeld ?_
            · (obtain ⟨⟨s0, s1, s2⟩, t0, t1, t2⟩ := hSw; go_simp)
            try simp only [Act.put, List.setIfInBounds_toArray, List.set_cons_zero, List.set_cons_succ]
            refine wpAnyH_take (i := 2) (oi := { dst := some 73, op := .binOp .eql 3 (.tmp 71) (.tmp 72) 3, type := _, pos := _, after := _, guard := none }) (v := .bool false) rfl (by kernel_rfl) (by kernel_rfl) (by kernel_rfl) (fun _ _ _ h => h) (Or.inl ⟨by rfl, fun wh hSw => ?_⟩) hHeld ?_
            · (obtain ⟨⟨s0, s1, s2⟩, t0, t1, t2⟩ := hSw; go_simp)
            try simp only [Act.put, List.setIfInBounds_toArray, List.set_cons_zero, List.set_cons_succ]
            refine wpAnyH_take (i := 3) (oi := { dst := some 74, op := .move (.tmp 73), type := _, pos := _, after := _, guard := none }) (v := .bool false) rfl (by kernel_rfl) (by kernel_rfl) (by kernel_rfl) (fun _ _ _ h => h) (Or.inl ⟨by rfl, fun wh hSw => ?_⟩) hHeld ?_
            · (obtain ⟨⟨s0, s1, s2⟩, t0, t1, t2⟩ := hSw; go_simp)
            try simp only [Act.put, List.setIfInBounds_toArray, List.set_cons_zero, List.set_cons_succ]
            refine wpAnyH_take (i := 4) (oi := { dst := some 75, op := .move (.tmp 3), type := _, pos := _, after := _, guard := some (3, true) }) (v := undef) rfl (by kernel_rfl) (by kernel_rfl) (by kernel_rfl) (fun _ _ _ h => h) (Or.inr ⟨by rfl, rfl⟩) hHeld ?_
            try simp only [Act.put, List.setIfInBounds_toArray, List.set_cons_zero, List.set_cons_succ]
            refine wpAnyH_take (i := 5) (oi := { dst := some 76, op := .move (.tmp 11), type := _, pos := _, after := _, guard := some (3, true) }) (v := undef) rfl (by kernel_rfl) (by kernel_rfl) (by kernel_rfl) (fun _ _ _ h => h) (Or.inr ⟨by rfl, rfl⟩) hHeld ?_
            try simp only [Act.put, List.setIfInBounds_toArray, List.set_cons_zero, List.set_cons_succ]
            refine wpAnyH_take (i := 6) (oi := { dst := some 77, op := .indexAddr 23 (.tmp 75) (.tmp 76), type := _, pos := _, after := _, guard := some (3, true) }) (v := undef) rfl (by kernel_rfl) (by kernel_rfl) (by kernel_rfl) (fun _ _ _ h => h) (Or.inr ⟨by rfl, rfl⟩) hHeld ?_
            try simp only [Act.put, List.setIfInBounds_toArray, List.set_cons_zero, List.set_cons_succ]
            refine wpAnyH_take (i := 7) (oi := { dst := some 78, op := .fieldAddr 30 (.tmp 77) 0, type := _, pos := _, after := _, guard := some (3, true) }) (v := undef) rfl (by kernel_rfl) (by kernel_rfl) (by kernel_rfl) (fun _ _ _ h => h) (Or.inr ⟨by rfl, rfl⟩) hHeld ?_
            try simp only [Act.put, List.setIfInBounds_toArray, List.set_cons_zero, List.set_cons_succ]
            refine wpAnyH_take (i := 8) (oi := { dst := some 79, op := .load 3 (.tmp 78), type := _, pos := _, after := _, guard := some (3, true) }) (v := undef) rfl (by kernel_rfl) (by kernel_rfl) (by kernel_rfl) (fun _ _ _ h => h) (Or.inr ⟨by rfl, rfl⟩) hHeld ?_
            try simp only [Act.put, List.setIfInBounds_toArray, List.set_cons_zero, List.set_cons_succ]
            refine wpAnyH_take (i := 9) (oi := { dst := some 80, op := .binOp .neq 3 (.tmp 79) (.const (.int .i64 0)) 3, type := _, pos := _, after := _, guard := some (3, true) }) (v := undef) rfl (by kernel_rfl) (by kernel_rfl) (by kernel_rfl) (fun _ _ _ h => h) (Or.inr ⟨by rfl, rfl⟩) hHeld ?_
            try simp only [Act.put, List.setIfInBounds_toArray, List.set_cons_zero, List.set_cons_succ]
            refine wpAnyH_take (i := 10) (oi := { dst := some 81, op := .move (.tmp 80), type := _, pos := _, after := _, guard := some (3, true) }) (v := undef) rfl (by kernel_rfl) (by kernel_rfl) (by kernel_rfl) (fun _ _ _ h => h) (Or.inr ⟨by rfl, rfl⟩) hHeld ?_
            try simp only [Act.put, List.setIfInBounds_toArray, List.set_cons_zero, List.set_cons_succ]
            refine wpAnyH_take (i := 11) (oi := { dst := some 82, op := .move (.tmp 5), type := _, pos := _, after := _, guard := some (10, false) }) (v := undef) rfl (by kernel_rfl) (by kernel_rfl) (by kernel_rfl) (fun _ _ _ h => h) (Or.inr ⟨by rfl, rfl⟩) hHeld ?_
            try simp only [Act.put, List.setIfInBounds_toArray, List.set_cons_zero, List.set_cons_succ]
            refine wpAnyH_take (i := 12) (oi := { dst := some 83, op := .move (.tmp 11), type := _, pos := _, after := _, guard := some (10, false) }) (v := undef) rfl (by kernel_rfl) (by kernel_rfl) (by kernel_rfl) (fun _ _ _ h => h) (Or.inr ⟨by rfl, rfl⟩) hHeld ?_
            try simp only [Act.put, List.setIfInBounds_toArray, List.set_cons_zero, List.set_cons_succ]
            refine wpAnyH_take (i := 13) (oi := { dst := some 84, op := .indexAddr 23 (.tmp 82) (.tmp 83), type := _, pos := _, after := _, guard := some (10, false) }) (v := undef) rfl (by kernel_rfl) (by kernel_rfl) (by kernel_rfl) (fun _ _ _ h => h) (Or.inr ⟨by rfl, rfl⟩) hHeld ?_
            try simp only [Act.put, List.setIfInBounds_toArray, List.set_cons_zero, List.set_cons_succ]
            refine wpAnyH_take (i := 14) (oi := { dst := some 85, op := .load 30 (.tmp 84), type := _, pos := _, after := _, guard := some (10, false) }) (v := undef) rfl (by kernel_rfl) (by kernel_rfl) (by kernel_rfl) (fun _ _ _ h => h) (Or.inr ⟨by rfl, rfl⟩) hHeld ?_
            try simp only [Act.put, List.setIfInBounds_toArray, List.set_cons_zero, List.set_cons_succ]
            refine wpAnyH_take (i := 15) (oi := { dst := some 86, op := .move (.tmp 4), type := _, pos := _, after := _, guard := some (10, false) }) (v := undef) rfl (by kernel_rfl) (by kernel_rfl) (by kernel_rfl) (fun _ _ _ h => h) (Or.inr ⟨by rfl, rfl⟩) hHeld ?_
            try simp only [Act.put, List.setIfInBounds_toArray, List.set_cons_zero, List.set_cons_succ]
            refine wpAnyH_take (i := 16) (oi := { dst := some 87, op := .build 30 #[(0, .const (.int .i64 1)), (1, .tmp 86)], type := _, pos := _, after := _, guard := some (10, false) }) (v := undef) rfl (by kernel_rfl) (by kernel_rfl) (by kernel_rfl) (fun _ _ _ h => h) (Or.inr ⟨by rfl, rfl⟩) hHeld ?_
            try simp only [Act.put, List.setIfInBounds_toArray, List.set_cons_zero, List.set_cons_succ]
            refine wpAnyH_take (i := 17) (oi := { dst := some 88, op := .binOp .neq 30 (.tmp 85) (.tmp 87) 30, type := _, pos := _, after := _, guard := some (10, false) }) (v := undef) rfl (by kernel_rfl) (by kernel_rfl) (by kernel_rfl) (fun _ _ _ h => h) (Or.inr ⟨by rfl, rfl⟩) hHeld ?_
            try simp only [Act.put, List.setIfInBounds_toArray, List.set_cons_zero, List.set_cons_succ]
            refine wpAnyH_take (i := 18) (oi := { dst := some 89, op := .pick (.tmp 81) (.const (.bool true)) (.tmp 88), type := _, pos := _, after := _, guard := some (3, true) }) (v := undef) rfl (by kernel_rfl) (by kernel_rfl) (by kernel_rfl) (fun _ _ _ h => h) (Or.inr ⟨by rfl, rfl⟩) hHeld ?_
            try simp only [Act.put, List.setIfInBounds_toArray, List.set_cons_zero, List.set_cons_succ]
            refine wpAnyH_take (i := 19) (oi := { dst := some 90, op := .pick (.tmp 74) (.tmp 89) (.const (.bool false)), type := _, pos := _, after := _, guard := none }) (v := .bool false) rfl (by kernel_rfl) (by kernel_rfl) (by kernel_rfl) (fun _ _ _ h => h) (Or.inl ⟨by rfl, fun wh hSw => ?_⟩) hHeld ?_
            · (obtain ⟨⟨s0, s1, s2⟩, t0, t1, t2⟩ := hSw; go_simp)
            try simp only [Act.put, List.setIfInBounds_toArray, List.set_cons_zero, List.set_cons_succ]
            refine wpAnyH_take (i := 20) (oi := { dst := some 91, op := .move (.tmp 90), type := _, pos := _, after := _, guard := none }) (v := .bool false) rfl (by kernel_rfl) (by kernel_rfl) (by kernel_rfl) (fun _ _ _ h => h) (Or.inl ⟨by rfl, fun wh hSw => ?_⟩) hHeld ?_
            · (obtain ⟨⟨s0, s1, s2⟩, t0, t1, t2⟩ := hSw; go_simp)
            try simp only [Act.put, List.setIfInBounds_toArray, List.set_cons_zero, List.set_cons_succ]
            refine wpAnyH_take (i := 21) (oi := { dst := some 92, op := .move (.tmp 11), type := _, pos := _, after := _, guard := some (20, false) }) (v := .int .i64 (k : Int)) rfl (by kernel_rfl) (by kernel_rfl) (by kernel_rfl) (fun _ _ _ h => h) (Or.inl ⟨by rfl, fun wh hSw => ?_⟩) hHeld ?_
            · (obtain ⟨⟨s0, s1, s2⟩, t0, t1, t2⟩ := hSw; go_simp)
            try simp only [Act.put, List.setIfInBounds_toArray, List.set_cons_zero, List.set_cons_succ]
            refine wpAnyH_take (i := 22) (oi := { dst := some 93, op := .move (.tmp 6), type := _, pos := _, after := _, guard := some (20, false) }) (v := .int .i64 f0) rfl (by kernel_rfl) (by kernel_rfl) (by kernel_rfl) (fun _ _ _ h => h) (Or.inl ⟨by rfl, fun wh hSw => ?_⟩) hHeld ?_
            · (obtain ⟨⟨s0, s1, s2⟩, t0, t1, t2⟩ := hSw; go_simp)
            try simp only [Act.put, List.setIfInBounds_toArray, List.set_cons_zero, List.set_cons_succ]
            refine wpAnyH_take (i := 23) (oi := { dst := some 94, op := .binOp .neq 3 (.tmp 92) (.tmp 93) 3, type := _, pos := _, after := _, guard := some (20, false) }) (v := .bool true) rfl (by kernel_rfl) (by kernel_rfl) (by kernel_rfl) (fun _ _ _ h => h) (Or.inl ⟨by rfl, fun wh hSw => ?_⟩) hHeld ?_
            · (obtain ⟨⟨s0, s1, s2⟩, t0, t1, t2⟩ := hSw; go_simp)
            try simp only [Act.put, List.setIfInBounds_toArray, List.set_cons_zero, List.set_cons_succ]
            refine wpAnyH_take (i := 24) (oi := { dst := some 95, op := .move (.tmp 94), type := _, pos := _, after := _, guard := some (20, false) }) (v := .bool true) rfl (by kernel_rfl) (by kernel_rfl) (by kernel_rfl) (fun _ _ _ h => h) (Or.inl ⟨by rfl, fun wh hSw => ?_⟩) hHeld ?_
            · (obtain ⟨⟨s0, s1, s2⟩, t0, t1, t2⟩ := hSw; go_simp)
            try simp only [Act.put, List.setIfInBounds_toArray, List.set_cons_zero, List.set_cons_succ]
            refine wpAnyH_take (i := 25) (oi := { dst := some 96, op := .move (.tmp 5), type := _, pos := _, after := _, guard := some (24, true) }) (v := .slice (some ⟨bb, ob, none⟩) n cu) rfl (by kernel_rfl) (by kernel_rfl) (by kernel_rfl) (fun _ _ _ h => h) (Or.inl ⟨by rfl, fun wh hSw => ?_⟩) hHeld ?_
            · (obtain ⟨⟨s0, s1, s2⟩, t0, t1, t2⟩ := hSw; go_simp)
            try simp only [Act.put, List.setIfInBounds_toArray, List.set_cons_zero, List.set_cons_succ]
            refine wpAnyH_take (i := 26) (oi := { dst := some 97, op := .move (.tmp 11), type := _, pos := _, after := _, guard := some (24, true) }) (v := .int .i64 (k : Int)) rfl (by kernel_rfl) (by kernel_rfl) (by kernel_rfl) (fun _ _ _ h => h) (Or.inl ⟨by rfl, fun wh hSw => ?_⟩) hHeld ?_
            · (obtain ⟨⟨s0, s1, s2⟩, t0, t1, t2⟩ := hSw; go_simp)
            try simp only [Act.put, List.setIfInBounds_toArray, List.set_cons_zero, List.set_cons_succ]
            refine wpAnyH_take (i := 27) (oi := { dst := some 98, op := .indexAddr 23 (.tmp 96) (.tmp 97), type := _, pos := _, after := _, guard := some (24, true) }) (v := .pointer (some ⟨bb, ob + k * 3, none⟩)) rfl (by kernel_rfl) (by kernel_rfl) (by kernel_rfl) (fun _ _ _ h => h) (Or.inl ⟨by rfl, fun wh hSw => ?_⟩) hHeld ?_
            · (obtain ⟨⟨s0, s1, s2⟩, t0, t1, t2⟩ := hSw; go_simp)
            try simp only [Act.put, List.setIfInBounds_toArray, List.set_cons_zero, List.set_cons_succ]
            refine wpAnyH_take (i := 28) (oi := { dst := some 99, op := .load 30 (.tmp 98), type := _, pos := _, after := _, guard := some (24, true) }) (v := ivV y) rfl (by kernel_rfl) (by kernel_rfl) (by kernel_rfl) (fun _ _ _ h => h) (Or.inl ⟨by rfl, fun wh hSw => ?_⟩) hHeld ?_
            · (obtain ⟨⟨s0, s1, s2⟩, t0, t1, t2⟩ := hSw; go_simp)
            try simp only [Act.put, List.setIfInBounds_toArray, List.set_cons_zero, List.set_cons_succ]
            refine wpAnyH_take (i := 29) (oi := { dst := some 100, op := .move (.tmp 3), type := _, pos := _, after := _, guard := some (24, true) }) (v := .slice (some ⟨ba, oa, none⟩) n c2) rfl (by kernel_rfl) (by kernel_rfl) (by kernel_rfl) (fun _ _ _ h => h) (Or.inl ⟨by rfl, fun wh hSw => ?_⟩) hHeld ?_
            · (obtain ⟨⟨s0, s1, s2⟩, t0, t1, t2⟩ := hSw; go_simp)
            try simp only [Act.put, List.setIfInBounds_toArray, List.set_cons_zero, List.set_cons_succ]
            refine wpAnyH_take (i := 30) (oi := { dst := some 101, op := .move (.tmp 11), type := _, pos := _, after := _, guard := some (24, true) }) (v := .int .i64 (k : Int)) rfl (by kernel_rfl) (by kernel_rfl) (by kernel_rfl) (fun _ _ _ h => h) (Or.inl ⟨by rfl, fun wh hSw => ?_⟩) hHeld ?_
            · (obtain ⟨⟨s0, s1, s2⟩, t0, t1, t2⟩ := hSw; go_simp)
            try simp only [Act.put, List.setIfInBounds_toArray, List.set_cons_zero, List.set_cons_succ]
            refine wpAnyH_take (i := 31) (oi := { dst := some 102, op := .indexAddr 23 (.tmp 100) (.tmp 101), type := _, pos := _, after := _, guard := some (24, true) }) (v := .pointer (some ⟨ba, oa + k * 3, none⟩)) rfl (by kernel_rfl) (by kernel_rfl) (by kernel_rfl) (fun _ _ _ h => h) (Or.inl ⟨by rfl, fun wh hSw => ?_⟩) hHeld ?_
            · (obtain ⟨⟨s0, s1, s2⟩, t0, t1, t2⟩ := hSw; go_simp)
            try simp only [Act.put, List.setIfInBounds_toArray, List.set_cons_zero, List.set_cons_succ]
            refine wpAnyH_take (i := 32) (oi := { dst := some 103, op := .load 30 (.tmp 102), type := _, pos := _, after := _, guard := some (24, true) }) (v := ivV y) rfl (by kernel_rfl) (by kernel_rfl) (by kernel_rfl) (fun _ _ _ h => h) (Or.inl ⟨by rfl, fun wh hSw => ?_⟩) hHeld ?_
            · (obtain ⟨⟨s0, s1, s2⟩, t0, t1, t2⟩ := hSw; go_simp)
            try simp only [Act.put, List.setIfInBounds_toArray, List.set_cons_zero, List.set_cons_succ]
            refine wpAnyH_take (i := 33) (oi := { dst := some 104, op := .binOp .neq 30 (.tmp 99) (.tmp 103) 30, type := _, pos := _, after := _, guard := some (24, true) }) (v := .bool false) rfl (by kernel_rfl) (by kernel_rfl) (by kernel_rfl) (fun _ _ _ h => h) (Or.inl ⟨by rfl, fun wh hSw => ?_⟩) hHeld ?_
            · (obtain ⟨⟨s0, s1, s2⟩, t0, t1, t2⟩ := hSw; go_simp)
            try simp only [Act.put, List.setIfInBounds_toArray, List.set_cons_zero, List.set_cons_succ]
            refine wpAnyH_take (i := 34) (oi := { dst := some 105, op := .pick (.tmp 95) (.tmp 104) (.const (.bool false)), type := _, pos := _, after := _, guard := some (20, false) }) (v := .bool false) rfl (by kernel_rfl) (by kernel_rfl) (by kernel_rfl) (fun _ _ _ h => h) (Or.inl ⟨by rfl, fun wh hSw => ?_⟩) hHeld ?_
            · (obtain ⟨⟨s0, s1, s2⟩, t0, t1, t2⟩ := hSw; go_simp)
            try simp only [Act.put, List.setIfInBounds_toArray, List.set_cons_zero, List.set_cons_succ]
            refine wpAnyH_take (i := 35) (oi := { dst := some 106, op := .pick (.tmp 91) (.const (.bool true)) (.tmp 105), type := _, pos := _, after := _, guard := none }) (v := .bool false) rfl (by kernel_rfl) (by kernel_rfl) (by kernel_rfl) (fun _ _ _ h => h) (Or.inl ⟨by rfl, fun wh hSw => ?_⟩) hHeld ?_
            · (obtain ⟨⟨s0, s1, s2⟩, t0, t1, t2⟩ := hSw; go_simp)
            try simp only [Act.put, List.setIfInBounds_toArray, List.set_cons_zero, List.set_cons_succ]
            refine wpAnyH_take (i := 36) (oi := { dst := some 107, op := .move (.tmp 106), type := _, pos := _, after := _, guard := none }) (v := .bool false) rfl (by kernel_rfl) (by kernel_rfl) (by kernel_rfl) (fun _ _ _ h => h) (Or.inl ⟨by rfl, fun wh hSw => ?_⟩) hHeld ?_
            · (obtain ⟨⟨s0, s1, s2⟩, t0, t1, t2⟩ := hSw; go_simp)
            try simp only [Act.put, List.setIfInBounds_toArray, List.set_cons_zero, List.set_cons_succ]
            refine wpAnyH_take (i := 37) (oi := { dst := some 108, op := .move (.tmp 11), type := _, pos := _, after := _, guard := some (36, false) }) (v := .int .i64 (k : Int)) rfl (by kernel_rfl) (by kernel_rfl) (by kernel_rfl) (fun _ _ _ h => h) (Or.inl ⟨by rfl, fun wh hSw => ?_⟩) hHeld ?_
            · (obtain ⟨⟨s0, s1, s2⟩, t0, t1, t2⟩ := hSw; go_simp)
            try simp only [Act.put, List.setIfInBounds_toArray, List.set_cons_zero, List.set_cons_succ]
            refine wpAnyH_take (i := 38) (oi := { dst := some 109, op := .move (.tmp 6), type := _, pos := _, after := _, guard := some (36, false) }) (v := .int .i64 f0) rfl (by kernel_rfl) (by kernel_rfl) (by kernel_rfl) (fun _ _ _ h => h) (Or.inl ⟨by rfl, fun wh hSw => ?_⟩) hHeld ?_
            · (obtain ⟨⟨s0, s1, s2⟩, t0, t1, t2⟩ := hSw; go_simp)
            try simp only [Act.put, List.setIfInBounds_toArray, List.set_cons_zero, List.set_cons_succ]
            refine wpAnyH_take (i := 39) (oi := { dst := some 110, op := .binOp .lss 3 (.tmp 108) (.tmp 109) 3, type := _, pos := _, after := _, guard := some (36, false) }) (v := .bool false) rfl (by kernel_rfl) (by kernel_rfl) (by kernel_rfl) (fun _ _ _ h => h) (Or.inl ⟨by rfl, fun wh hSw => ?_⟩) hHeld ?_
            · (obtain ⟨⟨s0, s1, s2⟩, t0, t1, t2⟩ := hSw; go_simp)
            try simp only [Act.put, List.setIfInBounds_toArray, List.set_cons_zero, List.set_cons_succ]
            refine wpAnyH_take (i := 40) (oi := { dst := some 111, op := .move (.tmp 110), type := _, pos := _, after := _, guard := some (36, false) }) (v := .bool false) rfl (by kernel_rfl) (by kernel_rfl) (by kernel_rfl) (fun _ _ _ h => h) (Or.inl ⟨by rfl, fun wh hSw => ?_⟩) hHeld ?_
            · (obtain ⟨⟨s0, s1, s2⟩, t0, t1, t2⟩ := hSw; go_simp)
            try simp only [Act.put, List.setIfInBounds_toArray, List.set_cons_zero, List.set_cons_succ]
            refine wpAnyH_take (i := 41) (oi := { dst := some 112, op := .move (.tmp 3), type := _, pos := _, after := _, guard := some (40, true) }) (v := undef) rfl (by kernel_rfl) (by kernel_rfl) (by kernel_rfl) (fun _ _ _ h => h) (Or.inr ⟨by rfl, rfl⟩) hHeld ?_
            try simp only [Act.put, List.setIfInBounds_toArray, List.set_cons_zero, List.set_cons_succ]
            refine wpAnyH_take (i := 42) (oi := { dst := some 113, op := .move (.tmp 11), type := _, pos := _, after := _, guard := some (40, true) }) (v := undef) rfl (by kernel_rfl) (by kernel_rfl) (by kernel_rfl) (fun _ _ _ h => h) (Or.inr ⟨by rfl, rfl⟩) hHeld ?_
            try simp only [Act.put, List.setIfInBounds_toArray, List.set_cons_zero, List.set_cons_succ]
            refine wpAnyH_take (i := 43) (oi := { dst := some 114, op := .indexAddr 23 (.tmp 112) (.tmp 113), type := _, pos := _, after := _, guard := some (40, true) }) (v := undef) rfl (by kernel_rfl) (by kernel_rfl) (by kernel_rfl) (fun _ _ _ h => h) (Or.inr ⟨by rfl, rfl⟩) hHeld ?_
            try simp only [Act.put, List.setIfInBounds_toArray, List.set_cons_zero, List.set_cons_succ]
            refine wpAnyH_take (i := 44) (oi := { dst := some 115, op := .fieldAddr 30 (.tmp 114) 0, type := _, pos := _, after := _, guard := some (40, true) }) (v := undef) rfl (by kernel_rfl) (by kernel_rfl) (by kernel_rfl) (fun _ _ _ h => h) (Or.inr ⟨by rfl, rfl⟩) hHeld ?_
            try simp only [Act.put, List.setIfInBounds_toArray, List.set_cons_zero, List.set_cons_succ]
            refine wpAnyH_take (i := 45) (oi := { dst := some 116, op := .load 3 (.tmp 115), type := _, pos := _, after := _, guard := some (40, true) }) (v := undef) rfl (by kernel_rfl) (by kernel_rfl) (by kernel_rfl) (fun _ _ _ h => h) (Or.inr ⟨by rfl, rfl⟩) hHeld ?_
            try simp only [Act.put, List.setIfInBounds_toArray, List.set_cons_zero, List.set_cons_succ]
            refine wpAnyH_take (i := 46) (oi := { dst := some 117, op := .binOp .eql 3 (.tmp 116) (.const (.int .i64 0)) 3, type := _, pos := _, after := _, guard := some (40, true) }) (v := undef) rfl (by kernel_rfl) (by kernel_rfl) (by kernel_rfl) (fun _ _ _ h => h) (Or.inr ⟨by rfl, rfl⟩) hHeld ?_
            try simp only [Act.put, List.setIfInBounds_toArray, List.set_cons_zero, List.set_cons_succ]
            refine wpAnyH_take (i := 47) (oi := { dst := some 118, op := .pick (.tmp 111) (.tmp 117) (.const (.bool false)), type := _, pos := _, after := _, guard := some (36, false) }) (v := .bool false) rfl (by kernel_rfl) (by kernel_rfl) (by kernel_rfl) (fun _ _ _ h => h) (Or.inl ⟨by rfl, fun wh hSw => ?_⟩) hHeld ?_
            · (obtain ⟨⟨s0, s1, s2⟩, t0, t1, t2⟩ := hSw; go_simp)
            try simp only [Act.put, List.setIfInBounds_toArray, List.set_cons_zero, List.set_cons_succ]
            refine wpAnyH_take (i := 48) (oi := { dst := some 119, op := .pick (.tmp 107) (.const (.bool true)) (.tmp 118), type := _, pos := _, after := _, guard := none }) (v := .bool false) rfl (by kernel_rfl) (by kernel_rfl) (by kernel_rfl) (fun _ _ _ h => h) (Or.inl ⟨by rfl, fun wh hSw => ?_⟩) hHeld ?_
            · (obtain ⟨⟨s0, s1, s2⟩, t0, t1, t2⟩ := hSw; go_simp)
            try simp only [Act.put, List.setIfInBounds_toArray, List.set_cons_zero, List.set_cons_succ]
            refine wpAnyH_done (by kernel_rfl) ?_ _
            go_wp2
            go_roundw
            case rel => exact ⟨k + 1, by omega, by go_num, Lib.hid HBW.out.drew⟩
            case measure => simp [intOf]; omega
      · have hkn : k = n := by omega
        subst hkn
        have B5 := Lib.hid (B4.out.trans (HBW.out.mono B4.out.size))
        have U5 := Lib.hid (U24.out.below HBW.out)
        have hle : -1 ≤ ifree ys ∧ ifree ys ≤ 12 := ifree_range (by rw [← HN.out]; exact hl8)
        have C1 := Lib.hid (HF.out wr _ us U5.out (shortI HZS.out))
        have C2 := Lib.hid (fun w' h => HF.out w' (.slice a1 k c2) ys h (shortI HSH.out))
        have R5 := Lib.hid (R4.out.below HBW.out)
        rw [HFR.out] at C1
        generalize ifree ys = q at hle C1 C2
        clear hlt HF HT U5 U24 HU3 HR3 R4 HFR HA2 HZS HSH HBW B4
        go_wp2_with fail
        refine C1.out.mono ?_
        rintro e w5 ⟨rfl, hb5⟩
        have B6 := Lib.hid (B5.out.trans (hb5.mono B5.out.size))
        have R6 := Lib.hid (R5.out.below hb5)
        clear hb5 B5 R5 C1
        go_wp2_with fail
        refine (C2.out w5 R6.out).mono ?_
        rintro e w6 ⟨rfl, hb6⟩
        have B7 := Lib.hid (B6.out.trans (hb6.mono B6.out.size))
        clear hb6 B6 R6 C2
        have hq : IntKind.i64.wrap (q - 1) = q - 1 := by rw [IntKind.wrap_i64]; omega
        go_wp2_with fail
        go_ret
        exact ⟨rfl, B7.out⟩
end Go.Proofs.Ytopnomklfkkjfaa
