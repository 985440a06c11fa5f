/- What the draws of stage 7 give. -/
import Derived.Test.YtopnomklfkkjfaaIDraws
namespace Go.Proofs.Ytopnomklfkkjfaa
open Go.ChangeShapes Go.WideShapes Go.ChangeAt Go.RowKit
set_option linter.unusedVariables false

theorem frame_any (w0 w : World) (B k : Nat) (hR : Rdr w0 w B k) (hk : k ≤ 900000) :
    Calls Try.prog 42 #[.pointer (some ⟨B, 0, none⟩)] w (Drew frameP w0 B (k + 2) w) := by
  go_enter Try.func42, Try.ntmps42
  go_wp2_with fail
  refine (pick_any w0 _ B k _ hR (by omega) (by omega)).mono ?_
  rintro e w1 ⟨m, h0, h1, rfl, hR1, hO1⟩
  by_cases hm : m = 0
  · subst hm
    have hB1 := rdr_lt hR1
    go_wp2_with fail
    refine (pick_any w0 _ B _ _ (rdr_alloc hR1 _) (by omega) (by omega)).mono ?_
    rintro e w2 ⟨m2, h20, h21, rfl, hR2, hO2⟩
    have hc : ∀ o, w2.cell? ⟨w1.heap.size, o, none⟩ = (w1.alloc (.cells #[.int .i64 (-1), .int .i64 12, .int .i64 100] 3)).cell? ⟨w1.heap.size, o, none⟩ := fun o => hO2.cell (by omega)
    have hg := gtrans hO1.grown (gtrans (galloc _ _ _) hO2.grown)
    have hmm : m2 = 0 ∨ m2 = 1 ∨ m2 = 2 := by omega
    rcases hmm with rfl | rfl | rfl
    · have hc0 : w2.cell? ⟨w1.heap.size, 0, none⟩ = some (.int .i64 (-1)) := (hc 0).trans (new_cell rfl)
      clear hc
      go_wp2_with fail
      go_ret
      exact drew_mk (by unfold frameP; omega) hR2 (by omega) hg
    · have hc1 : w2.cell? ⟨w1.heap.size, 1, none⟩ = some (.int .i64 12) := (hc 1).trans (new_cell rfl)
      clear hc
      go_wp2_with fail
      go_ret
      exact drew_mk (by unfold frameP; omega) hR2 (by omega) hg
    · have hc2 : w2.cell? ⟨w1.heap.size, 2, none⟩ = some (.int .i64 100) := (hc 2).trans (new_cell rfl)
      clear hc
      go_wp2_with fail
      go_ret
      exact drew_mk (by unfold frameP; omega) hR2 (by omega) hg
  · have hm' : (m == 0) = false := by simpa using hm
    go_wp2_with fail
    refine (pick_any w0 _ B _ _ hR1 (by omega) (by omega)).mono ?_
    rintro e w2 ⟨m2, h20, h21, rfl, hR2, hO2⟩
    go_wp2_with fail
    go_ret
    exact drew_mk (by unfold frameP; omega) hR2 (by omega) (gtrans hO1.grown hO2.grown)
theorem RowBI.drew {w0 w w1 w2 : World} {B k k' : Nat} {v : Value} {ys : List IV} (h : RowBI w0 B k w v ys w1) (hR : Rdr w0 w2 B k') (hg : w1.grownBy w2 (some B)) : RowBI w0 B k' w v ys w2 := by
  refine ⟨?_, h.form, hR, gtrans h.grow hg, h.B0⟩
  obtain ⟨a, cap, e, h2, h3, h4⟩ := h.row
  refine ⟨a, cap, e, h2, h3, fun i hi => ?_⟩
  obtain ⟨g, p, e, hg0, hg1, hf⟩ := h4 i hi
  exact ⟨g, p, e, hg0, Nat.lt_of_lt_of_le hg1 hg.size, hf.block (hg.block g hg1 (by have := h.B0; intro e; injection e with e; omega))⟩
theorem RowBI.mono {w0 w w1 : World} {B k k' : Nat} {v : Value} {ys : List IV} (h : RowBI w0 B k w v ys w1) (hk : k ≤ k') : RowBI w0 B k' w v ys w1 := ⟨h.row, h.form, rdr_mono h.rdr hk, h.grow, h.B0⟩
theorem RowBI.place {w0 w w1 : World} {B k : Nat} {g n c : Nat} {ys : List IV} (h : RowBI w0 B k w (.slice (some ⟨g, 0, none⟩) n c) ys w1) {i : Nat} (hi : i < ys.length) : w.heap.size ≤ g ∧ w1.there g (i * 3) 3 := by
  obtain ⟨a, cap, e, h2, h3, h4⟩ := h.row
  injection e with e1 e2 e3
  subst e1
  obtain ⟨g', p', e, hg0, hg1, hf⟩ := h4 i hi
  cases e
  have ht := hf.there
  rw [Nat.zero_add] at ht
  exact ⟨hg0, ht⟩
theorem RowBI.store {w0 w w1 : World} {B k : Nat} {g n c : Nat} {ys : List IV} (h : RowBI w0 B k w (.slice (some ⟨g, 0, none⟩) n c) ys w1) {i : Nat} (hi : i < ys.length) (x : IV) : RowBI w0 B k w (.slice (some ⟨g, 0, none⟩) n c) (ys.set i x) (w1.setCells g (i * 3) (ivC x)) := by
  have hp := h.place hi
  have hn : n = ys.length := by
    obtain ⟨a, cap, e, _⟩ := h.row
    injection e
  have hB0 := h.B0
  refine ⟨?_, ?_, ?_, ?_, h.B0⟩
  · rw [size_setCells]
    refine h.row.upd (p := 0) rfl (by omega) ?_ (fun j y hj hy => hy.apart (.inr (by show 0 + j * 3 + 3 ≤ i * 3 ∨ i * 3 + 3 ≤ 0 + j * 3; omega)))
    rw [Nat.zero_add]
    exact TriW.stored hp.2
  · obtain ⟨g', c', e⟩ := h.form
    exact ⟨g', c', by rw [List.length_set]; exact e⟩
  · have hw0 := (rdr_below h.rdr).size
    obtain ⟨a, len, cap, zs, p, hr, hpk, hh, hb, hB⟩ := h.rdr
    exact ⟨a, len, cap, zs, p, hr, hpk, (heap_setCells_other w1 _ _ _ _ _ (by omega)).trans hh, Below.setCells (Below.refl _ _) _ (by omega) _ _ _ hb, hB⟩
  · exact ⟨(os_setCells _ _ _ _).trans h.grow.os, (tape_setCells _ _ _ _).trans h.grow.tape, (output_setCells _ _ _ _).trans h.grow.output, by rw [size_setCells]; exact h.grow.size, fun j hj hne => (heap_setCells_other w1 _ _ _ _ _ (by omega)).trans (h.grow.block j hj hne)⟩
/-- a drawn list, in a slice that is not nil; nothing that was there before has changed -/
structure DIs (W : World) (v : Value) (ys : List IV) (w' : World) : Prop where
  is : Is w' v ys
  len : ys.length ≤ 12
  rng : ∀ y ∈ ys, shI y
  bel : Below W.heap.size W w'
  form : ∃ g cap, v = .slice (some ⟨g, 0, none⟩) ys.length cap
theorem DIs.of {W w1 w' : World} {k : Nat} {v : Value} {ys : List IV} (h : RowBI W W.heap.size k w1 v ys w') (hl : ys.length ≤ 12 ∧ ∀ y ∈ ys, shI y) : DIs W v ys w' := ⟨h.row.is, hl.1, hl.2, rdr_below h.rdr, h.form⟩
def DrewI0 (W : World) (e : Ending) (w' : World) : Prop := ∃ v ys, e = .returned v ∧ DIs W v ys w'
def DrewI1 (W : World) (e : Ending) (w' : World) : Prop := ∃ v ys x, shortP x ∧ e = .returned (.tuple #[v, .string ⟨x.toArray⟩]) ∧ DIs W v ys w'
def DrewI2 (W : World) (e : Ending) (w' : World) : Prop := ∃ v ys f, frameP f ∧ e = .returned (.tuple #[v, .int .i64 f]) ∧ DIs W v ys w'
theorem drawInfosValid_any (W : World) (a : Option Addr) (len cap : Nat) (zs : List Int) (hr : Row .u8 W a len cap zs) :
    Calls Try.prog 25 #[.slice a len cap] W (DrewI0 W) := by
  go_enter Try.func25, Try.ntmps25
  go_wp2_with fail
  refine (open_any W a len cap zs hr).mono ?_
  clear hr
  rintro e w1 ⟨rfl, hR1⟩
  go_wp2_with fail
  refine (infos_any W _ _ _ hR1 (by omega)).mono ?_
  rintro e w2 ⟨v, ys, rfl, hl, h⟩
  have HD := Lib.hid (DIs.of h hl)
  clear h hR1 hl
  go_wp2_with fail
  go_ret
  exact ⟨_, ys, rfl, HD.out⟩
theorem drawInfosFree_any (W : World) (a : Option Addr) (len cap : Nat) (zs : List Int) (hr : Row .u8 W a len cap zs) :
    Calls Try.prog 22 #[.slice a len cap] W (DrewI0 W) := by
  go_enter Try.func22, Try.ntmps22
  go_wp2_with fail
  refine (open_any W a len cap zs hr).mono ?_
  clear hr
  rintro e w1 ⟨rfl, hR1⟩
  go_wp2_with fail
  refine (infos_any W _ _ _ hR1 (by omega)).mono ?_
  rintro e w2 ⟨v, ys, rfl, hl, h⟩
  have HD := Lib.hid (DIs.of h hl)
  clear h hR1 hl
  go_wp2_with fail
  go_ret
  exact ⟨_, ys, rfl, HD.out⟩
set_option maxRecDepth 100000 in
set_option maxHeartbeats 2000000 in
theorem drawInfosTake_any (W : World) (a : Option Addr) (len cap : Nat) (zs : List Int) (hr : Row .u8 W a len cap zs) :
    Calls Try.prog 13 #[.slice a len cap] W (DrewI1 W) := by
  go_enter Try.func13, Try.ntmps13
  go_wp2_with fail
  refine (open_any W a len cap zs hr).mono ?_
  clear hr
  rintro e w1 ⟨rfl, hR1⟩
  go_wp2_with fail
  refine (infos_any W _ _ _ hR1 (by omega)).mono ?_
  rintro e w2 ⟨v, ys, rfl, hl, h⟩
  have HD := Lib.hid h
  obtain ⟨g, c, hv⟩ := h.form
  have hl12 : ys.length ≤ 12 := hl.1
  have HSH := Lib.hid hl.2
  subst hv
  clear h hR1 hl
  obtain ⟨n, hn⟩ : ∃ n, n = ys.length := ⟨_, rfl⟩
  rw [← hn] at HD hl12 ⊢
  have HN := Lib.hid hn
  clear hn
  go_wp2_with fail
  go_loopw [6] (fun i wr => ∃ (j : Nat) (xs : List IV), j ≤ n ∧ i = .int .i64 j ∧ Hid (n = xs.length) ∧ Hid (∀ y ∈ xs, shI y) ∧ Hid (RowBI W W.heap.size (0 + 200 + j) w1 (.slice (some ⟨g, 0, none⟩) n c) xs wr)) (fun i _ => n - (intOf i).toNat)
  case atStart => exact ⟨0, ys, Nat.zero_le _, rfl, HN, HSH, HD⟩
  case round =>
    obtain ⟨j, xs, hj, rfl, HNX, HSX, HREL⟩ := hrel
    have HEND : Hid (∀ w5 x k', shortP x → k' ≤ 1000 → Rdr W w5 W.heap.size k' → wr.grownBy w5 (some W.heap.size) → DIs W (.slice (some ⟨g, 0, none⟩) n c) xs w5) := Lib.hid (fun w5 x k' hx hk hR hg => by
      have := HREL.out.drew hR hg
      exact DIs.of this ⟨by have := HNX.out; omega, HSX.out⟩)
    by_cases hlt : j < n
    · have hlt' : (j : Int) < (n : Int) := by omega
      have hj0 : (0 : Int) ≤ (j : Int) := by omega
      go_wp2_with fail
      refine (pick_any W _ _ _ _ HREL.out.rdr (by omega) (by omega)).mono ?_
      rintro e w3 ⟨m3, h30, h31, rfl, hR3, hO3⟩
      have HS3 := Lib.hid (HREL.out.drew hR3 hO3.grown)
      have HG3 := Lib.hid hO3.grown
      have HR3 := Lib.hid hR3
      clear hO3 hR3
      by_cases hm : m3 = 0
      · subst hm
        have hp := HS3.out.place (i := j) (by have := HNX.out; omega)
        have HT := Lib.hid hp.2
        have HP := Lib.hid (HS3.out.store (i := j) (by have := HNX.out; omega) ⟨1, [], 0⟩)
        clear hp
        go_wp2_with ((with_reducible refine store_is 30 (.tmp 25) (.tmp 24) ?_); refine store_arr 30 (.tmp 25) (.tmp 24) g (j * 3) #[.int .i64 1, .string ⟨#[]⟩, .int .i64 0] rfl rfl HT.out (by kernel_rfl) (by simp [Value.oneCell']) ?_)
        go_roundw
        case rel => exact ⟨j + 1, xs.set j ⟨1, [], 0⟩, by omega, by go_num, Lib.hid (by rw [List.length_set]; exact HNX.out), Lib.hid (fun y hy => by
          rcases List.mem_or_eq_of_mem_set hy with h | h
          · exact HSX.out y h
          · rw [h]; exact Nat.zero_le _), Lib.hid (HP.out.mono (by omega))⟩
        case measure => simp [intOf]; omega
      · have hm' : (m3 == 0) = false := by simpa using hm
        go_wp2_with fail
        refine (right_any W _ _ _ HS3.out.rdr (by omega)).mono ?_
        rintro e w4 ⟨x, hx, rfl, hR4, hg4⟩
        have HDD := Lib.hid (HEND.out w4 x _ hx (by omega) hR4 (gtrans HG3.out hg4))
        clear hR4 hg4
        go_wp2_with fail
        go_ret2
        exact ⟨_, xs, x, hx, rfl, HDD.out⟩
    · have e : j = n := by omega
      go_wp2_with fail
      refine (right_any W _ _ _ HREL.out.rdr (by omega)).mono ?_
      rintro e w4 ⟨x, hx, rfl, hR4, hg4⟩
      have HDD := Lib.hid (HEND.out w4 x _ hx (by omega) hR4 hg4)
      clear hR4 hg4
      go_wp2_with fail
      go_ret2
      exact ⟨_, xs, x, hx, rfl, HDD.out⟩
set_option maxRecDepth 100000 in
set_option maxHeartbeats 2000000 in
theorem drawInfosGive_any (W : World) (a : Option Addr) (len cap : Nat) (zs : List Int) (hr : Row .u8 W a len cap zs) :
    Calls Try.prog 19 #[.slice a len cap] W (DrewI2 W) := by
  go_enter Try.func19, Try.ntmps19
  go_wp2_with fail
  refine (open_any W a len cap zs hr).mono ?_
  clear hr
  rintro e w1 ⟨rfl, hR1⟩
  go_wp2_with fail
  refine (infos_any W _ _ _ hR1 (by omega)).mono ?_
  rintro e w2 ⟨v, ys, rfl, hl, h⟩
  have HD := Lib.hid h
  obtain ⟨g, c, hv⟩ := h.form
  have hl12 : ys.length ≤ 12 := hl.1
  have HSH := Lib.hid hl.2
  subst hv
  clear h hR1 hl
  obtain ⟨n, hn⟩ : ∃ n, n = ys.length := ⟨_, rfl⟩
  rw [← hn] at HD hl12 ⊢
  have HN := Lib.hid hn
  clear hn
  go_wp2_with fail
  refine (frame_any W _ _ _ HD.out.rdr (by omega)).mono ?_
  rintro e w3 ⟨f, hf, rfl, hR3, hg3⟩
  have HF := Lib.hid hf
  have HS3 := Lib.hid (HD.out.drew hR3 hg3)
  clear HD hR3 hg3 hf
  have HD3 := Lib.hid (DIs.of HS3.out ⟨by have := HN.out; omega, HSH.out⟩)
  by_cases hn12 : n = 12
  · have HL := Lib.hid (fun w => l1Frame_any w f)
    have hn12' : ((n : Int) == 12) = true := by simp [hn12]
    have hni : (n : Int) = 12 := by omega
    have HN12 := Lib.hid hn12
    clear hn12
    cases hin : inR f 0 11 with
    | false =>
      rw [hin] at HL
      clear hin
      go_wp2_with fail
      refine (HL.out w3).mono ?_
      rintro e w' ⟨rfl, rfl⟩
      go_wp2_with fail
      go_ret2
      exact ⟨_, ys, f, HF.out, rfl, HD3.out⟩
    | true =>
      have hin2 := inR_iff.1 hin
      rw [hin] at HL
      clear hin
      obtain ⟨j, rfl⟩ : ∃ j : Nat, f = (j : Int) := ⟨f.toNat, by omega⟩
      have hj0 : (0 : Int) ≤ (j : Int) := by omega
      have hjn : j < n := by omega
      have hlt' : (j : Int) < (n : Int) := by omega
      clear hni
      go_wp2_with fail
      refine (HL.out w3).mono ?_
      rintro e w' ⟨rfl, rfl⟩
      go_wp2_with fail
      refine (pick_any W _ _ _ _ HS3.out.rdr (by omega) (by omega)).mono ?_
      rintro e w4 ⟨m4, h40, h41, rfl, hR4, hO4⟩
      have HS4 := Lib.hid (HS3.out.drew hR4 hO4.grown)
      have HD4 := Lib.hid (DIs.of HS4.out ⟨by have := HN.out; omega, HSH.out⟩)
      clear hR4 hO4
      by_cases hm : m4 = 0
      · subst hm
        have hp := HS4.out.place (i := j) (by have := HN.out; omega)
        have HT := Lib.hid hp.2
        have HP := Lib.hid (HS4.out.store (i := j) (by have := HN.out; omega) ⟨1, [98], 0⟩)
        have HD5 := Lib.hid (DIs.of HP.out ⟨by rw [List.length_set]; have := HN.out; omega, fun y hy => by
          rcases List.mem_or_eq_of_mem_set hy with h | h
          · exact HSH.out y h
          · rw [h]; show ([98] : Bs).length ≤ 10; decide⟩)
        clear hp
        go_wp2_with ((with_reducible refine store_is 30 (.tmp 28) (.tmp 27) ?_); refine store_arr 30 (.tmp 28) (.tmp 27) g (j * 3) #[.int .i64 1, .string ⟨#[98]⟩, .int .i64 0] rfl rfl HT.out (by kernel_rfl) (by simp [Value.oneCell']) ?_)
        go_ret2
        exact ⟨_, _, _, HF.out, rfl, HD5.out⟩
      · have hm' : (m4 == 0) = false := by simpa using hm
        go_wp2_with fail
        go_ret2
        exact ⟨_, ys, _, HF.out, rfl, HD4.out⟩
  · have hn12' : ((n : Int) == 12) = false := by simp; omega
    have hni : ¬ (n : Int) = 12 := by omega
    go_wp2_with fail
    go_ret2
    exact ⟨_, ys, f, HF.out, rfl, HD3.out⟩
end Go.Proofs.Ytopnomklfkkjfaa
