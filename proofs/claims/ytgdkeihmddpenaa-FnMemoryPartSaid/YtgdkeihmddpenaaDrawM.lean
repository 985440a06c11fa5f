/- What the draws of a memory with frames, places and words give; nothing that was there before the call changes. -/
import Derived.Test.YtgdkeihmddpenaaDrawMem
namespace Go.Proofs.Ytgdkeihmddpenaa
open Go.ChangeShapes Go.WideShapes Go.ChangeAt Go.RowKit
set_option linter.unusedVariables false

def atP (f : Int) : Prop := -1 ≤ f ∧ f ≤ 4
theorem at_any (w0 w : World) (B k : Nat) (hR : Rdr w0 w B k) (hk : k ≤ 900000) :
    Calls Try.prog 39 #[.pointer (some ⟨B, 0, none⟩)] w (Drew atP w0 B (k + 2) w) := by
  go_enter Try.func39, Try.ntmps39
  go_wp2_with fail
  refine (pick_any w0 _ B k _ hR (by omega) (by omega)).mono ?_
  rintro e w1 ⟨m, h0, h1, rfl, hR1, hO1⟩
  by_cases hm : m = 0
  · subst hm
    have hB1 := rdr_lt hR1
    go_wp2_with fail
    refine (pick_any w0 _ B _ _ (rdr_alloc hR1 _) (by omega) (by omega)).mono ?_
    rintro e w2 ⟨m2, h20, h21, rfl, hR2, hO2⟩
    have hc : ∀ o, w2.cell? ⟨w1.heap.size, o, none⟩ = (w1.alloc (.cells #[.int .i64 (-1), .int .i64 4] 3)).cell? ⟨w1.heap.size, o, none⟩ := fun o => hO2.cell (by omega)
    have hg := gtrans hO1.grown (gtrans (galloc _ _ _) hO2.grown)
    have hmm : m2 = 0 ∨ m2 = 1 := by omega
    rcases hmm with rfl | rfl
    · have hc0 : w2.cell? ⟨w1.heap.size, 0, none⟩ = some (.int .i64 (-1)) := (hc 0).trans (new_cell rfl)
      clear hc
      go_wp2_with fail
      go_ret
      exact drew_mk (by unfold atP; omega) hR2 (by omega) hg
    · have hc1 : w2.cell? ⟨w1.heap.size, 1, none⟩ = some (.int .i64 4) := (hc 1).trans (new_cell rfl)
      clear hc
      go_wp2_with fail
      go_ret
      exact drew_mk (by unfold atP; omega) hR2 (by omega) hg
  · have hm' : (m == 0) = false := by simpa using hm
    go_wp2_with fail
    refine (pick_any w0 _ B _ _ hR1 (by omega) (by omega)).mono ?_
    rintro e w2 ⟨m2, h20, h21, rfl, hR2, hO2⟩
    go_wp2_with fail
    go_ret
    exact drew_mk (by unfold atP; omega) hR2 (by omega) (gtrans hO1.grown hO2.grown)

def Small (xss : List (List Int)) : Prop := xss.length ≤ 12 ∧ ∀ j, j < xss.length → (xss.getD j []).length ≤ 4
theorem MatW.grown {B B0 B1 : Nat} {w w' : World} {v : Value} {xss : List (List Int)} (h : MatW w B0 B1 v xss) (hg : w.grownBy w' (some B)) (hB : B < B0) (h1 : B1 ≤ w.heap.size) : MatW w' B0 B1 v xss :=
  h.of_blocks (fun b h0 h2 => hg.block b (by omega) (fun e => by injection e with e; omega))

def DrewM0 (W : World) (e : Ending) (w' : World) : Prop := ∃ v xss, e = .returned v ∧ Rows2 w' v xss ∧ Small xss ∧ Below W.heap.size W w'
def DrewM1 (P : Int → Prop) (W : World) (e : Ending) (w' : World) : Prop := ∃ v xss f, P f ∧ e = .returned (.tuple #[v, .int .i64 f]) ∧ Rows2 w' v xss ∧ Small xss ∧ Below W.heap.size W w'
def DrewM2 (P : Int → Int → Prop) (W : World) (e : Ending) (w' : World) : Prop := ∃ v xss f t, P f t ∧ e = .returned (.tuple #[v, .int .i64 f, .int .i64 t]) ∧ Rows2 w' v xss ∧ Small xss ∧ Below W.heap.size W w'
def DrewM3 (P : Int → Int → Int → Prop) (W : World) (e : Ending) (w' : World) : Prop := ∃ v xss f t x, P f t x ∧ e = .returned (.tuple #[v, .int .i64 f, .int .i64 t, .int .i64 x]) ∧ Rows2 w' v xss ∧ Small xss ∧ Below W.heap.size W w'
theorem drewM1_mk {P : Int → Prop} {W w' : World} {v : Value} {xss : List (List Int)} {B B0 B1 k : Nat} {f : Int} (hP : P f) (hm : MatW w' B0 B1 v xss) (hs : Small xss) (hR : Rdr W w' B k) : DrewM1 P W (.returned (.tuple #[v, .int .i64 f])) w' :=
  ⟨v, xss, f, hP, rfl, hm.rows, hs, rdr_below hR⟩
theorem drewM2_mk {P : Int → Int → Prop} {W w' : World} {v : Value} {xss : List (List Int)} {B B0 B1 k : Nat} {f t : Int} (hP : P f t) (hm : MatW w' B0 B1 v xss) (hs : Small xss) (hR : Rdr W w' B k) : DrewM2 P W (.returned (.tuple #[v, .int .i64 f, .int .i64 t])) w' :=
  ⟨v, xss, f, t, hP, rfl, hm.rows, hs, rdr_below hR⟩
theorem drewM3_mk {P : Int → Int → Int → Prop} {W w' : World} {v : Value} {xss : List (List Int)} {B B0 B1 k : Nat} {f t x : Int} (hP : P f t x) (hm : MatW w' B0 B1 v xss) (hs : Small xss) (hR : Rdr W w' B k) : DrewM3 P W (.returned (.tuple #[v, .int .i64 f, .int .i64 t, .int .i64 x])) w' :=
  ⟨v, xss, f, t, x, hP, rfl, hm.rows, hs, rdr_below hR⟩
theorem results_tmp4 {fn : Func} {t u v x : Tmp} (h : fn.results = #[.tmp t, .tmp u, .tmp v, .tmp x]) (tmps : Array Value) (P : Program) (w : World) :
    (results fn tmps).run P w = .ok (.tuple #[tmps.getD t undef, tmps.getD u undef, tmps.getD v undef, tmps.getD x undef]) w := by simp [results, h]

theorem drawMemoryValid_any (W : World) (a : Option Addr) (len cap : Nat) (zs : List Int) (hr : Row .u8 W a len cap zs) :
    Calls Try.prog 29 #[.slice a len cap] W (DrewM0 W) := by
  go_enter Try.func29, Try.ntmps29
  go_wp2_with fail
  refine (open_any W a len cap zs hr).mono ?_
  clear hr
  rintro e w1 ⟨rfl, hR1⟩
  have hlt := rdr_lt hR1
  go_wp2_with fail
  refine (mem_any W _ _ _ hR1 (by omega)).mono ?_
  rintro e w2 ⟨v, xss, rfl, hm, hs1, hs2, hR2, _⟩
  have HS : Hid (Small xss) := Lib.hid ⟨hs1, hs2⟩
  have HM2 := Lib.hid hm
  clear hs1 hs2 hR1 hm
  go_wp2_with fail
  go_ret
  exact ⟨v, xss, rfl, HM2.out.rows, HS.out, rdr_below hR2⟩

theorem drawMemoryClear_any (W : World) (a : Option Addr) (len cap : Nat) (zs : List Int) (hr : Row .u8 W a len cap zs) :
    Calls Try.prog 26 #[.slice a len cap] W (DrewM1 frameP W) := by
  go_enter Try.func26, Try.ntmps26
  go_wp2_with fail
  refine (open_any W a len cap zs hr).mono ?_
  clear hr
  rintro e w1 ⟨rfl, hR1⟩
  have hlt := rdr_lt hR1
  go_wp2_with fail
  refine (mem_any W _ _ _ hR1 (by omega)).mono ?_
  rintro e w2 ⟨v, xss, rfl, hm, hs1, hs2, hR2, _⟩
  have HS : Hid (Small xss) := Lib.hid ⟨hs1, hs2⟩
  have HM2 := Lib.hid hm
  clear hs1 hs2 hR1 hm
  go_wp2_with fail
  refine (frame_any W _ _ _ hR2 (by omega)).mono ?_
  rintro e w3 ⟨f, hf, rfl, hR3, hg3⟩
  have hz3 := hg3.size
  have HM3 := Lib.hid (HM2.out.grown hg3 hlt (Nat.le_refl _))
  clear hR2 hg3 HM2
  go_wp2_with fail
  go_ret2
  exact drewM1_mk hf HM3.out HS.out hR3

theorem drawMemoryCopy_any (W : World) (a : Option Addr) (len cap : Nat) (zs : List Int) (hr : Row .u8 W a len cap zs) :
    Calls Try.prog 21 #[.slice a len cap] W (DrewM2 (fun f t => frameP f ∧ frameP t) W) := by
  go_enter Try.func21, Try.ntmps21
  go_wp2_with fail
  refine (open_any W a len cap zs hr).mono ?_
  clear hr
  rintro e w1 ⟨rfl, hR1⟩
  have hlt := rdr_lt hR1
  go_wp2_with fail
  refine (mem_any W _ _ _ hR1 (by omega)).mono ?_
  rintro e w2 ⟨v, xss, rfl, hm, hs1, hs2, hR2, _⟩
  have HS : Hid (Small xss) := Lib.hid ⟨hs1, hs2⟩
  have HM2 := Lib.hid hm
  clear hs1 hs2 hR1 hm
  go_wp2_with fail
  refine (frame_any W _ _ _ hR2 (by omega)).mono ?_
  rintro e w3 ⟨f, hf, rfl, hR3, hg3⟩
  have hz3 := hg3.size
  have HM3 := Lib.hid (HM2.out.grown hg3 hlt (Nat.le_refl _))
  clear hR2 hg3 HM2
  go_wp2_with fail
  refine (frame_any W _ _ _ hR3 (by omega)).mono ?_
  rintro e w4 ⟨t, ht, rfl, hR4, hg4⟩
  have hz4 := hg4.size
  have HM4 := Lib.hid (HM3.out.grown hg4 hlt (by omega))
  clear hR3 hg4 HM3
  go_wp2_with fail
  go_ret3
  exact drewM2_mk ⟨hf, ht⟩ HM4.out HS.out hR4

theorem drawMemoryGet_any (W : World) (a : Option Addr) (len cap : Nat) (zs : List Int) (hr : Row .u8 W a len cap zs) :
    Calls Try.prog 14 #[.slice a len cap] W (DrewM2 (fun f t => frameP f ∧ atP t) W) := by
  go_enter Try.func14, Try.ntmps14
  go_wp2_with fail
  refine (open_any W a len cap zs hr).mono ?_
  clear hr
  rintro e w1 ⟨rfl, hR1⟩
  have hlt := rdr_lt hR1
  go_wp2_with fail
  refine (mem_any W _ _ _ hR1 (by omega)).mono ?_
  rintro e w2 ⟨v, xss, rfl, hm, hs1, hs2, hR2, _⟩
  have HS : Hid (Small xss) := Lib.hid ⟨hs1, hs2⟩
  have HM2 := Lib.hid hm
  clear hs1 hs2 hR1 hm
  go_wp2_with fail
  refine (frame_any W _ _ _ hR2 (by omega)).mono ?_
  rintro e w3 ⟨f, hf, rfl, hR3, hg3⟩
  have hz3 := hg3.size
  have HM3 := Lib.hid (HM2.out.grown hg3 hlt (Nat.le_refl _))
  clear hR2 hg3 HM2
  go_wp2_with fail
  refine (at_any W _ _ _ hR3 (by omega)).mono ?_
  rintro e w4 ⟨t, ht, rfl, hR4, hg4⟩
  have hz4 := hg4.size
  have HM4 := Lib.hid (HM3.out.grown hg4 hlt (by omega))
  clear hR3 hg4 HM3
  go_wp2_with fail
  go_ret3
  exact drewM2_mk ⟨hf, ht⟩ HM4.out HS.out hR4

theorem triple_get (m : Int) (h0 : 0 ≤ m) (h1 : m < 3) : ∃ x : Int, (-1 ≤ x ∧ x ≤ 10000) ∧ [Value.int .i64 (-1), .int .i64 10000, .int .i64 9999][m.toNat]'(by simp; omega) = .int .i64 x := by
  have hm : m = 0 ∨ m = 1 ∨ m = 2 := by omega
  rcases hm with rfl | rfl | rfl
  · exact ⟨-1, by omega, rfl⟩
  · exact ⟨10000, by omega, rfl⟩
  · exact ⟨9999, by omega, rfl⟩
theorem word_any {x : Int} (h0 : 0 ≤ x) (h1 : x < 100) : -1 ≤ x ∧ x ≤ 10000 := by omega
set_option maxHeartbeats 1000000 in
theorem drawMemoryPut_any (W : World) (a : Option Addr) (len cap : Nat) (zs : List Int) (hr : Row .u8 W a len cap zs) :
    Calls Try.prog 17 #[.slice a len cap] W (DrewM3 (fun f t x => (frameP f ∧ atP t) ∧ -1 ≤ x ∧ x ≤ 10000) W) := by
  go_enter Try.func17, Try.ntmps17
  go_wp2_with fail
  refine (open_any W a len cap zs hr).mono ?_
  clear hr
  rintro e w1 ⟨rfl, hR1⟩
  have hlt := rdr_lt hR1
  go_wp2_with fail
  refine (mem_any W _ _ _ hR1 (by omega)).mono ?_
  rintro e w2 ⟨v, xss, rfl, hm, hs1, hs2, hR2, _⟩
  have HS : Hid (Small xss) := Lib.hid ⟨hs1, hs2⟩
  have HM2 := Lib.hid hm
  clear hs1 hs2 hR1 hm
  go_wp2_with fail
  refine (frame_any W _ _ _ hR2 (by omega)).mono ?_
  rintro e w3 ⟨f, hf, rfl, hR3, hg3⟩
  have hz3 := hg3.size
  have HM3 := Lib.hid (HM2.out.grown hg3 hlt (Nat.le_refl _))
  clear hR2 hg3 HM2
  go_wp2_with fail
  refine (at_any W _ _ _ hR3 (by omega)).mono ?_
  rintro e w4 ⟨t, ht, rfl, hR4, hg4⟩
  have hz4 := hg4.size
  have HM4 := Lib.hid (HM3.out.grown hg4 hlt (by omega))
  clear hR3 hg4 HM3
  go_wp2_with fail
  refine (pick_any W _ _ _ _ hR4 (by omega) (by omega)).mono ?_
  rintro e w5 ⟨ms, hs0, hs1, rfl, hR5, hO5⟩
  have hg5 := hO5.grown
  have hz5 := hg5.size
  have HM5 := Lib.hid (HM4.out.grown hg5 hlt (by omega))
  have hlt5 := rdr_lt hR5
  clear hR4 hg5 HM4 hO5
  by_cases e0 : ms = 0
  · subst e0
    have hR0 := Lib.hid (rdr_drew hR5)
    clear hR5
    generalize W.heap.size = B at *
    go_wp2_with fail
    go_region_with (go_at_call 44; (first | refine (pick_any W _ B _ _ hR0.out (by omega) (by omega)).mono ?_ | refine (pick_any W _ B _ _ (rdr_alloc hR0.out _) (by omega) (by omega)).mono ?_); rintro e w6 ⟨m3, h30, h31, rfl, hR6, hO6⟩; have HR6 := Lib.hid hR6; have HG6 := Lib.hid (show w5.grownBy w6 (some B) by first | exact grown_undrew hO6.grown | exact grown_undrew (gtrans (galloc _ _ _) hO6.grown)); have hc6 := only_cells hO6; have hs6 := only_size hO6; obtain ⟨x3, hx3, hv3⟩ := triple_get m3 h30 h31; clear hR6 hO6)
    all_goals
      have HE1 := Lib.hid (drewM3_mk (P := fun f t x => (frameP f ∧ atP t) ∧ -1 ≤ x ∧ x ≤ 10000) ⟨⟨hf, ht⟩, hx3⟩ (HM5.out.grown HG6.out hlt (by omega)) HS.out HR6.out)
      have HE2 := Lib.hid (fun ob => drewM3_mk (P := fun f t x => (frameP f ∧ atP t) ∧ -1 ≤ x ∧ x ≤ 10000) ⟨⟨hf, ht⟩, hx3⟩ ((HM5.out.grown HG6.out hlt (by omega)).grown (galloc _ ob B) hlt (by have := HG6.out.size; omega)) HS.out (rdr_alloc HR6.out ob))
      clear hc6 hs6 hv3
      go_wp2_with fail
      refine bodyPost_ret (results_tmp4 rfl _ _ _) rfl ?_
      first
        | exact HE1.out
        | exact HE2.out _
  · have e0' : (ms == 0) = false := by simpa using e0
    go_wp2_with fail
    refine (pick_any W _ _ _ _ hR5 (by omega) (by omega)).mono ?_
    rintro e w6 ⟨x, hx0, hx1, rfl, hR6, hO6⟩
    have HE := Lib.hid (drewM3_mk (P := fun f t x => (frameP f ∧ atP t) ∧ -1 ≤ x ∧ x ≤ 10000) ⟨⟨hf, ht⟩, word_any hx0 hx1⟩ (HM5.out.grown hO6.grown hlt (by omega)) HS.out hR6)
    clear hR5 hR6 hO6
    go_wp2_with fail
    refine bodyPost_ret (results_tmp4 rfl _ _ _) rfl ?_
    exact HE.out
end Go.Proofs.Ytgdkeihmddpenaa
