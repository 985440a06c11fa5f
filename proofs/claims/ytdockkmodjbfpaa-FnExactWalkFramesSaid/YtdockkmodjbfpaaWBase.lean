/- What a walk through two tables finds, said of a memory's words; the reference's walk returns it. -/
import Derived.Test.YtdockkmodjbfpaaEnt
import Derived.Test.YtdockkmodjbfpaaArr
namespace Go.Proofs.Ytdockkmodjbfpaa
open Go.ChangeShapes Go.WideShapes Go.ChangeAt Go.RowKit
set_option linter.unusedVariables false

theorem Rows2.word {w : World} {v : Value} {xss : List (List Int)} (h : Rows2 w v xss) (hm : memOk xss = true) {i j : Nat} (hi : i < 12) (hj : j < 4) :
    ∃ b o c g p d, v = .slice (some ⟨b, o, none⟩) 12 c ∧ w.cell? ⟨b, o + i, none⟩ = some (.slice (some ⟨g, p, none⟩) 4 d) ∧ w.cell? ⟨g, p + j, none⟩ = some (.int .i64 ((xss.getD i []).getD j 0)) := by
  obtain ⟨a, c, rfl, h1, h2, h3⟩ := h
  have hl := mem_len hm
  have hr := mem_row hm hi
  obtain ⟨b, o, u, rfl, hc, hu⟩ := h3 i (by omega)
  obtain ⟨ga, d, rfl, hg1, hg2, hg3⟩ := hu
  obtain ⟨g, p, rfl, hgc⟩ := hg3 j (by omega)
  rw [hr] at hc
  exact ⟨b, o, c, g, p, d, by rw [hl], hc, hgc⟩

instance (x : Int) : Decidable (goodB x) := by unfold goodB; infer_instance
/-- the word at a place of a frame -/
def wd (xss : List (List Int)) (i j : Nat) : Int := (xss.getD i []).getD j 0
/-- a place as a value -/
def plV (f t : Int) (b : Bool) : Value := .agg #[.int .i64 f, .int .i64 t, .bool b]
def top (xss : List (List Int)) (r a : Int) : Int := wd xss r.toNat (a / 16).toNat
def low (xss : List (List Int)) (r a : Int) : Int := wd xss (top xss r a / 4).toNat (a / 4 % 4).toNat
def wOk (xss : List (List Int)) (r a : Int) : Prop := memOk xss = true ∧ (0 ≤ r ∧ r < 12) ∧ 0 ≤ a ∧ a < 64
instance (xss : List (List Int)) (r a : Int) : Decidable (wOk xss r a) := by unfold wOk; infer_instance
/-- the frame, the place, whether it may be written, and the code -/
structure WV where
  f : Int
  t : Int
  b : Bool
  c : Int
def walkF (xss : List (List Int)) (r a : Int) : WV :=
  if wOk xss r a then
    if goodB (top xss r a) then
      if goodB (low xss r a) then ⟨low xss r a / 4, a % 4, decide (top xss r a % 4 = 3) && decide (low xss r a % 4 = 3), 0⟩
      else ⟨0, 0, false, 2⟩
    else ⟨0, 0, false, 1⟩
  else ⟨0, 0, false, 3⟩
/-- the call returns what the walk finds -/
def WalkRes (w : World) (p : WV) (e : Ending) (w' : World) : Prop := e = .returned (.tuple #[plV p.f p.t p.b, .int .i64 p.c]) ∧ Below w.heap.size w w'

theorem good_frame {x : Int} (h : goodB x) : 0 ≤ x / 4 ∧ x / 4 < 12 := by obtain ⟨h0, h1, h2⟩ := h; omega
theorem wd_bounds {xss : List (List Int)} (hm : memOk xss = true) {i j : Nat} (hi : i < 12) (hj : j < 4) : 0 ≤ wd xss i j ∧ wd xss i j ≤ 9999 := mem_word hm hi hj

theorem l3Walk_top (w : World) (v : Value) (xss : List (List Int)) (r a : Int) (h : Rows2 w v xss) (hk : wOk xss r a) (ht : ¬ goodB (top xss r a)) :
    Calls Try.prog 48 #[v, .int .i64 r, .int .i64 a] w (WalkRes w ⟨0, 0, false, 1⟩) := by
  obtain ⟨hm, ⟨hr0, hr1⟩, ha0, ha1⟩ := hk
  obtain ⟨r, rfl⟩ := Int.eq_ofNat_of_zero_le hr0
  obtain ⟨i, hi⟩ := Int.eq_ofNat_of_zero_le (show 0 ≤ a / 16 by omega)
  obtain ⟨b, o, c, g, p, d, rfl, hc, hx⟩ := h.word hm (i := r) (j := i) (by omega) (by omega)
  have hxe : (xss.getD r []).getD i 0 = top xss r a := by unfold top wd; rw [hi]; simp
  have hbd := wd_bounds hm (i := r) (j := i) (by omega) (by omega)
  unfold wd at hbd
  rw [hxe] at hx hbd
  obtain ⟨x, hxx⟩ : ∃ x, x = top xss r a := ⟨_, rfl⟩
  rw [← hxx] at hx ht hbd
  have HC := Lib.hid (fun w => eS_no x w ht (by omega) (by omega))
  have hi4 : (i : Int) < 4 := by omega
  clear hxe hxx ht h hbd
  obtain ⟨R, HRR⟩ : ∃ R : Ending → World → Prop, Hid (R = WalkRes w ⟨0, 0, false, 1⟩) := ⟨_, Lib.hid rfl⟩
  rw [← HRR.out]
  have hca := fun ob => (World.cell?_alloc_lt w ob ⟨b, o + r, none⟩ (cell_lt hc)).trans hc
  have hxa := fun ob => (World.cell?_alloc_lt w ob ⟨g, p + i, none⟩ (cell_lt hx)).trans hx
  clear hc hx
  go_enter Try.func48, Try.ntmps48
  go_wp2_with (go_at_call 64; refine (HC.out _).mono ?_; rintro e w' ⟨rfl, rfl⟩)
  refine bodyPost_ret (results_cell_mid rfl _ _ w.heap.size 0 [.int .i64 (0), .int .i64 (0), .bool false] _ rfl (range_row (heap_alloc_new w _)) Try.underlying27 rfl (by kernel_rfl)) rfl ?_
  rw [HRR.out]
  exact ⟨rfl, (Below.refl _ _).alloc (Nat.le_refl _) _⟩
theorem l3Walk_low (w : World) (v : Value) (xss : List (List Int)) (r a : Int) (h : Rows2 w v xss) (hk : wOk xss r a) (ht : goodB (top xss r a)) (hl : ¬ goodB (low xss r a)) :
    Calls Try.prog 48 #[v, .int .i64 r, .int .i64 a] w (WalkRes w ⟨0, 0, false, 2⟩) := by
  obtain ⟨hm, ⟨hr0, hr1⟩, ha0, ha1⟩ := hk
  obtain ⟨r, rfl⟩ := Int.eq_ofNat_of_zero_le hr0
  obtain ⟨i, hi⟩ := Int.eq_ofNat_of_zero_le (show 0 ≤ a / 16 by omega)
  obtain ⟨b, o, c, g, p, d, rfl, hc, hx⟩ := h.word hm (i := r) (j := i) (by omega) (by omega)
  have hxe : (xss.getD r []).getD i 0 = top xss r a := by unfold top wd; rw [hi]; simp
  have hbd := wd_bounds hm (i := r) (j := i) (by omega) (by omega)
  unfold wd at hbd
  rw [hxe] at hx hbd
  obtain ⟨f, hf⟩ := Int.eq_ofNat_of_zero_le (good_frame ht).1
  have hf12 := (good_frame ht).2
  obtain ⟨j, hj⟩ := Int.eq_ofNat_of_zero_le (show 0 ≤ a / 4 % 4 by omega)
  obtain ⟨b', o', c', g2, p2, d2, e0, hc2, hy⟩ := h.word hm (i := f) (j := j) (by omega) (by omega)
  injection e0 with e0 _ e3
  injection e0 with e0
  injection e0 with e1 e2
  subst e1
  subst e2
  subst e3
  have hye : (xss.getD f []).getD j 0 = low xss r a := by unfold low wd; rw [hf, hj]; simp
  have hbd2 := wd_bounds hm (i := f) (j := j) (by omega) (by omega)
  unfold wd at hbd2
  rw [hye] at hy hbd2
  obtain ⟨x, hxx⟩ : ∃ x, x = top xss r a := ⟨_, rfl⟩
  obtain ⟨y, hyy⟩ : ∃ y, y = low xss r a := ⟨_, rfl⟩
  rw [← hxx] at hx ht hbd hf hf12
  rw [← hyy] at hy hl hbd2
  have HC := Lib.hid (fun w => eS_yes x w ht)
  rw [hf] at HC
  have HC2 := Lib.hid (fun w => eS_no y w hl (by omega) (by omega))
  have hi4 : (i : Int) < 4 := by omega
  have hj4 : (j : Int) < 4 := by omega
  have hf12' : (f : Int) < 12 := by omega
  clear hxe hxx hyy hye ht hl h hbd hbd2 hf hf12
  obtain ⟨R, HRR⟩ : ∃ R : Ending → World → Prop, Hid (R = WalkRes w ⟨0, 0, false, 2⟩) := ⟨_, Lib.hid rfl⟩
  rw [← HRR.out]
  have hca := fun ob => (World.cell?_alloc_lt w ob ⟨b, o + r, none⟩ (cell_lt hc)).trans hc
  have hxa := fun ob => (World.cell?_alloc_lt w ob ⟨g, p + i, none⟩ (cell_lt hx)).trans hx
  have hcb := fun ob => (World.cell?_alloc_lt w ob ⟨b, o + f, none⟩ (cell_lt hc2)).trans hc2
  have hyb := fun ob => (World.cell?_alloc_lt w ob ⟨g2, p2 + j, none⟩ (cell_lt hy)).trans hy
  clear hc hx hc2 hy
  go_enter Try.func48, Try.ntmps48
  go_wp2_with fail
  refine (HC.out _).mono ?_
  rintro e w' ⟨rfl, rfl⟩
  go_wp2_with fail
  refine (HC2.out _).mono ?_
  rintro e w' ⟨rfl, rfl⟩
  go_wp2_with fail
  refine bodyPost_ret (results_cell_mid rfl _ _ w.heap.size 0 [.int .i64 (0), .int .i64 (0), .bool false] _ rfl (range_row (heap_alloc_new w _)) Try.underlying27 rfl (by kernel_rfl)) rfl ?_
  rw [HRR.out]
  exact ⟨rfl, (Below.refl _ _).alloc (Nat.le_refl _) _⟩
theorem l3Walk_done (w : World) (v : Value) (xss : List (List Int)) (r a : Int) (h : Rows2 w v xss) (hk : wOk xss r a) (ht : goodB (top xss r a)) (hl : goodB (low xss r a)) :
    Calls Try.prog 48 #[v, .int .i64 r, .int .i64 a] w (WalkRes w ⟨low xss r a / 4, a % 4, decide (top xss r a % 4 = 3) && decide (low xss r a % 4 = 3), 0⟩) := by
  obtain ⟨hm, ⟨hr0, hr1⟩, ha0, ha1⟩ := hk
  obtain ⟨r, rfl⟩ := Int.eq_ofNat_of_zero_le hr0
  obtain ⟨i, hi⟩ := Int.eq_ofNat_of_zero_le (show 0 ≤ a / 16 by omega)
  obtain ⟨b, o, c, g, p, d, rfl, hc, hx⟩ := h.word hm (i := r) (j := i) (by omega) (by omega)
  have hxe : (xss.getD r []).getD i 0 = top xss r a := by unfold top wd; rw [hi]; simp
  have hbd := wd_bounds hm (i := r) (j := i) (by omega) (by omega)
  unfold wd at hbd
  rw [hxe] at hx hbd
  obtain ⟨f, hf⟩ := Int.eq_ofNat_of_zero_le (good_frame ht).1
  have hf12 := (good_frame ht).2
  obtain ⟨j, hj⟩ := Int.eq_ofNat_of_zero_le (show 0 ≤ a / 4 % 4 by omega)
  obtain ⟨b', o', c', g2, p2, d2, e0, hc2, hy⟩ := h.word hm (i := f) (j := j) (by omega) (by omega)
  injection e0 with e0 _ e3
  injection e0 with e0
  injection e0 with e1 e2
  subst e1
  subst e2
  subst e3
  have hye : (xss.getD f []).getD j 0 = low xss r a := by unfold low wd; rw [hf, hj]; simp
  have hbd2 := wd_bounds hm (i := f) (j := j) (by omega) (by omega)
  unfold wd at hbd2
  rw [hye] at hy hbd2
  obtain ⟨x, hxx⟩ : ∃ x, x = top xss r a := ⟨_, rfl⟩
  obtain ⟨y, hyy⟩ : ∃ y, y = low xss r a := ⟨_, rfl⟩
  rw [← hxx] at hx ht hbd hf hf12 ⊢
  rw [← hyy] at hy hl hbd2 ⊢
  have HC := Lib.hid (fun w => eS_yes x w ht)
  rw [hf] at HC
  have HC2 := Lib.hid (fun w => eS_yes y w hl)
  obtain ⟨z, hz⟩ : ∃ z, z = y / 4 := ⟨_, rfl⟩
  obtain ⟨b1, hb1⟩ : ∃ b1, b1 = decide (x % 4 = 3) := ⟨_, rfl⟩
  obtain ⟨b2, hb2⟩ : ∃ b2, b2 = decide (y % 4 = 3) := ⟨_, rfl⟩
  rw [← hz, ← hb2] at HC2
  rw [← hb1] at HC
  rw [← hz, ← hb1, ← hb2]
  have hi4 : (i : Int) < 4 := by omega
  have hj4 : (j : Int) < 4 := by omega
  have hf12' : (f : Int) < 12 := by omega
  clear hxe hxx hyy hye ht hl h hbd hbd2 hf hf12 hz hb1 hb2
  obtain ⟨R, HRR⟩ : ∃ R : Ending → World → Prop, Hid (R = WalkRes w ⟨z, a % 4, b1 && b2, 0⟩) := ⟨_, Lib.hid rfl⟩
  rw [← HRR.out]
  have hca := fun ob => (World.cell?_alloc_lt w ob ⟨b, o + r, none⟩ (cell_lt hc)).trans hc
  have hxa := fun ob => (World.cell?_alloc_lt w ob ⟨g, p + i, none⟩ (cell_lt hx)).trans hx
  have hcb := fun ob => (World.cell?_alloc_lt w ob ⟨b, o + f, none⟩ (cell_lt hc2)).trans hc2
  have hyb := fun ob => (World.cell?_alloc_lt w ob ⟨g2, p2 + j, none⟩ (cell_lt hy)).trans hy
  clear hc hx hc2 hy
  cases b1 <;> cases b2 <;> skip
  all_goals
    go_enter Try.func48, Try.ntmps48
    go_wp2_with fail
    refine (HC.out _).mono ?_
    rintro e w' ⟨rfl, rfl⟩
    go_wp2_with fail
    refine (HC2.out _).mono ?_
    rintro e w' ⟨rfl, rfl⟩
    go_wp2_with fail
    refine bodyPost_ret (results_cell_mid rfl _ _ w.heap.size 0 [.int .i64 z, .int .i64 (a % 4), .bool _] _ rfl (range_row (heap_alloc_new w _)) Try.underlying27 rfl (by kernel_rfl)) rfl ?_
    rw [HRR.out]
    exact ⟨rfl, (Below.refl _ _).alloc (Nat.le_refl _) _⟩
end Go.Proofs.Ytdockkmodjbfpaa
