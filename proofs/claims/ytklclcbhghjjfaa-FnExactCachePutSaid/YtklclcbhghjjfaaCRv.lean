/- A ring of translations in memory and as a value, and its functions that only read. -/
import Derived.Test.YtklclcbhghjjfaaCRing
import Derived.Test.YtklclcbhghjjfaaCTo
namespace Go.Proofs.Ytklclcbhghjjfaa
open Go.ChangeShapes Go.WideShapes Go.ChangeAt Go.RowKit
set_option linter.unusedVariables false

/-- the cells of a ring -/
def ringC (A : Nat → CV) (f c : Nat) : List Value := cvC (A 0) ++ cvC (A 1) ++ cvC (A 2) ++ cvC (A 3) ++ [.int .i64 (f : Int), .int .i64 (c : Int)]
theorem ringC_len (A : Nat → CV) (f c : Nat) : (ringC A f c).length = 18 := rfl
theorem ringC_one (A : Nat → CV) (f c : Nat) : (ringC A f c).toArray.all (·.oneCell') = true := by simp [ringC, cvC, Value.oneCell']
abbrev ringV (A : Nat → CV) (f c : Nat) : Value := .agg (ringC A f c).toArray
/-- a ring in block b: four places, the place of the first, how many there are -/
structure Ring (w : World) (b : Nat) (A : Nat → CV) (f c : Nat) : Prop where
  at4 : ∀ i, i < 4 → FourW w b (i * 4) (A i)
  cf : w.cell? ⟨b, 16, none⟩ = some (.int .i64 (f : Int))
  cc : w.cell? ⟨b, 17, none⟩ = some (.int .i64 (c : Int))
  ff : w.frozen? ⟨b, 16, none⟩ = false
  fc : w.frozen? ⟨b, 17, none⟩ = false
theorem Ring.range {w : World} {b : Nat} {A : Nat → CV} {f c : Nat} (h : Ring w b A f c) : w.rangeAt b 0 (ringC A f c) := by
  obtain ⟨h4, hf, hc, _, _⟩ := h
  have q : ∀ i, i < 4 → w.rangeAt b (i * 4) (cvC (A i)) := fun i hi j v hv => by
    have hj : j < 4 := (List.getElem?_eq_some_iff.1 hv).1
    have hx := (h4 i hi).at4
    obtain rfl | rfl | rfl | rfl : j = 0 ∨ j = 1 ∨ j = 2 ∨ j = 3 := by omega
    · cases hv; exact hx.c0
    · cases hv; exact hx.c1
    · cases hv; exact hx.c2
    · cases hv; exact hx.c3
  have q2 : w.rangeAt b 16 [.int .i64 (f : Int), .int .i64 (c : Int)] := fun j v hv => by
    have hj : j < 2 := (List.getElem?_eq_some_iff.1 hv).1
    obtain rfl | rfl : j = 0 ∨ j = 1 := by omega
    · cases hv; exact hf
    · cases hv; exact hc
  exact range_append (range_append (range_append (range_append (q 0 (by omega)) (q 1 (by omega)) rfl) (q 2 (by omega)) rfl) (q 3 (by omega)) rfl) q2 rfl
theorem Ring.there {w : World} {b : Nat} {A : Nat → CV} {f c : Nat} (h : Ring w b A f c) : w.there b 0 18 := fun j hj => by
  rw [Nat.zero_add]
  by_cases h1 : j < 16
  · have := (h.at4 (j / 4) (by omega)).there (j % 4) (by omega)
    rwa [show j / 4 * 4 + j % 4 = j by omega] at this
  · obtain rfl | rfl : j = 16 ∨ j = 17 := by omega
    · exact ⟨by rw [h.cf]; rfl, h.ff⟩
    · exact ⟨by rw [h.cc]; rfl, h.fc⟩
theorem Ring.block {w w' : World} {b : Nat} {A : Nat → CV} {f c : Nat} (h : Ring w b A f c) (e : w'.heap[b]? = w.heap[b]?) : Ring w' b A f c :=
  ⟨fun i hi => (h.at4 i hi).block e, (World.cell?_of_block e).trans h.cf, (World.cell?_of_block e).trans h.cc, (World.frozen?_of_block e).trans h.ff, (World.frozen?_of_block e).trans h.fc⟩
theorem Ring.drew {w : World} {b : Nat} {A : Nat → CV} {f c : Nat} (h : Ring w b A f c) : Ring w.drew b A f c := ⟨fun i hi => ⟨⟨(h.at4 i hi).at4.c0, (h.at4 i hi).at4.c1, (h.at4 i hi).at4.c2, (h.at4 i hi).at4.c3⟩, (h.at4 i hi).fr⟩, h.cf, h.cc, h.ff, h.fc⟩
theorem Ring.of_range {w : World} {b : Nat} {A : Nat → CV} {f c : Nat} (h : w.rangeAt b 0 (ringC A f c)) (ht : w.there b 0 18) : Ring w b A f c := by
  have q : ∀ j, j < 18 → w.frozen? ⟨b, j, none⟩ = false := fun j hj => by have := (ht j hj).2; rwa [Nat.zero_add] at this
  have r : ∀ j v, (ringC A f c)[j]? = some v → w.cell? ⟨b, j, none⟩ = some v := fun j v hv => by have := h j v hv; rwa [Nat.zero_add] at this
  refine ⟨fun i hi => ⟨?_, fun j hj => q _ (by omega)⟩, r 16 _ rfl, r 17 _ rfl, q 16 (by omega), q 17 (by omega)⟩
  obtain rfl | rfl | rfl | rfl : i = 0 ∨ i = 1 ∨ i = 2 ∨ i = 3 := by omega
  · exact ⟨r 0 _ rfl, r 1 _ rfl, r 2 _ rfl, r 3 _ rfl⟩
  · exact ⟨r 4 _ rfl, r 5 _ rfl, r 6 _ rfl, r 7 _ rfl⟩
  · exact ⟨r 8 _ rfl, r 9 _ rfl, r 10 _ rfl, r 11 _ rfl⟩
  · exact ⟨r 12 _ rfl, r 13 _ rfl, r 14 _ rfl, r 15 _ rfl⟩
theorem Ring.boxed (w : World) (A : Nat → CV) (f c : Nat) (t : TypeId) : Ring (w.alloc (.cells (ringC A f c).toArray t)) w.heap.size A f c :=
  Ring.of_range (range_row (heap_alloc_new w _)) (there_row (heap_alloc_new w _) (by simp [ringC, cvC]))
theorem Ring.stored {w : World} {b : Nat} {A : Nat → CV} {f c : Nat} (h : w.there b 0 18) : Ring (w.setCells b 0 (ringC A f c)) b A f c :=
  Ring.of_range (World.rangeAt_setCells_same w b 0 (ringC A f c) h) (fun j hj => by
    have h2 := World.rangeAt_setCells_same w b 0 (ringC A f c) h j ((ringC A f c)[j]) (List.getElem?_eq_getElem (by rw [ringC_len]; exact hj))
    rw [h2, World.frozen?_setCells]
    exact ⟨rfl, (h j hj).2⟩)
theorem Ring.lt {w : World} {b : Nat} {A : Nat → CV} {f c : Nat} (h : Ring w b A f c) : b < w.heap.size := block_lt_of_cell h.cf
/-- the value of a ring that holds these translations -/
def RV (v : Value) (l : List CV) : Prop := ∃ A f c, v = ringV A f c ∧ f < 4 ∧ c ≤ 4 ∧ rlist A f c = l
/-- the zero value -/
def A0 : Nat → CV := fun _ => c0
theorem ringC_zero : (ringC A0 0 0).toArray = #[.int .i64 0, .int .i64 0, .int .i64 0, .bool false, .int .i64 0, .int .i64 0, .int .i64 0, .bool false, .int .i64 0, .int .i64 0, .int .i64 0, .bool false, .int .i64 0, .int .i64 0, .int .i64 0, .bool false, .int .i64 0, .int .i64 0] := rfl
theorem RV.zero : RV (ringV A0 0 0) [] := ⟨A0, 0, 0, rfl, by omega, by omega, rfl⟩

set_option maxRecDepth 100000 in
theorem slot_any (w : World) (A : Nat → CV) (f c : Nat) (k : Nat) (hf : f < 4) (hk : k ≤ 4) :
    Calls Try.prog 53 #[ringV A f c, .int .i64 (k : Int)] w fun e w' => e = .returned (.int .i64 (((f + k) % 4 : Nat) : Int)) ∧ Below w.heap.size w w' := by
  obtain ⟨R, hR⟩ : ∃ R, R = ringC A f c := ⟨_, rfl⟩
  have hRng := Ring.boxed w A f c 59
  have hcf := hRng.cf
  have HB := Lib.hid ((Below.refl w.heap.size w).alloc (Nat.le_refl _) (.cells (ringC A f c).toArray 59))
  unfold ringV
  rw [← hR] at hcf HB ⊢
  clear hR hRng
  go_enter Try.func53, Try.ntmps53
  go_wp2_with ((with_reducible refine box_is _ (.tmp 0) ?_); refine box_arr _ (.tmp 0) R.toArray rfl ?_)
  go_ret
  refine ⟨?_, HB.out⟩
  have e : (((f + k) % 4 : Nat) : Int) = ((f : Int) + (k : Int)) % 4 := by omega
  rw [e]
  rfl
theorem below_any (w : World) (x lim : Int) : Calls Try.prog 52 #[.int .i64 x, .int .i64 lim] w fun e w' => e = .returned (.bool (inR x 0 (lim - 1))) ∧ w = w' := by
  obtain ⟨b, hb⟩ : ∃ b, b = inR x 0 (lim - 1) := ⟨_, rfl⟩
  rw [← hb]
  unfold inR at hb
  have HB := Lib.hid hb
  clear hb
  by_cases h0 : 0 ≤ x
  · by_cases h1 : x < lim
    · have e : Hid (b = true) := Lib.hid (by rw [HB.out]; exact decide_eq_true ⟨h0, by omega⟩)
      go_enter Try.func52, Try.ntmps52
      go_wp2
      go_ret
      exact ⟨by rw [e.out]; rfl, rfl⟩
    · have e : Hid (b = false) := Lib.hid (by rw [HB.out]; exact decide_eq_false (fun h => h1 (by omega)))
      have h1' : decide (x < lim) = false := by simpa using h1
      clear h1
      go_enter Try.func52, Try.ntmps52
      go_wp2
      go_ret
      exact ⟨by rw [e.out]; rfl, rfl⟩
  · have e : Hid (b = false) := Lib.hid (by rw [HB.out]; exact decide_eq_false (fun h => h0 h.1))
    have h0' : decide (0 ≤ x) = false := by simpa using h0
    clear h0
    go_enter Try.func52, Try.ntmps52
    go_wp2
    go_ret
    exact ⟨by rw [e.out]; rfl, rfl⟩
set_option maxRecDepth 100000 in
theorem valid_any (w : World) (x : CV) : Calls Try.prog 38 #[cvV x] w (BoolRes w (cvOk x)) := by
  obtain ⟨xe, xp, xf, xb⟩ := x
  unfold cvOk
  have hB : Below w.heap.size w (w.alloc (.cells #[.int .i64 xe, .int .i64 xp, .int .i64 xf, .bool xb] 25)) := (Below.refl _ _).alloc (Nat.le_refl _) _
  have H1 : ∀ w, Calls Try.prog 52 #[.int .i64 xe, .int .i64 3] w fun e w' => e = .returned (.bool (inR xe 0 2)) ∧ w = w' := fun w => below_any w xe 3
  have H2 : ∀ w, Calls Try.prog 52 #[.int .i64 xp, .int .i64 16] w fun e w' => e = .returned (.bool (inR xp 0 15)) ∧ w = w' := fun w => below_any w xp 16
  have H3 : ∀ w, Calls Try.prog 52 #[.int .i64 xf, .int .i64 12] w fun e w' => e = .returned (.bool (inR xf 0 11)) ∧ w = w' := fun w => below_any w xf 12
  have HB := Lib.hid hB
  clear hB
  cases h1 : inR xe 0 2
  · rw [h1] at H1
    clear h1
    go_enter Try.func38, Try.ntmps38
    go_wp2_with fail
    refine (H1 _).mono ?_
    rintro e w' ⟨rfl, rfl⟩
    go_wp2
    go_ret
    exact ⟨rfl, HB.out⟩
  · rw [h1] at H1
    clear h1
    cases h2 : inR xp 0 15
    · rw [h2] at H2
      clear h2
      go_enter Try.func38, Try.ntmps38
      go_wp2_with fail
      refine (H1 _).mono ?_
      rintro e w' ⟨rfl, rfl⟩
      go_wp2_with fail
      refine (H2 _).mono ?_
      rintro e w' ⟨rfl, rfl⟩
      go_wp2
      go_ret
      exact ⟨rfl, HB.out⟩
    · rw [h2] at H2
      clear h2
      go_enter Try.func38, Try.ntmps38
      go_wp2_with fail
      refine (H1 _).mono ?_
      rintro e w' ⟨rfl, rfl⟩
      go_wp2_with fail
      refine (H2 _).mono ?_
      rintro e w' ⟨rfl, rfl⟩
      go_wp2_with fail
      refine (H3 _).mono ?_
      rintro e w' ⟨rfl, rfl⟩
      go_wp2
      go_ret
      exact ⟨rfl, HB.out⟩
set_option maxRecDepth 100000 in
theorem isOf_any (w : World) (x : CV) (n p : Int) : Calls Try.prog 41 #[cvV x, .int .i64 n, .int .i64 p] w (BoolRes w (same x n p)) := by
  obtain ⟨xe, xp, xf, xb⟩ := x
  unfold same
  dsimp only
  have hB : Below w.heap.size w (w.alloc (.cells #[.int .i64 xe, .int .i64 xp, .int .i64 xf, .bool xb] 25)) := (Below.refl _ _).alloc (Nat.le_refl _) _
  have HB := Lib.hid hB
  clear hB
  obtain ⟨b, hb⟩ : ∃ b, b = decide (xe = n ∧ xp = p) := ⟨_, rfl⟩
  rw [← hb]
  have HBB := Lib.hid hb
  clear hb
  by_cases h1 : xe = n
  · have e1 : (xe == n) = true := by simpa using h1
    by_cases h2 : xp = p
    · have e2 : (xp == p) = true := by simpa using h2
      have HR : Hid (b = true) := Lib.hid (by rw [HBB.out]; exact decide_eq_true ⟨h1, h2⟩)
      clear h1 h2
      go_enter Try.func41, Try.ntmps41
      go_wp2
      go_ret
      exact ⟨by rw [HR.out]; rfl, HB.out⟩
    · have e2 : (xp == p) = false := by simpa using h2
      have HR : Hid (b = false) := Lib.hid (by rw [HBB.out]; exact decide_eq_false (fun h => h2 h.2))
      clear h1 h2
      go_enter Try.func41, Try.ntmps41
      go_wp2
      go_ret
      exact ⟨by rw [HR.out]; rfl, HB.out⟩
  · have e1 : (xe == n) = false := by simpa using h1
    have HR : Hid (b = false) := Lib.hid (by rw [HBB.out]; exact decide_eq_false (fun h => h1 h.1))
    clear h1
    go_enter Try.func41, Try.ntmps41
    go_wp2
    go_ret
    exact ⟨by rw [HR.out]; rfl, HB.out⟩
end Go.Proofs.Ytklclcbhghjjfaa
