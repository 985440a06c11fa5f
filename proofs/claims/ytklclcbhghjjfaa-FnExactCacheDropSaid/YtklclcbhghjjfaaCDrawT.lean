/- What the draws of a cache with a translation, an environment and a page give; nothing that was there before the call changes. -/
import Derived.Test.YtklclcbhghjjfaaCDrawC
import Derived.Deep.RegionHeld
namespace Go.Proofs.Ytklclcbhghjjfaa
open Go.ChangeShapes Go.WideShapes Go.ChangeAt Go.RowKit
set_option linter.unusedVariables false

/-- a drawn cache; nothing that was there before has changed -/
structure DCs (W : World) (v : Value) (ys : List CV) (w' : World) : Prop where
  cs : Cs w' v ys
  len : ys.length ≤ 8
  rng : ∀ y ∈ ys, cvP y
  bel : Below W.heap.size W w'
theorem DCs.of {W w1 w' : World} {k : Nat} {v : Value} {ys : List CV} (h : OwnB W W.heap.size k w1 v ys w') (hl : ys.length ≤ 8 ∧ ∀ y ∈ ys, cvP y) : DCs W v ys w' := ⟨h.cs, hl.1, hl.2, rdr_below h.rdr⟩
def DrewC0 (W : World) (e : Ending) (w' : World) : Prop := ∃ v ys, e = .returned v ∧ DCs W v ys w'
def DrewC1 (W : World) (e : Ending) (w' : World) : Prop := ∃ v ys n, (-1 ≤ n ∧ n ≤ 4) ∧ e = .returned (.tuple #[v, .int .i64 n]) ∧ DCs W v ys w'
def DrewC2 (W : World) (e : Ending) (w' : World) : Prop := ∃ v ys n p, ((-1 ≤ n ∧ n ≤ 4) ∧ -1 ≤ p ∧ p ≤ 16) ∧ e = .returned (.tuple #[v, .int .i64 n, .int .i64 p]) ∧ DCs W v ys w'
def DrewCX (W : World) (e : Ending) (w' : World) : Prop := ∃ v ys x, cvP x ∧ e = .returned (.tuple #[v, cvV x]) ∧ DCs W v ys w'

theorem results_three {fn : Func} {t u v : Tmp} (h : fn.results = #[.tmp t, .tmp u, .tmp v]) (tmps : Array Value) (P : Program) (w : World) :
    (results fn tmps).run P w = .ok (.tuple #[tmps.getD t undef, tmps.getD u undef, tmps.getD v undef]) w := by simp [results, h]
theorem drawCacheValid_any (W : World) (a : Option Addr) (len cap : Nat) (zs : List Int) (hr : Row .u8 W a len cap zs) :
    Calls Try.prog 26 #[.slice a len cap] W (DrewC0 W) := by
  go_enter Try.func26, Try.ntmps26
  go_wp2_with fail
  refine (open_any W a len cap zs hr).mono ?_
  clear hr
  rintro e w1 ⟨rfl, hR1⟩
  go_wp2_with fail
  refine (cache_any W _ _ _ hR1 (by omega)).mono ?_
  rintro e w2 ⟨v, ys, rfl, hl, h⟩
  have HD := Lib.hid (DCs.of h hl)
  clear h hR1 hl
  go_wp2_with fail
  go_ret
  exact ⟨_, ys, rfl, HD.out⟩
theorem drawCacheDrop_any (W : World) (a : Option Addr) (len cap : Nat) (zs : List Int) (hr : Row .u8 W a len cap zs) :
    Calls Try.prog 20 #[.slice a len cap] W (DrewC1 W) := by
  go_enter Try.func20, Try.ntmps20
  go_wp2_with fail
  refine (open_any W a len cap zs hr).mono ?_
  clear hr
  rintro e w1 ⟨rfl, hR1⟩
  go_wp2_with fail
  refine (cache_any W _ _ _ hR1 (by omega)).mono ?_
  rintro e w2 ⟨v, ys, rfl, hl, h⟩
  have H := Lib.hid h
  clear h hR1
  go_wp2_with fail
  refine (pick_any W _ _ _ _ H.out.rdr (by omega) (by omega)).mono ?_
  rintro e w3 ⟨m, h0, h1, rfl, hR3, hO3⟩
  have HD := Lib.hid (DCs.of (H.out.drew hR3 hO3.grown) hl)
  clear H hR3 hO3 hl
  go_wp2_with fail
  go_ret2
  exact ⟨_, ys, m - 1, ⟨by omega, by omega⟩, rfl, HD.out⟩
theorem row_alloc {k : IntKind} {w : World} {a : Option Addr} {len cap : Nat} {zs : List Int} (h : Row k w a len cap zs) (o : Obj) : Row k (w.alloc o) a len cap zs := by
  rcases h with h | ⟨x, rfl, hl, hm, hz, hcell, hwz⟩
  · exact .inl h
  · refine .inr ⟨x, rfl, hl, hm, hz, fun i hi => ?_, hwz⟩
    have h1 := hcell i hi
    have hlt : (x.add i).block < w.heap.size := World.block_lt_of_cell? _ _ h1
    exact (World.cell?_of_block (Below.heap_alloc w o _ hlt)).trans h1
theorem cs_set {w : World} {X : Nat} {vs : List Value} {v : Value} {ys : List CV} (h : Cs w v ys) (hX : ∀ a n c, v = .slice (some a) n c → a.block ≠ X) : Cs (w.setCells X 0 vs) v ys := by
  obtain ⟨a, c, e, h1, h2, h3⟩ := h
  refine ⟨a, c, e, h1, h2, fun i hi => ?_⟩
  obtain ⟨b, o, e2, h4⟩ := h3 i hi
  have hb : b ≠ X := hX ⟨b, o, none⟩ _ _ (by rw [e, e2])
  have he : (w.setCells X 0 vs).heap[b]? = w.heap[b]? := heap_setCells_other w X vs 0 w b hb
  exact ⟨b, o, e2, ⟨(World.cell?_of_block he).trans h4.c0, (World.cell?_of_block he).trans h4.c1, (World.cell?_of_block he).trans h4.c2, (World.cell?_of_block he).trans h4.c3⟩⟩
theorem results_tmp_mid {P : Program} {fn : Func} {t p : Tmp} {ty : TypeId} (h : fn.results = #[.tmp t, .cell p ty]) (tmps : Array Value) (w : World) (b o : Nat) (cs : List Value) (d : TypeDesc)
    (hp : tmps.getD p undef = .pointer (some ⟨b, o, none⟩)) (hc : w.rangeAt b o cs) (hu : P.underlying ty = some d) (hd : d.isRow = true) (hi : (P.info? ty).map (·.size) = some cs.length) :
    (results fn tmps).run P w = .ok (.tuple #[tmps.getD t undef, .agg cs.toArray]) w := by
  have hp' : tmps[p]?.getD undef = .pointer (some ⟨b, o, none⟩) := by simpa using hp
  simp [results, h, hp', asAddr, run_loadVar_mid w b o ty cs d hc hu hd hi, Result.andThen]
set_option maxHeartbeats 2000000 in
theorem drawCachePut_any (W : World) (a : Option Addr) (len cap : Nat) (zs : List Int) (hr : Row .u8 W a len cap zs) :
    Calls Try.prog 14 #[.slice a len cap] W (DrewCX W) := by
  go_enter Try.func14, Try.ntmps14
  go_wp2_with fail
  have hRES : (W.alloc (.cells #[.int .i64 0, .int .i64 0, .int .i64 0, .bool false] 25)).there W.heap.size 0 4 := there_row (heap_alloc_new W _) (by simp)
  have hr2 := row_alloc hr (.cells #[.int .i64 0, .int .i64 0, .int .i64 0, .bool false] 25)
  have hB0 : Below W.heap.size W (W.alloc (.cells #[.int .i64 0, .int .i64 0, .int .i64 0, .bool false] 25)) := (Below.refl _ _).alloc (Nat.le_refl _) _
  have hsz : (W.alloc (.cells #[.int .i64 0, .int .i64 0, .int .i64 0, .bool false] 25)).heap.size = W.heap.size + 1 := by simp
  obtain ⟨W1, hW1⟩ : ∃ W1, W.alloc (.cells #[.int .i64 0, .int .i64 0, .int .i64 0, .bool false] 25) = W1 := ⟨_, rfl⟩
  rw [hW1] at hRES hr2 hB0 hsz ⊢
  have HSZ := Lib.hid hsz
  clear hW1 hr hsz
  refine (open_any W1 a len cap zs hr2).mono ?_
  clear hr2
  rintro e w1 ⟨rfl, hR1⟩
  have hs1 := (rdr_below hR1).size
  go_wp2_with fail
  refine (cache_any W1 _ _ _ hR1 (by omega)).mono ?_
  rintro e w2 ⟨v, ys, rfl, hl, h⟩
  have H := Lib.hid h
  have HL := Lib.hid hl
  clear h hR1 hl
  go_wp2_with fail
  refine (cached_any W1 _ _ _ H.out.rdr (by omega)).mono ?_
  rintro e w3 ⟨x, hx, rfl, hR3, hg3⟩
  have HD := Lib.hid (H.out.drew hR3 hg3)
  have HT : Hid (w3.there W.heap.size 0 4) := Lib.hid (there_blocks hRES ((rdr_below hR3).block _ (by rw [HSZ.out]; omega)))
  have HX := Lib.hid hx
  clear H hR3 hg3 hRES hx
  obtain ⟨xe, xp, xf, xb⟩ := x
  unfold cvV
  go_wp2_with ((with_reducible refine store_is 25 (.tmp 3) (.tmp 12) ?_); refine store_arr 25 (.tmp 3) (.tmp 12) W.heap.size 0 #[.int .i64 xe, .int .i64 xp, .int .i64 xf, .bool xb] rfl rfl HT.out info_cv (cvBits ⟨xe, xp, xf, xb⟩) ?_)
  try simp only [Act.put]
  refine bodyPost_ret (results_tmp_mid rfl _ _ W.heap.size 0 [.int .i64 xe, .int .i64 xp, .int .i64 xf, .bool xb] _ rfl (World.rangeAt_setCells_same _ _ _ _ HT.out) Try.underlying25 rfl (by kernel_rfl)) rfl ?_
  have hform := HD.out.form
  refine ⟨_, ys, ⟨xe, xp, xf, xb⟩, HX.out, rfl, ?_, HL.out.1, HL.out.2, ?_⟩
  · refine cs_set HD.out.cs (fun a n c e => ?_)
    obtain ⟨g, cap', e2, _, _, hg⟩ := hform
    rw [e2] at e
    injection e with e _ _
    injection e with e
    rw [← e]
    show g ≠ W.heap.size
    have := HSZ.out
    omega
  · exact Below.setCells (Below.refl _ _) _ (Nat.le_refl _) _ _ _ (hB0.trans ((rdr_below HD.out.rdr).mono (by rw [HSZ.out]; omega)))
set_option maxRecDepth 100000 in
set_option maxHeartbeats 2000000 in
theorem drawCacheFind_any (W : World) (a : Option Addr) (len cap : Nat) (zs : List Int) (hr : Row .u8 W a len cap zs) :
    Calls Try.prog 24 #[.slice a len cap] W (DrewC2 W) := by
  go_enter Try.func24, Try.ntmps24
  go_wp2_with fail
  refine (open_any W a len cap zs hr).mono ?_
  clear hr
  rintro e w1 ⟨rfl, hR1⟩
  go_wp2_with fail
  refine (cache_any W _ _ _ hR1 (by omega)).mono ?_
  rintro e w2 ⟨v, ys, rfl, hl, h⟩
  have H := Lib.hid h
  have HL := Lib.hid hl
  clear h hR1
  obtain ⟨g, cap', rfl, hc1, hc2, hg0⟩ := H.out.form
  unfold maxLen at hc2
  have tail : ∀ (w3 : World) (b : Bool), True := fun _ _ => trivial
  by_cases hz : ys.length = 0
  · have hz' : decide (0 < (ys.length : Int)) = false := decide_eq_false (by omega)
    have HV : Hid (Value.slice (some ⟨g, 0, none⟩) ys.length cap' = .slice (some ⟨g, 0, none⟩) 0 cap') := Lib.hid (by rw [hz])
    clear hl tail
    go_wp2_with fail
    refine (pick_any W _ _ _ _ H.out.rdr (by omega) (by omega)).mono ?_
    rintro e w3 ⟨m, h0, h1, rfl, hR3, hO3⟩
    have H3 := Lib.hid (H.out.drew hR3 hO3.grown)
    clear hR3 hO3
    go_wp2_with fail
    refine (pick_any W _ _ _ _ H3.out.rdr (by omega) (by omega)).mono ?_
    rintro e w4 ⟨n, hn0, hn1, rfl, hR4, hO4⟩
    have HD := Lib.hid (DCs.of (H3.out.drew hR4 hO4.grown) HL.out)
    clear hR4 hO4 H3 H
    go_wp2_with fail
    refine bodyPost_ret (results_three rfl _ _ _) rfl ?_
    refine ⟨_, ys, m, n, ⟨⟨by omega, by omega⟩, by omega, by omega⟩, ?_, HD.out⟩
    rw [HV.out]
    rfl
  · have hz' : (0 : Int) < (ys.length : Int) := by omega
    go_wp2_with fail
    refine (pick_any W _ _ _ _ H.out.rdr (by omega) (by omega)).mono ?_
    rintro e w3 ⟨m, h0, h1, rfl, hR3, hO3⟩
    have H3 := Lib.hid (H.out.drew hR3 hO3.grown)
    clear hR3 hO3
    by_cases hm : 0 < m
    · go_wp2_with fail
      refine (pick_any W _ _ _ _ H3.out.rdr (by omega) (by omega)).mono ?_
      rintro e w4 ⟨q0, hq0, hq1, rfl, hR4, hO4⟩
      obtain ⟨q, rfl⟩ := Int.eq_ofNat_of_zero_le hq0
      have H4 := Lib.hid (H3.out.drew hR4 hO4.grown)
      clear hR4 hO4 H3 H
      obtain ⟨x, hx⟩ : ∃ x, x = ys.getD q c0 := ⟨_, rfl⟩
      have HXP : Hid (cvP x) := Lib.hid (by rw [hx, getD_lt (by omega)]; exact HL.out.2 _ (List.getElem_mem _))
      have hf : Four w4 g (0 + q * 4) x := by
        obtain ⟨a', c', e, _, _, h3⟩ := H4.out.cs
        injection e with e _ _
        obtain ⟨b, o, e2, h4⟩ := h3 q (by omega)
        rw [← e] at e2
        injection e2 with e2
        injection e2 with e3 e4
        subst e3
        subst e4
        rw [hx]
        exact h4
      obtain ⟨xe, xp, xf, xb⟩ := x
      obtain ⟨y0, y1, y2, y3⟩ := hf
      have HD0 := Lib.hid (DCs.of (H4.out.keep (w2 := w4.alloc (.cells #[.int .i64 xe, .int .i64 xp, .int .i64 xf, .bool xb] 25)) ((Below.refl _ _).alloc (Nat.le_refl _) _)) HL.out)
      clear H4 hx
      simp only [Nat.zero_add] at y0 y1 y2 y3
      go_wp2_with fail
      refine wp_region_held_drew (S := fun w' => Four w' w4.heap.size 0 ⟨xe, xp, xf, xb⟩) (by kernel_rfl) ⟨new_cell rfl, new_cell rfl, new_cell rfl, new_cell rfl⟩ (fun hHeld => ?_)
      refine wpAnyH_take (i := 0) (oi := { dst := some 28, op := .move (.tmp 6), type := _, pos := _, after := _, guard := none }) (v := .slice (some ⟨g, 0, none⟩) ys.length cap') rfl (by kernel_rfl) (by kernel_rfl) (by kernel_rfl) (fun _ _ _ h => h) (Or.inl ⟨by rfl, fun wh hSw => ?_⟩) hHeld ?_
      · (obtain ⟨s0, s1, s2, s3⟩ := hSw; simp only [Nat.zero_add] at s0 s1 s2 s3; go_simp)
      try simp only [Act.put, List.setIfInBounds_toArray, List.set_cons_zero, List.set_cons_succ]
      refine wpAnyH_take (i := 1) (oi := { dst := some 29, op := .fieldAddr 25 (.tmp 7) 0, type := _, pos := _, after := _, guard := none }) (v := .pointer (some ⟨w4.heap.size, 0, none⟩)) rfl (by kernel_rfl) (by kernel_rfl) (by kernel_rfl) (fun _ _ _ h => h) (Or.inl ⟨by rfl, fun wh hSw => ?_⟩) hHeld ?_
      · (obtain ⟨s0, s1, s2, s3⟩ := hSw; simp only [Nat.zero_add] at s0 s1 s2 s3; go_simp)
      try simp only [Act.put, List.setIfInBounds_toArray, List.set_cons_zero, List.set_cons_succ]
      refine wpAnyH_take (i := 2) (oi := { dst := some 30, op := .load 3 (.tmp 29), type := _, pos := _, after := _, guard := none }) (v := .int .i64 xe) rfl (by kernel_rfl) (by kernel_rfl) (by kernel_rfl) (fun _ _ _ h => h) (Or.inl ⟨by rfl, fun wh hSw => ?_⟩) hHeld ?_
      · (obtain ⟨s0, s1, s2, s3⟩ := hSw; simp only [Nat.zero_add] at s0 s1 s2 s3; go_simp)
      try simp only [Act.put, List.setIfInBounds_toArray, List.set_cons_zero, List.set_cons_succ]
      refine wpAnyH_take (i := 3) (oi := { dst := some 31, op := .fieldAddr 25 (.tmp 7) 1, type := _, pos := _, after := _, guard := none }) (v := .pointer (some ⟨w4.heap.size, 1, none⟩)) rfl (by kernel_rfl) (by kernel_rfl) (by kernel_rfl) (fun _ _ _ h => h) (Or.inl ⟨by rfl, fun wh hSw => ?_⟩) hHeld ?_
      · (obtain ⟨s0, s1, s2, s3⟩ := hSw; simp only [Nat.zero_add] at s0 s1 s2 s3; go_simp)
      try simp only [Act.put, List.setIfInBounds_toArray, List.set_cons_zero, List.set_cons_succ]
      refine wpAnyH_take (i := 4) (oi := { dst := some 32, op := .load 3 (.tmp 31), type := _, pos := _, after := _, guard := none }) (v := .int .i64 xp) rfl (by kernel_rfl) (by kernel_rfl) (by kernel_rfl) (fun _ _ _ h => h) (Or.inl ⟨by rfl, fun wh hSw => ?_⟩) hHeld ?_
      · (obtain ⟨s0, s1, s2, s3⟩ := hSw; simp only [Nat.zero_add] at s0 s1 s2 s3; go_simp)
      try simp only [Act.put, List.setIfInBounds_toArray, List.set_cons_zero, List.set_cons_succ]
      refine wpAnyH_take (i := 5) (oi := { dst := some 2, op := .assign (.tmp 28), type := _, pos := _, after := _, guard := none }) (v := .slice (some ⟨g, 0, none⟩) ys.length cap') rfl (by kernel_rfl) (by kernel_rfl) (by kernel_rfl) (fun _ _ _ h => h) (Or.inl ⟨by rfl, fun wh hSw => ?_⟩) hHeld ?_
      · (obtain ⟨s0, s1, s2, s3⟩ := hSw; simp only [Nat.zero_add] at s0 s1 s2 s3; go_simp)
      try simp only [Act.put, List.setIfInBounds_toArray, List.set_cons_zero, List.set_cons_succ]
      refine wpAnyH_take (i := 6) (oi := { dst := some 3, op := .assign (.tmp 30), type := _, pos := _, after := _, guard := none }) (v := .int .i64 xe) rfl (by kernel_rfl) (by kernel_rfl) (by kernel_rfl) (fun _ _ _ h => h) (Or.inl ⟨by rfl, fun wh hSw => ?_⟩) hHeld ?_
      · (obtain ⟨s0, s1, s2, s3⟩ := hSw; simp only [Nat.zero_add] at s0 s1 s2 s3; go_simp)
      try simp only [Act.put, List.setIfInBounds_toArray, List.set_cons_zero, List.set_cons_succ]
      refine wpAnyH_take (i := 7) (oi := { dst := some 4, op := .assign (.tmp 32), type := _, pos := _, after := _, guard := none }) (v := .int .i64 xp) rfl (by kernel_rfl) (by kernel_rfl) (by kernel_rfl) (fun _ _ _ h => h) (Or.inl ⟨by rfl, fun wh hSw => ?_⟩) hHeld ?_
      · (obtain ⟨s0, s1, s2, s3⟩ := hSw; simp only [Nat.zero_add] at s0 s1 s2 s3; go_simp)
      try simp only [Act.put, List.setIfInBounds_toArray, List.set_cons_zero, List.set_cons_succ]
      refine wpAnyH_done (by kernel_rfl) ?_ _
      go_wp2_with fail
      refine bodyPost_ret (results_three rfl _ _ _) rfl ?_
      obtain ⟨hx1, hx2, hx3⟩ := HXP.out
      exact ⟨_, ys, xe, xp, ⟨⟨hx1.1, by have := hx1.2; dsimp only at this; omega⟩, hx2⟩, rfl, ⟨HD0.out.cs.drewN 1, HD0.out.len, HD0.out.rng, HD0.out.bel.drew⟩⟩
    · have hm' : decide (0 < m) = false := by simpa using hm
      clear hm
      go_wp2_with fail
      refine (pick_any W _ _ _ _ H3.out.rdr (by omega) (by omega)).mono ?_
      rintro e w4 ⟨m2, h20, h21, rfl, hR4, hO4⟩
      have H4 := Lib.hid (H3.out.drew hR4 hO4.grown)
      clear hR4 hO4 H3 H
      go_wp2_with fail
      refine (pick_any W _ _ _ _ H4.out.rdr (by omega) (by omega)).mono ?_
      rintro e w5 ⟨n, hn0, hn1, rfl, hR4, hO4⟩
      have HD := Lib.hid (DCs.of (H4.out.drew hR4 hO4.grown) HL.out)
      clear hR4 hO4 H4
      go_wp2_with fail
      refine bodyPost_ret (results_three rfl _ _ _) rfl ?_
      exact ⟨_, ys, m2, n, ⟨⟨by omega, by omega⟩, by omega, by omega⟩, rfl, HD.out⟩
end Go.Proofs.Ytklclcbhghjjfaa
