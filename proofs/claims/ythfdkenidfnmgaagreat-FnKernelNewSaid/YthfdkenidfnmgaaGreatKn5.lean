/- What the proofs stand on, part 5. -/
import Derived.Test.YthfdkenidfnmgaaGreatRows
import Derived.Test.YthfdkenidfnmgaaGreatKn4
set_option linter.unusedSimpArgs false
set_option linter.unusedVariables false
namespace Go.Proofs.YthfdkenidfnmgaaGreat
open Go.ChangeShapes Go.WideShapes Go.ChangeAt Go.RowKit Go.Maps
set_option linter.unusedVariables false
set_option linter.unusedSimpArgs false
set_option maxRecDepth 100000
set_option maxHeartbeats 2000000 in
theorem current_any (W : World) (X Q : Nat) (M : List (List Int)) (I : List IV) (E : List EV) (bs : Nat → Nat) (R L : List Value) (h : KC W X M I E bs R L) (v : Value) (C : List CV) (hq : W.cell? ⟨Q, 0, none⟩ = some v) (hc : Cs W v C) (hok : cOk C = true) (hb : ∀ j, j < 3 → -1 ≤ (E.getD j ez).t ∧ (E.getD j ez).t ≤ 11) (i : Nat) (hi : i < C.length) :
    Calls Tryz.prog 62 #[.int .i64 i, .pointer (some ⟨X, 0, none⟩), .pointer (some ⟨Q, 0, none⟩)] W (BRes (cach1 M E (C.getD i c0)) W) := by
  have hcv := ((cOk_iff C).1 hok).1 (C.getD i c0) (by rw [getD_lt hi]; exact List.getElem_mem _)
  have HT := Lib.hid (translates_any W.drew M I E bs R L (h.l.below (Below.refl _ _).drew) (C.getD i c0) hcv hb)
  obtain ⟨a, cap, rfl, h1, h2, h3⟩ := hc
  unfold maxLen at h2
  obtain ⟨g, o, rfl, hf⟩ := h3 i hi
  obtain ⟨n, hn⟩ : ∃ n, n = C.length := ⟨_, rfl⟩
  rw [← hn] at h1 hi hq
  obtain ⟨x, hx⟩ : ∃ x, x = C.getD i c0 := ⟨_, rfl⟩
  rw [← hx] at HT hf ⊢
  have HLL := Lib.hid h.l.len
  have FS : Hid (∀ W', Below W.heap.size W W' → W'.rangeAt X 0 L ∧ W'.cell? ⟨Q, 0, none⟩ = some (.slice (some ⟨g, o, none⟩) n cap) ∧ W'.cell? ⟨g, o + i * 4, none⟩ = some (.int .i64 x.e) ∧ W'.cell? ⟨g, o + i * 4 + 1, none⟩ = some (.int .i64 x.p) ∧ W'.cell? ⟨g, o + i * 4 + 2, none⟩ = some (.int .i64 x.f) ∧ W'.cell? ⟨g, o + i * 4 + 3, none⟩ = some (.bool x.b)) := Lib.hid (fun W' hb => by
    have hf' := hf.below hb (cell_lt hf.c0)
    exact ⟨(h.below hb).at0, (hb.cell (p := ⟨Q, 0, none⟩) (cell_lt hq)).trans hq, hf'.c0, hf'.c1, hf'.c2, hf'.c3⟩)
  have HIX : Hid (∀ W' : World, W'.rangeAt X 0 L → (do let l ← Instr.loadAt 67 (.pointer (some ⟨X, 0, none⟩)); pure (Next.value l) : Sem Next).run Tryz.prog W' = .ok (.value (.agg L.toArray)) W') := Lib.hid (fun W' hh => load_run 67 X 0 L _ hh Tryz.underlying67 rfl (info_kernel HLL.out))
  have hi0 : (0 : Int) ≤ (i : Int) := by omega
  have hin : (i : Int) < (n : Int) := by omega
  generalize cach1 M E x = r at HT ⊢
  clear h hcv hf h3 hn hx hok hb hq
  go_enter Tryz.func62, Tryz.ntmps62
  go_wp2_with fail
  refine wp_region_held_drew (S := fun w' => w'.rangeAt X 0 L ∧ w'.cell? ⟨Q, 0, none⟩ = some (.slice (some ⟨g, o, none⟩) n cap) ∧ w'.cell? ⟨g, o + i * 4, none⟩ = some (.int .i64 x.e) ∧ w'.cell? ⟨g, o + i * 4 + 1, none⟩ = some (.int .i64 x.p) ∧ w'.cell? ⟨g, o + i * 4 + 2, none⟩ = some (.int .i64 x.f) ∧ w'.cell? ⟨g, o + i * 4 + 3, none⟩ = some (.bool x.b)) (by kernel_rfl) (FS.out _ (Below.refl _ _).drew) (fun hHeld => ?_)
  refine wpAnyH_take (i := 0) (oi := { dst := some 5, op := .load 67 (.tmp 1), type := _, pos := _, after := _, guard := none }) (v := .agg L.toArray) rfl (by kernel_rfl) (by kernel_rfl) (by kernel_rfl) (fun _ _ _ h => h) (Or.inl ⟨by rfl, fun wh hSw => ?_⟩) hHeld ?_
  · (simp only [execOp]; exact HIX.out _ hSw.1)
  try simp only [Act.put, List.setIfInBounds_toArray, List.set_cons_zero, List.set_cons_succ]
  refine wpAnyH_take (i := 1) (oi := { dst := some 6, op := .load 28 (.tmp 2), type := _, pos := _, after := _, guard := none }) (v := .slice (some ⟨g, o, none⟩) n cap) rfl (by kernel_rfl) (by kernel_rfl) (by kernel_rfl) (fun _ _ _ h => h) (Or.inl ⟨by rfl, fun wh hSw => ?_⟩) hHeld ?_
  · (obtain ⟨s0, s1, s2, s3, s4, s5⟩ := hSw; go_simp)
  try simp only [Act.put, List.setIfInBounds_toArray, List.set_cons_zero, List.set_cons_succ]
  refine wpAnyH_take (i := 2) (oi := { dst := some 7, op := .move (.tmp 0), type := _, pos := _, after := _, guard := none }) (v := .int .i64 (i : Int)) rfl (by kernel_rfl) (by kernel_rfl) (by kernel_rfl) (fun _ _ _ h => h) (Or.inl ⟨by rfl, fun wh hSw => ?_⟩) hHeld ?_
  · (obtain ⟨s0, s1, s2, s3, s4, s5⟩ := hSw; go_simp)
  try simp only [Act.put, List.setIfInBounds_toArray, List.set_cons_zero, List.set_cons_succ]
  refine wpAnyH_take (i := 3) (oi := { dst := some 8, op := .indexAddr 28 (.tmp 6) (.tmp 7), type := _, pos := _, after := _, guard := none }) (v := .pointer (some ⟨g, o + i * 4, none⟩)) rfl (by kernel_rfl) (by kernel_rfl) (by kernel_rfl) (fun _ _ _ h => h) (Or.inl ⟨by rfl, fun wh hSw => ?_⟩) hHeld ?_
  · (obtain ⟨s0, s1, s2, s3, s4, s5⟩ := hSw; go_simp)
  try simp only [Act.put, List.setIfInBounds_toArray, List.set_cons_zero, List.set_cons_succ]
  refine wpAnyH_take (i := 4) (oi := { dst := some 9, op := .load 62 (.tmp 8), type := _, pos := _, after := _, guard := none }) (v := cvV x) rfl (by kernel_rfl) (by kernel_rfl) (by kernel_rfl) (fun _ _ _ h => h) (Or.inl ⟨by rfl, fun wh hSw => ?_⟩) hHeld ?_
  · (obtain ⟨s0, s1, s2, s3, s4, s5⟩ := hSw; go_simp)
  try simp only [Act.put, List.setIfInBounds_toArray, List.set_cons_zero, List.set_cons_succ]
  refine wpAnyH_ready (rs := [5]) (by kernel_rfl) (by simp) ?_
  refine AllReadyH.cons (o := { dst := some 10, op := .call { callee := .value (.func 63), args := #[.tmp 5, .tmp 9], argTypes := #[67, 62] }, type := _, pos := _, after := _, guard := none }) rfl (fun K hK => ?_) AllReadyH.nil
  go_simp
  refine HT.out.mono ?_
  rintro _ w1 ⟨rfl, hb1⟩
  have HBE : Hid (Below W.heap.size W w1) := Lib.hid ((Below.refl W.heap.size W).drew.trans (hb1.mono (Nat.le_refl _)))
  clear hb1
  try go_simp
  refine hK.out _ _ ?_ (fun hHeld => ?_)
  · exact FS.out _ HBE.out
  clear hK K
  try simp only [Act.put, List.setIfInBounds_toArray, List.set_cons_zero, List.set_cons_succ]
  refine wpAnyH_take (i := 6) (oi := { dst := some 4, op := .assign (.tmp 10), type := _, pos := _, after := _, guard := none }) (v := .bool r) rfl (by kernel_rfl) (by kernel_rfl) (by kernel_rfl) (fun _ _ _ h => h) (Or.inl ⟨by rfl, fun wh hSw => ?_⟩) hHeld ?_
  · (obtain ⟨s0, s1, s2, s3, s4, s5⟩ := hSw; go_simp)
  try simp only [Act.put, List.setIfInBounds_toArray, List.set_cons_zero, List.set_cons_succ]
  refine wpAnyH_done (by kernel_rfl) ?_ _
  go_wp2_with fail
  go_ret
  exact ⟨rfl, HBE.out⟩
end Go.Proofs.YthfdkenidfnmgaaGreat
namespace Go.Proofs.YthfdkenidfnmgaaGreat
open Go.ChangeShapes Go.WideShapes Go.ChangeAt Go.RowKit Go.Maps Go.Shelf
set_option linter.unusedVariables false
set_option linter.unusedSimpArgs false
set_option maxRecDepth 100000
def vB (M : List (List Int)) (I : List IV) (E : List EV) (C : List CV) : Bool :=
  (List.range 3).all (fun j => rootB I (E.getD j ez).t) && ((List.range 3).all (fun j => alw I (reach M (E.getD j ez).t) (E.getD j ez).r) && ((List.range 12).all (fun f => !isTab (I.getD f iz).k || tgood M I (f : Int) (I.getD f iz).k [[]]) && ((List.range 12).all (fun f => decide ((I.getD f iz).r = ((cntN M I f 12 + cntE E 3 f : Nat) : Int))) && (List.range C.length).all (fun i => cach1 M E (C.getD i c0)))))
theorem rootB_bd {I : List IV} {t : Int} (h : rootB I t = true) : -1 ≤ t ∧ t ≤ 11 := by
  unfold rootB at h
  rw [Bool.or_eq_true, decide_eq_true_eq, Bool.and_eq_true, inR_iff] at h
  omega
theorem any_gen {P : Program} {md : Region.Mode} {ops : Array Oper} {Q : Exit → Act → World → Prop} {S : World → Prop} {n : Nat} {l : Array Bool} {a : Act} {w : World}
    (h : ∀ G : Nat → Array Bool → Act → World → Prop, Hid (∀ n l a w, G n l a w = wpAnyH P md ops Q S n l a w) → G n l a w) : wpAnyH P md ops Q S n l a w := h _ (Lib.hid (fun _ _ _ _ => rfl))
theorem there_setCell {w : World} {b n : Nat} (h : w.there b 0 n) (c o : Nat) (v : Value) : (w.setCell ⟨c, o, none⟩ v).there b 0 n := fun j hj => by
  have h2 := World.there_setCells h c o [v]
  exact h2 j hj
structure VR (B : World) (c : Nat → Int) (C : List CV) (W : World) (L : Option (Nat × Nat)) (U V : Option Nat) (su sv : Bool) : Prop where
  bel : Below B.heap.size B W
  fl : ∀ g cl, L = some (g, cl) → g < W.heap.size ∧ B.heap.size ≤ g ∧ Cs W (.slice (some ⟨g, 0, none⟩) C.length cl) C
  fu : ∀ u, U = some u → u < W.heap.size ∧ B.heap.size ≤ u ∧ W.there u 0 12 ∧ (su = true → W.rangeAt u 0 (uC c))
  fv : ∀ v, V = some v → v < W.heap.size ∧ B.heap.size ≤ v ∧ W.there v 0 1 ∧ (sv = true → ∀ g cl, L = some (g, cl) → W.cell? ⟨v, 0, none⟩ = some (.slice (some ⟨g, 0, none⟩) C.length cl))
  lu : ∀ g cl u, L = some (g, cl) → U = some u → g ≠ u
  lv : ∀ g cl v, L = some (g, cl) → V = some v → g ≠ v
  uv : ∀ u v, U = some u → V = some v → u ≠ v
section
variable {B W W' : World} {c : Nat → Int} {C : List CV} {L : Option (Nat × Nat)} {U V : Option Nat} {su sv : Bool}
theorem VR.start (hb : Below B.heap.size B W) : VR B c C W none none none false false :=
  ⟨hb, fun _ _ e => (by cases e), fun _ e => (by cases e), fun _ e => (by cases e), fun _ _ _ e => (by cases e), fun _ _ _ e => (by cases e), fun _ _ e => (by cases e)⟩
theorem VR.go (h : VR B c C W L U V su sv) (hb : Below W.heap.size W W') : VR B c C W' L U V su sv :=
  have hs := hb.size
  ⟨h.bel.trans (hb.mono h.bel.size), fun g cl e => ⟨by have := (h.fl g cl e).1; omega, (h.fl g cl e).2.1, (h.fl g cl e).2.2.below hb⟩,
   fun u e => ⟨by have := (h.fu u e).1; omega, (h.fu u e).2.1, there_blocks (h.fu u e).2.2.1 (hb.block u (h.fu u e).1), fun s => range_blocks ((h.fu u e).2.2.2 s) (hb.block u (h.fu u e).1)⟩,
   fun v e => ⟨by have := (h.fv v e).1; omega, (h.fv v e).2.1, there_blocks (h.fv v e).2.2.1 (hb.block v (h.fv v e).1), fun s g cl el => (World.cell?_of_block (hb.block v (h.fv v e).1)).trans ((h.fv v e).2.2.2 s g cl el)⟩, h.lu, h.lv, h.uv⟩
theorem VR.putL {g cl : Nat} (h : VR B c C W none U V su false) (ho : OwnC W (.slice (some ⟨g, 0, none⟩) C.length cl) C W') : VR B c C W' (some (g, cl)) U V su false := by
  have k := h.go ho.bel
  have hg := ho.own.lt g rfl
  refine ⟨k.bel, fun g' cl' e => ?_, k.fu, fun v e => ⟨(k.fv v e).1, (k.fv v e).2.1, (k.fv v e).2.2.1, fun s => by cases s⟩, fun g' cl' u e e2 => ?_, fun g' cl' v e e2 => ?_, k.uv⟩
  · injection e with e; injection e with e1 e2; subst e1 e2
    exact ⟨hg.2, Nat.le_trans h.bel.size hg.1, ho.cs⟩
  · injection e with e; injection e with e1 e3; subst e1
    have := (h.fu u e2).1; omega
  · injection e with e; injection e with e1 e3; subst e1
    have := (h.fv v e2).1; omega
set_option maxHeartbeats 800000 in
theorem VR.putU {zu : Array Value} {t : TypeId} (h : VR B c C W L none V false sv) (hz : zu.size = 12) : VR B c C (W.alloc (.cells zu t)) L (some W.heap.size) V false sv := by
  have k := h.go ((Below.refl _ _).alloc (Nat.le_refl W.heap.size) (.cells zu t))
  refine ⟨k.bel, k.fl, fun u e => ?_, k.fv, fun g cl u e e2 => ?_, k.lv, fun u v e e2 => ?_⟩
  · injection e with e; subst e
    exact ⟨by rw [World.size_alloc]; omega, h.bel.size, there_row (heap_alloc_new W _) (Nat.le_of_eq (by rw [hz])), fun s => Bool.noConfusion s⟩
  · injection e2 with e2; have := (h.fl g cl e).1; omega
  · injection e with e; have := (h.fv v e2).1; omega
theorem VR.putV {zv : Array Value} {t : TypeId} (h : VR B c C W L U none su false) (hz : zv.size = 1) : VR B c C (W.alloc (.cells zv t)) L U (some W.heap.size) su false := by
  have k := h.go ((Below.refl _ _).alloc (Nat.le_refl W.heap.size) (.cells zv t))
  refine ⟨k.bel, k.fl, k.fu, fun u e => ?_, k.lu, fun g cl u e e2 => ?_, fun u v e e2 => ?_⟩
  · injection e with e; subst e
    exact ⟨by rw [World.size_alloc]; omega, h.bel.size, there_row (heap_alloc_new W _) (Nat.le_of_eq (by rw [hz])), fun s => Bool.noConfusion s⟩
  · injection e2 with e2; have := (h.fl g cl e).1; omega
  · injection e2 with e2; have := (h.fu u e).1; omega
theorem VR.setU {u : Nat} (h : VR B c C W L (some u) V false sv) : VR B c C (W.setCells u 0 (uC c)) L (some u) V true sv := by
  obtain ⟨h1, h2, h3, _⟩ := h.fu u rfl
  have hl : (uC c).length = 12 := uC_len _
  obtain ⟨UC, hU⟩ : ∃ UC, UC = uC c := ⟨_, rfl⟩
  rw [← hU] at hl ⊢
  have ho : ∀ b, b ≠ u → (W.setCells u 0 UC).heap[b]? = W.heap[b]? := fun b hb => heap_setCells_other W u _ 0 W b hb
  refine ⟨Below.setCells (Below.refl _ _) _ h2 _ _ _ h.bel, fun g cl e => ⟨by rw [size_setCells]; exact (h.fl g cl e).1, (h.fl g cl e).2.1, ?_⟩, fun u' e => ?_, fun v e => ?_, h.lu, h.lv, h.uv⟩
  · obtain ⟨a, cap, e1, k1, k2, k3⟩ := (h.fl g cl e).2.2
    injection e1 with e1 e2 e3
    subst e1 e3
    refine ⟨_, _, rfl, k1, k2, fun i hi => ?_⟩
    obtain ⟨b, o, eb, hf⟩ := k3 i hi
    cases eb
    have hb := ho g (h.lu g cl u e rfl)
    exact ⟨g, 0, rfl, ⟨(World.cell?_of_block hb).trans hf.c0, (World.cell?_of_block hb).trans hf.c1, (World.cell?_of_block hb).trans hf.c2, (World.cell?_of_block hb).trans hf.c3⟩⟩
  · injection e with e; subst e
    exact ⟨by rw [size_setCells]; exact h1, h2, World.there_setCells h3 u 0 _, fun _ => by rw [← hU]; exact World.rangeAt_setCells_same _ _ _ _ (by rw [hl]; exact h3)⟩
  · have hb := ho v (fun q => h.uv u v rfl e q.symm)
    exact ⟨by rw [size_setCells]; exact (h.fv v e).1, (h.fv v e).2.1, there_blocks (h.fv v e).2.2.1 hb, fun s g cl el => (World.cell?_of_block hb).trans ((h.fv v e).2.2.2 s g cl el)⟩
theorem VR.setV {v g cl : Nat} (h : VR B c C W (some (g, cl)) U (some v) su false) : VR B c C (W.setCell ⟨v, 0, none⟩ (.slice (some ⟨g, 0, none⟩) C.length cl)) (some (g, cl)) U (some v) su true := by
  obtain ⟨h1, h2, h3, _⟩ := h.fv v rfl
  obtain ⟨x, hx⟩ := Option.isSome_iff_exists.1 (h3 0 (by omega)).1
  rw [Nat.zero_add] at hx
  have ho : ∀ b, b ≠ v → (W.setCell ⟨v, 0, none⟩ (.slice (some ⟨g, 0, none⟩) C.length cl)).heap[b]? = W.heap[b]? := fun b hb => Below.heap_setCell _ _ _ b (by show b ≠ v; exact hb)
  have hsz : (W.setCell ⟨v, 0, none⟩ (.slice (some ⟨g, 0, none⟩) C.length cl)).heap.size = W.heap.size := by simp [World.setCell]
  refine ⟨h.bel.setCell (p := ⟨v, 0, none⟩) h2 _, fun g' cl' e => ⟨by rw [hsz]; exact (h.fl g' cl' e).1, (h.fl g' cl' e).2.1, ?_⟩, fun u e => ?_, fun v' e => ?_, h.lu, h.lv, h.uv⟩
  · injection e with e; injection e with e1 e2; subst e1 e2
    obtain ⟨a, cap, e1, k1, k2, k3⟩ := (h.fl g cl rfl).2.2
    injection e1 with e1 e2 e3
    subst e1 e3
    refine ⟨_, _, rfl, k1, k2, fun i hi => ?_⟩
    obtain ⟨b, o, eb, hf⟩ := k3 i hi
    cases eb
    have hb := ho g (h.lv g _ v rfl rfl)
    exact ⟨g, 0, rfl, ⟨(World.cell?_of_block hb).trans hf.c0, (World.cell?_of_block hb).trans hf.c1, (World.cell?_of_block hb).trans hf.c2, (World.cell?_of_block hb).trans hf.c3⟩⟩
  · have hb := ho u (h.uv u v e rfl)
    exact ⟨by rw [hsz]; exact (h.fu u e).1, (h.fu u e).2.1, there_blocks (h.fu u e).2.2.1 hb, fun s => range_blocks ((h.fu u e).2.2.2 s) hb⟩
  · injection e with e; subst e
    exact ⟨by rw [hsz]; exact h1, h2, there_setCell h3 _ _ _, fun _ g' cl' el => by injection el with el; injection el with e1 e2; subst e1 e2; exact cell_set_same hx⟩
end
end Go.Proofs.YthfdkenidfnmgaaGreat
namespace Go.Proofs.YthfdkenidfnmgaaGreat
open Go.ChangeShapes Go.WideShapes Go.ChangeAt Go.RowKit Go.Maps Go.Shelf
set_option linter.unusedVariables false
set_option linter.unusedSimpArgs false
set_option maxRecDepth 100000
set_option maxHeartbeats 8000000 in
theorem kvalid_any (w : World) (M : List (List Int)) (I : List IV) (E : List EV) (bs : Nat → Nat) (A : Nat → CV) (fi c : Nat) (L : List Value) (h : KL w M I E bs (ringC A fi c) L) (hfi : fi < 4) (hc4 : c ≤ 4) (C : List CV) (hC : rlist A fi c = C) (hok : cOk C = true) :
    Calls Tryz.prog 37 #[.agg L.toArray] w (BRes (vB M I E C) w) := by
  obtain ⟨W0, hW0⟩ : ∃ W0, W0 = w.alloc (.cells L.toArray 67) := ⟨_, rfl⟩
  obtain ⟨X, hX⟩ : ∃ X, X = w.heap.size := ⟨_, rfl⟩
  have HKC : Hid (KC W0 X M I E bs (ringC A fi c) L) := Lib.hid (by rw [hW0, hX]; exact h.box _)
  have HB0 : Hid (Below w.heap.size w W0) := Lib.hid (by rw [hW0]; exact (Below.refl _ _).alloc (Nat.le_refl _) _)
  have HLL := Lib.hid h.len
  have HAT := Lib.hid HKC.out.at0
  have HTA : Hid (∀ Q, Below W0.heap.size W0 Q → Calls Tryz.prog 49 #[.agg L.toArray] Q fun e w' => e = .returned (.agg (tC M I).toArray) ∧ Below Q.heap.size Q w') := Lib.hid (fun Q hQ => ktables_any Q M I E bs (ringC A fi c) L (HKC.out.below hQ).l)
  have HCN := Lib.hid (fun Q => count_any Q M I h.m h.i)
  have HRL := Lib.hid (fun Q => ringList_any Q A fi c hfi hc4)
  unfold ringV at HRL
  rw [hC] at HRL
  unfold ArrU at HCN
  have HUL : Hid ((uC (cu M I 12)).length = 12) := Lib.hid (uC_len _)
  have HUO : Hid ((uC (cu M I 12)).toArray.all (·.oneCell') = true) := Lib.hid (uC_one _)
  have ZU := Lib.hid zero_uses
  have HZU : Hid ((uC (fun _ => 0)).length = 12) := Lib.hid (uC_len _)
  obtain ⟨zu, hzu⟩ : ∃ z, z = uC (fun _ => 0) := ⟨_, rfl⟩
  rw [← hzu] at ZU HZU
  obtain ⟨T, hT⟩ : ∃ T, T = tC M I := ⟨_, rfl⟩
  rw [← hT] at HTA HCN
  obtain ⟨UC, hUC⟩ : ∃ UC, UC = uC (cu M I 12) := ⟨_, rfl⟩
  have HUE := Lib.hid hUC
  rw [← hUC] at HCN HUL HUO
  obtain ⟨RC, hRC⟩ : ∃ RC, RC = ringC A fi c := ⟨_, rfl⟩
  have HRLN : Hid (RC.length = 18) := Lib.hid (by rw [hRC]; rfl)
  have HRE := Lib.hid hRC
  rw [← hRC] at HKC HRL
  have HW0 := Lib.hid hW0
  have HXE := Lib.hid hX
  have HOK := Lib.hid hok
  have HUS : Hid (UC.toArray.size = 12) := Lib.hid (by rw [List.size_toArray, HUL.out])
  clear hW0 hT hUC hRC hzu h hC hX hok
  obtain ⟨r1, hr1⟩ : ∃ r, r = (List.range 3).all (fun j => rootB I (E.getD j ez).t) := ⟨_, rfl⟩
  obtain ⟨r2, hr2⟩ : ∃ r, r = (List.range 3).all (fun j => alw I (reach M (E.getD j ez).t) (E.getD j ez).r) := ⟨_, rfl⟩
  obtain ⟨r3, hr3⟩ : ∃ r, r = (List.range 12).all (fun f => !isTab (I.getD f iz).k || tgood M I (f : Int) (I.getD f iz).k [[]]) := ⟨_, rfl⟩
  obtain ⟨r4, hr4⟩ : ∃ r, r = (List.range 12).all (fun f => decide ((I.getD f iz).r = ((cntN M I f 12 + cntE E 3 f : Nat) : Int))) := ⟨_, rfl⟩
  obtain ⟨r5, hr5⟩ : ∃ r, r = (List.range C.length).all (fun i => cach1 M E (C.getD i c0)) := ⟨_, rfl⟩
  rw [show vB M I E C = (r1 && (r2 && (r3 && (r4 && r5)))) from by unfold vB; rw [hr1, hr2, hr3, hr4, hr5]]
  have HRr1 := Lib.hid hr1
  have HRr2 := Lib.hid hr2
  have HRr3 := Lib.hid hr3
  have HRr4 := Lib.hid hr4
  have HRr5 := Lib.hid hr5
  clear hr1 hr2 hr3 hr4 hr5
  have FS : Hid (∀ Q, Below W0.heap.size W0 Q → Q.rangeAt X 0 L ∧ Q.rangeAt X 90 RC) := Lib.hid (fun Q hQ => ⟨(HKC.out.below hQ).at0, (HKC.out.below hQ).ring⟩)
  have HLK : Hid (∀ Q : World, Q.rangeAt X 0 L → (do let l ← Instr.loadAt 67 (.pointer (some ⟨X, 0, none⟩)); pure (Next.value l) : Sem Next).run Tryz.prog Q = .ok (.value (.agg L.toArray)) Q) := Lib.hid (fun Q hh => load_run 67 X 0 L _ hh Tryz.underlying67 rfl (info_kernel HLL.out))
  have HLR : Hid (∀ Q : World, Q.rangeAt X 90 RC → (do let l ← Instr.loadAt 65 (.pointer (some ⟨X, 90, none⟩)); pure (Next.value l) : Sem Next).run Tryz.prog Q = .ok (.value (.agg RC.toArray)) Q) := Lib.hid (fun Q hh => load_run 65 X 90 RC _ hh Tryz.underlying65 rfl (info_ring HRLN.out))
  obtain ⟨cc, hcc⟩ : ∃ cc, cc = cu M I 12 := ⟨_, rfl⟩
  have HCC := Lib.hid hcc
  rw [← hcc] at HUE
  clear hcc
  go_enter Tryz.func37, Tryz.ntmps37
  go_wp2_with (first | ((with_reducible refine box_is 67 (.tmp 0) ?_); refine box_arr 67 (.tmp 0) L.toArray rfl ?_; rw [← HW0.out, ← HXE.out]) | fail)
  try simp only [Act.put, List.setIfInBounds_toArray, List.set_cons_zero, List.set_cons_succ]
  have HRB : Hid (r1 = true → ∀ j, j < 3 → -1 ≤ (E.getD j ez).t ∧ (E.getD j ez).t ≤ 11) := Lib.hid (fun hr j hj => by
    rw [HRr1.out] at hr
    exact rootB_bd (List.all_eq_true.1 hr j (List.mem_range.2 hj)))
  rename_i K0 hK0
  have HREST : Hid (∀ (Q : World) (U V : Nat) (a : Option Addr) (cc2 : Nat), Below W0.heap.size W0 Q → Us Q U (cu M I 12) → Q.cell? ⟨V, 0, none⟩ = some (.slice a C.length cc2) → Cs Q (.slice a C.length cc2) C → K0 { tmps := #[.agg L.toArray, .pointer (some ⟨X, 0, none⟩), .bool false, .pointer (some ⟨U, 0, none⟩), .pointer (some ⟨V, 0, none⟩), undef, undef, undef, undef, undef, .agg L.toArray, .agg T.toArray, .agg UC.toArray, .pointer (some ⟨X, 90, none⟩), .agg RC.toArray, .slice a C.length cc2, undef, undef, undef, undef, undef, undef, undef, undef, undef, undef, undef, undef, undef, undef, undef, undef, undef, undef, undef, undef, undef, undef, undef, undef, undef], defers := [] } Q) := Lib.hid (by
    intro Q U V a cc2 hbq hus hcv hcs
    refine hK0 _ _ ?_
    have HKQ := Lib.hid (HKC.out.below hbq)
    have HBQ := Lib.hid (HB0.out.trans (hbq.mono HB0.out.size))
    have HUQ := Lib.hid hus
    have HCQ := Lib.hid hcs
    have HVQ := Lib.hid hcv
    clear hbq hus hcs hK0
    have HA1 : Hid (∀ Q', Below Q.heap.size Q Q' → Calls Tryz.prog 64 #[.int .i64 3, .func (.func 51) #[] #[.pointer (some ⟨X, 0, none⟩)]] Q' (BRes r1 Q')) := Lib.hid (fun Q' hQ' => by
      rw [HRr1.out]
      exact all_any 51 #[.pointer (some ⟨X, 0, none⟩)] (fun j => rootB I (E.getD j ez).t) 3 (by omega) Q' (enters_of Tryz.func51 (by kernel_rfl) rfl) (fun Q2 hQ2 k hk => (rooted_any Q2 X M I E bs RC L (HKQ.out.below (hQ'.trans (hQ2.mono hQ'.size))) k hk).mono (fun e w hh => ⟨hh.1, by rw [← hh.2]; exact Below.refl _ _⟩)))
    have HA2 : Hid (r1 = true → ∀ Q', Below Q.heap.size Q Q' → Calls Tryz.prog 64 #[.int .i64 3, .func (.func 53) #[] #[.pointer (some ⟨X, 0, none⟩)]] Q' (BRes r2 Q')) := Lib.hid (fun hr Q' hQ' => by
      rw [HRr2.out]
      exact all_any 53 #[.pointer (some ⟨X, 0, none⟩)] (fun j => alw I (reach M (E.getD j ez).t) (E.getD j ez).r) 3 (by omega) Q' (enters_of Tryz.func53 (by kernel_rfl) rfl) (fun Q2 hQ2 k hk => allowed_any Q2 X M I E bs RC L (HKQ.out.below (hQ'.trans (hQ2.mono hQ'.size))) k hk (HRB.out hr k hk)))
    have HA3 : Hid (∀ Q', Below Q.heap.size Q Q' → Calls Tryz.prog 64 #[.int .i64 12, .func (.func 56) #[] #[.pointer (some ⟨X, 0, none⟩)]] Q' (BRes r3 Q')) := Lib.hid (fun Q' hQ' => by
      rw [HRr3.out]
      exact all_any 56 #[.pointer (some ⟨X, 0, none⟩)] (fun f => !isTab (I.getD f iz).k || tgood M I (f : Int) (I.getD f iz).k [[]]) 12 (by omega) Q' (enters_of Tryz.func56 (by kernel_rfl) rfl) (fun Q2 hQ2 k hk => good_any Q2 X M I E bs RC L (HKQ.out.below (hQ'.trans (hQ2.mono hQ'.size))) k hk))
    have HA4 : Hid (∀ Q', Below Q.heap.size Q Q' → Calls Tryz.prog 64 #[.int .i64 12, .func (.func 60) #[] #[.pointer (some ⟨X, 0, none⟩), .pointer (some ⟨U, 0, none⟩)]] Q' (BRes r4 Q')) := Lib.hid (fun Q' hQ' => by
      rw [HRr4.out]
      exact all_any 60 #[.pointer (some ⟨X, 0, none⟩), .pointer (some ⟨U, 0, none⟩)] (fun f => decide ((I.getD f iz).r = ((cntN M I f 12 + cntE E 3 f : Nat) : Int))) 12 (by omega) Q' (enters_of Tryz.func60 (by kernel_rfl) rfl) (fun Q2 hQ2 k hk => counted_any Q2 X U M I E bs RC L (HKQ.out.below (hQ'.trans (hQ2.mono hQ'.size))) (HUQ.out.block ((hQ'.trans (hQ2.mono hQ'.size)).block _ HUQ.out.lt)) k hk))
    have HA5 : Hid (r1 = true → ∀ Q', Below Q.heap.size Q Q' → Calls Tryz.prog 64 #[.int .i64 (C.length : Int), .func (.func 62) #[] #[.pointer (some ⟨X, 0, none⟩), .pointer (some ⟨V, 0, none⟩)]] Q' (BRes r5 Q')) := Lib.hid (fun hr Q' hQ' => by
      rw [HRr5.out]
      exact all_any 62 #[.pointer (some ⟨X, 0, none⟩), .pointer (some ⟨V, 0, none⟩)] (fun i => cach1 M E (C.getD i c0)) C.length (by have := ((cOk_iff C).1 HOK.out).2.2; omega) Q' (enters_of Tryz.func62 (by kernel_rfl) rfl) (fun Q2 hQ2 k hk => current_any Q2 X V M I E bs RC L (HKQ.out.below (hQ'.trans (hQ2.mono hQ'.size))) _ C (((hQ'.trans (hQ2.mono hQ'.size)).cell (p := ⟨V, 0, none⟩) (cell_lt HVQ.out)).trans HVQ.out) (HCQ.out.below (hQ'.trans (hQ2.mono hQ'.size))) HOK.out (HRB.out hr) k hk))
    clear HKQ HUQ HCQ
    go_wp2_with fail
    refine (HA1.out Q (Below.refl _ _)).mono ?_
    rintro _ Q1 ⟨rfl, hq⟩
    have HQ1 : Hid (Below Q.heap.size Q Q1) := Lib.hid (hq)
    have HBF1 := Lib.hid (HBQ.out.trans (HQ1.out.mono HBQ.out.size))
    clear hq
    cases r1 with
    | false =>
      go_wp2_with fail
      go_ret
      exact ⟨by simp, HBF1.out⟩
    | true =>
      go_wp2_with fail
      refine (HA2.out (by trivial) Q1 HQ1.out).mono ?_
      rintro _ Q2 ⟨rfl, hq⟩
      have HQ2 : Hid (Below Q.heap.size Q Q2) := Lib.hid (HQ1.out.trans (hq.mono HQ1.out.size))
      have HBF2 := Lib.hid (HBQ.out.trans (HQ2.out.mono HBQ.out.size))
      clear hq
      cases r2 with
      | false =>
        go_wp2_with fail
        go_ret
        exact ⟨by simp, HBF2.out⟩
      | true =>
        go_wp2_with fail
        refine (HA3.out Q2 HQ2.out).mono ?_
        rintro _ Q3 ⟨rfl, hq⟩
        have HQ3 : Hid (Below Q.heap.size Q Q3) := Lib.hid (HQ2.out.trans (hq.mono HQ2.out.size))
        have HBF3 := Lib.hid (HBQ.out.trans (HQ3.out.mono HBQ.out.size))
        clear hq
        cases r3 with
        | false =>
          go_wp2_with fail
          go_ret
          exact ⟨by simp, HBF3.out⟩
        | true =>
          go_wp2_with fail
          refine (HA4.out Q3 HQ3.out).mono ?_
          rintro _ Q4 ⟨rfl, hq⟩
          have HQ4 : Hid (Below Q.heap.size Q Q4) := Lib.hid (HQ3.out.trans (hq.mono HQ3.out.size))
          have HBF4 := Lib.hid (HBQ.out.trans (HQ4.out.mono HBQ.out.size))
          clear hq
          cases r4 with
          | false =>
            go_wp2_with fail
            go_ret
            exact ⟨by simp, HBF4.out⟩
          | true =>
            clear hcv
            have hcv := (HQ4.out.cell (p := ⟨V, 0, none⟩) (cell_lt HVQ.out)).trans HVQ.out
            go_wp2_with fail
            refine (HA5.out (by trivial) Q4 HQ4.out).mono ?_
            rintro _ Q5 ⟨rfl, hq⟩
            have HQ5 : Hid (Below Q.heap.size Q Q5) := Lib.hid (HQ4.out.trans (hq.mono HQ4.out.size))
            have HBF5 := Lib.hid (HBQ.out.trans (HQ5.out.mono HBQ.out.size))
            clear hq
            go_wp2_with fail
            go_ret
            exact ⟨by simp, HBF5.out⟩)
  refine wp_region_held_drew (S := fun w' => w'.rangeAt X 0 L ∧ w'.rangeAt X 90 RC) (by kernel_rfl) (FS.out _ (Below.refl _ _).drew) (fun hHeld => ?_)
  refine any_gen (fun G HG => ?_)
  have s_1_2_5_6_7_8_9 : Hid (∀ (l : Array Bool) (W : World) (gl cl : Nat) (u : Nat) (v : Nat), l = #[true, true, true, true, true, true, true, true, true, true] → Hid (VR W0 cc C (W) (some (gl, cl)) (some u) (some v) true true) → G 0 l { tmps := #[.agg L.toArray, .pointer (some ⟨X, 0, none⟩), .bool false, .pointer (some ⟨u, 0, none⟩), .pointer (some ⟨v, 0, none⟩), undef, undef, undef, undef, undef, .agg L.toArray, .agg T.toArray, .agg UC.toArray, .pointer (some ⟨X, 90, none⟩), .agg RC.toArray, .slice (some ⟨gl, 0, none⟩) C.length cl, undef, undef, undef, undef, undef, undef, undef, undef, undef, undef, undef, undef, undef, undef, undef, undef, undef, undef, undef, undef, undef, undef, undef, undef, undef], defers := [] } W) := Lib.hid (by
    intro l W gl cl u v hl HN
    subst hl
    rw [HG.out]
    have hHeld := FS.out W HN.out.bel
    refine wpAnyH_done (by kernel_rfl) ?_ _
    have h1 := HN.out.fu u rfl
    have h2 := HN.out.fv v rfl
    have h3 := HN.out.fl gl cl rfl
    have HUX : Hid (Us W u (cu M I 12)) := Lib.hid (by rw [← HCC.out]; exact Us.of_range (h1.2.2.2 rfl) h1.2.2.1)
    exact HREST.out W u v (some ⟨gl, 0, none⟩) cl HN.out.bel HUX.out (h2.2.2.2 rfl gl cl rfl) h3.2.2)
  have s_1_2_5_6_7_8 : Hid (∀ (l : Array Bool) (W : World) (gl cl : Nat) (u : Nat) (v : Nat), l = #[true, true, true, true, true, true, true, true, true, false] → Hid (VR W0 cc C (W) (some (gl, cl)) (some u) (some v) true false) → G 1 l { tmps := #[.agg L.toArray, .pointer (some ⟨X, 0, none⟩), .bool false, .pointer (some ⟨u, 0, none⟩), .pointer (some ⟨v, 0, none⟩), undef, undef, undef, undef, undef, .agg L.toArray, .agg T.toArray, .agg UC.toArray, .pointer (some ⟨X, 90, none⟩), .agg RC.toArray, .slice (some ⟨gl, 0, none⟩) C.length cl, undef, undef, undef, undef, undef, undef, undef, undef, undef, undef, undef, undef, undef, undef, undef, undef, undef, undef, undef, undef, undef, undef, undef, undef, undef], defers := [] } W) := Lib.hid (by
    intro l W gl cl u v hl HN
    subst hl
    rw [HG.out]
    have hHeld := FS.out W HN.out.bel
    refine wpAnyH_ready (rs := [9]) (by kernel_rfl) (by simp) ?_
    refine AllReadyH.cons (o := { dst := none, op := .store 28 (.tmp 4) (.tmp 15), type := _, pos := _, after := _, guard := none }) rfl (fun K hK => ?_) AllReadyH.nil
    have HN2 := Lib.hid HN.out.setV
    have hcv := (HN.out.fv v rfl).2.2.1
    obtain ⟨xv, hxv⟩ := Option.isSome_iff_exists.1 (hcv 0 (by omega)).1
    have hfv := (hcv 0 (by omega)).2
    simp only [Nat.zero_add] at hxv hfv
    clear hcv
    go_simp
    refine hK.out _ _ ?_ (fun hHeld => ?_)
    · exact FS.out _ HN2.out.bel
    clear hK K
    try simp only [Act.put, List.setIfInBounds_toArray, List.set_cons_zero, List.set_cons_succ]
    clear hxv hfv
    refine (HG.out _ _ _ _).mp ?_
    exact s_1_2_5_6_7_8_9.out _ _ gl cl u v (by kernel_rfl) HN2)
  have s_1_2_5_6_7 : Hid (∀ (l : Array Bool) (W : World) (gl cl : Nat) (u : Nat) (v : Nat), l = #[true, true, true, true, true, true, true, true, false, false] → Hid (VR W0 cc C (W) (some (gl, cl)) (some u) (some v) false false) → G 2 l { tmps := #[.agg L.toArray, .pointer (some ⟨X, 0, none⟩), .bool false, .pointer (some ⟨u, 0, none⟩), .pointer (some ⟨v, 0, none⟩), undef, undef, undef, undef, undef, .agg L.toArray, .agg T.toArray, .agg UC.toArray, .pointer (some ⟨X, 90, none⟩), .agg RC.toArray, .slice (some ⟨gl, 0, none⟩) C.length cl, undef, undef, undef, undef, undef, undef, undef, undef, undef, undef, undef, undef, undef, undef, undef, undef, undef, undef, undef, undef, undef, undef, undef, undef, undef], defers := [] } W) := Lib.hid (by
    intro l W gl cl u v hl HN
    subst hl
    rw [HG.out]
    have hHeld := FS.out W HN.out.bel
    refine wpAnyH_ready (rs := [8]) (by kernel_rfl) (by simp) ?_
    refine AllReadyH.cons (o := { dst := none, op := .store 114 (.tmp 3) (.tmp 12), type := _, pos := _, after := _, guard := none }) rfl (fun K hK => ?_) AllReadyH.nil
    have HN2 := Lib.hid HN.out.setU
    rw [← HUE.out] at HN2
    rw [if_pos (by rfl)]
    refine wp_store_mid 114 (.tmp 3) (.tmp 12) rfl u 0 UC.toArray rfl rfl (by rw [HUS.out]; exact (HN.out.fu u rfl).2.2.1) (info_uses HUS.out) HUO.out ?_
    rw [show UC.toArray.toList = UC from rfl]
    refine hK.out _ _ ?_ (fun hHeld => ?_)
    · exact FS.out _ HN2.out.bel
    clear hK K
    try simp only [Act.put, List.setIfInBounds_toArray, List.set_cons_zero, List.set_cons_succ]
    refine (HG.out _ _ _ _).mp ?_
    exact s_1_2_5_6_7_8.out _ _ gl cl u v (by kernel_rfl) HN2)
  have s_1_2_5_6 : Hid (∀ (l : Array Bool) (W : World) (gl cl : Nat) (u : Nat), l = #[true, true, true, true, true, true, true, false, false, false] → Hid (VR W0 cc C (W) (some (gl, cl)) (some u) (none) false false) → G 3 l { tmps := #[.agg L.toArray, .pointer (some ⟨X, 0, none⟩), .bool false, .pointer (some ⟨u, 0, none⟩), undef, undef, undef, undef, undef, undef, .agg L.toArray, .agg T.toArray, .agg UC.toArray, .pointer (some ⟨X, 90, none⟩), .agg RC.toArray, .slice (some ⟨gl, 0, none⟩) C.length cl, undef, undef, undef, undef, undef, undef, undef, undef, undef, undef, undef, undef, undef, undef, undef, undef, undef, undef, undef, undef, undef, undef, undef, undef, undef], defers := [] } W) := Lib.hid (by
    intro l W gl cl u hl HN
    subst hl
    rw [HG.out]
    have hHeld := FS.out W HN.out.bel
    refine wpAnyH_ready (rs := [7]) (by kernel_rfl) (by simp) ?_
    refine AllReadyH.cons (o := { dst := some 4, op := .alloc 28, type := _, pos := _, after := _, guard := none }) rfl (fun K hK => ?_) AllReadyH.nil
    have HN2 := Lib.hid (HN.out.putV (zv := #[.slice none 0 0]) (t := 28) rfl)
    go_simp
    refine hK.out _ _ ?_ (fun hHeld => ?_)
    · exact FS.out _ HN2.out.bel
    clear hK K
    try simp only [Act.put, List.setIfInBounds_toArray, List.set_cons_zero, List.set_cons_succ]
    refine (HG.out _ _ _ _).mp ?_
    exact s_1_2_5_6_7.out _ _ gl cl u W.heap.size (by kernel_rfl) HN2)
  have s_1_2_5_7 : Hid (∀ (l : Array Bool) (W : World) (gl cl : Nat) (v : Nat), l = #[true, true, true, true, true, true, false, true, false, false] → Hid (VR W0 cc C (W) (some (gl, cl)) (none) (some v) false false) → G 3 l { tmps := #[.agg L.toArray, .pointer (some ⟨X, 0, none⟩), .bool false, undef, .pointer (some ⟨v, 0, none⟩), undef, undef, undef, undef, undef, .agg L.toArray, .agg T.toArray, .agg UC.toArray, .pointer (some ⟨X, 90, none⟩), .agg RC.toArray, .slice (some ⟨gl, 0, none⟩) C.length cl, undef, undef, undef, undef, undef, undef, undef, undef, undef, undef, undef, undef, undef, undef, undef, undef, undef, undef, undef, undef, undef, undef, undef, undef, undef], defers := [] } W) := Lib.hid (by
    intro l W gl cl v hl HN
    subst hl
    rw [HG.out]
    have hHeld := FS.out W HN.out.bel
    refine wpAnyH_ready (rs := [6]) (by kernel_rfl) (by simp) ?_
    refine AllReadyH.cons (o := { dst := some 3, op := .alloc 114, type := _, pos := _, after := _, guard := none }) rfl (fun K hK => ?_) AllReadyH.nil
    have HN2 := Lib.hid (HN.out.putU (zu := zu.toArray) (t := 114) (by rw [List.size_toArray, HZU.out]))
    rw [if_pos (by rfl)]
    refine wp_alloc_mid 114 rfl zu.toArray ZU.out ?_
    refine hK.out _ _ ?_ (fun hHeld => ?_)
    · exact FS.out _ HN2.out.bel
    clear hK K
    try simp only [Act.put, List.setIfInBounds_toArray, List.set_cons_zero, List.set_cons_succ]
    refine (HG.out _ _ _ _).mp ?_
    exact s_1_2_5_6_7.out _ _ gl cl W.heap.size v (by kernel_rfl) HN2)
  have s_1_2_6_7 : Hid (∀ (l : Array Bool) (W : World) (u : Nat) (v : Nat), l = #[true, true, true, true, true, false, true, true, false, false] → Hid (VR W0 cc C (W) (none) (some u) (some v) false false) → G 3 l { tmps := #[.agg L.toArray, .pointer (some ⟨X, 0, none⟩), .bool false, .pointer (some ⟨u, 0, none⟩), .pointer (some ⟨v, 0, none⟩), undef, undef, undef, undef, undef, .agg L.toArray, .agg T.toArray, .agg UC.toArray, .pointer (some ⟨X, 90, none⟩), .agg RC.toArray, undef, undef, undef, undef, undef, undef, undef, undef, undef, undef, undef, undef, undef, undef, undef, undef, undef, undef, undef, undef, undef, undef, undef, undef, undef, undef], defers := [] } W) := Lib.hid (by
    intro l W u v hl HN
    subst hl
    rw [HG.out]
    have hHeld := FS.out W HN.out.bel
    refine wpAnyH_ready (rs := [5]) (by kernel_rfl) (by simp) ?_
    refine AllReadyH.cons (o := { dst := some 15, op := .call { callee := .value (.func 32), args := #[.tmp 14], argTypes := #[65] }, type := _, pos := _, after := _, guard := none }) rfl (fun K hK => ?_) AllReadyH.nil
    go_simp
    refine (HRL.out W).mono ?_
    rintro _ w2 ⟨vl, rfl, hol⟩
    obtain ⟨gl, cl, rfl, -, -, -⟩ := hol.form
    have HN2 := Lib.hid (HN.out.putL hol)
    clear hol
    try go_simp
    refine hK.out _ _ ?_ (fun hHeld => ?_)
    · exact FS.out _ HN2.out.bel
    clear hK K
    try simp only [Act.put, List.setIfInBounds_toArray, List.set_cons_zero, List.set_cons_succ]
    refine (HG.out _ _ _ _).mp ?_
    exact s_1_2_5_6_7.out _ _ gl cl u v (by kernel_rfl) HN2)
  have s_1_2_5 : Hid (∀ (l : Array Bool) (W : World) (gl cl : Nat), l = #[true, true, true, true, true, true, false, false, false, false] → Hid (VR W0 cc C (W) (some (gl, cl)) (none) (none) false false) → G 4 l { tmps := #[.agg L.toArray, .pointer (some ⟨X, 0, none⟩), .bool false, undef, undef, undef, undef, undef, undef, undef, .agg L.toArray, .agg T.toArray, .agg UC.toArray, .pointer (some ⟨X, 90, none⟩), .agg RC.toArray, .slice (some ⟨gl, 0, none⟩) C.length cl, undef, undef, undef, undef, undef, undef, undef, undef, undef, undef, undef, undef, undef, undef, undef, undef, undef, undef, undef, undef, undef, undef, undef, undef, undef], defers := [] } W) := Lib.hid (by
    intro l W gl cl hl HN
    subst hl
    rw [HG.out]
    have hHeld := FS.out W HN.out.bel
    refine wpAnyH_ready (rs := [6, 7]) (by kernel_rfl) (by simp) ?_
    refine AllReadyH.cons (o := { dst := some 3, op := .alloc 114, type := _, pos := _, after := _, guard := none }) rfl (fun K hK => ?_) (AllReadyH.cons (o := { dst := some 4, op := .alloc 28, type := _, pos := _, after := _, guard := none }) rfl (fun K hK => ?_) AllReadyH.nil)
    · have HN2 := Lib.hid (HN.out.putU (zu := zu.toArray) (t := 114) (by rw [List.size_toArray, HZU.out]))
      rw [if_pos (by rfl)]
      refine wp_alloc_mid 114 rfl zu.toArray ZU.out ?_
      refine hK.out _ _ ?_ (fun hHeld => ?_)
      · exact FS.out _ HN2.out.bel
      clear hK K
      try simp only [Act.put, List.setIfInBounds_toArray, List.set_cons_zero, List.set_cons_succ]
      refine (HG.out _ _ _ _).mp ?_
      exact s_1_2_5_6.out _ _ gl cl W.heap.size (by kernel_rfl) HN2
    · have HN2 := Lib.hid (HN.out.putV (zv := #[.slice none 0 0]) (t := 28) rfl)
      go_simp
      refine hK.out _ _ ?_ (fun hHeld => ?_)
      · exact FS.out _ HN2.out.bel
      clear hK K
      try simp only [Act.put, List.setIfInBounds_toArray, List.set_cons_zero, List.set_cons_succ]
      refine (HG.out _ _ _ _).mp ?_
      exact s_1_2_5_7.out _ _ gl cl W.heap.size (by kernel_rfl) HN2)
  have s_1_2_6 : Hid (∀ (l : Array Bool) (W : World) (u : Nat), l = #[true, true, true, true, true, false, true, false, false, false] → Hid (VR W0 cc C (W) (none) (some u) (none) false false) → G 4 l { tmps := #[.agg L.toArray, .pointer (some ⟨X, 0, none⟩), .bool false, .pointer (some ⟨u, 0, none⟩), undef, undef, undef, undef, undef, undef, .agg L.toArray, .agg T.toArray, .agg UC.toArray, .pointer (some ⟨X, 90, none⟩), .agg RC.toArray, undef, undef, undef, undef, undef, undef, undef, undef, undef, undef, undef, undef, undef, undef, undef, undef, undef, undef, undef, undef, undef, undef, undef, undef, undef, undef], defers := [] } W) := Lib.hid (by
    intro l W u hl HN
    subst hl
    rw [HG.out]
    have hHeld := FS.out W HN.out.bel
    refine wpAnyH_ready (rs := [5, 7]) (by kernel_rfl) (by simp) ?_
    refine AllReadyH.cons (o := { dst := some 15, op := .call { callee := .value (.func 32), args := #[.tmp 14], argTypes := #[65] }, type := _, pos := _, after := _, guard := none }) rfl (fun K hK => ?_) (AllReadyH.cons (o := { dst := some 4, op := .alloc 28, type := _, pos := _, after := _, guard := none }) rfl (fun K hK => ?_) AllReadyH.nil)
    · go_simp
      refine (HRL.out W).mono ?_
      rintro _ w2 ⟨vl, rfl, hol⟩
      obtain ⟨gl, cl, rfl, -, -, -⟩ := hol.form
      have HN2 := Lib.hid (HN.out.putL hol)
      clear hol
      try go_simp
      refine hK.out _ _ ?_ (fun hHeld => ?_)
      · exact FS.out _ HN2.out.bel
      clear hK K
      try simp only [Act.put, List.setIfInBounds_toArray, List.set_cons_zero, List.set_cons_succ]
      refine (HG.out _ _ _ _).mp ?_
      exact s_1_2_5_6.out _ _ gl cl u (by kernel_rfl) HN2
    · have HN2 := Lib.hid (HN.out.putV (zv := #[.slice none 0 0]) (t := 28) rfl)
      go_simp
      refine hK.out _ _ ?_ (fun hHeld => ?_)
      · exact FS.out _ HN2.out.bel
      clear hK K
      try simp only [Act.put, List.setIfInBounds_toArray, List.set_cons_zero, List.set_cons_succ]
      refine (HG.out _ _ _ _).mp ?_
      exact s_1_2_6_7.out _ _ u W.heap.size (by kernel_rfl) HN2)
  have s_1_2_7 : Hid (∀ (l : Array Bool) (W : World) (v : Nat), l = #[true, true, true, true, true, false, false, true, false, false] → Hid (VR W0 cc C (W) (none) (none) (some v) false false) → G 4 l { tmps := #[.agg L.toArray, .pointer (some ⟨X, 0, none⟩), .bool false, undef, .pointer (some ⟨v, 0, none⟩), undef, undef, undef, undef, undef, .agg L.toArray, .agg T.toArray, .agg UC.toArray, .pointer (some ⟨X, 90, none⟩), .agg RC.toArray, undef, undef, undef, undef, undef, undef, undef, undef, undef, undef, undef, undef, undef, undef, undef, undef, undef, undef, undef, undef, undef, undef, undef, undef, undef, undef], defers := [] } W) := Lib.hid (by
    intro l W v hl HN
    subst hl
    rw [HG.out]
    have hHeld := FS.out W HN.out.bel
    refine wpAnyH_ready (rs := [5, 6]) (by kernel_rfl) (by simp) ?_
    refine AllReadyH.cons (o := { dst := some 15, op := .call { callee := .value (.func 32), args := #[.tmp 14], argTypes := #[65] }, type := _, pos := _, after := _, guard := none }) rfl (fun K hK => ?_) (AllReadyH.cons (o := { dst := some 3, op := .alloc 114, type := _, pos := _, after := _, guard := none }) rfl (fun K hK => ?_) AllReadyH.nil)
    · go_simp
      refine (HRL.out W).mono ?_
      rintro _ w2 ⟨vl, rfl, hol⟩
      obtain ⟨gl, cl, rfl, -, -, -⟩ := hol.form
      have HN2 := Lib.hid (HN.out.putL hol)
      clear hol
      try go_simp
      refine hK.out _ _ ?_ (fun hHeld => ?_)
      · exact FS.out _ HN2.out.bel
      clear hK K
      try simp only [Act.put, List.setIfInBounds_toArray, List.set_cons_zero, List.set_cons_succ]
      refine (HG.out _ _ _ _).mp ?_
      exact s_1_2_5_7.out _ _ gl cl v (by kernel_rfl) HN2
    · have HN2 := Lib.hid (HN.out.putU (zu := zu.toArray) (t := 114) (by rw [List.size_toArray, HZU.out]))
      rw [if_pos (by rfl)]
      refine wp_alloc_mid 114 rfl zu.toArray ZU.out ?_
      refine hK.out _ _ ?_ (fun hHeld => ?_)
      · exact FS.out _ HN2.out.bel
      clear hK K
      try simp only [Act.put, List.setIfInBounds_toArray, List.set_cons_zero, List.set_cons_succ]
      refine (HG.out _ _ _ _).mp ?_
      exact s_1_2_6_7.out _ _ W.heap.size v (by kernel_rfl) HN2)
  have s_1_6_7 : Hid (∀ (l : Array Bool) (W : World) (u : Nat) (v : Nat), l = #[true, true, false, true, true, false, true, true, false, false] → Hid (VR W0 cc C (W) (none) (some u) (some v) false false) → G 4 l { tmps := #[.agg L.toArray, .pointer (some ⟨X, 0, none⟩), .bool false, .pointer (some ⟨u, 0, none⟩), .pointer (some ⟨v, 0, none⟩), undef, undef, undef, undef, undef, .agg L.toArray, .agg T.toArray, undef, .pointer (some ⟨X, 90, none⟩), .agg RC.toArray, undef, undef, undef, undef, undef, undef, undef, undef, undef, undef, undef, undef, undef, undef, undef, undef, undef, undef, undef, undef, undef, undef, undef, undef, undef, undef], defers := [] } W) := Lib.hid (by
    intro l W u v hl HN
    subst hl
    rw [HG.out]
    have hHeld := FS.out W HN.out.bel
    refine wpAnyH_ready (rs := [2]) (by kernel_rfl) (by simp) ?_
    refine AllReadyH.cons (o := { dst := some 12, op := .call { callee := .value (.func 50), args := #[.tmp 11], argTypes := #[96] }, type := _, pos := _, after := _, guard := none }) rfl (fun K hK => ?_) AllReadyH.nil
    go_simp
    refine (HCN.out W).mono ?_
    rintro _ w2 ⟨rfl, hb⟩
    have HN2 := Lib.hid (HN.out.go hb)
    clear hb
    try go_simp
    refine hK.out _ _ ?_ (fun hHeld => ?_)
    · exact FS.out _ HN2.out.bel
    clear hK K
    try simp only [Act.put, List.setIfInBounds_toArray, List.set_cons_zero, List.set_cons_succ]
    refine (HG.out _ _ _ _).mp ?_
    exact s_1_2_6_7.out _ _ u v (by kernel_rfl) HN2)
  have s_1_2 : Hid (∀ (l : Array Bool) (W : World) , l = #[true, true, true, true, true, false, false, false, false, false] → Hid (VR W0 cc C (W) (none) (none) (none) false false) → G 5 l { tmps := #[.agg L.toArray, .pointer (some ⟨X, 0, none⟩), .bool false, undef, undef, undef, undef, undef, undef, undef, .agg L.toArray, .agg T.toArray, .agg UC.toArray, .pointer (some ⟨X, 90, none⟩), .agg RC.toArray, undef, undef, undef, undef, undef, undef, undef, undef, undef, undef, undef, undef, undef, undef, undef, undef, undef, undef, undef, undef, undef, undef, undef, undef, undef, undef], defers := [] } W) := Lib.hid (by
    intro l W hl HN
    subst hl
    rw [HG.out]
    have hHeld := FS.out W HN.out.bel
    refine wpAnyH_ready (rs := [5, 6, 7]) (by kernel_rfl) (by simp) ?_
    refine AllReadyH.cons (o := { dst := some 15, op := .call { callee := .value (.func 32), args := #[.tmp 14], argTypes := #[65] }, type := _, pos := _, after := _, guard := none }) rfl (fun K hK => ?_) (AllReadyH.cons (o := { dst := some 3, op := .alloc 114, type := _, pos := _, after := _, guard := none }) rfl (fun K hK => ?_) (AllReadyH.cons (o := { dst := some 4, op := .alloc 28, type := _, pos := _, after := _, guard := none }) rfl (fun K hK => ?_) AllReadyH.nil))
    · go_simp
      refine (HRL.out W).mono ?_
      rintro _ w2 ⟨vl, rfl, hol⟩
      obtain ⟨gl, cl, rfl, -, -, -⟩ := hol.form
      have HN2 := Lib.hid (HN.out.putL hol)
      clear hol
      try go_simp
      refine hK.out _ _ ?_ (fun hHeld => ?_)
      · exact FS.out _ HN2.out.bel
      clear hK K
      try simp only [Act.put, List.setIfInBounds_toArray, List.set_cons_zero, List.set_cons_succ]
      refine (HG.out _ _ _ _).mp ?_
      exact s_1_2_5.out _ _ gl cl (by kernel_rfl) HN2
    · have HN2 := Lib.hid (HN.out.putU (zu := zu.toArray) (t := 114) (by rw [List.size_toArray, HZU.out]))
      rw [if_pos (by rfl)]
      refine wp_alloc_mid 114 rfl zu.toArray ZU.out ?_
      refine hK.out _ _ ?_ (fun hHeld => ?_)
      · exact FS.out _ HN2.out.bel
      clear hK K
      try simp only [Act.put, List.setIfInBounds_toArray, List.set_cons_zero, List.set_cons_succ]
      refine (HG.out _ _ _ _).mp ?_
      exact s_1_2_6.out _ _ W.heap.size (by kernel_rfl) HN2
    · have HN2 := Lib.hid (HN.out.putV (zv := #[.slice none 0 0]) (t := 28) rfl)
      go_simp
      refine hK.out _ _ ?_ (fun hHeld => ?_)
      · exact FS.out _ HN2.out.bel
      clear hK K
      try simp only [Act.put, List.setIfInBounds_toArray, List.set_cons_zero, List.set_cons_succ]
      refine (HG.out _ _ _ _).mp ?_
      exact s_1_2_7.out _ _ W.heap.size (by kernel_rfl) HN2)
  have s_1_6 : Hid (∀ (l : Array Bool) (W : World) (u : Nat), l = #[true, true, false, true, true, false, true, false, false, false] → Hid (VR W0 cc C (W) (none) (some u) (none) false false) → G 5 l { tmps := #[.agg L.toArray, .pointer (some ⟨X, 0, none⟩), .bool false, .pointer (some ⟨u, 0, none⟩), undef, undef, undef, undef, undef, undef, .agg L.toArray, .agg T.toArray, undef, .pointer (some ⟨X, 90, none⟩), .agg RC.toArray, undef, undef, undef, undef, undef, undef, undef, undef, undef, undef, undef, undef, undef, undef, undef, undef, undef, undef, undef, undef, undef, undef, undef, undef, undef, undef], defers := [] } W) := Lib.hid (by
    intro l W u hl HN
    subst hl
    rw [HG.out]
    have hHeld := FS.out W HN.out.bel
    refine wpAnyH_ready (rs := [2, 7]) (by kernel_rfl) (by simp) ?_
    refine AllReadyH.cons (o := { dst := some 12, op := .call { callee := .value (.func 50), args := #[.tmp 11], argTypes := #[96] }, type := _, pos := _, after := _, guard := none }) rfl (fun K hK => ?_) (AllReadyH.cons (o := { dst := some 4, op := .alloc 28, type := _, pos := _, after := _, guard := none }) rfl (fun K hK => ?_) AllReadyH.nil)
    · go_simp
      refine (HCN.out W).mono ?_
      rintro _ w2 ⟨rfl, hb⟩
      have HN2 := Lib.hid (HN.out.go hb)
      clear hb
      try go_simp
      refine hK.out _ _ ?_ (fun hHeld => ?_)
      · exact FS.out _ HN2.out.bel
      clear hK K
      try simp only [Act.put, List.setIfInBounds_toArray, List.set_cons_zero, List.set_cons_succ]
      refine (HG.out _ _ _ _).mp ?_
      exact s_1_2_6.out _ _ u (by kernel_rfl) HN2
    · have HN2 := Lib.hid (HN.out.putV (zv := #[.slice none 0 0]) (t := 28) rfl)
      go_simp
      refine hK.out _ _ ?_ (fun hHeld => ?_)
      · exact FS.out _ HN2.out.bel
      clear hK K
      try simp only [Act.put, List.setIfInBounds_toArray, List.set_cons_zero, List.set_cons_succ]
      refine (HG.out _ _ _ _).mp ?_
      exact s_1_6_7.out _ _ u W.heap.size (by kernel_rfl) HN2)
  have s_1_7 : Hid (∀ (l : Array Bool) (W : World) (v : Nat), l = #[true, true, false, true, true, false, false, true, false, false] → Hid (VR W0 cc C (W) (none) (none) (some v) false false) → G 5 l { tmps := #[.agg L.toArray, .pointer (some ⟨X, 0, none⟩), .bool false, undef, .pointer (some ⟨v, 0, none⟩), undef, undef, undef, undef, undef, .agg L.toArray, .agg T.toArray, undef, .pointer (some ⟨X, 90, none⟩), .agg RC.toArray, undef, undef, undef, undef, undef, undef, undef, undef, undef, undef, undef, undef, undef, undef, undef, undef, undef, undef, undef, undef, undef, undef, undef, undef, undef, undef], defers := [] } W) := Lib.hid (by
    intro l W v hl HN
    subst hl
    rw [HG.out]
    have hHeld := FS.out W HN.out.bel
    refine wpAnyH_ready (rs := [2, 6]) (by kernel_rfl) (by simp) ?_
    refine AllReadyH.cons (o := { dst := some 12, op := .call { callee := .value (.func 50), args := #[.tmp 11], argTypes := #[96] }, type := _, pos := _, after := _, guard := none }) rfl (fun K hK => ?_) (AllReadyH.cons (o := { dst := some 3, op := .alloc 114, type := _, pos := _, after := _, guard := none }) rfl (fun K hK => ?_) AllReadyH.nil)
    · go_simp
      refine (HCN.out W).mono ?_
      rintro _ w2 ⟨rfl, hb⟩
      have HN2 := Lib.hid (HN.out.go hb)
      clear hb
      try go_simp
      refine hK.out _ _ ?_ (fun hHeld => ?_)
      · exact FS.out _ HN2.out.bel
      clear hK K
      try simp only [Act.put, List.setIfInBounds_toArray, List.set_cons_zero, List.set_cons_succ]
      refine (HG.out _ _ _ _).mp ?_
      exact s_1_2_7.out _ _ v (by kernel_rfl) HN2
    · have HN2 := Lib.hid (HN.out.putU (zu := zu.toArray) (t := 114) (by rw [List.size_toArray, HZU.out]))
      rw [if_pos (by rfl)]
      refine wp_alloc_mid 114 rfl zu.toArray ZU.out ?_
      refine hK.out _ _ ?_ (fun hHeld => ?_)
      · exact FS.out _ HN2.out.bel
      clear hK K
      try simp only [Act.put, List.setIfInBounds_toArray, List.set_cons_zero, List.set_cons_succ]
      refine (HG.out _ _ _ _).mp ?_
      exact s_1_6_7.out _ _ W.heap.size v (by kernel_rfl) HN2)
  have s_6_7 : Hid (∀ (l : Array Bool) (W : World) (u : Nat) (v : Nat), l = #[true, false, false, true, true, false, true, true, false, false] → Hid (VR W0 cc C (W) (none) (some u) (some v) false false) → G 5 l { tmps := #[.agg L.toArray, .pointer (some ⟨X, 0, none⟩), .bool false, .pointer (some ⟨u, 0, none⟩), .pointer (some ⟨v, 0, none⟩), undef, undef, undef, undef, undef, .agg L.toArray, undef, undef, .pointer (some ⟨X, 90, none⟩), .agg RC.toArray, undef, undef, undef, undef, undef, undef, undef, undef, undef, undef, undef, undef, undef, undef, undef, undef, undef, undef, undef, undef, undef, undef, undef, undef, undef, undef], defers := [] } W) := Lib.hid (by
    intro l W u v hl HN
    subst hl
    rw [HG.out]
    have hHeld := FS.out W HN.out.bel
    refine wpAnyH_ready (rs := [1]) (by kernel_rfl) (by simp) ?_
    refine AllReadyH.cons (o := { dst := some 11, op := .call { callee := .value (.func 49), args := #[.tmp 10], argTypes := #[67] }, type := _, pos := _, after := _, guard := none }) rfl (fun K hK => ?_) AllReadyH.nil
    go_simp
    refine (HTA.out W HN.out.bel).mono ?_
    rintro _ w2 ⟨rfl, hb⟩
    have HN2 := Lib.hid (HN.out.go hb)
    clear hb
    try go_simp
    refine hK.out _ _ ?_ (fun hHeld => ?_)
    · exact FS.out _ HN2.out.bel
    clear hK K
    try simp only [Act.put, List.setIfInBounds_toArray, List.set_cons_zero, List.set_cons_succ]
    refine (HG.out _ _ _ _).mp ?_
    exact s_1_6_7.out _ _ u v (by kernel_rfl) HN2)
  have s_1 : Hid (∀ (l : Array Bool) (W : World) , l = #[true, true, false, true, true, false, false, false, false, false] → Hid (VR W0 cc C (W) (none) (none) (none) false false) → G 6 l { tmps := #[.agg L.toArray, .pointer (some ⟨X, 0, none⟩), .bool false, undef, undef, undef, undef, undef, undef, undef, .agg L.toArray, .agg T.toArray, undef, .pointer (some ⟨X, 90, none⟩), .agg RC.toArray, undef, undef, undef, undef, undef, undef, undef, undef, undef, undef, undef, undef, undef, undef, undef, undef, undef, undef, undef, undef, undef, undef, undef, undef, undef, undef], defers := [] } W) := Lib.hid (by
    intro l W hl HN
    subst hl
    rw [HG.out]
    have hHeld := FS.out W HN.out.bel
    refine wpAnyH_ready (rs := [2, 6, 7]) (by kernel_rfl) (by simp) ?_
    refine AllReadyH.cons (o := { dst := some 12, op := .call { callee := .value (.func 50), args := #[.tmp 11], argTypes := #[96] }, type := _, pos := _, after := _, guard := none }) rfl (fun K hK => ?_) (AllReadyH.cons (o := { dst := some 3, op := .alloc 114, type := _, pos := _, after := _, guard := none }) rfl (fun K hK => ?_) (AllReadyH.cons (o := { dst := some 4, op := .alloc 28, type := _, pos := _, after := _, guard := none }) rfl (fun K hK => ?_) AllReadyH.nil))
    · go_simp
      refine (HCN.out W).mono ?_
      rintro _ w2 ⟨rfl, hb⟩
      have HN2 := Lib.hid (HN.out.go hb)
      clear hb
      try go_simp
      refine hK.out _ _ ?_ (fun hHeld => ?_)
      · exact FS.out _ HN2.out.bel
      clear hK K
      try simp only [Act.put, List.setIfInBounds_toArray, List.set_cons_zero, List.set_cons_succ]
      refine (HG.out _ _ _ _).mp ?_
      exact s_1_2.out _ _  (by kernel_rfl) HN2
    · have HN2 := Lib.hid (HN.out.putU (zu := zu.toArray) (t := 114) (by rw [List.size_toArray, HZU.out]))
      rw [if_pos (by rfl)]
      refine wp_alloc_mid 114 rfl zu.toArray ZU.out ?_
      refine hK.out _ _ ?_ (fun hHeld => ?_)
      · exact FS.out _ HN2.out.bel
      clear hK K
      try simp only [Act.put, List.setIfInBounds_toArray, List.set_cons_zero, List.set_cons_succ]
      refine (HG.out _ _ _ _).mp ?_
      exact s_1_6.out _ _ W.heap.size (by kernel_rfl) HN2
    · have HN2 := Lib.hid (HN.out.putV (zv := #[.slice none 0 0]) (t := 28) rfl)
      go_simp
      refine hK.out _ _ ?_ (fun hHeld => ?_)
      · exact FS.out _ HN2.out.bel
      clear hK K
      try simp only [Act.put, List.setIfInBounds_toArray, List.set_cons_zero, List.set_cons_succ]
      refine (HG.out _ _ _ _).mp ?_
      exact s_1_7.out _ _ W.heap.size (by kernel_rfl) HN2)
  have s_6 : Hid (∀ (l : Array Bool) (W : World) (u : Nat), l = #[true, false, false, true, true, false, true, false, false, false] → Hid (VR W0 cc C (W) (none) (some u) (none) false false) → G 6 l { tmps := #[.agg L.toArray, .pointer (some ⟨X, 0, none⟩), .bool false, .pointer (some ⟨u, 0, none⟩), undef, undef, undef, undef, undef, undef, .agg L.toArray, undef, undef, .pointer (some ⟨X, 90, none⟩), .agg RC.toArray, undef, undef, undef, undef, undef, undef, undef, undef, undef, undef, undef, undef, undef, undef, undef, undef, undef, undef, undef, undef, undef, undef, undef, undef, undef, undef], defers := [] } W) := Lib.hid (by
    intro l W u hl HN
    subst hl
    rw [HG.out]
    have hHeld := FS.out W HN.out.bel
    refine wpAnyH_ready (rs := [1, 7]) (by kernel_rfl) (by simp) ?_
    refine AllReadyH.cons (o := { dst := some 11, op := .call { callee := .value (.func 49), args := #[.tmp 10], argTypes := #[67] }, type := _, pos := _, after := _, guard := none }) rfl (fun K hK => ?_) (AllReadyH.cons (o := { dst := some 4, op := .alloc 28, type := _, pos := _, after := _, guard := none }) rfl (fun K hK => ?_) AllReadyH.nil)
    · go_simp
      refine (HTA.out W HN.out.bel).mono ?_
      rintro _ w2 ⟨rfl, hb⟩
      have HN2 := Lib.hid (HN.out.go hb)
      clear hb
      try go_simp
      refine hK.out _ _ ?_ (fun hHeld => ?_)
      · exact FS.out _ HN2.out.bel
      clear hK K
      try simp only [Act.put, List.setIfInBounds_toArray, List.set_cons_zero, List.set_cons_succ]
      refine (HG.out _ _ _ _).mp ?_
      exact s_1_6.out _ _ u (by kernel_rfl) HN2
    · have HN2 := Lib.hid (HN.out.putV (zv := #[.slice none 0 0]) (t := 28) rfl)
      go_simp
      refine hK.out _ _ ?_ (fun hHeld => ?_)
      · exact FS.out _ HN2.out.bel
      clear hK K
      try simp only [Act.put, List.setIfInBounds_toArray, List.set_cons_zero, List.set_cons_succ]
      refine (HG.out _ _ _ _).mp ?_
      exact s_6_7.out _ _ u W.heap.size (by kernel_rfl) HN2)
  have s_7 : Hid (∀ (l : Array Bool) (W : World) (v : Nat), l = #[true, false, false, true, true, false, false, true, false, false] → Hid (VR W0 cc C (W) (none) (none) (some v) false false) → G 6 l { tmps := #[.agg L.toArray, .pointer (some ⟨X, 0, none⟩), .bool false, undef, .pointer (some ⟨v, 0, none⟩), undef, undef, undef, undef, undef, .agg L.toArray, undef, undef, .pointer (some ⟨X, 90, none⟩), .agg RC.toArray, undef, undef, undef, undef, undef, undef, undef, undef, undef, undef, undef, undef, undef, undef, undef, undef, undef, undef, undef, undef, undef, undef, undef, undef, undef, undef], defers := [] } W) := Lib.hid (by
    intro l W v hl HN
    subst hl
    rw [HG.out]
    have hHeld := FS.out W HN.out.bel
    refine wpAnyH_ready (rs := [1, 6]) (by kernel_rfl) (by simp) ?_
    refine AllReadyH.cons (o := { dst := some 11, op := .call { callee := .value (.func 49), args := #[.tmp 10], argTypes := #[67] }, type := _, pos := _, after := _, guard := none }) rfl (fun K hK => ?_) (AllReadyH.cons (o := { dst := some 3, op := .alloc 114, type := _, pos := _, after := _, guard := none }) rfl (fun K hK => ?_) AllReadyH.nil)
    · go_simp
      refine (HTA.out W HN.out.bel).mono ?_
      rintro _ w2 ⟨rfl, hb⟩
      have HN2 := Lib.hid (HN.out.go hb)
      clear hb
      try go_simp
      refine hK.out _ _ ?_ (fun hHeld => ?_)
      · exact FS.out _ HN2.out.bel
      clear hK K
      try simp only [Act.put, List.setIfInBounds_toArray, List.set_cons_zero, List.set_cons_succ]
      refine (HG.out _ _ _ _).mp ?_
      exact s_1_7.out _ _ v (by kernel_rfl) HN2
    · have HN2 := Lib.hid (HN.out.putU (zu := zu.toArray) (t := 114) (by rw [List.size_toArray, HZU.out]))
      rw [if_pos (by rfl)]
      refine wp_alloc_mid 114 rfl zu.toArray ZU.out ?_
      refine hK.out _ _ ?_ (fun hHeld => ?_)
      · exact FS.out _ HN2.out.bel
      clear hK K
      try simp only [Act.put, List.setIfInBounds_toArray, List.set_cons_zero, List.set_cons_succ]
      refine (HG.out _ _ _ _).mp ?_
      exact s_6_7.out _ _ W.heap.size v (by kernel_rfl) HN2)
  have s_n : Hid (∀ (l : Array Bool) (W : World) , l = #[true, false, false, true, true, false, false, false, false, false] → Hid (VR W0 cc C (W) (none) (none) (none) false false) → G 7 l { tmps := #[.agg L.toArray, .pointer (some ⟨X, 0, none⟩), .bool false, undef, undef, undef, undef, undef, undef, undef, .agg L.toArray, undef, undef, .pointer (some ⟨X, 90, none⟩), .agg RC.toArray, undef, undef, undef, undef, undef, undef, undef, undef, undef, undef, undef, undef, undef, undef, undef, undef, undef, undef, undef, undef, undef, undef, undef, undef, undef, undef], defers := [] } W) := Lib.hid (by
    intro l W hl HN
    subst hl
    rw [HG.out]
    have hHeld := FS.out W HN.out.bel
    refine wpAnyH_ready (rs := [1, 6, 7]) (by kernel_rfl) (by simp) ?_
    refine AllReadyH.cons (o := { dst := some 11, op := .call { callee := .value (.func 49), args := #[.tmp 10], argTypes := #[67] }, type := _, pos := _, after := _, guard := none }) rfl (fun K hK => ?_) (AllReadyH.cons (o := { dst := some 3, op := .alloc 114, type := _, pos := _, after := _, guard := none }) rfl (fun K hK => ?_) (AllReadyH.cons (o := { dst := some 4, op := .alloc 28, type := _, pos := _, after := _, guard := none }) rfl (fun K hK => ?_) AllReadyH.nil))
    · go_simp
      refine (HTA.out W HN.out.bel).mono ?_
      rintro _ w2 ⟨rfl, hb⟩
      have HN2 := Lib.hid (HN.out.go hb)
      clear hb
      try go_simp
      refine hK.out _ _ ?_ (fun hHeld => ?_)
      · exact FS.out _ HN2.out.bel
      clear hK K
      try simp only [Act.put, List.setIfInBounds_toArray, List.set_cons_zero, List.set_cons_succ]
      refine (HG.out _ _ _ _).mp ?_
      exact s_1.out _ _  (by kernel_rfl) HN2
    · have HN2 := Lib.hid (HN.out.putU (zu := zu.toArray) (t := 114) (by rw [List.size_toArray, HZU.out]))
      rw [if_pos (by rfl)]
      refine wp_alloc_mid 114 rfl zu.toArray ZU.out ?_
      refine hK.out _ _ ?_ (fun hHeld => ?_)
      · exact FS.out _ HN2.out.bel
      clear hK K
      try simp only [Act.put, List.setIfInBounds_toArray, List.set_cons_zero, List.set_cons_succ]
      refine (HG.out _ _ _ _).mp ?_
      exact s_6.out _ _ W.heap.size (by kernel_rfl) HN2
    · have HN2 := Lib.hid (HN.out.putV (zv := #[.slice none 0 0]) (t := 28) rfl)
      go_simp
      refine hK.out _ _ ?_ (fun hHeld => ?_)
      · exact FS.out _ HN2.out.bel
      clear hK K
      try simp only [Act.put, List.setIfInBounds_toArray, List.set_cons_zero, List.set_cons_succ]
      refine (HG.out _ _ _ _).mp ?_
      exact s_7.out _ _ W.heap.size (by kernel_rfl) HN2)
  rw [HG.out]
  refine wpAnyH_take (i := 0) (oi := { dst := some 10, op := .load 67 (.tmp 1), type := _, pos := _, after := _, guard := none }) (v := .agg L.toArray) rfl (by kernel_rfl) (by kernel_rfl) (by kernel_rfl) (fun _ _ _ h => h) (Or.inl ⟨by rfl, fun wh hSw => ?_⟩) hHeld ?_
  · (simp only [execOp]; exact HLK.out _ hSw.1)
  try simp only [Act.put, List.setIfInBounds_toArray, List.set_cons_zero, List.set_cons_succ]
  refine wpAnyH_take (i := 3) (oi := { dst := some 13, op := .fieldAddr 67 (.tmp 1) 3, type := _, pos := _, after := _, guard := none }) (v := .pointer (some ⟨X, 90, none⟩)) rfl (by kernel_rfl) (by kernel_rfl) (by kernel_rfl) (fun _ _ _ h => h) (Or.inl ⟨by rfl, fun wh hSw => ?_⟩) hHeld ?_
  · (obtain ⟨s0, s1⟩ := hSw; go_simp)
  try simp only [Act.put, List.setIfInBounds_toArray, List.set_cons_zero, List.set_cons_succ]
  refine wpAnyH_take (i := 4) (oi := { dst := some 14, op := .load 65 (.tmp 13), type := _, pos := _, after := _, guard := none }) (v := .agg RC.toArray) rfl (by kernel_rfl) (by kernel_rfl) (by kernel_rfl) (fun _ _ _ h => h) (Or.inl ⟨by rfl, fun wh hSw => ?_⟩) hHeld ?_
  · (simp only [execOp]; exact HLR.out _ hSw.2)
  try simp only [Act.put, List.setIfInBounds_toArray, List.set_cons_zero, List.set_cons_succ]
  refine (HG.out _ _ _ _).mp ?_
  exact s_n.out _ _ (by kernel_rfl) (Lib.hid (VR.start (Below.refl _ _).drew))
end Go.Proofs.YthfdkenidfnmgaaGreat
namespace Go.Proofs.YthfdkenidfnmgaaGreat
open Go.ChangeShapes Go.WideShapes Go.ChangeAt Go.RowKit Go.Maps Go.Shelf
set_option linter.unusedVariables false
set_option linter.unusedSimpArgs false
set_option maxRecDepth 100000
def updF {α : Type} (F : Nat → α) (k : Nat) (x : α) (j : Nat) : α := if j = k then x else F j
structure EI (w wr : World) (E : List EV) (k : Nat) (F : Nat → Option Nat) (G : Nat → Int) : Prop where
  bel : Below w.heap.size w wr
  sz : w.heap.size + 1 < wr.heap.size
  res : wr.there w.heap.size 0 6
  env : ∀ j, j < 3 → wr.cell? ⟨w.heap.size + 1, j * 2, none⟩ = some (.map (F j)) ∧ wr.cell? ⟨w.heap.size + 1, j * 2 + 1, none⟩ = some (.int .i64 (G j))
  th : wr.there (w.heap.size + 1) 0 6
  set : ∀ j, j < k → rvs (E.getD j ez).r = true ∧ G j = (E.getD j ez).t ∧ ∃ b, F j = some b ∧ SetAt wr b (E.getD j ez).r
theorem EI.go {w wr w' : World} {E : List EV} {k : Nat} {F : Nat → Option Nat} {G : Nat → Int} (h : EI w wr E k F G) (hb : Below wr.heap.size wr w') : EI w w' E k F G := by
  have hs := h.sz
  refine ⟨h.bel.trans (hb.mono h.bel.size), Nat.lt_of_lt_of_le hs hb.size, there_blocks h.res (hb.block _ (by omega)), fun j hj => ⟨(hb.cell (p := ⟨w.heap.size + 1, j * 2, none⟩) hs).trans (h.env j hj).1, (hb.cell (p := ⟨w.heap.size + 1, j * 2 + 1, none⟩) hs).trans (h.env j hj).2⟩, there_blocks h.th (hb.block _ hs), fun j hj => ?_⟩
  obtain ⟨h1, h2, b, h3, h4⟩ := h.set j hj
  exact ⟨h1, h2, b, h3, h4.below hb⟩
theorem SetAt.setCell {w : World} {b c o : Nat} {xs : List Bs} (h : SetAt w b xs) (hne : b ≠ c) (v : Value) : SetAt (w.setCell ⟨c, o, none⟩ v) b xs := by
  have hb := (Below.refl c w).setCell (p := ⟨c, o, none⟩) (Nat.le_refl _) v
  exact h.kept (row := some c) ⟨hb.os, hb.tape, hb.output, hb.size, fun i hi hn => Below.heap_setCell _ _ _ i (by show i ≠ c; exact fun e => hn (by rw [e]))⟩ (by intro e; injection e with e; exact hne e)
theorem EI.put {w wr : World} {E : List EV} {k : Nat} {F : Nat → Option Nat} {G : Nat → Int} (h : EI w wr E k F G) (hk : k < 3) (b : Nat) (hr : rvs (E.getD k ez).r = true) (hs : SetAt wr b (E.getD k ez).r) :
    EI w ((wr.setCell ⟨w.heap.size + 1, k * 2, none⟩ (.map (some b))).setCell ⟨w.heap.size + 1, k * 2 + 1, none⟩ (.int .i64 (E.getD k ez).t)) E (k + 1) (updF F k (some b)) (updF G k (E.getD k ez).t) := by
  have hsz := h.sz
  have hbel := (h.bel.setCell (p := ⟨w.heap.size + 1, k * 2, none⟩) (by show w.heap.size ≤ w.heap.size + 1; omega) (.map (some b))).setCell (p := ⟨w.heap.size + 1, k * 2 + 1, none⟩) (by show w.heap.size ≤ w.heap.size + 1; omega) (.int .i64 (E.getD k ez).t)
  refine ⟨hbel, by simpa [World.setCell] using hsz, there_setCell (there_setCell h.res _ _ _) _ _ _, fun j hj => ?_, there_setCell (there_setCell h.th _ _ _) _ _ _, fun j hj => ?_⟩
  · unfold updF
    by_cases e : j = k
    · subst e
      rw [if_pos rfl, if_pos rfl]
      refine ⟨(cell_set_other (.inr (by omega))).trans (cell_set_same (h.env j hj).1), cell_set_same ((cell_set_other (.inr (by omega))).trans (h.env j hj).2)⟩
    · rw [if_neg e, if_neg e]
      exact ⟨(cell_set_other (.inr (by omega))).trans ((cell_set_other (.inr (by omega))).trans (h.env j hj).1), (cell_set_other (.inr (by omega))).trans ((cell_set_other (.inr (by omega))).trans (h.env j hj).2)⟩
  · have hset : ∀ {c : Nat} {xs : List Bs}, SetAt wr c xs → SetAt ((wr.setCell ⟨w.heap.size + 1, k * 2, none⟩ (.map (some b))).setCell ⟨w.heap.size + 1, k * 2 + 1, none⟩ (.int .i64 (E.getD k ez).t)) c xs := fun hc => by
      have hne := hc.ne_there h.th (by omega)
      exact (hc.setCell hne _).setCell hne _
    unfold updF
    by_cases e : j = k
    · subst e
      rw [if_pos rfl, if_pos rfl]
      exact ⟨hr, rfl, b, rfl, hset hs⟩
    · rw [if_neg e, if_neg e]
      obtain ⟨h1, h2, c, h3, h4⟩ := h.set j (by omega)
      exact ⟨h1, h2, c, h3, hset h4⟩
theorem EI.range {w wr : World} {E : List EV} {k : Nat} {F : Nat → Option Nat} {G : Nat → Int} (h : EI w wr E k F G) : wr.rangeAt (w.heap.size + 1) 0 (mapC F G) := fun j v hv => by
  have hj : j < 6 := (List.getElem?_eq_some_iff.1 hv).1
  rw [Nat.zero_add]
  have e := fun i hi => h.env i hi
  obtain ⟨a0, a1⟩ := e 0 (by omega)
  obtain ⟨b0, b1⟩ := e 1 (by omega)
  obtain ⟨c0, c1⟩ := e 2 (by omega)
  rcases (by omega : j = 0 ∨ j = 1 ∨ j = 2 ∨ j = 3 ∨ j = 4 ∨ j = 5) with rfl | rfl | rfl | rfl | rfl | rfl <;> (cases hv; first | exact a0 | exact a1 | exact b0 | exact b1 | exact c0 | exact c1)
def envB (E : List EV) : Bool := E.all (fun x => rvs x.r) && decide (E.length = 3)
def EnvR (E : List EV) (w : World) (e : Ending) (w' : World) : Prop :=
  ∃ Y : List Value, e = .returned (.tuple #[.agg Y.toArray, .bool (envB E)]) ∧ Y.length = 6 ∧ Y.toArray.all (·.oneCell') = true ∧ Below w.heap.size w w' ∧
    (envB E = true → ∃ bs : Nat → Nat, Y = mapC (fun j => some (bs j)) (fun j => (E.getD j ez).t) ∧ ∀ j, j < 3 → SetAt w' (bs j) (E.getD j ez).r)
set_option maxHeartbeats 4000000 in
theorem environmentsOf_any (w : World) (v : Value) (E : List EV) (h : Es w v E) (hse : Short3 E) :
    Calls Tryz.prog 14 #[v] w (EnvR E w) := by
  obtain ⟨a, ca, rfl, h1, h2, h3⟩ := h
  unfold maxLen at h2
  obtain ⟨n, hn⟩ : ∃ n, n = E.length := ⟨_, rfl⟩
  rw [← hn] at h1 h3 ⊢
  have HN := Lib.hid hn
  have HX := Lib.hid h3
  have HSE := Lib.hid hse
  obtain ⟨R, HRR⟩ : ∃ R : Ending → World → Prop, Hid (R = EnvR E w) := ⟨_, Lib.hid rfl⟩
  rw [← HRR.out]
  obtain ⟨Z, hZ⟩ : ∃ Z, Z = mapC (fun _ => none) (fun _ => 0) := ⟨_, rfl⟩
  have HZ : Hid (∀ w, (zeroValue 50).run Tryz.prog w = .ok (.agg Z.toArray) w) := Lib.hid (fun w => by rw [hZ]; exact Tryz.zeroValue50 w)
  have HBZ : Hid (∀ w, (Instr.build 50 #[]).run Tryz.prog w = .ok (.agg Z.toArray) w) := Lib.hid (fun w => by rw [hZ]; exact run_build w _ _ _ (by kernel_rfl))
  have HZL : Hid (Z.length = 6) := Lib.hid (by rw [hZ]; rfl)
  have HZS : Hid (Z.toArray.size = 6) := Lib.hid (by rw [hZ]; rfl)
  have HZO : Hid (Z.toArray.all (·.oneCell') = true) := Lib.hid (by rw [hZ]; exact all_oneCell_toArray (mapC_one _ _))
  obtain ⟨X, hX⟩ : ∃ X, X = w.heap.size := ⟨_, rfl⟩
  obtain ⟨W0, hW0⟩ : ∃ W0, W0 = (w.alloc (.cells Z.toArray 50)).alloc (.cells Z.toArray 50) := ⟨_, rfl⟩
  have HE0 : Hid (EI w W0 E 0 (fun _ => none) (fun _ => 0)) := Lib.hid (by
    have hb1 : W0.heap[w.heap.size + 1]? = some (.cells Z.toArray 50 (0, 0)) := by rw [hW0]; exact heap2 w _
    have hb0 : W0.heap[w.heap.size]? = some (.cells Z.toArray 50 (0, 0)) := by rw [hW0]; exact (Below.heap_alloc _ _ _ (by simp)).trans (heap_alloc_new w _)
    have hr := range_row hb1
    rw [hZ] at hr
    refine ⟨by rw [hW0]; exact ((Below.refl _ _).alloc (Nat.le_refl _) _).alloc (by simp) _, by rw [hW0]; simp, there_row hb0 (by rw [HZS.out]; exact Nat.le_refl _), fun j hj => ?_, there_row hb1 (by rw [HZS.out]; exact Nat.le_refl _), fun j hj => by omega⟩
    have h5 := mapC_get (fun _ => none) (fun _ => 0) hj
    have e1 := hr _ _ h5.1
    have e2 := hr _ _ h5.2
    rw [Nat.zero_add] at e1 e2
    exact ⟨e1, e2⟩)
  have HBAD : Hid (∀ wr, Below w.heap.size w wr → envB E = false → wr.there w.heap.size 0 6 → Below w.heap.size w (wr.setCells X 0 Z) ∧ (wr.setCells X 0 Z).rangeAt X 0 Z ∧ R (.returned (.tuple #[.agg Z.toArray, .bool false])) (wr.setCells X 0 Z)) := Lib.hid (fun wr hb he ht => by
    have hbb : Below w.heap.size w (wr.setCells X 0 Z) := Below.setCells (Below.refl _ _) _ (by omega) _ _ _ hb
    refine ⟨hbb, World.rangeAt_setCells_same _ _ _ _ (by rw [HZL.out, hX]; exact ht), ?_⟩
    rw [HRR.out]
    exact ⟨Z, by rw [he], HZL.out, HZO.out, hbb, fun hh => by rw [he] at hh; cases hh⟩)
  have HXE := Lib.hid hX
  have HW0 := Lib.hid hW0
  clear h3 hn hse hZ hX hW0
  by_cases h3' : n = 3
  · subst h3'
    have HRS : Hid (∀ (W : World) (u : Value) (j : Nat), Strs W u (E.getD j ez).r → Calls Tryz.prog 28 #[u] W (SetOf (E.getD j ez).r W)) := Lib.hid (fun W u j hu => setOf_any W u _ hu (HSE.out.at j))
    unfold SetOf at HRS
    go_enter Tryz.func14, Tryz.ntmps14
    go_wp2_with (first | ((with_reducible refine alloc_is 50 ?_); refine alloc_arr 50 Z.toArray HZ.out ?_) | fail)
    rw [← HXE.out, ← HW0.out]
    go_loopw [15] (fun i wr => ∃ (k : Nat) (F : Nat → Option Nat) (G : Nat → Int), k ≤ 3 ∧ i = .int .i64 k ∧ Hid (EI w wr E k F G)) (fun i _ => 3 - (intOf i).toNat)
    case atStart => exact ⟨0, _, _, Nat.zero_le _, rfl, HE0⟩
    case round =>
      obtain ⟨k, F, G, hk, rfl, HE⟩ := hrel
      by_cases hlt : k < 3
      · have hlt' : (k : Int) < 3 := by omega
        have hk0 : (0 : Int) ≤ (k : Int) := by omega
        obtain ⟨b, o, u, rfl, hc0, hd0, hu⟩ := HX.out k hlt
        have hc := (HE.out.bel.cell (p := ⟨b, o + k * 2, none⟩) (cell_lt hc0)).trans hc0
        have hd := (HE.out.bel.cell (p := ⟨b, o + k * 2 + 1, none⟩) (cell_lt hd0)).trans hd0
        have HU := Lib.hid (hu.below HE.out.bel)
        obtain ⟨ua, uc, hue, -, -, -⟩ := hu
        obtain ⟨ul, hul⟩ : ∃ ul, ul = (E.getD k ez).r.length := ⟨_, rfl⟩
        rw [← hul] at hue
        subst hue
        have HPUT : Hid (∀ W b, EI w W E k F G → rvs (E.getD k ez).r = true → SetAt W b (E.getD k ez).r → EI w ((W.setCell ⟨X + 1, k * 2, none⟩ (.map (some b))).setCell ⟨X + 1, k * 2 + 1, none⟩ (.int .i64 (E.getD k ez).t)) E (k + 1) (updF F k (some b)) (updF G k (E.getD k ez).t)) := Lib.hid (fun W b hh h1 h2 => by rw [HXE.out]; exact hh.put hlt b h1 h2)
        have HNV : Hid (rvs (E.getD k ez).r = false → envB E = false) := Lib.hid (fun hr => by
          unfold envB
          rw [Bool.and_eq_false_iff]
          left
          rw [Bool.eq_false_iff]
          intro hh
          have := List.all_eq_true.1 hh (E.getD k ez) (by rw [getD_lt (by have := HN.out; omega)]; exact List.getElem_mem _)
          rw [hr] at this
          cases this)
        obtain ⟨t, ht⟩ : ∃ t, t = (E.getD k ez).t := ⟨_, rfl⟩
        rw [← ht] at hd HPUT
        have HIX := run_indexAt_arr (P := Tryz.prog) 50 3 48 2 Tryz.underlying50 size_env (by omega) (X + 1) k hlt
        obtain ⟨W1, hW1⟩ : ∃ W1, W1 = wr.alloc (.cells #[.slice ua ul uc, .int .i64 t] 37) := ⟨_, rfl⟩
        have HB1 : Hid (Below wr.heap.size wr W1) := Lib.hid (by rw [hW1]; exact (Below.refl _ _).alloc (Nat.le_refl _) _)
        have HS1 := Lib.hid (HRS.out W1 (.slice ua ul uc) k (HU.out.below HB1.out))
        have HC1 : Hid (∀ W, Below W1.heap.size W1 W → W.cell? ⟨wr.heap.size, 1, none⟩ = some (.int .i64 t)) := Lib.hid (fun W hW => (hW.cell (p := ⟨wr.heap.size, 1, none⟩) (by rw [hW1]; simp)).trans (by rw [hW1]; exact new_cell rfl))
        have HC0 : Hid (W1.cell? ⟨wr.heap.size, 0, none⟩ = some (.slice ua ul uc)) := Lib.hid (by rw [hW1]; exact new_cell rfl)
        have HW1 := Lib.hid hW1
        obtain ⟨q, hq⟩ : ∃ q, q = rvs (E.getD k ez).r := ⟨_, rfl⟩
        rw [← hq] at HS1 HPUT HNV
        clear hW1 hc0 hd0 ht hul hq
        go_wp2_with fail
        rw [← HW1.out]
        refine HS1.out.mono ?_
        rintro _ W2 ⟨hb2, mp, rfl, hmp⟩
        have HE2 := Lib.hid ((HE.out.go HB1.out).go hb2)
        have hc1 := HC1.out W2 hb2
        clear hb2
        cases q with
        | false =>
          have HBD := Lib.hid (HBAD.out W2 HE2.out.bel (HNV.out (by trivial)) HE2.out.res)
          have HTH : Hid (W2.there X 0 Z.toArray.size) := Lib.hid (by rw [HXE.out, HZS.out]; exact HE2.out.res)
          clear hmp
          go_wp2_with (first | ((with_reducible refine build_is 50 ?_); refine build_run0 50 Z.toArray HBZ.out ?_) | ((with_reducible refine store_is 50 (.tmp 2) (.tmp 28) ?_); refine store_arr 50 (.tmp 2) (.tmp 28) X 0 Z.toArray rfl rfl HTH.out (info_envs HZS.out) HZO.out ?_) | fail)
          refine bodyPost_ret (results_cell_mid rfl _ _ X 0 Z _ rfl HBD.out.2.1 Tryz.underlying50 rfl (info_envs HZL.out)) rfl ?_
          exact HBD.out.2.2
        | true =>
          obtain ⟨bm, rfl, _, hset⟩ := hmp rfl
          have HE3 := Lib.hid (HPUT.out W2 bm HE2.out (by trivial) hset)
          obtain ⟨y0, y1⟩ := HE2.out.env k hlt
          have f0 := (HE2.out.th (k * 2) (by omega)).2
          have f1 := (HE2.out.th (k * 2 + 1) (by omega)).2
          rw [Nat.zero_add] at f0 f1
          rw [← HXE.out] at y0 y1 f0 f1
          clear hset hmp
          go_wp2_with fail
          go_roundw
          case rel => exact ⟨k + 1, _, _, by omega, by go_num, HE3⟩
          case measure => simp [intOf]; omega
      · have e : k = 3 := by omega
        rw [e] at HE
        have hge : ¬ (k : Int) < 3 := by omega
        have HYR := Lib.hid HE.out.range
        have HYL : Hid ((mapC F G).length = 6) := Lib.hid rfl
        have HYO : Hid ((mapC F G).toArray.all (·.oneCell') = true) := Lib.hid (all_oneCell_toArray (mapC_one _ _))
        have HFIN : Hid (R (.returned (.tuple #[.agg (mapC F G).toArray, .bool true])) (wr.setCells X 0 (mapC F G)) ∧ (wr.setCells X 0 (mapC F G)).rangeAt X 0 (mapC F G)) := Lib.hid (by
          have hth : wr.there X 0 (mapC F G).length := by rw [HYL.out, HXE.out]; exact HE.out.res
          have hbb : Below w.heap.size w (wr.setCells X 0 (mapC F G)) := Below.setCells (Below.refl _ _) _ (by rw [HXE.out]; exact Nat.le_refl _) _ _ _ HE.out.bel
          have hev : envB E = true := by
            unfold envB
            rw [Bool.and_eq_true, decide_eq_true_eq, List.all_eq_true]
            refine ⟨fun x hx => ?_, HN.out.symm⟩
            obtain ⟨i, hi, rfl⟩ := List.getElem_of_mem hx
            have := (HE.out.set i (by have := HN.out; omega)).1
            rwa [getD_lt hi] at this
          refine ⟨?_, World.rangeAt_setCells_same _ _ _ _ hth⟩
          rw [HRR.out]
          have hs : ∀ j, j < 3 → ∃ b, F j = some b ∧ SetAt wr b (E.getD j ez).r := fun j hj => (HE.out.set j hj).2.2
          obtain ⟨b0, p0, q0⟩ := hs 0 (by omega)
          obtain ⟨b1, p1, q1⟩ := hs 1 (by omega)
          obtain ⟨b2, p2, q2⟩ := hs 2 (by omega)
          have hg : ∀ j, j < 3 → G j = (E.getD j ez).t := fun j hj => (HE.out.set j hj).2.1
          refine ⟨_, by rw [hev], HYL.out, HYO.out, hbb, fun _ => ⟨fun j => if j = 0 then b0 else if j = 1 then b1 else b2, ?_, fun j hj => ?_⟩⟩
          · unfold mapC
            rw [p0, p1, p2, hg 0 (by omega), hg 1 (by omega), hg 2 (by omega)]; rfl
          · have hk : ∀ {b : Nat} {xs : List Bs}, SetAt wr b xs → SetAt (wr.setCells X 0 (mapC F G)) b xs := fun hb => hb.stored (by rw [HXE.out]; exact hb.ne_there HE.out.res (by omega)) _
            rcases (by omega : j = 0 ∨ j = 1 ∨ j = 2) with rfl | rfl | rfl
            · exact hk q0
            · exact hk q1
            · exact hk q2)
        have HTH : Hid (wr.there X 0 (mapC F G).toArray.size) := Lib.hid (by rw [HXE.out]; exact HE.out.res)
        have HYRX : Hid (wr.rangeAt (X + 1) 0 (mapC F G)) := Lib.hid (by rw [HXE.out]; exact HYR.out)
        obtain ⟨Y, hY⟩ : ∃ Y, Y = mapC F G := ⟨_, rfl⟩
        rw [← hY] at HYL HYO HFIN HTH HYRX
        have HYS : Hid (Y.toArray.size = 6) := Lib.hid (by rw [List.size_toArray, HYL.out])
        clear e hlt hY
        go_wp2_with (first | ((with_reducible refine load_is 50 (.tmp 4) ?_); refine load_arr 50 (.tmp 4) (X + 1) 0 Y _ rfl HYRX.out Tryz.underlying50 rfl (info_envs HYL.out) ?_) | ((with_reducible refine store_is 50 (.tmp 2) (.tmp 36) ?_); refine store_arr 50 (.tmp 2) (.tmp 36) X 0 Y.toArray rfl rfl HTH.out (info_envs HYS.out) HYO.out ?_) | fail)
        refine bodyPost_ret (results_cell_mid rfl _ _ X 0 Y _ rfl HFIN.out.2 Tryz.underlying50 rfl (info_envs HYL.out)) rfl ?_
        exact HFIN.out.1
  · have hne : ((n : Int) != 3) = true := by simp; omega
    have hne2 : ((n : Int) == 3) = false := by simp; omega
    have HEB : Hid (envB E = false) := Lib.hid (by
      unfold envB
      rw [decide_eq_false (by have := HN.out; omega), Bool.and_false])
    have HBD := Lib.hid (HBAD.out W0 HE0.out.bel HEB.out HE0.out.res)
    have HTH : Hid (W0.there X 0 Z.toArray.size) := Lib.hid (by rw [HXE.out, HZS.out]; exact HE0.out.res)
    clear h3'
    go_enter Tryz.func14, Tryz.ntmps14
    go_wp2_with (first | ((with_reducible refine alloc_is 50 ?_); refine alloc_arr 50 Z.toArray HZ.out ?_) | ((with_reducible refine build_is 50 ?_); refine build_run0 50 Z.toArray HBZ.out ?_) | ((with_reducible refine store_is 50 (.tmp 2) (.tmp 12) ?_); rw [← HXE.out, ← HW0.out]; refine store_arr 50 (.tmp 2) (.tmp 12) X 0 Z.toArray rfl rfl HTH.out (info_envs HZS.out) HZO.out ?_) | fail)
    refine bodyPost_ret (results_cell_mid rfl _ _ X 0 Z _ rfl HBD.out.2.1 Tryz.underlying50 rfl (info_envs HZL.out)) rfl ?_
    exact HBD.out.2.2
end Go.Proofs.YthfdkenidfnmgaaGreat
namespace Go.Proofs.YthfdkenidfnmgaaGreat
open Go.ChangeShapes Go.WideShapes Go.ChangeAt Go.RowKit Go.Maps Go.Shelf
set_option linter.unusedVariables false
set_option linter.unusedSimpArgs false
set_option maxRecDepth 100000
def Z108 : List Value := Z84 ++ (mapC (fun _ => none) (fun _ => 0) ++ ringC A0 0 0)
theorem Z108_len : Z108.length = 108 := rfl
theorem Z108_one : Z108.toArray.all (·.oneCell') = true := by kernel_rfl
theorem zero_kernel (w : World) : (zeroValue 67).run Tryz.prog w = .ok (.agg Z108.toArray) w := Tryz.zeroValue67 w
theorem run_zero_kernel (w : World) : (Instr.build 67 #[]).run Tryz.prog w = .ok (.agg Z108.toArray) w := run_build w _ _ _ (by kernel_rfl)
theorem run_build_kernel (A B C D : List Value) (hA : A.length = 48) (hB : B.length = 36) (hC : C.length = 6) (hD : D.length = 18) (w : World) :
    (Instr.build 67 #[(0, .agg A.toArray), (1, .agg B.toArray), (2, .agg C.toArray), (3, .agg D.toArray)]).run Tryz.prog w = .ok (.agg (A ++ (B ++ (C ++ D))).toArray) w := by
  have hb : ∀ X Y Z U : Value, Tryz.prog.built 67 [(0, X), (1, Y), (2, Z), (3, U)] = Instr.fill ((#[(0, 48), (48, 36), (84, 6), (90, 18)] : Array (Nat × Nat))[·]?) Z108.toArray [(0, X), (1, Y), (2, Z), (3, U)] := fun X Y Z U => by kernel_rfl
  refine run_build w _ _ _ ((hb _ _ _ _).trans ?_)
  have hz := Z108_len
  rw [show Z108.toArray = ([] ++ Z108).toArray from rfl, fill_step (p := []) (c := A) (s := 48) rfl rfl hA (by omega),
    fill_step (c := B) (s := 36) (by rw [List.nil_append, hA]; rfl) rfl hB (by simp only [List.length_drop]; omega),
    fill_step (c := C) (s := 6) (by rw [List.nil_append, List.length_append, hA, hB]; rfl) rfl hC (by simp only [List.length_drop]; omega),
    fill_step (c := D) (s := 18) (by rw [List.nil_append, List.length_append, List.length_append, hA, hB, hC]; rfl) rfl hD (by simp only [List.length_drop]; omega)]
  rw [Instr.fill, List.nil_append, List.drop_of_length_le (by simp only [List.length_drop]; omega), List.append_nil, List.append_assoc, List.append_assoc]
theorem rootB_iff {I : List IV} {t : Int} : rootB I t = (inR t (-1) 11 && (decide (t < 0) || decide ((I.getD t.toNat iz).k = 3))) := by
  unfold rootB
  rw [Bool.eq_iff_iff, Bool.or_eq_true, Bool.and_eq_true, Bool.and_eq_true, Bool.or_eq_true, inR_iff, inR_iff, decide_eq_true_eq, decide_eq_true_eq, decide_eq_true_eq]
  constructor
  · rintro (h | ⟨h1, h2⟩)
    · exact ⟨by omega, .inl (by omega)⟩
    · exact ⟨by omega, .inr h2⟩
  · rintro ⟨h1, h2 | h2⟩
    · exact .inl (by omega)
    · by_cases h : t = -1
      · exact .inl h
      · exact .inr ⟨by omega, h2⟩
theorem range3_all (E : List EV) (p : EV → Bool) (h : E.length = 3) : E.all p = (List.range 3).all (fun j => p (E.getD j ez)) := by
  match E, h with
  | [a, b, c], _ => simp [List.range, List.range.loop]
theorem range_all (C : List CV) (p : CV → Bool) : C.all p = (List.range C.length).all (fun i => p (C.getD i c0)) := by
  rw [Bool.eq_iff_iff, List.all_eq_true, List.all_eq_true]
  constructor
  · intro h i hi
    rw [getD_lt (List.mem_range.1 hi)]
    exact h _ (List.getElem_mem _)
  · intro h x hx
    obtain ⟨i, hi, rfl⟩ := List.getElem_of_mem hx
    have := h i (List.mem_range.2 hi)
    rwa [getD_lt hi] at this
theorem kvalid_vB {M : List (List Int)} {I : List IV} {E : List EV} {C : List CV} (hm : memOk M = true) (hi : isok I = true) (he : envB E = true) (hc : cOk C = true) : kvalid ⟨M, I, E, C⟩ = vB M I E C := by
  unfold envB at he
  rw [Bool.and_eq_true, decide_eq_true_eq] at he
  obtain ⟨hr, hl⟩ := he
  unfold kvalid vB
  dsimp only
  rw [hm, hi, hc, Bool.true_and, Bool.true_and, Bool.true_and]
  have h1 : envsOk M I E = ((List.range 3).all (fun j => rootB I (E.getD j ez).t) && (List.range 3).all (fun j => alw I (reach M (E.getD j ez).t) (E.getD j ez).r)) := by
    unfold envsOk
    rw [decide_eq_true hl, Bool.and_true, range3_all E _ hl]
    rw [range3_all E _ hl] at hr
    have hr0 := List.all_eq_true.1 hr 0 (by simp)
    have hr1 := List.all_eq_true.1 hr 1 (by simp)
    have hr2 := List.all_eq_true.1 hr 2 (by simp)
    simp only [List.range, List.range.loop, List.all_cons, List.all_nil, Bool.and_true, envOk, rootB_iff, hr0, hr1, hr2, Bool.true_and]
    generalize inR (E.getD 0 ez).t (-1) 11 = a0
    generalize inR (E.getD 1 ez).t (-1) 11 = a1
    generalize inR (E.getD 2 ez).t (-1) 11 = a2
    generalize (decide ((E.getD 0 ez).t < 0) || decide ((I.getD (E.getD 0 ez).t.toNat iz).k = 3)) = d0
    generalize (decide ((E.getD 1 ez).t < 0) || decide ((I.getD (E.getD 1 ez).t.toNat iz).k = 3)) = d1
    generalize (decide ((E.getD 2 ez).t < 0) || decide ((I.getD (E.getD 2 ez).t.toNat iz).k = 3)) = d2
    generalize alw I (reach M (E.getD 0 ez).t) (E.getD 0 ez).r = g0
    generalize alw I (reach M (E.getD 1 ez).t) (E.getD 1 ez).r = g1
    generalize alw I (reach M (E.getD 2 ez).t) (E.getD 2 ez).r = g2
    cases a0 <;> cases a1 <;> cases a2 <;> cases d0 <;> cases d1 <;> cases d2 <;> cases g0 <;> cases g1 <;> cases g2 <;> rfl
  have h2 : refsOk M I E = (List.range 12).all (fun f => decide ((I.getD f iz).r = ((cntN M I f 12 + cntE E 3 f : Nat) : Int))) := by
    unfold refsOk useN
    simp only [← cntE_all, hl]
  have h3 : cacheOk M E C = (List.range C.length).all (fun i => cach1 M E (C.getD i c0)) := range_all C _
  rw [h1, h2, h3]
  unfold tabsOk
  rw [Bool.and_assoc]
theorem kvalid_bad {M : List (List Int)} {I : List IV} {E : List EV} {C : List CV} (h : (memOk M && isok I) = false ∨ envB E = false ∨ cOk C = false) : kvalid ⟨M, I, E, C⟩ = false := by
  rw [Bool.eq_false_iff]
  intro hk
  have hh := kvalid_iff.1 hk
  rcases h with h | h | h
  · rw [show memOk M = true from hh.m, show isok I = true from hh.i] at h; cases h
  · have he := envsOk_iff.1 hh.e
    rw [Bool.eq_false_iff] at h
    refine h ?_
    unfold envB
    rw [Bool.and_eq_true, decide_eq_true_eq, List.all_eq_true]
    exact ⟨fun x hx => (envOk_iff.1 (he.1 x hx)).1, he.2⟩
  · rw [show cOk C = true from hh.c] at h; cases h
theorem bel_var {w1 W : World} (hb : Below W.heap.size W w1) (t : TypeId) (Z : Array Value) (M : List Value) : Below W.heap.size W ((w1.alloc (.cells Z t)).setCells w1.heap.size 0 M) :=
  Below.setCells (Below.refl _ _) _ hb.size _ _ _ (hb.alloc hb.size _)
theorem VarL.keep {w W w1 : World} {B : Nat} {L : List Value} (h : VarL w B L W) (hb : Below W.heap.size W w1) (t : TypeId) (Z : Array Value) (M : List Value) : VarL w B L ((w1.alloc (.cells Z t)).setCells w1.heap.size 0 M) :=
  h.after (bel_var hb t Z M)
def KOfR (K : KV) (w : World) (e : Ending) (w' : World) : Prop :=
  ∃ L : List Value, e = .returned (.tuple #[.agg L.toArray, .bool (kvalid K)]) ∧ L.length = 108 ∧ L.toArray.all (·.oneCell') = true ∧ Below w.heap.size w w' ∧
    (kvalid K = true → ∃ (bs : Nat → Nat) (A : Nat → CV) (f c : Nat), KL w' K.m K.i K.e bs (ringC A f c) L ∧ f < 4 ∧ c ≤ 4 ∧ rlist A f c = K.c)
end Go.Proofs.YthfdkenidfnmgaaGreat
namespace Go.Proofs.YthfdkenidfnmgaaGreat
open Go.ChangeShapes Go.WideShapes Go.ChangeAt Go.RowKit Go.Maps Go.Shelf
set_option linter.unusedVariables false
set_option linter.unusedSimpArgs false
set_option maxRecDepth 100000
set_option maxHeartbeats 8000000 in
theorem kernelOf_any (w : World) (vm vi ve vc : Value) (K : KV) (h : Ks w vm vi ve vc K) (hs : ShortI K.i) (hse : Short3 K.e) :
    Calls Tryz.prog 22 #[kV vm vi ve vc] w (KOfR K w) := by
  obtain ⟨M, I, E, C⟩ := K
  obtain ⟨R, HRR⟩ : ∃ R : Ending → World → Prop, Hid (R = KOfR ⟨M, I, E, C⟩ w) := ⟨_, Lib.hid rfl⟩
  rw [← HRR.out]
  have HTO : Hid (∀ W, Below w.heap.size w W → Calls Tryz.prog 35 #[vm, vi] W (ArrT (tC M (arrOf I)) (memOk M && isok I) W)) := Lib.hid (fun W hW => tablesOf_any W vm vi M I (h.m.below hW) (h.i.below hW) hs)
  have HEO : Hid (∀ W, Below w.heap.size w W → Calls Tryz.prog 14 #[ve] W (EnvR E W)) := Lib.hid (fun W hW => environmentsOf_any W ve E (h.e.below hW) hse)
  have HCO : Hid (∀ W, Below w.heap.size w W → Calls Tryz.prog 36 #[vc] W (OfR W C (cOk C))) := Lib.hid (fun W hW => cacheOf_any W vc C (h.c.below hW))
  unfold ArrT at HTO
  unfold EnvR at HEO
  unfold OfR at HCO
  have HZ := Lib.hid zero_kernel
  have HBZ := Lib.hid run_zero_kernel
  have HZL := Lib.hid Z108_len
  have HZO := Lib.hid Z108_one
  obtain ⟨Z, hZ⟩ : ∃ Z, Z = Z108 := ⟨_, rfl⟩
  rw [← hZ] at HZ HBZ HZL HZO
  have ZT := Lib.hid zero_tables
  have HZTL := Lib.hid Z84_len
  obtain ⟨zt, hzt⟩ : ∃ z, z = Z84 := ⟨_, rfl⟩
  rw [← hzt] at ZT HZTL
  obtain ⟨ze, hze⟩ : ∃ z, z = mapC (fun _ => none) (fun _ => 0) := ⟨_, rfl⟩
  have ZE : Hid (∀ w, (zeroValue 50).run Tryz.prog w = .ok (.agg ze.toArray) w) := Lib.hid (fun w => by rw [hze]; exact Tryz.zeroValue50 w)
  have HZEL : Hid (ze.length = 6) := Lib.hid (by rw [hze]; rfl)
  obtain ⟨zr, hzr⟩ : ∃ z, z = ringC A0 0 0 := ⟨_, rfl⟩
  have ZR : Hid (∀ w, (zeroValue 65).run Tryz.prog w = .ok (.agg zr.toArray) w) := Lib.hid (fun w => by rw [hzr]; exact Tryz.zeroValue65 w)
  have HZRL : Hid (zr.length = 18) := Lib.hid (by rw [hzr]; rfl)
  obtain ⟨P0, hP0⟩ : ∃ P0, P0 = w.alloc (.cells #[vm, vi, ve, vc] 30) := ⟨_, rfl⟩
  have HPK : Hid (KP w P0 vm vi ve vc) := Lib.hid (by rw [hP0]; exact KP.start w vm vi ve vc _)
  have HPS : Hid (P0.heap.size = w.heap.size + 1) := Lib.hid (by rw [hP0]; simp)
  obtain ⟨X, hX⟩ : ∃ X, X = P0.heap.size := ⟨_, rfl⟩
  obtain ⟨W0, hW0⟩ : ∃ W0, W0 = P0.alloc (.cells Z.toArray 67) := ⟨_, rfl⟩
  have HB01 : Hid (Below P0.heap.size P0 W0) := Lib.hid (by rw [hW0]; exact (Below.refl _ _).alloc (Nat.le_refl _) _)
  have HP0 := Lib.hid (HPK.out.go HB01.out)
  have HX0 : Hid (VarL w X Z W0) := Lib.hid (by rw [hX, hW0]; exact VarL.new Z _ HPK.out.bel)
  have HXE := Lib.hid hX
  have HW0 := Lib.hid hW0
  have HPE := Lib.hid hP0
  have HTL : Hid ((tC M (arrOf I)).length = 84) := Lib.hid (tC_len M (arrOf_len I))
  have HTN : Hid ((tC M (arrOf I)).toArray.all (·.oneCell') = true) := Lib.hid (tC_one M _)
  obtain ⟨T, hT⟩ : ∃ T, T = tC M (arrOf I) := ⟨_, rfl⟩
  rw [← hT] at HTO HTL HTN
  have HTE := Lib.hid hT
  have HTS : Hid (T.toArray.size = 84) := Lib.hid (by rw [List.size_toArray, HTL.out])
  obtain ⟨b1, hb1⟩ : ∃ b, b = (memOk M && isok I) := ⟨_, rfl⟩
  obtain ⟨b2, hb2⟩ : ∃ b, b = envB E := ⟨_, rfl⟩
  obtain ⟨b3, hb3⟩ : ∃ b, b = cOk C := ⟨_, rfl⟩
  rw [← hb1] at HTO
  rw [← hb2] at HEO
  rw [← hb3] at HCO
  have HV1 := Lib.hid hb1
  have HV2 := Lib.hid hb2
  have HV3 := Lib.hid hb3
  have HBAD : Hid (∀ W, VarL w X Z W ∨ (∃ L, VarL w X L W ∧ L.length = 108) → kvalid ⟨M, I, E, C⟩ = false → (W.setCells X 0 Z).rangeAt X 0 Z ∧ R (.returned (.tuple #[.agg Z.toArray, .bool false])) (W.setCells X 0 Z)) := Lib.hid (fun W hW hk => by
    have hset : VarL w X Z (W.setCells X 0 Z) := by
      rcases hW with hW | ⟨L, hW, hl⟩
      · exact hW.set rfl
      · exact hW.set (by rw [HZL.out, hl])
    refine ⟨hset.at0, ?_⟩
    rw [HRR.out]
    exact ⟨Z, by rw [hk], HZL.out, HZO.out, hset.bel, fun hh => by rw [hk] at hh; cases hh⟩)
  clear hZ hzt hze hzr hP0 hX hW0 hT hb1 hb2 hb3 h hs hse
  obtain ⟨q0, q1, q2, q3⟩ := HP0.out.cells
  go_enter Tryz.func22, Tryz.ntmps22
  go_wp2_with (first | ((with_reducible refine alloc_is 67 ?_); refine alloc_arr 67 Z.toArray HZ.out ?_; rw [← HPE.out, ← HXE.out, ← HW0.out]) | fail)
  refine (HTO.out W0 HP0.out.bel).mono ?_
  rintro _ w1 ⟨rfl, hb⟩
  obtain ⟨Y1, hY1⟩ : ∃ Y, Y = w1.heap.size := ⟨_, rfl⟩
  obtain ⟨W1, hW1⟩ : ∃ W1, W1 = (w1.alloc (.cells zt.toArray 96)).setCells Y1 0 T := ⟨_, rfl⟩
  have HK1 : Hid (Below W0.heap.size W0 W1) := Lib.hid (by rw [hW1, hY1]; exact bel_var hb _ _ _)
  have HMK1 := Lib.hid (VarL.make (w := w) (w1 := w1) (L := T) (Z := zt.toArray) 96 (HP0.out.bel.trans (hb.mono HP0.out.bel.size)) (by rw [List.size_toArray, HZTL.out, HTL.out]))
  have HT1 : Hid (VarL w Y1 T W1) := Lib.hid (by rw [hW1, hY1]; exact HMK1.out.2)
  have HTH1 : Hid ((w1.alloc (.cells zt.toArray 96)).there Y1 0 T.toArray.size) := Lib.hid (by rw [hY1, List.size_toArray]; exact HMK1.out.1)
  have HP1 := Lib.hid (HP0.out.go HK1.out)
  have HX1 := Lib.hid (HX0.out.after HK1.out)
  have HY1 := Lib.hid hY1
  have HW1 := Lib.hid hW1
  clear hb hY1 hW1 HMK1 q0 q1 q2 q3
  obtain ⟨q0, q1, q2, q3⟩ := HP1.out.cells
  go_wp2_with (first | ((with_reducible refine alloc_is 96 ?_); refine alloc_arr 96 zt.toArray ZT.out ?_; rw [← HY1.out]) | ((with_reducible refine store_is 96 (.tmp 4) (.tmp 17) ?_); refine store_arr 96 (.tmp 4) (.tmp 17) Y1 0 T.toArray rfl rfl HTH1.out (info_tables HTS.out) HTN.out ?_; rw [show T.toArray.toList = T from rfl, ← HW1.out]) | fail)
  refine (HEO.out W1 HP1.out.bel).mono ?_
  rintro _ w2 ⟨YE, rfl, hyl, hyo, hb, hyb⟩
  have HYL := Lib.hid hyl
  have HYO := Lib.hid hyo
  have HYB := Lib.hid hyb
  have HYS : Hid (YE.toArray.size = 6) := Lib.hid (by rw [List.size_toArray, hyl])
  obtain ⟨Y2, hY2⟩ : ∃ Y, Y = w2.heap.size := ⟨_, rfl⟩
  obtain ⟨W2, hW2⟩ : ∃ W2, W2 = (w2.alloc (.cells ze.toArray 50)).setCells Y2 0 YE := ⟨_, rfl⟩
  have HK2 : Hid (Below W1.heap.size W1 W2) := Lib.hid (by rw [hW2, hY2]; exact bel_var hb _ _ _)
  have HKW2 : Hid (Below w2.heap.size w2 W2) := Lib.hid (by rw [hW2, hY2]; exact bel_var (Below.refl _ _) _ _ _)
  have HMK2 := Lib.hid (VarL.make (w := w) (w1 := w2) (L := YE) (Z := ze.toArray) 50 (HP1.out.bel.trans (hb.mono HP1.out.bel.size)) (by rw [List.size_toArray, HZEL.out, hyl]))
  have HE2 : Hid (VarL w Y2 YE W2) := Lib.hid (by rw [hW2, hY2]; exact HMK2.out.2)
  have HTH2 : Hid ((w2.alloc (.cells ze.toArray 50)).there Y2 0 YE.toArray.size) := Lib.hid (by rw [hY2, List.size_toArray]; exact HMK2.out.1)
  have HP2 := Lib.hid (HP1.out.go HK2.out)
  have HX2 := Lib.hid (HX1.out.after HK2.out)
  have HT2 := Lib.hid (HT1.out.after HK2.out)
  have HY2 := Lib.hid hY2
  have HW2 := Lib.hid hW2
  clear hb hY2 hW2 HMK2 q0 q1 q2 q3 hyl hyo hyb
  obtain ⟨q0, q1, q2, q3⟩ := HP2.out.cells
  go_wp2_with (first | ((with_reducible refine alloc_is 50 ?_); refine alloc_arr 50 ze.toArray ZE.out ?_; rw [← HY2.out]) | ((with_reducible refine store_is 50 (.tmp 6) (.tmp 23) ?_); refine store_arr 50 (.tmp 6) (.tmp 23) Y2 0 YE.toArray rfl rfl HTH2.out (info_envs HYS.out) HYO.out ?_; rw [show YE.toArray.toList = YE from rfl, ← HW2.out]) | fail)
  refine (HCO.out W2 HP2.out.bel).mono ?_
  rintro _ w3 ⟨ur, rfl, ⟨A, fi, cn, rfl, hfi, hcn, hrl⟩, hb⟩
  unfold ringV
  obtain ⟨RC, hRC⟩ : ∃ RC, RC = ringC A fi cn := ⟨_, rfl⟩
  have HRO : Hid (RC.toArray.all (·.oneCell') = true) := Lib.hid (by rw [hRC]; exact ringC_one A fi cn)
  have HRL : Hid (RC.length = 18) := Lib.hid (by rw [hRC]; rfl)
  rw [← hRC]
  have HRS : Hid (RC.toArray.size = 18) := Lib.hid (by rw [List.size_toArray, HRL.out])
  have HRE := Lib.hid hRC
  have HRI := Lib.hid (And.intro hfi (And.intro hcn hrl))
  obtain ⟨Y3, hY3⟩ : ∃ Y, Y = w3.heap.size := ⟨_, rfl⟩
  obtain ⟨W3, hW3⟩ : ∃ W3, W3 = (w3.alloc (.cells zr.toArray 65)).setCells Y3 0 RC := ⟨_, rfl⟩
  have HK3 : Hid (Below W2.heap.size W2 W3) := Lib.hid (by rw [hW3, hY3]; exact bel_var hb _ _ _)
  have HMK3 := Lib.hid (VarL.make (w := w) (w1 := w3) (L := RC) (Z := zr.toArray) 65 (HP2.out.bel.trans (hb.mono HP2.out.bel.size)) (by rw [List.size_toArray, HZRL.out, HRL.out]))
  have HR3 : Hid (VarL w Y3 RC W3) := Lib.hid (by rw [hW3, hY3]; exact HMK3.out.2)
  have HTH3 : Hid ((w3.alloc (.cells zr.toArray 65)).there Y3 0 RC.toArray.size) := Lib.hid (by rw [hY3, List.size_toArray]; exact HMK3.out.1)
  have HX3 := Lib.hid (HX2.out.after HK3.out)
  have HT3 := Lib.hid (HT2.out.after HK3.out)
  have HE3 := Lib.hid (HE2.out.after HK3.out)
  have HB3 : Hid (Below w.heap.size w W3) := Lib.hid HX3.out.bel
  have HS3 : Hid (b2 = true → ∃ bs : Nat → Nat, YE = mapC (fun j => some (bs j)) (fun j => (E.getD j ez).t) ∧ ∀ j, j < 3 → SetAt W3 (bs j) (E.getD j ez).r) := Lib.hid (fun hh => by
    obtain ⟨bs, h1, h2⟩ := HYB.out hh
    exact ⟨bs, h1, fun j hj => ((h2 j hj).below HKW2.out).below HK3.out⟩)
  have HY3 := Lib.hid hY3
  have HW3 := Lib.hid hW3
  clear hb hY3 hW3 HMK3 q0 q1 q2 q3 hfi hcn hrl hRC
  have HTHX : Hid (W3.there X 0 Z.toArray.size) := Lib.hid (by rw [List.size_toArray]; exact HX3.out.th)
  have HZS : Hid (Z.toArray.size = 108) := Lib.hid (by rw [List.size_toArray, HZL.out])
  by_cases hall : b1 = true ∧ b2 = true ∧ b3 = true
  · obtain ⟨rfl, rfl, rfl⟩ := hall
    obtain ⟨bs, hye, hsets⟩ := HS3.out (by trivial)
    have hmi : memOk M = true ∧ isok I = true := by have := HV1.out.symm; rw [Bool.and_eq_true] at this; exact this
    have HVV : Hid (kvalid ⟨M, I, E, C⟩ = vB M I E C) := Lib.hid (kvalid_vB hmi.1 hmi.2 HV2.out.symm HV3.out.symm)
    have hte : T = flatL M ++ isC I := by rw [HTE.out, arrOf_ok hmi.2]; unfold tC; rw [mC_ok hmi.1]
    have hR1 : W3.rangeAt Y1 0 (flatL M ++ isC I) := by rw [← hte]; exact HT3.out.at0
    have HMA := Lib.hid (range_left hR1)
    have HMB : Hid (W3.rangeAt Y1 48 (isC I)) := Lib.hid (range_right (o2 := 48) hR1 (by rw [flat_len hmi.1]))
    have HAL : Hid ((flatL M).length = 48) := Lib.hid (flat_len hmi.1)
    have HBL : Hid ((isC I).length = 36) := Lib.hid (isC_36 (isok_len hmi.2))
    have HBK := Lib.hid (fun W => run_build_kernel (flatL M) (isC I) YE RC HAL.out HBL.out HYL.out HRL.out W)
    obtain ⟨L, hL⟩ : ∃ L, L = flatL M ++ (isC I ++ (YE ++ RC)) := ⟨_, rfl⟩
    have HKL : Hid (KL W3 M I E bs (ringC A fi cn) L) := Lib.hid ⟨hmi.1, hmi.2, by have := HV2.out.symm; unfold envB at this; rw [Bool.and_eq_true, decide_eq_true_eq] at this; exact this.2, by rw [hL, hye, ← HRE.out]; rfl, by rw [← HRE.out]; exact HRL.out, by rw [← HRE.out]; exact HRO.out, hsets⟩
    rw [← hL] at HBK
    have HLL := Lib.hid HKL.out.len
    have HLO := Lib.hid HKL.out.one
    have HLS : Hid (L.toArray.size = 108) := Lib.hid (by rw [List.size_toArray, HLL.out])
    obtain ⟨FA, hFA⟩ : ∃ FA, FA = flatL M := ⟨_, rfl⟩
    obtain ⟨FB, hFB⟩ : ∃ FB, FB = isC I := ⟨_, rfl⟩
    rw [← hFA] at HMA HAL HBK
    rw [← hFB] at HMB HBL HBK
    obtain ⟨Y4, hY4⟩ : ∃ Y, Y = W3.heap.size := ⟨_, rfl⟩
    obtain ⟨W4, hW4⟩ : ∃ W4, W4 = (W3.alloc (.cells Z.toArray 67)).setCells Y4 0 L := ⟨_, rfl⟩
    have HK4 : Hid (Below W3.heap.size W3 W4) := Lib.hid (by rw [hW4, hY4]; exact bel_var (Below.refl _ _) _ _ _)
    have HMK4 := Lib.hid (VarL.make (w := w) (w1 := W3) (L := L) (Z := Z.toArray) 67 HB3.out (by rw [List.size_toArray, HZL.out, HLL.out]))
    have HL4 : Hid (VarL w Y4 L W4) := Lib.hid (by rw [hW4, hY4]; exact HMK4.out.2)
    have HTH4 : Hid ((W3.alloc (.cells Z.toArray 67)).there Y4 0 L.toArray.size) := Lib.hid (by rw [hY4, List.size_toArray]; exact HMK4.out.1)
    have HX4 := Lib.hid (HX3.out.after HK4.out)
    have HKL4 := Lib.hid (HKL.out.below HK4.out)
    have HVA := Lib.hid (kvalid_any W4 M I E bs A fi cn L HKL4.out HRI.out.1 HRI.out.2.1 C HRI.out.2.2 HV3.out.symm)
    have HNE : Hid (X ≠ Y4) := Lib.hid (by rw [hY4]; have := HX3.out.hi; omega)
    obtain ⟨rv, hrv⟩ : ∃ r, r = vB M I E C := ⟨_, rfl⟩
    rw [← hrv] at HVA HVV
    have HY4 := Lib.hid hY4
    have HW4 := Lib.hid hW4
    clear hL hye hsets hmi hte hR1 hFA hFB hY4 hW4 HMK4 hrv
    go_wp2_with (first | ((with_reducible refine load_is 56 (.tmp 42) ?_); refine load_arr 56 (.tmp 42) Y1 0 FA _ rfl HMA.out Tryz.underlying56 rfl (info_mem HAL.out) ?_) | ((with_reducible refine load_is 60 (.tmp 44) ?_); refine load_arr 60 (.tmp 44) Y1 48 FB _ rfl HMB.out Tryz.underlying60 rfl (info_infos HBL.out) ?_) | ((with_reducible refine alloc_is 65 ?_); refine alloc_arr 65 zr.toArray ZR.out ?_; rw [← HY3.out]) | ((with_reducible refine store_is 65 (.tmp 8) (.tmp 29) ?_); refine store_arr 65 (.tmp 8) (.tmp 29) Y3 0 RC.toArray rfl rfl HTH3.out (info_ring HRS.out) HRO.out ?_; rw [show RC.toArray.toList = RC from rfl, ← HW3.out]) | ((with_reducible refine load_is 50 (.tmp 6) ?_); refine load_arr 50 (.tmp 6) Y2 0 YE _ rfl HE3.out.at0 Tryz.underlying50 rfl (info_envs HYL.out) ?_) | ((with_reducible refine load_is 65 (.tmp 8) ?_); refine load_arr 65 (.tmp 8) Y3 0 RC _ rfl HR3.out.at0 Tryz.underlying65 rfl (info_ring HRL.out) ?_) | ((with_reducible refine buildp_is 67 #[(0, .tmp 43), (1, .tmp 45), (2, .tmp 46), (3, .tmp 47)] ?_); refine build_run4 67 (.tmp 43) (.tmp 45) (.tmp 46) (.tmp 47) (.agg FA.toArray) (.agg FB.toArray) (.agg YE.toArray) (.agg RC.toArray) rfl rfl rfl rfl L.toArray HBK.out ?_) | ((with_reducible refine alloc_is 67 ?_); refine alloc_arr 67 Z.toArray HZ.out ?_; rw [← HY4.out]) | ((with_reducible refine store_is 67 (.tmp 10) (.tmp 48) ?_); refine store_arr 67 (.tmp 10) (.tmp 48) Y4 0 L.toArray rfl rfl HTH4.out (info_kernel HLS.out) HLO.out ?_; rw [show L.toArray.toList = L from rfl, ← HW4.out]) | ((with_reducible refine load_is 67 (.tmp 10) ?_); refine load_arr 67 (.tmp 10) Y4 0 L _ rfl HL4.out.at0 Tryz.underlying67 rfl (info_kernel HLL.out) ?_) | fail)
    refine HVA.out.mono ?_
    rintro _ W5 ⟨rfl, hb5⟩
    have HX5 := Lib.hid (HX4.out.after hb5)
    have HL5 := Lib.hid (HL4.out.after hb5)
    have HKL5 := Lib.hid (HKL4.out.below hb5)
    have HTX5 : Hid (W5.there X 0 108) := Lib.hid (by rw [← HZL.out]; exact HX5.out.th)
    clear hb5
    cases rv with
    | false =>
      have HBD := Lib.hid (HBAD.out W5 (.inl HX5.out) HVV.out)
      go_wp2_with (first | ((with_reducible refine build_is 67 ?_); refine build_run0 67 Z.toArray HBZ.out ?_) | ((with_reducible refine store_is 67 (.tmp 2) (.tmp 52) ?_); refine store_arr 67 (.tmp 2) (.tmp 52) X 0 Z.toArray rfl rfl (by rw [HZS.out]; exact HTX5.out) (info_kernel HZS.out) HZO.out ?_) | fail)
      refine bodyPost_ret (results_cell_mid rfl _ _ X 0 Z _ rfl HBD.out.1 Tryz.underlying67 rfl (info_kernel HZL.out)) rfl ?_
      exact HBD.out.2
    | true =>
      have HXF : Hid (VarL w X L (W5.setCells X 0 L)) := Lib.hid (HX5.out.set (by rw [HLL.out, HZL.out]))
      have HFIN : Hid (R (.returned (.tuple #[.agg L.toArray, .bool true])) (W5.setCells X 0 L)) := Lib.hid (by
        rw [HRR.out]
        refine ⟨L, by rw [HVV.out], HLL.out, HLO.out, HXF.out.bel, fun _ => ⟨bs, A, fi, cn, ⟨HKL5.out.m, HKL5.out.i, HKL5.out.n, HKL5.out.L, HKL5.out.r, HKL5.out.ro, fun j hj => (HKL5.out.set j hj).stored ((HKL5.out.set j hj).ne_there HTX5.out (by omega)) _⟩, HRI.out.1, HRI.out.2.1, HRI.out.2.2⟩⟩)
      go_wp2_with (first | ((with_reducible refine load_is 67 (.tmp 10) ?_); refine load_arr 67 (.tmp 10) Y4 0 L _ rfl HL5.out.at0 Tryz.underlying67 rfl (info_kernel HLL.out) ?_) | ((with_reducible refine store_is 67 (.tmp 2) (.tmp 53) ?_); refine store_arr 67 (.tmp 2) (.tmp 53) X 0 L.toArray rfl rfl (by rw [HLS.out]; exact HTX5.out) (info_kernel HLS.out) HLO.out ?_) | fail)
      refine bodyPost_ret (results_cell_mid rfl _ _ X 0 L _ rfl HXF.out.at0 Tryz.underlying67 rfl (info_kernel HLL.out)) rfl ?_
      exact HFIN.out
  · have HKB : Hid (kvalid ⟨M, I, E, C⟩ = false) := Lib.hid (kvalid_bad (by
      rw [← HV1.out, ← HV2.out, ← HV3.out]
      cases b1
      · exact .inl rfl
      · cases b2
        · exact .inr (.inl rfl)
        · cases b3
          · exact .inr (.inr rfl)
          · exact absurd ⟨rfl, rfl, rfl⟩ hall))
    have HBD := Lib.hid (HBAD.out W3 (.inl HX3.out) HKB.out)
    have HN3 : Hid (b1 = true → b2 = true → b3 = true → False) := Lib.hid (fun h1 h2 h3 => hall ⟨h1, h2, h3⟩)
    clear hall HS3 HYB
    cases b1
    · go_wp2_with (first | ((with_reducible refine alloc_is 65 ?_); refine alloc_arr 65 zr.toArray ZR.out ?_; rw [← HY3.out]) | ((with_reducible refine store_is 65 (.tmp 8) (.tmp 29) ?_); refine store_arr 65 (.tmp 8) (.tmp 29) Y3 0 RC.toArray rfl rfl HTH3.out (info_ring HRS.out) HRO.out ?_; rw [show RC.toArray.toList = RC from rfl, ← HW3.out]) | ((with_reducible refine build_is 67 ?_); refine build_run0 67 Z.toArray HBZ.out ?_) | ((with_reducible refine store_is 67 (.tmp 2) (.tmp 41) ?_); refine store_arr 67 (.tmp 2) (.tmp 41) X 0 Z.toArray rfl rfl HTHX.out (info_kernel HZS.out) HZO.out ?_) | fail)
      refine bodyPost_ret (results_cell_mid rfl _ _ X 0 Z _ rfl HBD.out.1 Tryz.underlying67 rfl (info_kernel HZL.out)) rfl ?_
      exact HBD.out.2
    · cases b2
      · go_wp2_with (first | ((with_reducible refine alloc_is 65 ?_); refine alloc_arr 65 zr.toArray ZR.out ?_; rw [← HY3.out]) | ((with_reducible refine store_is 65 (.tmp 8) (.tmp 29) ?_); refine store_arr 65 (.tmp 8) (.tmp 29) Y3 0 RC.toArray rfl rfl HTH3.out (info_ring HRS.out) HRO.out ?_; rw [show RC.toArray.toList = RC from rfl, ← HW3.out]) | ((with_reducible refine build_is 67 ?_); refine build_run0 67 Z.toArray HBZ.out ?_) | ((with_reducible refine store_is 67 (.tmp 2) (.tmp 41) ?_); refine store_arr 67 (.tmp 2) (.tmp 41) X 0 Z.toArray rfl rfl HTHX.out (info_kernel HZS.out) HZO.out ?_) | fail)
        refine bodyPost_ret (results_cell_mid rfl _ _ X 0 Z _ rfl HBD.out.1 Tryz.underlying67 rfl (info_kernel HZL.out)) rfl ?_
        exact HBD.out.2
      · cases b3
        · go_wp2_with (first | ((with_reducible refine alloc_is 65 ?_); refine alloc_arr 65 zr.toArray ZR.out ?_; rw [← HY3.out]) | ((with_reducible refine store_is 65 (.tmp 8) (.tmp 29) ?_); refine store_arr 65 (.tmp 8) (.tmp 29) Y3 0 RC.toArray rfl rfl HTH3.out (info_ring HRS.out) HRO.out ?_; rw [show RC.toArray.toList = RC from rfl, ← HW3.out]) | ((with_reducible refine build_is 67 ?_); refine build_run0 67 Z.toArray HBZ.out ?_) | ((with_reducible refine store_is 67 (.tmp 2) (.tmp 41) ?_); refine store_arr 67 (.tmp 2) (.tmp 41) X 0 Z.toArray rfl rfl HTHX.out (info_kernel HZS.out) HZO.out ?_) | fail)
          refine bodyPost_ret (results_cell_mid rfl _ _ X 0 Z _ rfl HBD.out.1 Tryz.underlying67 rfl (info_kernel HZL.out)) rfl ?_
          exact HBD.out.2
        · exact (HN3.out rfl rfl rfl).elim
end Go.Proofs.YthfdkenidfnmgaaGreat
namespace Go.Proofs.YthfdkenidfnmgaaGreat
open Go.ChangeShapes Go.WideShapes Go.ChangeAt Go.RowKit Go.Maps Go.Shelf
set_option linter.unusedVariables false
set_option linter.unusedSimpArgs false
set_option maxRecDepth 100000
abbrev IKV : Prop := ∀ (w : World) (vm vi ve vc : Value) (K : KV), Ks w vm vi ve vc K → ShortI K.i → Short3 K.e → Calls Tryz.prog 9 #[kV vm vi ve vc] w (BRes (kvalid K) w)
set_option maxHeartbeats 4000000 in
theorem ikvalid_any : IKV := by
  intro w vm vi ve vc K h hs hse
  have HKP := Lib.hid (fun t => KP.start w vm vi ve vc t)
  have HKO : Hid (∀ W, Below w.heap.size w W → Calls Tryz.prog 22 #[kV vm vi ve vc] W (KOfR K W)) := Lib.hid (fun W hW => kernelOf_any W vm vi ve vc K (h.below hW) hs hse)
  unfold KOfR at HKO
  have HZ := Lib.hid zero_kernel
  have HZL := Lib.hid Z108_len
  obtain ⟨Z, hZ⟩ : ∃ Z, Z = Z108 := ⟨_, rfl⟩
  rw [← hZ] at HZ HZL
  obtain ⟨W0, hW0⟩ : ∃ W0, W0 = w.alloc (.cells #[vm, vi, ve, vc] 30) := ⟨_, rfl⟩
  have HP0 : Hid (KP w W0 vm vi ve vc) := Lib.hid (by rw [hW0]; exact HKP.out _)
  have HW0 := Lib.hid hW0
  clear hZ hW0 h hs hse
  go_enter Tryz.func9, Tryz.ntmps9
  go_wp2_with fail
  rw [← HW0.out]
  refine (HKO.out W0 HP0.out.bel).mono ?_
  rintro _ w1 ⟨L, rfl, hl, ho, hb, hkl⟩
  obtain ⟨Y, hY⟩ : ∃ Y, Y = w1.heap.size := ⟨_, rfl⟩
  obtain ⟨W1, hW1⟩ : ∃ W1, W1 = (w1.alloc (.cells Z.toArray 67)).setCells Y 0 L := ⟨_, rfl⟩
  have HMK := Lib.hid (VarL.make (w := w) (w1 := w1) (L := L) (Z := Z.toArray) 67 (HP0.out.bel.trans (hb.mono HP0.out.bel.size)) (by rw [List.size_toArray, HZL.out, hl]))
  have HL1 : Hid (VarL w Y L W1) := Lib.hid (by rw [hW1, hY]; exact HMK.out.2)
  have HTH : Hid ((w1.alloc (.cells Z.toArray 67)).there Y 0 L.toArray.size) := Lib.hid (by rw [hY, List.size_toArray]; exact HMK.out.1)
  have HLL := Lib.hid hl
  have HLO := Lib.hid ho
  have HLS : Hid (L.toArray.size = 108) := Lib.hid (by rw [List.size_toArray, hl])
  have HBW : Hid (Below w1.heap.size w1 W1) := Lib.hid (by rw [hW1, hY]; exact bel_var (Below.refl _ _) _ _ _)
  have HKL := Lib.hid (fun hk => by
    obtain ⟨bs, A, f, c, h1, h2, h3, h4⟩ := hkl hk
    exact (⟨bs, A, f, c, h1.below HBW.out, h2, h3, h4⟩ : ∃ (bs : Nat → Nat) (A : Nat → CV) (f c : Nat), KL W1 K.m K.i K.e bs (ringC A f c) L ∧ f < 4 ∧ c ≤ 4 ∧ rlist A f c = K.c))
  have HY := Lib.hid hY
  have HW1 := Lib.hid hW1
  clear hl ho hb hkl hY hW1 HMK
  obtain ⟨b, hb⟩ : ∃ b, b = kvalid K := ⟨_, rfl⟩
  have HBB := Lib.hid hb
  rw [← hb]
  clear hb
  go_wp2_with (first | ((with_reducible refine alloc_is 67 ?_); refine alloc_arr 67 Z.toArray HZ.out ?_; rw [← HY.out]) | ((with_reducible refine store_is 67 (.tmp 3) (.tmp 8) ?_); refine store_arr 67 (.tmp 3) (.tmp 8) Y 0 L.toArray rfl rfl HTH.out (info_kernel HLS.out) HLO.out ?_; rw [show L.toArray.toList = L from rfl, ← HW1.out]) | fail)
  go_ret
  exact ⟨by rw [← HBB.out]; rfl, HL1.out.bel⟩
end Go.Proofs.YthfdkenidfnmgaaGreat
namespace Go.Proofs.YthfdkenidfnmgaaGreat
open Go.ChangeShapes Go.WideShapes Go.ChangeAt Go.RowKit Go.Maps Go.Shelf
set_option linter.unusedVariables false
set_option linter.unusedSimpArgs false
set_option maxRecDepth 100000
structure KB4 (W : World) (Y : Nat) (um ui ue uc : Value) : Prop where
  lt : Y < W.heap.size
  c0 : W.cell? ⟨Y, 0, none⟩ = some um
  c1 : W.cell? ⟨Y, 1, none⟩ = some ui
  c2 : W.cell? ⟨Y, 2, none⟩ = some ue
  c3 : W.cell? ⟨Y, 3, none⟩ = some uc
theorem KB4.new (w : World) (um ui ue uc : Value) (t : TypeId) : KB4 (w.alloc (.cells #[um, ui, ue, uc] t)) w.heap.size um ui ue uc := ⟨by simp, new_cell rfl, new_cell rfl, new_cell rfl, new_cell rfl⟩
theorem KB4.chg {lo hi : Nat} {W W' : World} {Y : Nat} {um ui ue uc : Value} (h : KB4 W Y um ui ue uc) (c : Chg lo hi W W') (hh : Y < lo ∨ hi ≤ Y) : KB4 W' Y um ui ue uc := by
  have e := c.block Y h.lt hh
  exact ⟨Nat.lt_of_lt_of_le h.lt c.size, (World.cell?_of_block e).trans h.c0, (World.cell?_of_block e).trans h.c1, (World.cell?_of_block e).trans h.c2, (World.cell?_of_block e).trans h.c3⟩
theorem KB4.go {W W' : World} {Y : Nat} {um ui ue uc : Value} (h : KB4 W Y um ui ue uc) (hb : Below W.heap.size W W') : KB4 W' Y um ui ue uc := h.chg (Chg.of_below hb) (.inr (Nat.zero_le _))
theorem KB4.cells {W : World} {Y : Nat} {um ui ue uc : Value} (h : KB4 W Y um ui ue uc) : W.cell? ⟨Y, 0, none⟩ = some um ∧ W.cell? ⟨Y, 1, none⟩ = some ui ∧ W.cell? ⟨Y, 2, none⟩ = some ue ∧ W.cell? ⟨Y, 3, none⟩ = some uc := ⟨h.c0, h.c1, h.c2, h.c3⟩
theorem Ks.go {w w' : World} {vm vi ve vc : Value} {K : KV} (h : Ks w vm vi ve vc K) (hb : Below w.heap.size w w') : Ks w' vm vi ve vc K := h.below hb
end Go.Proofs.YthfdkenidfnmgaaGreat
namespace Go.Proofs.YthfdkenidfnmgaaGreat
open Go.ChangeShapes Go.WideShapes Go.ChangeAt Go.RowKit
set_option linter.unusedVariables false
set_option linter.unusedSimpArgs false
set_option maxRecDepth 100000
def pz : Value × Int := (.slice none 0 0, 0)
def ecC (ps : List (Value × Int)) : List Value := ps.flatMap (fun p => [p.1, .int .i64 p.2])
theorem ecC_app (xs ys : List (Value × Int)) : ecC (xs ++ ys) = ecC xs ++ ecC ys := by simp [ecC]
theorem ecC_len (xs : List (Value × Int)) : (ecC xs).length = xs.length * 2 := by
  induction xs with
  | nil => rfl
  | cons x xs ih => simp only [ecC, List.flatMap_cons, List.length_append] at ih ⊢; rw [ih]; simp; omega
theorem ecC_get (xs : List (Value × Int)) {i j : Nat} (hi : i < xs.length) (hj : j < 2) : (ecC xs)[i * 2 + j]? = [(xs.getD i pz).1, .int .i64 (xs.getD i pz).2][j]? := by
  have e : xs = xs.take i ++ ([xs.getD i pz] ++ xs.drop (i + 1)) := by
    rw [← List.append_assoc, ← take_snoc_getD xs i pz hi, List.take_append_drop]
  have h1 : (ecC (xs.take i)).length = i * 2 := by rw [ecC_len, List.length_take]; omega
  have h2 : ecC xs = ecC (xs.take i) ++ ([(xs.getD i pz).1, .int .i64 (xs.getD i pz).2] ++ ecC (xs.drop (i + 1))) := by
    conv => lhs; rw [e]
    simp [ecC]
  rw [h2, List.getElem?_append_right (by omega), h1, Nat.add_sub_cancel_left, List.getElem?_append_left (by simp; omega)]
theorem own_belowE {w w' : World} {B s : Nat} {e : TypeId} {v : Value} {n : Nat} {x : List Value} (h : w.ownsRow B e s v n x) (hb : Below w.heap.size w w') : w'.ownsRow B e s v n x :=
  h.kept (row := none) ⟨hb.os, hb.tape, hb.output, hb.size, fun k hk _ => hb.block k hk⟩ (by cases v.ownBlock <;> simp)
theorem Strs.keptG {w w' : World} {row : Option Nat} {v : Value} {xs : List Bs} (h : Strs w v xs) (hg : w.grownBy w' row) (hne : ∀ g, v.ownBlock = some g → xs.length ≠ 0 → row ≠ some g) : Strs w' v xs := by
  obtain ⟨a, cap, rfl, h1, h2, h3⟩ := h
  refine ⟨a, cap, rfl, h1, h2, fun i hi => ?_⟩
  obtain ⟨b, o, rfl, hc⟩ := h3 i hi
  exact ⟨b, o, rfl, (World.cell?_of_block (hg.block b (cell_lt hc) (fun e => hne b rfl (by omega) e.symm))).trans hc⟩
structure OwnE (B : Nat) (W : World) (v : Value) (E : List EV) (ps : List (Value × Int)) : Prop where
  own : W.ownsRow B 37 2 v E.length (ecC ps)
  len : ps.length = E.length
  row : ∀ i, i < E.length → (ps.getD i pz).2 = (E.getD i ez).t ∧ Strs W (ps.getD i pz).1 (E.getD i ez).r
  apart : ∀ i, i < E.length → ∀ g, (ps.getD i pz).1.ownBlock = some g → (E.getD i ez).r.length ≠ 0 → g < W.heap.size ∧ v.ownBlock ≠ some g
theorem OwnE.made {W : World} {B b : Nat} (h : W.heap[b]? = some (.cells #[] 37 (0, 0))) (hB : B ≤ b) : OwnE B W (.slice (some ⟨b, 0, none⟩) 0 0) [] [] :=
  ⟨⟨rfl, .inr ⟨b, 0, #[], rfl, hB, h, Nat.le_refl _, Nat.zero_le _, rfl, rfl⟩⟩, rfl, fun i hi => by simp at hi, fun i hi => by simp at hi⟩
theorem OwnE.nil (B : Nat) (W : World) : OwnE B W (.slice none 0 0) [] [] := ⟨World.ownsRow_nil _ _ _ _, rfl, fun i hi => by simp at hi, fun i hi => by simp at hi⟩
theorem OwnE.go {B : Nat} {w w' : World} {v : Value} {E : List EV} {ps : List (Value × Int)} (h : OwnE B w v E ps) (hb : Below w.heap.size w w') : OwnE B w' v E ps :=
  ⟨own_belowE h.own hb, h.len, fun i hi => ⟨(h.row i hi).1, (h.row i hi).2.below hb⟩, fun i hi g hg hz => ⟨Nat.lt_of_lt_of_le (h.apart i hi g hg hz).1 hb.size, (h.apart i hi g hg hz).2⟩⟩
theorem OwnE.keptG {B : Nat} {w w' : World} {row : Option Nat} {v : Value} {E : List EV} {ps : List (Value × Int)} (h : OwnE B w v E ps) (hg : w.grownBy w' row) (h1 : v.ownBlock = none ∨ v.ownBlock ≠ row) (h2 : ∀ i, i < E.length → ∀ g, (ps.getD i pz).1.ownBlock = some g → (E.getD i ez).r.length ≠ 0 → row ≠ some g) : OwnE B w' v E ps :=
  ⟨h.own.kept hg h1, h.len, fun i hi => ⟨(h.row i hi).1, (h.row i hi).2.keptG hg (h2 i hi)⟩, fun i hi g e hz => ⟨Nat.lt_of_lt_of_le (h.apart i hi g e hz).1 hg.size, (h.apart i hi g e hz).2⟩⟩
theorem OwnE.es {B : Nat} {w : World} {v : Value} {E : List EV} {ps : List (Value × Int)} (h : OwnE B w v E ps) : Es w v E := by
  rcases h.own.2 with ⟨e, hz⟩ | ⟨g, cap, cur, rfl, hb, hbl, hnc, hcm, hcs, htk⟩
  · exact ⟨none, 0, by rw [e, hz], by omega, Nat.zero_le _, fun i hi => by omega⟩
  · refine ⟨some ⟨g, 0, none⟩, cap, rfl, hnc, hcm, fun i hi => ?_⟩
    have hc : ∀ j v, j < 2 → [(ps.getD i pz).1, Value.int .i64 (ps.getD i pz).2][j]? = some v → w.cell? ⟨g, 0 + (i * 2 + j), none⟩ = some v := fun j v hj hv => by
      have := h.own.cells (g := g) rfl (i * 2 + j) v (by rw [ecC_get ps (by rw [h.len]; exact hi) hj]; exact hv)
      rw [add0] at this
      rwa [Nat.zero_add]
    obtain ⟨h1, h2⟩ := h.row i hi
    refine ⟨g, 0, _, rfl, hc 0 _ (by omega) rfl, ?_, h2⟩
    rw [← h1]
    exact hc 1 _ (by omega) rfl
theorem Strs.oneCell {w : World} {v : Value} {xs : List Bs} (h : Strs w v xs) : v.oneCell' = true := by
  obtain ⟨a, cap, rfl, _⟩ := h
  rfl
theorem getD_snoc_lt {α : Type} {xs : List α} {y d : α} {i : Nat} (h : i < xs.length) : (xs ++ [y]).getD i d = xs.getD i d := by
  rw [getD_lt (by rw [List.length_append]; omega), getD_lt h, List.getElem_append_left h]
theorem getD_snoc_at {α : Type} {xs : List α} {y d : α} {i : Nat} (h : i = xs.length) : (xs ++ [y]).getD i d = y := by
  subst h
  rw [getD_lt (by simp)]
  simp
theorem wp_append_es1 {a : Act} {w : World} {K : Act → World → Prop} {Q : Exit → Act → World → Prop} {dst : Option Nat} {tt : TypeId} {pos : String} {after : Array Edge} {gd : Option (Nat × Bool)} (s x : Operand)
    (B : Nat) (v : Value) (E : List EV) (ps : List (Value × Int)) (hs : a.eval s = v) (hown : OwnE B w v E ps) (hbase : B ≤ w.heap.size) (b : Nat) (u : Value) (y : EV) (hx : a.eval x = .slice (some ⟨b, 0, none⟩) 1 1)
    (h0 : w.cell? ⟨b, 0, none⟩ = some u) (h1 : w.cell? ⟨b, 1, none⟩ = some (.int .i64 y.t)) (hu : Strs w u y.r) (hau : ∀ g, u.ownBlock = some g → y.r.length ≠ 0 → g < w.heap.size ∧ v.ownBlock ≠ some g) (hl : E.length ≤ 1000000)
    (h : ∀ v' w', OwnE B w' v' (E ++ [y]) (ps ++ [(u, y.t)]) → w.grownBy w' v.ownBlock → (v'.ownBlock = v.ownBlock ∨ v'.ownBlock = some w.heap.size) → K (a.put dst v') w') :
    Oper.wp Tryz.prog { dst := dst, op := .call { callee := .builtin .append, args := #[s, x], argTypes := #[27, 27] }, type := tt, pos := pos, after := after, guard := gd } a w K Q := by
  obtain ⟨i0, hi, hz0, hz1, hz2⟩ := info_parts evInfo
  have hnews : ∀ j z, (ecC [(u, y.t)])[j]? = some z → w.cell? ((⟨b, 0, none⟩ : Addr).add j) = some z := by
    intro j z hj
    have hjl : j < 2 := (List.getElem?_eq_some_iff.1 hj).1
    rw [addN, Nat.zero_add]
    obtain rfl | rfl : j = 0 ∨ j = 1 := by omega
    · cases hj; exact h0
    · cases hj; exact h1
  have hone : ∀ z ∈ ecC [(u, y.t)], z.oneCell' = true := by
    intro z hz
    simp only [ecC, List.flatMap_cons, List.flatMap_nil, List.append_nil, List.mem_cons, List.not_mem_nil, or_false] at hz
    rcases hz with rfl | rfl
    · exact hu.oneCell
    · rfl
  obtain ⟨v', w', hr, g2, g3, g4, g5⟩ := run_append_own_at (P := Tryz.prog) w B 27 tt 37 i0 (.agg #[.slice none 0 0, .int .i64 0]) 2 32 Tryz.underlying27 hi hz0 hz1 hz2 rfl (by decide) v E.length _ hown.own ⟨b, 0, none⟩ 1 1 (ecC [(u, y.t)]) (ecC_len _) hnews hone (by unfold maxLen; omega) (by omega) hbase
  have hlen := hown.len
  have hk := h v' w' ⟨by rw [List.length_append, ecC_app]; exact g2, by rw [List.length_append, List.length_append, hlen]; rfl, fun i hi => by
    rw [List.length_append, List.length_singleton] at hi
    by_cases hlt : i < E.length
    · rw [getD_snoc_lt (by omega), getD_snoc_lt hlt]
      exact ⟨(hown.row i hlt).1, (hown.row i hlt).2.keptG g3 (fun g hg hz => (hown.apart i hlt g hg hz).2)⟩
    · rw [getD_snoc_at (by omega), getD_snoc_at (by omega)]
      exact ⟨rfl, hu.keptG g3 (fun g hg hz => (hau g hg hz).2)⟩, fun i hi g hg hz => by
    rw [List.length_append, List.length_singleton] at hi
    have hh : g < w.heap.size ∧ v.ownBlock ≠ some g := by
      by_cases hlt : i < E.length
      · rw [getD_snoc_lt (by omega)] at hg
        rw [getD_snoc_lt hlt] at hz
        exact hown.apart i hlt g hg hz
      · rw [getD_snoc_at (by omega)] at hg
        rw [getD_snoc_at (by omega)] at hz
        exact hau g hg hz
    refine ⟨Nat.lt_of_lt_of_le hh.1 g3.size, fun e => ?_⟩
    rcases g5 with g5 | g5
    · exact hh.2 (g5 ▸ e)
    · rw [g5] at e
      injection e with e
      omega⟩ g3 g5
  unfold Oper.wp execOp
  simp only [resolve, invoke, builtin, Sem.run_bind, Sem.run_pure, Result.andThen_ok, List.map_toArray, List.map_cons, List.map_nil, hs, hx, hr]
  exact hk
theorem wpList_append_es1 {ops : Array Oper} {rest : List Oper} {a : Act} {w : World} {Q : Exit → Act → World → Prop} {dst : Option Nat} {tt : TypeId} {pos : String} {after : Array Edge} (s x : Operand)
    (B : Nat) (v : Value) (E : List EV) (ps : List (Value × Int)) (hs : a.eval s = v) (hown : OwnE B w v E ps) (hbase : B ≤ w.heap.size) (b : Nat) (u : Value) (y : EV) (hx : a.eval x = .slice (some ⟨b, 0, none⟩) 1 1)
    (h0 : w.cell? ⟨b, 0, none⟩ = some u) (h1 : w.cell? ⟨b, 1, none⟩ = some (.int .i64 y.t)) (hu : Strs w u y.r) (hau : ∀ g, u.ownBlock = some g → y.r.length ≠ 0 → g < w.heap.size ∧ v.ownBlock ≠ some g) (hl : E.length ≤ 1000000)
    (h : ∀ v' w', OwnE B w' v' (E ++ [y]) (ps ++ [(u, y.t)]) → w.grownBy w' v.ownBlock → (v'.ownBlock = v.ownBlock ∨ v'.ownBlock = some w.heap.size) → wpList Tryz.prog ops Q rest (a.put dst v') w') :
    wpList Tryz.prog ops Q ({ dst := dst, op := .call { callee := .builtin .append, args := #[s, x], argTypes := #[27, 27] }, type := tt, pos := pos, after := after, guard := none } :: rest) a w :=
  wpList_plain rfl fun K hK => wp_append_es1 s x B v E ps hs hown hbase b u y hx h0 h1 hu hau hl (fun v' w' h1 h2 h3 => hK _ _ (h v' w' h1 h2 h3))
end Go.Proofs.YthfdkenidfnmgaaGreat
namespace Go.Proofs.YthfdkenidfnmgaaGreat
open Go.ChangeShapes Go.WideShapes Go.ChangeAt Go.RowKit
set_option linter.unusedVariables false
set_option linter.unusedSimpArgs false
set_option maxRecDepth 100000
abbrev sl0 : Value := .slice none 0 0
theorem make_infos (w : World) : ∃ w', (Instr.makeSlice 26 (.int .i64 12) (.int .i64 12)).run Tryz.prog w = .ok (.slice (some ⟨w.heap.size, 0, none⟩) 12 12) w' ∧
    IsW w' w.heap.size (w.heap.size + 1) (.slice (some ⟨w.heap.size, 0, none⟩) 12 12) (List.replicate 12 iz) ∧ w.heap.size < w'.heap.size ∧ Below w.heap.size w w' := by
  obtain ⟨i0, hi, hz0, hz1, hz2⟩ := info_parts ivInfo
  obtain ⟨w', hr, ho, hg⟩ := run_make_full (P := Tryz.prog) (w := w) w.heap.size 26 58 i0 (.agg #[.int .i64 0, .string ⟨#[]⟩, .int .i64 0]) 3 Tryz.underlying26 hi hz0 hz1 .i64 .i64 12 (by rw [hz2]; omega) (by unfold maxLen; omega) (Nat.le_refl _)
  have hc : (madeCells (Value.agg #[.int .i64 0, .string ⟨#[]⟩, .int .i64 0]).cells (12 * 3)).toList = isC (List.replicate 12 iz) := by kernel_rfl
  rw [hc] at ho
  have hw := IsW.of_ownsRow (ys := List.replicate 12 iz) ho
  have hlt := (ho.lt w.heap.size rfl).2
  refine ⟨w', hr, ?_, hlt, (Below.refl _ _).grown hg (Nat.le_refl _) (fun k e => by cases e)⟩
  obtain ⟨a, cap, ea, h1, h2, h3⟩ := hw
  injection ea with ea1 ea2 ea3
  subst ea1
  refine ⟨_, 12, rfl, Nat.le_refl _, by unfold maxLen; omega, fun i hi => ?_⟩
  obtain ⟨g, p, e, _, _, ht⟩ := h3 i hi
  injection e with e
  injection e with e1 e2
  subst e1 e2
  exact ⟨_, _, rfl, Nat.le_refl _, Nat.lt_succ_self _, ht⟩
structure NK (w0 W : World) (m : Option (Value × Nat × Nat)) (i e p : Option Nat) : Prop where
  bel : Below w0.heap.size w0 W
  fm : ∀ u B0 B1, m = some (u, B0, B1) → MatW W B0 B1 u zeros ∧ B1 ≤ W.heap.size ∧ w0.heap.size ≤ B0 ∧ ∀ b, p = some b → b < B0 ∨ B1 ≤ b
  fi : ∀ b, i = some b → IsW W b (b + 1) (.slice (some ⟨b, 0, none⟩) 12 12) (List.replicate 12 iz) ∧ b < W.heap.size ∧ w0.heap.size ≤ b ∧ p ≠ some b
  fe : ∀ b, e = some b → W.heap[b]? = some (.cells #[] 37 (0, 0)) ∧ w0.heap.size ≤ b ∧ p ≠ some b ∧ (∀ u B0 B1, m = some (u, B0, B1) → b < B0 ∨ B1 ≤ b) ∧ i ≠ some b
  fp : ∀ b, p = some b → KB4 W b sl0 sl0 sl0 sl0 ∧ W.there b 0 4 ∧ w0.heap.size ≤ b
theorem NK.start {w0 W : World} (h : Below w0.heap.size w0 W) : NK w0 W none none none none :=
  ⟨h, fun _ _ _ e => (by cases e), fun _ e => (by cases e), fun _ e => (by cases e), fun _ e => (by cases e)⟩
theorem lt_of_get {w : World} {b : Nat} {o : Obj} (h : w.heap[b]? = some o) : b < w.heap.size := (Array.getElem?_eq_some_iff.1 h).1
theorem NK.go {w0 W W' : World} {m : Option (Value × Nat × Nat)} {i e p : Option Nat} (h : NK w0 W m i e p) (hb : Below W.heap.size W W') : NK w0 W' m i e p :=
  ⟨h.bel.trans (hb.mono h.bel.size), fun u B0 B1 em => ⟨(h.fm u B0 B1 em).1.of_blocks (fun b _ hb1 => hb.block b (Nat.lt_of_lt_of_le hb1 (h.fm u B0 B1 em).2.1)), Nat.le_trans (h.fm u B0 B1 em).2.1 hb.size, (h.fm u B0 B1 em).2.2⟩,
    fun b ei => ⟨(h.fi b ei).1.below hb (h.fi b ei).2.1, Nat.lt_of_lt_of_le (h.fi b ei).2.1 hb.size, (h.fi b ei).2.2⟩,
    fun b ee => ⟨(hb.block b (lt_of_get (h.fe b ee).1)).trans (h.fe b ee).1, (h.fe b ee).2⟩,
    fun b ep => ⟨(h.fp b ep).1.go hb, there_blocks (h.fp b ep).2.1 (hb.block b (h.fp b ep).1.lt), (h.fp b ep).2.2⟩⟩
theorem NK.drew {w0 W : World} {m : Option (Value × Nat × Nat)} {i e p : Option Nat} (h : NK w0 W m i e p) : NK w0 W.drew m i e p := h.go (Below.refl _ _).drew
theorem NK.putM {w0 W W' : World} {i e p : Option Nat} {u : Value} (h : NK w0 W none i e p) (hb : Below W.heap.size W W') (hm : MatW W' W.heap.size W'.heap.size u zeros) : NK w0 W' (some (u, W.heap.size, W'.heap.size)) i e p :=
  have k := h.go hb
  ⟨k.bel, fun u' B0 B1 em => by
    injection em with em
    injection em with e1 e2
    injection e2 with e2 e3
    subst e1 e2 e3
    exact ⟨hm, Nat.le_refl _, h.bel.size, fun b ep => .inl (h.fp b ep).1.lt⟩, k.fi, fun b ee => ⟨(k.fe b ee).1, (k.fe b ee).2.1, (k.fe b ee).2.2.1, fun u' B0 B1 em => by
    injection em with em
    injection em with e1 e2
    injection e2 with e2 e3
    subst e1 e2 e3
    exact .inl (lt_of_get (h.fe b ee).1), (k.fe b ee).2.2.2.2⟩, k.fp⟩
theorem NK.putI {w0 W W' : World} {m : Option (Value × Nat × Nat)} {e p : Option Nat} (h : NK w0 W m none e p) (hb : Below W.heap.size W W') (hi : IsW W' W.heap.size (W.heap.size + 1) (.slice (some ⟨W.heap.size, 0, none⟩) 12 12) (List.replicate 12 iz)) (hl : W.heap.size < W'.heap.size) : NK w0 W' m (some W.heap.size) e p :=
  have k := h.go hb
  ⟨k.bel, k.fm, fun b ei => by
    injection ei with ei
    subst ei
    exact ⟨hi, hl, h.bel.size, fun ep => Nat.lt_irrefl _ (h.fp _ ep).1.lt⟩, fun b ee => ⟨(k.fe b ee).1, (k.fe b ee).2.1, (k.fe b ee).2.2.1, (k.fe b ee).2.2.2.1, fun ei => by injection ei with ei; have := lt_of_get (h.fe b ee).1; omega⟩, k.fp⟩
theorem NK.putE {w0 W : World} {m : Option (Value × Nat × Nat)} {i p : Option Nat} (h : NK w0 W m i none p) : NK w0 (W.alloc (.cells #[] 37)) m i (some W.heap.size) p :=
  have k := h.go ((Below.refl _ _).alloc (Nat.le_refl _) (.cells #[] 37))
  ⟨k.bel, k.fm, k.fi, fun b ee => by
    injection ee with ee
    subst ee
    exact ⟨heap_alloc_new W _, h.bel.size, fun ep => Nat.lt_irrefl _ (h.fp _ ep).1.lt, fun u B0 B1 em => .inr (h.fm u B0 B1 em).2.1, fun ei => Nat.lt_irrefl _ (h.fi _ ei).2.1⟩, k.fp⟩
theorem NK.putP {w0 W : World} {m : Option (Value × Nat × Nat)} {i e : Option Nat} (h : NK w0 W m i e none) : NK w0 (W.alloc (.cells #[sl0, sl0, sl0, sl0] 30)) m i e (some W.heap.size) :=
  have k := h.go ((Below.refl _ _).alloc (Nat.le_refl _) (.cells #[sl0, sl0, sl0, sl0] 30))
  ⟨k.bel, fun u B0 B1 em => ⟨(k.fm u B0 B1 em).1, (k.fm u B0 B1 em).2.1, (k.fm u B0 B1 em).2.2.1, fun b ep => by
      injection ep with ep
      subst ep
      exact .inr (h.fm u B0 B1 em).2.1⟩,
    fun b ei => ⟨(k.fi b ei).1, (k.fi b ei).2.1, (k.fi b ei).2.2.1, fun ep => by injection ep with ep; have := (h.fi b ei).2.1; omega⟩,
    fun b ee => ⟨(k.fe b ee).1, (k.fe b ee).2.1, fun ep => by injection ep with ep; have := lt_of_get (h.fe b ee).1; omega, (k.fe b ee).2.2.2⟩,
    fun b ep => by
      injection ep with ep
      subst ep
      exact ⟨KB4.new W _ _ _ _ _, there_row (heap_alloc_new W _) (Nat.le_refl _), h.bel.size⟩⟩
structure NKS (w0 W : World) (u : Value) (B0 B1 b1 b2 bp : Nat) (v2 : Value) : Prop where
  bel : Below w0.heap.size w0 W
  m : MatW W B0 B1 u zeros
  i : IsW W b1 (b1 + 1) (.slice (some ⟨b1, 0, none⟩) 12 12) (List.replicate 12 iz)
  e : W.heap[b2]? = some (.cells #[] 37 (0, 0))
  p : KB4 W bp u (.slice (some ⟨b1, 0, none⟩) 12 12) (.slice (some ⟨b2, 0, none⟩) 0 0) v2
  lm : B1 ≤ W.heap.size ∧ w0.heap.size ≤ B0
  li : b1 < W.heap.size ∧ w0.heap.size ≤ b1
  le : w0.heap.size ≤ b2 ∧ b2 ≠ bp ∧ (b2 < B0 ∨ B1 ≤ b2) ∧ b2 ≠ b1
  lp : w0.heap.size ≤ bp ∧ (bp < B0 ∨ B1 ≤ bp) ∧ bp ≠ b1
  fz : W.there bp 0 4
theorem NK.stored {w0 W : World} {u v2 : Value} {B0 B1 b1 b2 bp : Nat} (h : NK w0 W (some (u, B0, B1)) (some b1) (some b2) (some bp)) :
    NKS w0 (W.setCells bp 0 [u, .slice (some ⟨b1, 0, none⟩) 12 12, .slice (some ⟨b2, 0, none⟩) 0 0, v2]) u B0 B1 b1 b2 bp v2 := by
  obtain ⟨m1, m2, m3, m4⟩ := h.fm u B0 B1 rfl
  obtain ⟨i1, i2, i3, i4⟩ := h.fi b1 rfl
  obtain ⟨e1, e2, e3, e4, e5⟩ := h.fe b2 rfl
  obtain ⟨p1, p2, p3⟩ := h.fp bp rfl
  have hoth : ∀ b, b ≠ bp → (W.setCells bp 0 [u, .slice (some ⟨b1, 0, none⟩) 12 12, .slice (some ⟨b2, 0, none⟩) 0 0, v2]).heap[b]? = W.heap[b]? := fun b hb => heap_setCells_other W bp _ 0 W b hb
  have hr := World.rangeAt_setCells_same W bp 0 [u, .slice (some ⟨b1, 0, none⟩) 12 12, .slice (some ⟨b2, 0, none⟩) 0 0, v2] p2
  have hsz : (W.setCells bp 0 [u, .slice (some ⟨b1, 0, none⟩) 12 12, .slice (some ⟨b2, 0, none⟩) 0 0, v2]).heap.size = W.heap.size := size_setCells _ _ _ _
  refine ⟨Below.setCells (Below.refl _ _) _ p3 _ _ _ h.bel, m1.of_blocks (fun b h0 h1 => hoth b (by have := m4 bp rfl; omega)), i1.of_blocks (fun b h0 h1 => hoth b (fun e => i4 (by rw [← e]; congr 1; omega))), (hoth b2 (fun e => e3 (by rw [e]))).trans e1,
    ⟨by rw [hsz]; exact p1.lt, ?_, ?_, ?_, ?_⟩, ⟨by rw [hsz]; exact m2, m3⟩, ⟨by rw [hsz]; exact i2, i3⟩, ⟨e2, fun e => e3 (by rw [e]), e4 _ _ _ rfl, fun e => e5 (by rw [e])⟩, ⟨p3, m4 bp rfl, fun e => i4 (by rw [e])⟩, World.there_setCells p2 bp 0 _⟩
  · exact hr 0 _ rfl
  · exact hr 1 _ rfl
  · exact hr 2 _ rfl
  · exact hr 3 _ rfl
end Go.Proofs.YthfdkenidfnmgaaGreat
namespace Go.Proofs.YthfdkenidfnmgaaGreat
open Go.ChangeShapes Go.WideShapes Go.ChangeAt Go.RowKit Go.Maps Go.Shelf
set_option linter.unusedVariables false
set_option linter.unusedSimpArgs false
set_option maxRecDepth 100000
theorem below_drewN (B : Nat) (w : World) (d : Nat) : Below B w (w.drewN d) := ⟨rfl, rfl, rfl, Nat.le_refl _, fun _ _ => rfl⟩
def newE (rs : List (List Bs)) : List EV := rs.map (fun r => ⟨r, -1⟩)
theorem newE_snoc {rs : List (List Bs)} {k : Nat} (hk : k < rs.length) : newE (rs.take (k + 1)) = newE (rs.take k) ++ [⟨rs.getD k [], -1⟩] := by
  unfold newE
  rw [take_snoc_getD rs k [] hk, List.map_append]
  rfl
theorem newE_len {rs : List (List Bs)} {k : Nat} (hk : k ≤ rs.length) : (newE (rs.take k)).length = k := by
  unfold newE
  rw [List.length_map, List.length_take]
  omega
structure KLoop (w W : World) (u : Value) (B0 B1 b1 bp : Nat) (v2 v3 : Value) (E : List EV) (ps : List (Value × Int)) : Prop where
  bel : Below w.heap.size w W
  c : KB4 W bp u (.slice (some ⟨b1, 0, none⟩) 12 12) v2 v3
  fz : W.there bp 0 4
  x : KB4 W w.heap.size sl0 sl0 sl0 sl0
  xt : W.there w.heap.size 0 4
  m : MatW W B0 B1 u zeros
  i : IsW W b1 (b1 + 1) (.slice (some ⟨b1, 0, none⟩) 12 12) (List.replicate 12 iz)
  e : OwnE (w.heap.size + 1) W v2 E ps
  lm : B1 ≤ W.heap.size ∧ w.heap.size < B0
  li : b1 < W.heap.size ∧ w.heap.size < b1
  lp : w.heap.size < bp ∧ (bp < B0 ∨ B1 ≤ bp) ∧ bp ≠ b1
  ae : ∀ g, v2.ownBlock = some g → g ≠ bp ∧ (g < B0 ∨ B1 ≤ g) ∧ g ≠ b1
  ar : ∀ i, i < E.length → ∀ g, (ps.getD i pz).1.ownBlock = some g → (E.getD i ez).r.length ≠ 0 → g ≠ bp ∧ w.heap.size < g
theorem KLoop.start {w w0 W : World} {u v2 : Value} {B0 B1 b1 b2 bp : Nat} (h : NKS w0 W u B0 B1 b1 b2 bp v2) (hb : Below w.heap.size w w0) (hs : w0.heap.size = w.heap.size + 1) (hx : KB4 w0 w.heap.size sl0 sl0 sl0 sl0) (ht : w0.there w.heap.size 0 4) :
    KLoop w W u B0 B1 b1 bp (.slice (some ⟨b2, 0, none⟩) 0 0) v2 [] [] := by
  have e := h.bel.block w.heap.size (by omega)
  have h1 := h.lm
  have h2 := h.li
  have h3 := h.le
  have h4 := h.lp
  refine ⟨hb.trans (h.bel.mono (by omega)), h.p, h.fz, hx.go h.bel, there_blocks ht e, h.m, h.i, OwnE.made h.e (by omega), ⟨h1.1, by omega⟩, ⟨h2.1, by omega⟩, ⟨by omega, h4.2⟩, fun g hg => ?_, fun i hi => absurd hi (Nat.not_lt_zero _)⟩
  injection hg with hg
  subst hg
  exact h3.2
theorem KLoop.go {w W W' : World} {u : Value} {B0 B1 b1 bp : Nat} {v2 v3 : Value} {E : List EV} {ps : List (Value × Int)} (h : KLoop w W u B0 B1 b1 bp v2 v3 E ps) (hb : Below W.heap.size W W') : KLoop w W' u B0 B1 b1 bp v2 v3 E ps :=
  ⟨h.bel.trans (hb.mono h.bel.size), h.c.go hb, there_blocks h.fz (hb.block bp h.c.lt), h.x.go hb, there_blocks h.xt (hb.block _ h.x.lt), h.m.of_blocks (fun b _ h1 => hb.block b (Nat.lt_of_lt_of_le h1 h.lm.1)), h.i.below hb h.li.1, h.e.go hb,
    ⟨Nat.le_trans h.lm.1 hb.size, h.lm.2⟩, ⟨Nat.lt_of_lt_of_le h.li.1 hb.size, h.li.2⟩, h.lp, h.ae, h.ar⟩
theorem KLoop.put {w W W' : World} {u : Value} {B0 B1 b1 bp : Nat} {v2 v3 v' vs : Value} {E : List EV} {ps : List (Value × Int)} {y : EV} (h : KLoop w W u B0 B1 b1 bp v2 v3 E ps) (hg : W.grownBy W' v2.ownBlock)
    (he : OwnE (w.heap.size + 1) W' v' (E ++ [y]) (ps ++ [(vs, y.t)])) (g5 : v'.ownBlock = v2.ownBlock ∨ v'.ownBlock = some W.heap.size) (hv : ∀ g, vs.ownBlock = some g → y.r.length ≠ 0 → g ≠ bp ∧ w.heap.size < g) :
    KLoop w (W'.setCell ⟨bp, 2, none⟩ v') u B0 B1 b1 bp v' v3 (E ++ [y]) (ps ++ [(vs, y.t)]) := by
  have hown : ∀ k, v2.ownBlock = some k → w.heap.size + 1 ≤ k := fun k hk => (h.e.own.lt k hk).1
  have hblk : ∀ b, b < W.heap.size → v2.ownBlock ≠ some b → W'.heap[b]? = W.heap[b]? := fun b hb hn => hg.block b hb (fun e => hn e.symm)
  have hset : ∀ b, b ≠ bp → (W'.setCell ⟨bp, 2, none⟩ v').heap[b]? = W'.heap[b]? := fun b hb => Below.heap_setCell _ _ _ b (by show b ≠ bp; exact hb)
  have hbp : W'.heap[bp]? = W.heap[bp]? := hblk bp h.c.lt (fun e => (h.ae bp e).1 rfl)
  have hx : W'.heap[w.heap.size]? = W.heap[w.heap.size]? := hblk _ h.x.lt (fun e => by have := hown _ e; omega)
  have hxs := hset w.heap.size (by have := h.lp.1; omega)
  have hsz : (W'.setCell ⟨bp, 2, none⟩ v').heap.size = W'.heap.size := by simp [World.setCell]
  have hgs := hg.size
  have hae : ∀ g, v'.ownBlock = some g → g ≠ bp ∧ (g < B0 ∨ B1 ≤ g) ∧ g ≠ b1 := fun g e => by
    rcases g5 with g5 | g5
    · exact h.ae g (g5 ▸ e)
    · rw [g5] at e
      injection e with e
      have h1 := h.c.lt
      have h2 := h.lm.1
      have h3 := h.li.1
      exact ⟨by omega, .inr (by omega), by omega⟩
  have har : ∀ i, i < (E ++ [y]).length → ∀ g, ((ps ++ [(vs, y.t)]).getD i pz).1.ownBlock = some g → ((E ++ [y]).getD i ez).r.length ≠ 0 → g ≠ bp ∧ w.heap.size < g := fun i hi g e hz => by
    rw [List.length_append, List.length_singleton] at hi
    have hl := h.e.len
    by_cases hlt : i < E.length
    · rw [getD_snoc_lt (by omega)] at e
      rw [getD_snoc_lt hlt] at hz
      exact h.ar i hlt g e hz
    · rw [getD_snoc_at (by omega)] at e
      rw [getD_snoc_at (by omega)] at hz
      exact hv g e hz
  have hc2 : W'.cell? ⟨bp, 2, none⟩ = some v2 := (World.cell?_of_block hbp).trans h.c.c2
  have hb1 := (Below.refl bp W').setCell (p := ⟨bp, 2, none⟩) (Nat.le_refl _) v'
  refine ⟨(h.bel.grown hg h.bel.size (fun k e => by have := hown k e; omega)).setCell (p := ⟨bp, 2, none⟩) (by show w.heap.size ≤ bp; have := h.lp.1; omega) v', ⟨by rw [hsz]; exact Nat.lt_of_lt_of_le h.c.lt hgs, ?_, ?_, cell_set_same hc2, ?_⟩, there_setCell (there_blocks h.fz hbp) _ _ _, ?_, there_blocks h.xt (hxs.trans hx),
    h.m.of_blocks (fun b h0 h1 => (hset b (by have := h.lp.2.1; omega)).trans (hblk b (Nat.lt_of_lt_of_le h1 h.lm.1) (fun e => by have := (h.ae b e).2.1; omega))),
    h.i.of_blocks (fun b h0 h1 => (hset b (by have := h.lp.2.2; omega)).trans (hblk b (by have := h.li.1; omega) (fun e => by have := (h.ae b e).2.2; omega))),
    he.keptG (row := some bp) ⟨hb1.os, hb1.tape, hb1.output, hb1.size, fun i hi hn => hset i (fun e => hn (by rw [e]))⟩ (.inr (fun e => (hae bp e).1 rfl)) (fun i hi g e hz e2 => by injection e2 with e2; exact (har i hi g e hz).1 e2.symm),
    ⟨by rw [hsz]; exact Nat.le_trans h.lm.1 hgs, h.lm.2⟩, ⟨by rw [hsz]; exact Nat.lt_of_lt_of_le h.li.1 hgs, h.li.2⟩, h.lp, hae, har⟩
  · exact (cell_set_other (.inr (by omega))).trans ((World.cell?_of_block hbp).trans h.c.c0)
  · exact (cell_set_other (.inr (by omega))).trans ((World.cell?_of_block hbp).trans h.c.c1)
  · exact (cell_set_other (.inr (by omega))).trans ((World.cell?_of_block hbp).trans h.c.c3)
  · have e := hxs.trans hx
    exact ⟨by rw [hsz]; exact Nat.lt_of_lt_of_le h.x.lt hgs, (World.cell?_of_block e).trans h.x.c0, (World.cell?_of_block e).trans h.x.c1, (World.cell?_of_block e).trans h.x.c2, (World.cell?_of_block e).trans h.x.c3⟩
theorem KLoop.ks {w W : World} {u : Value} {B0 B1 b1 bp b3 : Nat} {v2 v3 : Value} {E : List EV} {ps : List (Value × Int)} (h : KLoop w W u B0 B1 b1 bp v2 v3 E ps) : Ks W u (.slice (some ⟨b1, 0, none⟩) 12 12) v2 (.slice (some ⟨b3, 0, none⟩) 0 0) ⟨mem0, List.replicate 12 iz, E, []⟩ :=
  ⟨h.m.rows, h.i.is, h.e.es, ⟨some ⟨b3, 0, none⟩, 0, rfl, Nat.le_refl _, Nat.zero_le _, fun i hi => absurd hi (Nat.not_lt_zero _)⟩⟩
theorem KLoop.place {w W W' : World} {u : Value} {B0 B1 b1 bp : Nat} {v2 v3 : Value} {E : List EV} {ps : List (Value × Int)} (h : KLoop w W u B0 B1 b1 bp v2 v3 E ps) (hg : W.grownBy W' v2.ownBlock) :
    W'.cell? ⟨bp, 2, none⟩ = some v2 ∧ W'.frozen? ⟨bp, 2, none⟩ = false ∧ Below w.heap.size w W' := by
  have hbp : W'.heap[bp]? = W.heap[bp]? := hg.block bp h.c.lt (fun e => (h.ae bp e.symm).1 rfl)
  refine ⟨(World.cell?_of_block hbp).trans h.c.c2, ?_, h.bel.grown hg h.bel.size (fun k e => by have := (h.e.own.lt k e).1; omega)⟩
  have := ((there_blocks h.fz hbp) 2 (by omega)).2
  rwa [Nat.zero_add] at this
theorem KLoop.form {w W : World} {u : Value} {B0 B1 b1 bp : Nat} {v2 v3 : Value} {E : List EV} {ps : List (Value × Int)} (h : KLoop w W u B0 B1 b1 bp v2 v3 E ps) : ∃ a n c, v2 = .slice a n c := by
  obtain ⟨a, c, e, _⟩ := h.e.es
  exact ⟨_, _, _, e⟩
theorem grown_set4 (W : World) (X : Nat) (a b c d : Value) : W.grownBy ((((W.setCell ⟨X, 0, none⟩ a).setCell ⟨X, 1, none⟩ b).setCell ⟨X, 2, none⟩ c).setCell ⟨X, 3, none⟩ d) (some X) := by
  have hb := ((((Below.refl X W).setCell (p := ⟨X, 0, none⟩) (Nat.le_refl _) a).setCell (p := ⟨X, 1, none⟩) (Nat.le_refl _) b).setCell (p := ⟨X, 2, none⟩) (Nat.le_refl _) c).setCell (p := ⟨X, 3, none⟩) (Nat.le_refl _) d
  refine ⟨hb.os, hb.tape, hb.output, hb.size, fun i hi hn => ?_⟩
  have hne : i ≠ X := fun e => hn (by rw [e])
  exact (Below.heap_setCell _ _ _ i (by show i ≠ X; exact hne)).trans ((Below.heap_setCell _ _ _ i (by show i ≠ X; exact hne)).trans ((Below.heap_setCell _ _ _ i (by show i ≠ X; exact hne)).trans (Below.heap_setCell _ _ _ i (by show i ≠ X; exact hne))))
theorem KLoop.res {w W W' : World} {u : Value} {B0 B1 b1 bp b3 : Nat} {v2 v3 : Value} {E : List EV} {ps : List (Value × Int)} (h : KLoop w W u B0 B1 b1 bp v2 v3 E ps) (hg : W.grownBy W' (some w.heap.size)) :
    Ks W' u (.slice (some ⟨b1, 0, none⟩) 12 12) v2 (.slice (some ⟨b3, 0, none⟩) 0 0) ⟨mem0, List.replicate 12 iz, E, []⟩ ∧ Below w.heap.size w W' := by
  have hblk : ∀ b, b < W.heap.size → w.heap.size < b → W'.heap[b]? = W.heap[b]? := fun b hb hn => hg.block b hb (fun e => by injection e with e; omega)
  have h1 := h.lm
  have h2 := h.li
  refine ⟨⟨(h.m.of_blocks (fun b h0 h3 => hblk b (by omega) (by omega))).rows, (h.i.of_blocks (fun b h0 h3 => hblk b (by omega) (by omega))).is,
    (h.e.keptG hg (.inr (fun e => by have := (h.e.own.lt _ e).1; omega)) (fun i hi g e hz e2 => by injection e2 with e2; have := (h.ar i hi g e hz).2; omega)).es, ⟨some ⟨b3, 0, none⟩, 0, rfl, Nat.le_refl _, Nat.zero_le _, fun i hi => absurd hi (Nat.not_lt_zero _)⟩⟩,
    h.bel.grown hg h.bel.size (fun k e => by injection e with e; omega)⟩
end Go.Proofs.YthfdkenidfnmgaaGreat
namespace Go.Proofs.YthfdkenidfnmgaaGreat
open Go.ChangeShapes Go.WideShapes Go.ChangeAt Go.RowKit
set_option linter.unusedVariables false
set_option linter.unusedSimpArgs false
set_option maxRecDepth 100000
def SssN (w : World) (v : Value) (xss : List (List Bs)) : Prop :=
  ∃ (a : Option Addr) (cap : Nat), v = .slice a xss.length cap ∧ xss.length ≤ cap ∧ cap ≤ maxLen ∧
    ∀ i, i < xss.length → ∃ b o u, a = some ⟨b, o, none⟩ ∧ w.cell? ⟨b, o + i, none⟩ = some u ∧ Strs w u (xss.getD i []) ∧ NilOk u
theorem SssN.below {w w' : World} {v : Value} {xss : List (List Bs)} (h : SssN w v xss) (hb : Below w.heap.size w w') : SssN w' v xss := by
  obtain ⟨a, cap, rfl, h1, h2, h3⟩ := h
  refine ⟨a, cap, rfl, h1, h2, fun i hi => ?_⟩
  obtain ⟨b, o, u, rfl, hc, hu, hn⟩ := h3 i hi
  exact ⟨b, o, u, rfl, (hb.cell (p := ⟨b, o + i, none⟩) (cell_lt hc)).trans hc, hu.below hb, hn⟩
def NewKB (K : KV) (b : Bool) (w : World) (e : Ending) (w' : World) : Prop :=
  ∃ v0 v1 v2 v3, e = .returned (.tuple #[kV v0 v1 v2 v3, .bool b]) ∧ Ks w' v0 v1 v2 v3 K ∧ Below w.heap.size w w'
theorem ks_none (w : World) : Ks w sl0 sl0 sl0 sl0 kz :=
  ⟨⟨none, 0, rfl, Nat.le_refl _, Nat.zero_le _, fun i hi => absurd hi (Nat.not_lt_zero _)⟩, ⟨none, 0, rfl, Nat.le_refl _, Nat.zero_le _, fun i hi => absurd hi (Nat.not_lt_zero _)⟩, ⟨none, 0, rfl, Nat.le_refl _, Nat.zero_le _, fun i hi => absurd hi (Nat.not_lt_zero _)⟩, ⟨none, 0, rfl, Nat.le_refl _, Nat.zero_le _, fun i hi => absurd hi (Nat.not_lt_zero _)⟩⟩
end Go.Proofs.YthfdkenidfnmgaaGreat
