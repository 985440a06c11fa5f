/- What the proofs stand on, part 8. -/
import Derived.Test.YtcmmlgdfhkcmoaaGreatRows
import Derived.Test.YtcmmlgdfhkcmoaaGreatKe1
import Derived.Test.YtcmmlgdfhkcmoaaGreatKe2
import Derived.Test.YtcmmlgdfhkcmoaaGreatKe3
import Derived.Test.YtcmmlgdfhkcmoaaGreatKe4
import Derived.Test.YtcmmlgdfhkcmoaaGreatKe5
import Derived.Test.YtcmmlgdfhkcmoaaGreatKe6
import Derived.Test.YtcmmlgdfhkcmoaaGreatKe7
set_option linter.unusedSimpArgs false
set_option linter.unusedVariables false
namespace Go.Proofs.YtcmmlgdfhkcmoaaGreat
open Go.ChangeShapes Go.WideShapes Go.ChangeAt Go.RowKit
set_option linter.unusedVariables false
set_option maxRecDepth 100000
theorem kf_start (w : World) (a b c d : Value) (t s : TypeId) : KF w (((w.alloc (.cells #[a, b, c, d] t)).alloc (.cells #[.slice none 0 0, .slice none 0 0, .slice none 0 0, .slice none 0 0] s)).alloc (.cells #[.slice none 0 0, .slice none 0 0, .slice none 0 0, .slice none 0 0] s)) (fun j => if j = 0 then a else if j = 1 then b else if j = 2 then c else d) (fun _ => .slice none 0 0) := by
  refine ⟨(((Below.refl _ _).alloc (Nat.le_refl _) _).alloc (by simp) _).alloc (by simp; omega) _, by simp, fun j hj => ?_, fun j hj => ?_, fun j hj => ?_⟩
  · rw [World.cell?_alloc_past _ _ _ (by simp; omega), World.cell?_alloc_past _ _ _ (by simp)]
    obtain rfl | rfl | rfl | rfl : j = 0 ∨ j = 1 ∨ j = 2 ∨ j = 3 := by omega
    all_goals exact new_cell rfl
  · have h : ∀ W : World, W.heap.size = w.heap.size + 1 + 1 → (W.alloc (.cells #[.slice none 0 0, .slice none 0 0, .slice none 0 0, .slice none 0 0] s)).cell? ⟨w.heap.size + 1 + 1, j, none⟩ = some (.slice none 0 0) ∧ (W.alloc (.cells #[.slice none 0 0, .slice none 0 0, .slice none 0 0, .slice none 0 0] s)).frozen? ⟨w.heap.size + 1 + 1, j, none⟩ = false := fun W e => by
      rw [← e]
      refine ⟨?_, World.frozen?_alloc_at _ _ _ _ rfl⟩
      obtain rfl | rfl | rfl | rfl : j = 0 ∨ j = 1 ∨ j = 2 ∨ j = 3 := by omega
      all_goals exact new_cell rfl
    exact h _ (by simp)
  · have h : ∀ W : World, W.heap.size = w.heap.size + 1 → (W.alloc (.cells #[.slice none 0 0, .slice none 0 0, .slice none 0 0, .slice none 0 0] s)).cell? ⟨w.heap.size + 1, j, none⟩ = some (.slice none 0 0) ∧ (W.alloc (.cells #[.slice none 0 0, .slice none 0 0, .slice none 0 0, .slice none 0 0] s)).frozen? ⟨w.heap.size + 1, j, none⟩ = false := fun W e => by
      rw [← e]
      refine ⟨?_, World.frozen?_alloc_at _ _ _ _ rfl⟩
      obtain rfl | rfl | rfl | rfl : j = 0 ∨ j = 1 ∨ j = 2 ∨ j = 3 := by omega
      all_goals exact new_cell rfl
    rw [World.cell?_alloc_past _ _ _ (by simp), World.frozen?_alloc_past _ _ _ (by simp)]
    exact h _ (by simp)
def ToK (K : KV) (w : World) (e : Ending) (w' : World) : Prop :=
  ∃ vm vi ve vc B0 B1 B2 B3 B4, e = .returned (kV vm vi ve vc) ∧ w.heap.size ≤ B0 ∧ B0 ≤ B1 ∧ B1 ≤ B2 ∧ B2 ≤ B3 ∧ B3 ≤ B4 ∧ B4 ≤ w'.heap.size ∧ KsW w' B0 B1 B2 B3 B4 vm vi ve vc K ∧ Below w.heap.size w w'
theorem toKernel_any (w : World) (vm vi ve vc : Value) (K : KV) (h : Ks w vm vi ve vc K) (hm : K.m.length + total K.m ≤ 1048576) (hi : K.i.length ≤ 1048576) (he : K.e.length ≤ 1048576) (her : ∀ j, j < K.e.length → (K.e.getD j ez).r.length ≤ 1048576) (hc : K.c.length ≤ 1048576) :
    Calls Tryz.prog 42 #[kV vm vi ve vc] w (ToK K w) := by
  obtain ⟨M, I, E, C⟩ := K
  have HM : Hid (∀ W, Below w.heap.size w W → Calls Tryz.prog 96 #[vm] W (fun e w' => ∃ p n k, e = .returned (.slice p n k) ∧ MatW w' W.heap.size w'.heap.size (.slice p n k) M ∧ Below W.heap.size W w')) := Lib.hid (fun W hW => (toIntSS_any W vm M (h.m.below hW) hm).mono fun e w' ⟨u, he, ho, hb, hs⟩ => by
    have hx := matW_own ho
    rw [← hs] at hx
    obtain ⟨p, k, -, -, rfl, -⟩ := id hx
    exact ⟨_, _, _, he, hx, hb⟩)
  have HI : Hid (∀ W, Below w.heap.size w W → Calls Tryz.prog 97 #[vi] W (fun e w' => ∃ p n k, e = .returned (.slice p n k) ∧ IsW w' W.heap.size w'.heap.size (.slice p n k) I ∧ Below W.heap.size W w')) := Lib.hid (fun W hW => (toInfoS_any W vi I (h.i.below hW) hi).mono fun e w' ⟨u, he, ho, hb, _⟩ => by
    obtain ⟨p, k, rfl, -⟩ := id ho
    exact ⟨_, _, _, he, ho, hb⟩)
  have HE : Hid (∀ W, Below w.heap.size w W → Calls Tryz.prog 98 #[ve] W (fun e w' => ∃ p n k, e = .returned (.slice p n k) ∧ EsW w' W.heap.size w'.heap.size (.slice p n k) E ∧ Below W.heap.size W w')) := Lib.hid (fun W hW => (toEnvS_any W ve E (h.e.below hW) he her).mono fun e w' ⟨u, he, ho, hb, _⟩ => by
    obtain ⟨p, k, -, -, rfl, -⟩ := id ho
    exact ⟨_, _, _, he, ho, hb⟩)
  have HCC : Hid (∀ W, Below w.heap.size w W → Calls Tryz.prog 99 #[vc] W (fun e w' => ∃ p n k, e = .returned (.slice p n k) ∧ CsW w' W.heap.size w'.heap.size (.slice p n k) C ∧ Below W.heap.size W w')) := Lib.hid (fun W hW => (toCachedS_any W vc C (h.c.below hW) hc).mono fun e w' ⟨u, he, ho, hb⟩ => by
    obtain ⟨p, k, rfl, -⟩ := id ho
    exact ⟨_, _, _, he, ho, hb⟩)
  clear h hm hi he her hc
  have F0 : Hid (∀ t s, KF w (((w.alloc (.cells #[vm, vi, ve, vc] t)).alloc (.cells #[.slice none 0 0, .slice none 0 0, .slice none 0 0, .slice none 0 0] s)).alloc (.cells #[.slice none 0 0, .slice none 0 0, .slice none 0 0, .slice none 0 0] s)) (fun j => if j = 0 then vm else if j = 1 then vi else if j = 2 then ve else vc) (fun _ => .slice none 0 0)) := Lib.hid (fun t s => kf_start w vm vi ve vc t s)
  go_enter Tryz.func42, Tryz.ntmps42
  go_wp2_with fail
  refine (HM.out _ (F0.out _ _).bel).mono ?_
  rintro e w1 ⟨p0, n0, k0, rfl, a1, b1⟩
  have F1 := Lib.hid ((F0.out _ _).below b1)
  have Z0 := Lib.hid (F0.out 72 30).sz
  have S1 := Lib.hid b1.size
  obtain ⟨G0, hG0⟩ : ∃ G0, G0 = (((w.alloc (.cells #[vm, vi, ve, vc] 72)).alloc (.cells #[.slice none 0 0, .slice none 0 0, .slice none 0 0, .slice none 0 0] 30)).alloc (.cells #[.slice none 0 0, .slice none 0 0, .slice none 0 0, .slice none 0 0] 30)).heap.size := ⟨_, rfl⟩
  rw [← hG0] at a1 Z0 S1
  have A1 := Lib.hid a1
  clear a1 b1 hG0
  have q1 : w1.cell? ⟨w.heap.size, 1, none⟩ = some vi := F1.out.par 1 (by omega)
  obtain ⟨c0, f0⟩ := F1.out.out 0 (by omega)
  go_wp2_with fail
  refine (HI.out _ (F1.out.put 0 (by omega) (.slice p0 n0 k0)).bel).mono ?_
  rintro e w2 ⟨p1, n1, k1, rfl, a2, b2⟩
  have F2 := Lib.hid ((F1.out.put 0 (by omega) (.slice p0 n0 k0)).below b2)
  have K2 := Lib.hid (chg_below (chg_set (chg_refl (w.heap.size + 1) (w.heap.size + 3) w1) (g := w.heap.size + 1 + 1) (p := 0) (v := (.slice p0 n0 k0)) (by omega) (by omega)) b2)
  have S2 := Lib.hid b2.size
  rw [size_set] at a2 S2
  have A2 := Lib.hid a2
  clear a2 b2 q1 c0 f0
  have q1 : w2.cell? ⟨w.heap.size, 2, none⟩ = some ve := F2.out.par 2 (by omega)
  obtain ⟨c0, f0⟩ := F2.out.out 1 (by omega)
  go_wp2_with fail
  refine (HE.out _ (F2.out.put 1 (by omega) (.slice p1 n1 k1)).bel).mono ?_
  rintro e w3 ⟨p2, n2, k2, rfl, a3, b3⟩
  have F3 := Lib.hid ((F2.out.put 1 (by omega) (.slice p1 n1 k1)).below b3)
  have K3 := Lib.hid (chg_below (chg_set (chg_refl (w.heap.size + 1) (w.heap.size + 3) w2) (g := w.heap.size + 1 + 1) (p := 1) (v := (.slice p1 n1 k1)) (by omega) (by omega)) b3)
  have S3 := Lib.hid b3.size
  rw [size_set] at a3 S3
  have A3 := Lib.hid a3
  clear a3 b3 q1 c0 f0
  have q1 : w3.cell? ⟨w.heap.size, 3, none⟩ = some vc := F3.out.par 3 (by omega)
  obtain ⟨c0, f0⟩ := F3.out.out 2 (by omega)
  go_wp2_with fail
  refine (HCC.out _ (F3.out.put 2 (by omega) (.slice p2 n2 k2)).bel).mono ?_
  rintro e w4 ⟨p3, n3, k3, rfl, a4, b4⟩
  have F4 := Lib.hid ((F3.out.put 2 (by omega) (.slice p2 n2 k2)).below b4)
  have K4 := Lib.hid (chg_below (chg_set (chg_refl (w.heap.size + 1) (w.heap.size + 3) w3) (g := w.heap.size + 1 + 1) (p := 2) (v := (.slice p2 n2 k2)) (by omega) (by omega)) b4)
  have S4 := Lib.hid b4.size
  rw [size_set] at a4 S4
  have A4 := Lib.hid a4
  clear a4 b4 q1 c0 f0
  have c0 : w4.cell? ⟨w.heap.size + 1 + 1, 0, none⟩ = some (.slice p0 n0 k0) := (F4.out.out 0 (by omega)).1
  have c1 : w4.cell? ⟨w.heap.size + 1 + 1, 1, none⟩ = some (.slice p1 n1 k1) := (F4.out.out 1 (by omega)).1
  have c2 : w4.cell? ⟨w.heap.size + 1 + 1, 2, none⟩ = some (.slice p2 n2 k2) := (F4.out.out 2 (by omega)).1
  obtain ⟨c3, f3⟩ := F4.out.out 3 (by omega)
  obtain ⟨d0, g0⟩ := F4.out.res 0 (by omega)
  obtain ⟨d1, g1⟩ := F4.out.res 1 (by omega)
  obtain ⟨d2, g2⟩ := F4.out.res 2 (by omega)
  obtain ⟨d3, g3⟩ := F4.out.res 3 (by omega)
  go_wp2_with fail
  have hr : World.rangeAt (((((w4.setCell ⟨w.heap.size + 1 + 1, 3, none⟩ (.slice p3 n3 k3)).setCell ⟨w.heap.size + 1, 0, none⟩ (.slice p0 n0 k0)).setCell ⟨w.heap.size + 1, 1, none⟩ (.slice p1 n1 k1)).setCell ⟨w.heap.size + 1, 2, none⟩ (.slice p2 n2 k2)).setCell ⟨w.heap.size + 1, 3, none⟩ (.slice p3 n3 k3)) (w.heap.size + 1) 0 [.slice p0 n0 k0, .slice p1 n1 k1, .slice p2 n2 k2, .slice p3 n3 k3] := fun j v hj => by
    have hj2 : j < 4 := (List.getElem?_eq_some_iff.1 hj).1
    obtain rfl | rfl | rfl | rfl : j = 0 ∨ j = 1 ∨ j = 2 ∨ j = 3 := by omega
    all_goals (cases hj; go_simp)
  refine bodyPost_ret (results_one_mid rfl _ _ (w.heap.size + 1) 0 _ _ rfl hr Tryz.underlying30 rfl (by kernel_rfl)) rfl ?_
  have hs : ∀ (W : World) (p : Addr) (v : Value), (W.setCell p v).heap.size = W.heap.size := size_set
  have K5 : Chg (w.heap.size + 1) (w.heap.size + 3) w4 (((((w4.setCell ⟨w.heap.size + 1 + 1, 3, none⟩ (.slice p3 n3 k3)).setCell ⟨w.heap.size + 1, 0, none⟩ (.slice p0 n0 k0)).setCell ⟨w.heap.size + 1, 1, none⟩ (.slice p1 n1 k1)).setCell ⟨w.heap.size + 1, 2, none⟩ (.slice p2 n2 k2)).setCell ⟨w.heap.size + 1, 3, none⟩ (.slice p3 n3 k3)) :=
    chg_set (chg_set (chg_set (chg_set (chg_set (chg_refl _ _ w4) (by omega) (by omega)) (by omega) (by omega)) (by omega) (by omega)) (by omega) (by omega)) (by omega) (by omega)
  have K35 := chg_trans K4.out K5
  have K25 := chg_trans K3.out K35
  have K15 := chg_trans K2.out K25
  have z0 := Z0.out
  have z1 := S1.out
  have z2 := S2.out
  have z3 := S3.out
  have z4 := S4.out
  refine ⟨_, _, _, _, G0, w1.heap.size, w2.heap.size, w3.heap.size, w4.heap.size, rfl, by omega, z1, z2, z3, z4, K5.size, ⟨A1.out.chg K15 (Nat.le_refl _) (.inr (by omega)), A2.out.chg K25 (Nat.le_refl _) (.inr (by omega)), A3.out.chg K35 (Nat.le_refl _) (.inr (by omega)), A4.out.chg K5 (Nat.le_refl _) (.inr (by omega))⟩, Below.chg F4.out.bel K5 (by omega) (.inl (by omega))⟩
end Go.Proofs.YtcmmlgdfhkcmoaaGreat
namespace Go.Proofs.YtcmmlgdfhkcmoaaGreat
open Go.ChangeShapes Go.WideShapes Go.ChangeAt Go.RowKit
set_option linter.unusedVariables false
set_option maxRecDepth 100000
theorem IsW.of_blocks {w w' : World} {B0 B1 : Nat} {v : Value} {xs : List IV} (h : IsW w B0 B1 v xs) (e : ∀ b, B0 ≤ b → b < B1 → w'.heap[b]? = w.heap[b]?) : IsW w' B0 B1 v xs := by
  obtain ⟨a, cap, rfl, h1, h2, h3⟩ := h
  refine ⟨a, cap, rfl, h1, h2, fun i hi => ?_⟩
  obtain ⟨g, p, ea, hg0, hg1, hf⟩ := h3 i hi
  exact ⟨g, p, ea, hg0, hg1, hf.block (e g hg0 hg1)⟩
theorem CsW.of_blocks {w w' : World} {B0 B1 : Nat} {v : Value} {xs : List CV} (h : CsW w B0 B1 v xs) (e : ∀ b, B0 ≤ b → b < B1 → w'.heap[b]? = w.heap[b]?) : CsW w' B0 B1 v xs := by
  obtain ⟨a, cap, rfl, h1, h2, h3⟩ := h
  refine ⟨a, cap, rfl, h1, h2, fun i hi => ?_⟩
  obtain ⟨g, p, ea, hg0, hg1, hf⟩ := h3 i hi
  exact ⟨g, p, ea, hg0, hg1, hf.block (e g hg0 hg1)⟩
theorem EsW.of_blocks {w w' : World} {B0 B1 : Nat} {v : Value} {es : List EV} (h : EsW w B0 B1 v es) (e : ∀ b, B0 ≤ b → b < B1 → w'.heap[b]? = w.heap[b]?) : EsW w' B0 B1 v es := by
  obtain ⟨a, cap, A, C, rfl, h1, h2, h3, h4⟩ := h
  exact ⟨a, cap, A, C, rfl, h1, h2, h3.of_blocks e, h4.of_blocks e⟩
theorem KsW.chg {lo hi : Nat} {w w' : World} {B0 B1 B2 B3 B4 : Nat} {vm vi ve vc : Value} {K : KV} (h : KsW w B0 B1 B2 B3 B4 vm vi ve vc K) (c : Chg lo hi w w') (h0 : B0 ≤ B1) (h1 : B1 ≤ B2) (h2 : B2 ≤ B3) (h3 : B3 ≤ B4) (hB : B4 ≤ w.heap.size) (hh : B4 ≤ lo ∨ hi ≤ B0) : KsW w' B0 B1 B2 B3 B4 vm vi ve vc K :=
  ⟨h.m.chg c (by omega) (by omega), h.i.chg c (by omega) (by omega), h.e.chg c (by omega) (by omega), h.c.chg c (by omega) (by omega)⟩
def szK (K : KV) : Nat := (K.m.length + total K.m) + (K.i.length + totalI K.i) + (K.e.length + tot3 K.e) + K.c.length
end Go.Proofs.YtcmmlgdfhkcmoaaGreat
namespace Go.Proofs.YtcmmlgdfhkcmoaaGreat
open Go.ChangeShapes Go.WideShapes Go.ChangeAt Go.RowKit
set_option linter.unusedVariables false
set_option maxRecDepth 100000
def LeftK (K : KV) (left : Int) (w : World) (e : Ending) (w' : World) : Prop :=
  ∃ r : Int, (r < 0 ∨ (0 ≤ r ∧ r + (K.m.length + total K.m) + (K.i.length + totalI K.i) + (K.e.length + tot3 K.e) + K.c.length = left)) ∧ e = .returned (.int .i64 r) ∧ Below w.heap.size w w'
theorem szKernel_any (w : World) (vm vi ve vc : Value) (K : KV) (left : Int) (h : Ks w vm vi ve vc K) (hfi : FitI K.i) (hfe : Fit3 K.e) (h0 : 0 ≤ left) (h1 : left ≤ 1048576) :
    Calls Tryz.prog 41 #[kV vm vi ve vc, .int .i64 left] w (LeftK K left w) := by
  obtain ⟨M, I, E, C⟩ := K
  have HA : Hid (∀ o, Below w.heap.size w (w.alloc o)) := Lib.hid (fun o => (Below.refl _ _).alloc (Nat.le_refl _) _)
  have HM : Hid (∀ W, Below w.heap.size w W → Calls Tryz.prog 92 #[vm, .int .i64 left] W (Left M left W)) := Lib.hid (fun W hW => szIntSS_any W vm M left (h.m.below hW) h0 h1)
  have HI : Hid (∀ W r, Below w.heap.size w W → 0 ≤ r → r ≤ 1048576 → Calls Tryz.prog 93 #[vi, .int .i64 r] W (LeftI I r W)) := Lib.hid (fun W r hW hr0 hr1 => szInfoS_any W vi I r (h.i.below hW) hfi hr0 hr1)
  have HE : Hid (∀ W r, Below w.heap.size w W → 0 ≤ r → r ≤ 1048576 → Calls Tryz.prog 94 #[ve, .int .i64 r] W (Left3 E r W)) := Lib.hid (fun W r hW hr0 hr1 => szEnvS_any W ve E r (h.e.below hW) hfe hr0 hr1)
  have HCC : Hid (∀ W r, Below w.heap.size w W → 0 ≤ r ∧ r ≤ 1048576 → Calls Tryz.prog 95 #[vc, .int .i64 r] W (fun e w' => e = .returned (.int .i64 (if (C.length : Int) ≤ r then r - C.length else -1)) ∧ W = w')) := Lib.hid (fun W r hW hr => szCachedS_any W vc C r (h.c.below hW) hr)
  have HQ : Hid (∀ t W', Below (w.heap.size + 1) (w.alloc (.cells #[vm, vi, ve, vc] t)) W' → W'.cell? ⟨w.heap.size, 1, none⟩ = some vi ∧ W'.cell? ⟨w.heap.size, 2, none⟩ = some ve ∧ W'.cell? ⟨w.heap.size, 3, none⟩ = some vc) := Lib.hid (fun t W' hb => ⟨(hb.cell (p := ⟨w.heap.size, 1, none⟩) (by simp)).trans (new_cell rfl), (hb.cell (p := ⟨w.heap.size, 2, none⟩) (by simp)).trans (new_cell rfl), (hb.cell (p := ⟨w.heap.size, 3, none⟩) (by simp)).trans (new_cell rfl)⟩)
  have HS : Hid (∀ o, (w.alloc o).heap.size = w.heap.size + 1) := Lib.hid (fun o => by simp)
  have HL := Lib.hid (And.intro h0 h1)
  clear h hfi hfe h0 h1
  unfold Left at HM
  unfold LeftI at HI
  unfold Left3 at HE
  go_enter Tryz.func41, Tryz.ntmps41
  go_wp2_with fail
  refine (HM.out _ (HA.out _)).mono ?_
  rintro e w1 ⟨r1, hr1, rfl, rfl⟩
  have HR1 := Lib.hid hr1
  rcases hr1 with hr1 | hr1
  · clear HR1
    go_wp2_with fail
    go_ret
    exact ⟨-1, .inl (by omega), rfl, HA.out _⟩
  · have hr1 := hr1.1
    have hn1 : ¬ r1 < 0 := by omega
    go_wp2_with fail
    refine (HI.out _ _ (HA.out _) hr1 (by have h2 := HR1.out; have h3 := HL.out; omega)).mono ?_
    rintro e w2 ⟨r2, hr2, rfl, hb2⟩
    rw [HS.out] at hb2
    obtain ⟨q1, q2, q3⟩ := HQ.out _ _ hb2
    have HB2 : Hid (Below w.heap.size w w2) := Lib.hid ((HA.out _).trans (hb2.mono (Nat.le_succ _)))
    have HB2' := Lib.hid hb2
    have HR2 := Lib.hid hr2
    clear hb2
    rcases hr2 with hr2 | hr2
    · clear HR1 HR2
      go_wp2_with fail
      go_ret
      exact ⟨-1, .inl (by omega), rfl, HB2.out⟩
    · have hr2 := hr2.1
      have hn2 : ¬ r2 < 0 := by omega
      go_wp2_with fail
      refine (HE.out _ _ HB2.out hr2 (by have h2 := HR1.out; have h3 := HL.out; have h4 := HR2.out; omega)).mono ?_
      rintro e w3 ⟨r3, hr3, rfl, hb3⟩
      have HB3 : Hid (Below w.heap.size w w3) := Lib.hid (HB2.out.trans (hb3.mono HB2.out.size))
      have hb3' := HB2'.out.trans (hb3.mono (by have := HB2'.out.size; rw [HS.out] at this; omega))
      clear q1 q2 q3 hb3
      obtain ⟨q1, q2, q3⟩ := HQ.out _ _ hb3'
      have HR3 := Lib.hid hr3
      clear hb3'
      rcases hr3 with hr3 | hr3
      · clear HR1 HR2 HR3
        go_wp2_with fail
        go_ret
        exact ⟨-1, .inl (by omega), rfl, HB3.out⟩
      · have hr3 := hr3.1
        have hn3 : ¬ r3 < 0 := by omega
        go_wp2_with fail
        refine (HCC.out _ _ HB3.out ⟨hr3, by have h2 := HR1.out; have h3 := HL.out; have h4 := HR2.out; have h5 := HR3.out; omega⟩).mono ?_
        rintro e w4 ⟨rfl, rfl⟩
        by_cases hc : (C.length : Int) ≤ r3
        · rw [if_pos hc]
          have hn4 : ¬ r3 - (C.length : Int) < 0 := by omega
          go_wp2_with fail
          go_ret
          exact ⟨r3 - C.length, .inr ⟨by omega, by have h2 := HR1.out; have h3 := HL.out; have h4 := HR2.out; have h5 := HR3.out; dsimp only; omega⟩, rfl, HB3.out⟩
        · rw [if_neg hc]
          go_wp2_with fail
          go_ret
          exact ⟨-1, .inl (by omega), rfl, HB3.out⟩
end Go.Proofs.YtcmmlgdfhkcmoaaGreat
namespace Go.Proofs.YtcmmlgdfhkcmoaaGreat
open Go.ChangeShapes Go.WideShapes Go.ChangeAt Go.RowKit
set_option linter.unusedVariables false
set_option maxRecDepth 100000
theorem eqKernel_any (w : World) (vm vi ve vc um ui ue uc : Value) (K L : KV) (h : Ks w vm vi ve vc K) (k : Ks w um ui ue uc L) (r : Bool) (hr : r = true ↔ K = L) :
    Calls Tryz.prog 43 #[kV vm vi ve vc, kV um ui ue uc] w (BRes r w) := by
  obtain ⟨M, I, E, C⟩ := K
  obtain ⟨M', I', E', C'⟩ := L
  have HA : Hid (∀ o1 o2, Below w.heap.size w ((w.alloc o1).alloc o2)) := Lib.hid (fun o1 o2 => ((Below.refl _ _).alloc (Nat.le_refl _) _).alloc (by simp) _)
  obtain ⟨p1, hp1⟩ : ∃ p, p = decide (M = M') := ⟨_, rfl⟩
  obtain ⟨p2, hp2⟩ : ∃ p, p = decide (I = I') := ⟨_, rfl⟩
  obtain ⟨p3, hp3⟩ : ∃ p, p = decide (E = E') := ⟨_, rfl⟩
  obtain ⟨p4, hp4⟩ : ∃ p, p = decide (C = C') := ⟨_, rfl⟩
  have HR : Hid (r = (p1 && p2 && p3 && p4)) := Lib.hid (by
    rw [Bool.eq_iff_iff, hr, hp1, hp2, hp3, hp4]
    simp only [KV.mk.injEq, Bool.and_eq_true, decide_eq_true_eq]
    exact ⟨fun ⟨a, b, c, d⟩ => ⟨⟨⟨a, b⟩, c⟩, d⟩, fun ⟨⟨⟨a, b⟩, c⟩, d⟩ => ⟨a, b, c, d⟩⟩)
  have HM : Hid (∀ W, Below w.heap.size w W → Calls Tryz.prog 100 #[vm, um] W (fun e w' => e = .returned (.bool p1) ∧ Below W.heap.size W w')) := Lib.hid (fun W hW => by
    rw [hp1]
    exact (eqIntSS_any W vm um M M' (h.m.below hW) (k.m.below hW)).mono fun e w' hh => reads_below hh)
  have HI : Hid (∀ W, Below w.heap.size w W → Calls Tryz.prog 101 #[vi, ui] W (fun e w' => e = .returned (.bool p2) ∧ Below W.heap.size W w')) := Lib.hid (fun W hW => by
    rw [hp2]
    exact eqInfoS_any W vi ui I I' (h.i.below hW) (k.i.below hW))
  have HE : Hid (∀ W, Below w.heap.size w W → Calls Tryz.prog 102 #[ve, ue] W (fun e w' => e = .returned (.bool p3) ∧ Below W.heap.size W w')) := Lib.hid (fun W hW => by
    rw [hp3]
    exact eqEnvS_any W ve ue E E' (h.e.below hW) (k.e.below hW))
  have HCC : Hid (∀ W, Below w.heap.size w W → Calls Tryz.prog 103 #[vc, uc] W (fun e w' => e = .returned (.bool p4) ∧ Below W.heap.size W w')) := Lib.hid (fun W hW => by
    rw [hp4]
    exact eqCachedS_any W vc uc C C' (h.c.below hW) (k.c.below hW))
  have HQ : Hid (∀ t s W', Below (w.heap.size + 1 + 1) ((w.alloc (.cells #[vm, vi, ve, vc] t)).alloc (.cells #[um, ui, ue, uc] s)) W' → (W'.cell? ⟨w.heap.size, 1, none⟩ = some vi ∧ W'.cell? ⟨w.heap.size, 2, none⟩ = some ve ∧ W'.cell? ⟨w.heap.size, 3, none⟩ = some vc) ∧ W'.cell? ⟨w.heap.size + 1, 1, none⟩ = some ui ∧ W'.cell? ⟨w.heap.size + 1, 2, none⟩ = some ue ∧ W'.cell? ⟨w.heap.size + 1, 3, none⟩ = some uc) := Lib.hid (fun t s W' hb => by
    have a : ∀ j v, (#[vm, vi, ve, vc] : Array Value)[j]? = some v → W'.cell? ⟨w.heap.size, j, none⟩ = some v := fun j v hj => (hb.cell (p := ⟨w.heap.size, j, none⟩) (by show w.heap.size < _; omega)).trans (by rw [World.cell?_alloc_past _ _ _ (by simp)]; exact new_cell hj)
    have b : ∀ j v, (#[um, ui, ue, uc] : Array Value)[j]? = some v → W'.cell? ⟨w.heap.size + 1, j, none⟩ = some v := fun j v hj => (hb.cell (p := ⟨w.heap.size + 1, j, none⟩) (by show w.heap.size + 1 < _; omega)).trans (by
      have := new_cell (w := w.alloc (.cells #[vm, vi, ve, vc] t)) (t := s) hj
      rwa [World.size_alloc] at this)
    exact ⟨⟨a 1 _ rfl, a 2 _ rfl, a 3 _ rfl⟩, b 1 _ rfl, b 2 _ rfl, b 3 _ rfl⟩)
  have HS : Hid (∀ o1 o2, ((w.alloc o1).alloc o2).heap.size = w.heap.size + 1 + 1) := Lib.hid (fun o1 o2 => by simp)
  clear h k hr hp1 hp2 hp3 hp4
  go_enter Tryz.func43, Tryz.ntmps43
  go_wp2_with fail
  refine (HM.out _ (HA.out _ _)).mono ?_
  rintro e w1 ⟨rfl, hb1⟩
  rw [HS.out] at hb1
  have HB1 : Hid (Below w.heap.size w w1) := Lib.hid ((HA.out _ _).trans (hb1.mono (by omega)))
  have HD1 := Lib.hid hb1
  obtain ⟨⟨q1, q2, q3⟩, s1, s2, s3⟩ := HQ.out _ _ _ hb1
  clear hb1
  cases p1 with
  | false =>
    go_wp2_with fail
    go_ret
    exact ⟨by rw [HR.out]; rfl, HB1.out⟩
  | true =>
    go_wp2_with fail
    refine (HI.out _ HB1.out).mono ?_
    rintro e w2 ⟨rfl, hb2⟩
    have HB2 : Hid (Below w.heap.size w w2) := Lib.hid (HB1.out.trans (hb2.mono HB1.out.size))
    have HD2 := Lib.hid (HD1.out.trans (hb2.mono (by have := HD1.out.size; rw [HS.out] at this; exact this)))
    clear q1 q2 q3 s1 s2 s3 hb2
    obtain ⟨⟨q1, q2, q3⟩, s1, s2, s3⟩ := HQ.out _ _ _ HD2.out
    cases p2 with
    | false =>
      go_wp2_with fail
      go_ret
      exact ⟨by rw [HR.out]; rfl, HB2.out⟩
    | true =>
      go_wp2_with fail
      refine (HE.out _ HB2.out).mono ?_
      rintro e w3 ⟨rfl, hb3⟩
      have HB3 : Hid (Below w.heap.size w w3) := Lib.hid (HB2.out.trans (hb3.mono HB2.out.size))
      have HD3 := Lib.hid (HD2.out.trans (hb3.mono (by have := HD2.out.size; rw [HS.out] at this; exact this)))
      clear q1 q2 q3 s1 s2 s3 hb3
      obtain ⟨⟨q1, q2, q3⟩, s1, s2, s3⟩ := HQ.out _ _ _ HD3.out
      cases p3 with
      | false =>
        go_wp2_with fail
        go_ret
        exact ⟨by rw [HR.out]; rfl, HB3.out⟩
      | true =>
        go_wp2_with fail
        refine (HCC.out _ HB3.out).mono ?_
        rintro e w4 ⟨rfl, hb4⟩
        have HB4 : Hid (Below w.heap.size w w4) := Lib.hid (HB3.out.trans (hb4.mono HB3.out.size))
        clear q1 q2 q3 s1 s2 s3 hb4
        cases p4 with
        | false =>
          go_wp2_with fail
          go_ret
          exact ⟨by rw [HR.out]; rfl, HB4.out⟩
        | true =>
          go_wp2_with fail
          go_ret
          exact ⟨by rw [HR.out]; rfl, HB4.out⟩
end Go.Proofs.YtcmmlgdfhkcmoaaGreat
namespace Go.Proofs.YtcmmlgdfhkcmoaaGreat
open Go.ChangeShapes Go.WideShapes Go.ChangeAt Go.RowKit Go.Maps Go.Shelf
set_option linter.unusedVariables false
set_option linter.unusedSimpArgs false
set_option maxRecDepth 100000
theorem szK_short {K : KV} (h : szK K ≤ 1048576) : ShortI K.i ∧ Short3 K.e := by
  unfold szK at h
  refine ⟨fun x hx => ?_, fun x hx y hy => ?_⟩
  · have := totalI_mem hx; omega
  · have h1 := tot3_mem hx
    have h2 := totalS_mem hy
    omega
def CopyK (K : KV) (w : World) (e : Ending) (w' : World) : Prop :=
  ∃ (am : Option Addr) (nm cm : Nat) (ai : Option Addr) (ni ci : Nat) (ae : Option Addr) (ne ce : Nat) (ac : Option Addr) (nc cc : Nat) (B0 B1 B2 B3 B4 : Nat), e = .returned (kV (.slice am nm cm) (.slice ai ni ci) (.slice ae ne ce) (.slice ac nc cc)) ∧ w.heap.size ≤ B0 ∧ B0 ≤ B1 ∧ B1 ≤ B2 ∧ B2 ≤ B3 ∧ B3 ≤ B4 ∧ B4 ≤ w'.heap.size ∧ KsW w' B0 B1 B2 B3 B4 (.slice am nm cm) (.slice ai ni ci) (.slice ae ne ce) (.slice ac nc cc) K ∧ Below w.heap.size w w'
theorem copyK (w : World) (vm vi ve vc : Value) (K : KV) (h : Ks w vm vi ve vc K) (hz : szK K ≤ 1048576) : Calls Tryz.prog 42 #[kV vm vi ve vc] w (CopyK K w) := by
  unfold szK at hz
  refine (toKernel_any w vm vi ve vc K h (by omega) (by omega) (by omega) (fun j hj => ?_) (by omega)).mono ?_
  · have := tot3_mem (List.getElem_mem hj)
    rw [getD_lt hj]
    omega
  · rintro e w' ⟨um, ui, ue, uc, B0, B1, B2, B3, B4, rfl, h0, h1, h2, h3, h4, h5, hk, hb⟩
    obtain ⟨am, cm, em⟩ : ∃ am cm, um = .slice am K.m.length cm := by
      obtain ⟨a, c, e, _⟩ := hk.m.rows
      exact ⟨a, c, e⟩
    obtain ⟨ai, ci, ei⟩ : ∃ am cm, ui = .slice am K.i.length cm := by
      obtain ⟨a, c, e, _⟩ := hk.i.is
      exact ⟨a, c, e⟩
    obtain ⟨ae, ce, ee⟩ : ∃ am cm, ue = .slice am K.e.length cm := by
      obtain ⟨a, c, e, _⟩ := hk.e.es
      exact ⟨a, c, e⟩
    obtain ⟨ac, cc, ec⟩ : ∃ am cm, uc = .slice am K.c.length cm := by
      obtain ⟨a, c, e, _⟩ := hk.c.cs
      exact ⟨a, c, e⟩
    subst em
    subst ei
    subst ee
    subst ec
    exact ⟨am, _, cm, ai, _, ci, ae, _, ce, ac, _, cc, B0, B1, B2, B3, B4, rfl, h0, h1, h2, h3, h4, h5, hk, hb⟩
structure KB4 (W : World) (Y : Nat) (um ui ue uc : Value) : Prop where
  lt : Y < W.heap.size
  c0 : W.cell? ⟨Y, 0, none⟩ = some um
  c1 : W.cell? ⟨Y, 1, none⟩ = some ui
  c2 : W.cell? ⟨Y, 2, none⟩ = some ue
  c3 : W.cell? ⟨Y, 3, none⟩ = some uc
theorem KB4.new (w : World) (um ui ue uc : Value) (t : TypeId) : KB4 (w.alloc (.cells #[um, ui, ue, uc] t)) w.heap.size um ui ue uc := ⟨by simp, new_cell rfl, new_cell rfl, new_cell rfl, new_cell rfl⟩
theorem KB4.chg {lo hi : Nat} {W W' : World} {Y : Nat} {um ui ue uc : Value} (h : KB4 W Y um ui ue uc) (c : Chg lo hi W W') (hh : Y < lo ∨ hi ≤ Y) : KB4 W' Y um ui ue uc := by
  have e := c.block Y h.lt hh
  exact ⟨Nat.lt_of_lt_of_le h.lt c.size, (World.cell?_of_block e).trans h.c0, (World.cell?_of_block e).trans h.c1, (World.cell?_of_block e).trans h.c2, (World.cell?_of_block e).trans h.c3⟩
theorem KB4.go {W W' : World} {Y : Nat} {um ui ue uc : Value} (h : KB4 W Y um ui ue uc) (hb : Below W.heap.size W W') : KB4 W' Y um ui ue uc := h.chg (Chg.of_below hb) (.inr (Nat.zero_le _))
theorem KB4.cells {W : World} {Y : Nat} {um ui ue uc : Value} (h : KB4 W Y um ui ue uc) : W.cell? ⟨Y, 0, none⟩ = some um ∧ W.cell? ⟨Y, 1, none⟩ = some ui ∧ W.cell? ⟨Y, 2, none⟩ = some ue ∧ W.cell? ⟨Y, 3, none⟩ = some uc := ⟨h.c0, h.c1, h.c2, h.c3⟩
theorem Ks.go {w w' : World} {vm vi ve vc : Value} {K : KV} (h : Ks w vm vi ve vc K) (hb : Below w.heap.size w w') : Ks w' vm vi ve vc K := h.below hb
end Go.Proofs.YtcmmlgdfhkcmoaaGreat
