/- What the reference finds in a cache. -/
import Derived.Test.YtklclcbhghjjfaaCv
import Derived.Test.YtklclcbhghjjfaaArr
namespace Go.Proofs.Ytklclcbhghjjfaa
open Go.ChangeShapes Go.WideShapes Go.ChangeAt Go.RowKit
set_option linter.unusedVariables false

theorem fnd_le (xs : List CV) (e p : Int) : -1 ≤ fnd xs e p ∧ fnd xs e p < xs.length := by
  unfold fnd
  cases h : xs.findIdx? (fun x => same x e p) with
  | none => exact ⟨by simp, by simp; omega⟩
  | some i =>
    have := (List.findIdx?_eq_some_iff_getElem.1 h).1
    exact ⟨by show (-1 : Int) ≤ (i : Int); omega, by show (i : Int) < _; omega⟩
/-- the translation found, and whether there is one -/
structure FV where
  x : CV
  b : Bool
def cFind (xs : List CV) (e p : Int) : FV := if cOk xs = true ∧ 0 ≤ fnd xs e p then ⟨xs.getD (fnd xs e p).toNat c0, true⟩ else ⟨c0, false⟩
def FindRes (w : World) (r : FV) (e : Ending) (w' : World) : Prop := e = .returned (.tuple #[cvV r.x, .bool r.b]) ∧ Below w.heap.size w w'
set_option maxRecDepth 100000 in
theorem cFind_any (w : World) (v : Value) (xs : List CV) (e p : Int) (h : Cs w v xs) :
    Calls Try.prog 25 #[v, .int .i64 e, .int .i64 p] w (FindRes w (cFind xs e p)) := by
  have hcs := h
  obtain ⟨a, cap, rfl, h1, h2, h3⟩ := h
  unfold maxLen at h2
  have HF := Lib.hid (fun W (hb : Below w.heap.size w W) => l4Find_any W _ xs e p (hcs.below hb))
  have HV := Lib.hid (fun W (hb : Below w.heap.size w W) => cValid_any W _ xs (hcs.below hb))
  obtain ⟨lo, hi⟩ := fnd_le xs e p
  obtain ⟨fk, hfk⟩ : ∃ fk, fk = fnd xs e p := ⟨_, rfl⟩
  obtain ⟨r, hr⟩ : ∃ r, r = cFind xs e p := ⟨_, rfl⟩
  have hr2 := hr
  unfold cFind at hr2
  rw [← hfk] at HF lo hi hr2
  rw [← hr]
  have H3 := Lib.hid h3
  obtain ⟨m, hm⟩ : ∃ m, m = xs.length := ⟨_, rfl⟩
  have HM := Lib.hid hm
  rw [← hm] at h1 hi HF HV ⊢
  clear hm hfk hr h3 hcs
  cases hok : cOk xs
  · rw [hok] at HV hr2
    rw [if_neg (by simp)] at hr2
    subst hr2
    clear hok
    have HB0 := Lib.hid ((Below.refl w.heap.size w).alloc (Nat.le_refl _) (.cells #[.int .i64 0, .int .i64 0, .int .i64 0, .bool false] 25))
    go_enter Try.func25, Try.ntmps25
    go_wp2_with fail
    refine (HF.out _ HB0.out).mono ?_
    rintro e w1 ⟨rfl, rfl⟩
    go_wp2_with fail
    refine (HV.out _ HB0.out).mono ?_
    rintro e w1 ⟨rfl, hb1⟩
    have HB1 := Lib.hid (HB0.out.trans (hb1.mono HB0.out.size))
    have HT := Lib.hid (there_blocks (w' := w1) (there_row (heap_alloc_new w (.cells #[.int .i64 0, .int .i64 0, .int .i64 0, .bool false] 25)) (n := 4) (by simp)) (hb1.block w.heap.size (by simp)))
    clear hb1
    go_wp2_with ((with_reducible refine store_is 25 (.tmp 6) (.tmp 20) ?_); refine store_arr 25 (.tmp 6) (.tmp 20) w.heap.size 0 #[.int .i64 0, .int .i64 0, .int .i64 0, .bool false] rfl rfl HT.out (by kernel_rfl) (by kernel_rfl) ?_)
    refine bodyPost_ret (results_cell_mid rfl _ _ w.heap.size 0 [.int .i64 0, .int .i64 0, .int .i64 0, .bool false] _ rfl (World.rangeAt_setCells_same _ _ _ _ HT.out) Try.underlying25 rfl (by kernel_rfl)) rfl ?_
    exact ⟨rfl, Below.setCells HB1.out _ (Nat.le_refl _) _ _ _ HB1.out⟩
  · rw [hok] at HV
    have hok' := hok
    clear hok
    have HB0 := Lib.hid ((Below.refl w.heap.size w).alloc (Nat.le_refl _) (.cells #[.int .i64 0, .int .i64 0, .int .i64 0, .bool false] 25))
    by_cases hf : fk < 0
    · rw [if_neg (by rintro ⟨_, h⟩; omega)] at hr2
      subst hr2
      go_enter Try.func25, Try.ntmps25
      go_wp2_with fail
      refine (HF.out _ HB0.out).mono ?_
      rintro e w1 ⟨rfl, rfl⟩
      go_wp2_with fail
      refine (HV.out _ HB0.out).mono ?_
      rintro e w1 ⟨rfl, hb1⟩
      have HB1 := Lib.hid (HB0.out.trans (hb1.mono HB0.out.size))
      have HT := Lib.hid (there_blocks (w' := w1) (there_row (heap_alloc_new w (.cells #[.int .i64 0, .int .i64 0, .int .i64 0, .bool false] 25)) (n := 4) (by simp)) (hb1.block w.heap.size (by simp)))
      clear hb1
      go_wp2_with ((with_reducible refine store_is 25 (.tmp 6) (.tmp 20) ?_); refine store_arr 25 (.tmp 6) (.tmp 20) w.heap.size 0 #[.int .i64 0, .int .i64 0, .int .i64 0, .bool false] rfl rfl HT.out (by kernel_rfl) (by kernel_rfl) ?_)
      refine bodyPost_ret (results_cell_mid rfl _ _ w.heap.size 0 [.int .i64 0, .int .i64 0, .int .i64 0, .bool false] _ rfl (World.rangeAt_setCells_same _ _ _ _ HT.out) Try.underlying25 rfl (by kernel_rfl)) rfl ?_
      exact ⟨rfl, Below.setCells HB1.out _ (Nat.le_refl _) _ _ _ HB1.out⟩
    · have hf0 : 0 ≤ fk := by omega
      have hf' : decide (fk < 0) = false := by simp; omega
      rw [if_pos ⟨hok', hf0⟩] at hr2
      obtain ⟨j, rfl⟩ := Int.eq_ofNat_of_zero_le hf0
      have hjm : j < m := by omega
      obtain ⟨b, o, rfl, hfo⟩ := H3.out j (by have := HM.out; omega)
      obtain ⟨x, hx⟩ : ∃ x, x = xs.getD j c0 := ⟨_, rfl⟩
      have hr3 : r = ⟨x, true⟩ := by rw [hr2, hx]; rfl
      rw [← hx] at hfo
      have HFO := Lib.hid hfo
      have hbl := block_lt_of_cell hfo.c0
      clear hr2 hx hfo hf hf0
      subst hr3
      go_enter Try.func25, Try.ntmps25
      go_wp2_with fail
      refine (HF.out _ HB0.out).mono ?_
      rintro e w1 ⟨rfl, rfl⟩
      go_wp2_with fail
      refine (HV.out _ HB0.out).mono ?_
      rintro e w1 ⟨rfl, hb1⟩
      have HB1 := Lib.hid (HB0.out.trans (hb1.mono HB0.out.size))
      have HT := Lib.hid (there_blocks (w' := w1) (there_row (heap_alloc_new w (.cells #[.int .i64 0, .int .i64 0, .int .i64 0, .bool false] 25)) (n := 4) (by simp)) (hb1.block w.heap.size (by simp)))
      clear hb1
      obtain ⟨q0, q1, q2, q3⟩ := HFO.out.below HB1.out hbl
      go_wp2_with ((with_reducible refine store_is 25 (.tmp 6) (.tmp 24) ?_); refine store_arr 25 (.tmp 6) (.tmp 24) w.heap.size 0 #[.int .i64 x.e, .int .i64 x.p, .int .i64 x.f, .bool x.b] rfl rfl HT.out (by kernel_rfl) (by simp [Value.oneCell']) ?_)
      refine bodyPost_ret (results_cell_mid rfl _ _ w.heap.size 0 [.int .i64 x.e, .int .i64 x.p, .int .i64 x.f, .bool x.b] _ rfl (World.rangeAt_setCells_same _ _ _ _ HT.out) Try.underlying25 rfl (by kernel_rfl)) rfl ?_
      exact ⟨rfl, Below.setCells HB1.out _ (Nat.le_refl _) _ _ _ HB1.out⟩
end Go.Proofs.Ytklclcbhghjjfaa
