/- How the laws copy translations. -/
import Derived.Test.YtklclcbhghjjfaaCSame
namespace Go.Proofs.Ytklclcbhghjjfaa
open Go.ChangeShapes Go.WideShapes Go.ChangeAt Go.RowKit
set_option linter.unusedVariables false

/-- four cells that may be written -/
structure FourW (w : World) (b o : Nat) (x : CV) : Prop where
  at4 : Four w b o x
  fr : ∀ j, j < 4 → w.frozen? ⟨b, o + j, none⟩ = false
/-- a slice of translations in blocks from B0 to B1-1 -/
def CsW (w : World) (B0 B1 : Nat) (v : Value) (xs : List CV) : Prop :=
  ∃ (a : Option Addr) (cap : Nat), v = .slice a xs.length cap ∧ xs.length ≤ cap ∧ cap ≤ maxLen ∧
    ∀ i, i < xs.length → ∃ g p, a = some ⟨g, p, none⟩ ∧ B0 ≤ g ∧ g < B1 ∧ FourW w g (p + i * 4) (xs.getD i c0)
theorem CsW.cs {w : World} {B0 B1 : Nat} {v : Value} {xs : List CV} (h : CsW w B0 B1 v xs) : Cs w v xs := by
  obtain ⟨a, cap, rfl, h1, h2, h3⟩ := h
  refine ⟨a, cap, rfl, h1, h2, fun i hi => ?_⟩
  obtain ⟨g, p, e, _, _, hf⟩ := h3 i hi
  exact ⟨g, p, e, hf.at4⟩
theorem FourW.block {w w' : World} {b o : Nat} {x : CV} (h : FourW w b o x) (e : w'.heap[b]? = w.heap[b]?) : FourW w' b o x :=
  ⟨⟨(World.cell?_of_block e).trans h.at4.c0, (World.cell?_of_block e).trans h.at4.c1, (World.cell?_of_block e).trans h.at4.c2, (World.cell?_of_block e).trans h.at4.c3⟩, fun j hj => (World.frozen?_of_block e).trans (h.fr j hj)⟩
theorem FourW.there {w : World} {b o : Nat} {x : CV} (h : FourW w b o x) : w.there b o 4 := fun j hj => by
  refine ⟨?_, h.fr j hj⟩
  obtain rfl | rfl | rfl | rfl : j = 0 ∨ j = 1 ∨ j = 2 ∨ j = 3 := by omega
  · rw [Nat.add_zero, h.at4.c0]; rfl
  · rw [h.at4.c1]; rfl
  · rw [h.at4.c2]; rfl
  · rw [h.at4.c3]; rfl
theorem FourW.stored {w : World} {b o : Nat} {x : CV} (h : w.there b o 4) : FourW (w.setCells b o (cvC x)) b o x := by
  have hr := World.rangeAt_setCells_same w b o (cvC x) h
  exact ⟨⟨hr 0 _ rfl, hr 1 _ rfl, hr 2 _ rfl, hr 3 _ rfl⟩, fun j hj => by rw [World.frozen?_setCells]; exact (h j hj).2⟩
theorem FourW.apart {w : World} {b o o' : Nat} {x : CV} {vs : List Value} (h : FourW w b o' x) (ha : o' + 4 ≤ o ∨ o + vs.length ≤ o') : FourW (w.setCells b o vs) b o' x := by
  have hr : w.rangeAt b o' (cvC x) := fun j v hv => by
    have hj : j < 4 := (List.getElem?_eq_some_iff.1 hv).1
    obtain rfl | rfl | rfl | rfl : j = 0 ∨ j = 1 ∨ j = 2 ∨ j = 3 := by omega
    · cases hv; exact h.at4.c0
    · cases hv; exact h.at4.c1
    · cases hv; exact h.at4.c2
    · cases hv; exact h.at4.c3
  have h2 := World.rangeAt_setCells_apart hr b o vs (.inr ha)
  exact ⟨⟨h2 0 _ rfl, h2 1 _ rfl, h2 2 _ rfl, h2 3 _ rfl⟩, fun j hj => by rw [World.frozen?_setCells]; exact h.fr j hj⟩
theorem CsW.of_own {w w' : World} {v : Value} {ys : List CV} (h : OwnC w v ys w') : CsW w' w.heap.size w'.heap.size v ys := by
  have hc := h.cs
  rcases h.own.2 with ⟨e, _⟩ | ⟨g, cap, cur, rfl, hb, hbl, hnc, hcm, hcs, htk⟩
  · exact absurd e h.nn
  · refine ⟨some ⟨g, 0, none⟩, cap, rfl, hnc, hcm, fun i hi => ⟨g, 0, rfl, hb, (Array.getElem?_eq_some_iff.1 hbl).1, ?_, fun j hj => frozen_of_row w' g _ cur _ hbl⟩⟩
    obtain ⟨a, cp, e, _, _, h3⟩ := hc
    obtain ⟨b, o, e2, hf⟩ := h3 i hi
    injection e with e _ _
    rw [← e] at e2
    injection e2 with e2
    injection e2 with e3 e4
    subst e3; subst e4
    exact hf
/-- the call returns a new slice of translations, perhaps nil; nothing that was there changes -/
def NewCR (ys : List CV) (w : World) (e : Ending) (w' : World) : Prop := ∃ v, e = .returned v ∧ CsW w' w.heap.size w'.heap.size v ys ∧ Below w.heap.size w w'
theorem NewCR.of_new {ys : List CV} {w : World} {e : Ending} {w' : World} (h : NewC ys w e w') : NewCR ys w e w' := by
  obtain ⟨v, rfl, h⟩ := h
  exact ⟨v, rfl, CsW.of_own h, h.bel⟩
set_option maxRecDepth 100000 in
theorem toCached_any (w : World) (x : CV) : Calls Try.prog 31 #[cvV x] w fun e w' => e = .returned (cvV x) ∧ Below w.heap.size w w' := by
  obtain ⟨xe, xp, xf, xb⟩ := x
  go_enter Try.func31, Try.ntmps31
  go_wp2
  refine bodyPost_ret (results_cell_row rfl _ _ (w.heap.size + 1) 25 #[.int .i64 xe, .int .i64 xp, .int .i64 xf, .bool xb] (0, 0) _ rfl (by
    have h := heap_alloc_new (w.alloc (.cells #[.int .i64 xe, .int .i64 xp, .int .i64 xf, .bool xb] 48)) (.cells #[.int .i64 xe, .int .i64 xp, .int .i64 xf, .bool xb] 25)
    rw [World.size_alloc] at h
    exact (Below.heap_alloc _ _ _ (by simp)).trans h) Try.underlying25 rfl (by kernel_rfl)) rfl ?_
  exact ⟨rfl, (((Below.refl _ _).alloc (Nat.le_refl _) _).alloc (by simp) _).alloc (by simp; omega) _⟩
theorem szCachedS_any (w : World) (v : Value) (xs : List CV) (left : Int) (h : Cs w v xs) (hl : 0 ≤ left ∧ left ≤ 1048576) :
    Calls Try.prog 27 #[v, .int .i64 left] w fun e w' => e = .returned (.int .i64 (if (xs.length : Int) ≤ left then left - xs.length else -1)) ∧ w = w' := by
  obtain ⟨a, cap, rfl, h1, h2, h3⟩ := h
  unfold maxLen at h2
  by_cases hc : (xs.length : Int) ≤ left
  · rw [if_pos hc]
    go_enter Try.func27, Try.ntmps27
    go_wp2
    go_ret
    exact ⟨rfl, rfl⟩
  · rw [if_neg hc]
    have hc' : decide (left - (xs.length : Int) < 0) = true := by simp; omega
    go_enter Try.func27, Try.ntmps27
    go_wp2
    go_ret
    exact ⟨rfl, rfl⟩
/-- translations copied so far, the rest zero -/
def part4 (xs : List CV) (k i : Nat) : CV := if i < k then xs.getD i c0 else c0
set_option maxRecDepth 100000 in
set_option maxHeartbeats 1000000 in
theorem toCachedS_any (w : World) (v : Value) (xs : List CV) (h : Cs w v xs) (hn : xs.length ≤ 1048576) :
    Calls Try.prog 28 #[v] w (NewCR xs w) := by
  obtain ⟨i0, hi, hz0, hz1, hz2⟩ := info_parts cvInfo
  have HI := Lib.hid hi
  have HZ0 := Lib.hid hz0
  have HZ1 := Lib.hid hz1
  have HZ2 := Lib.hid hz2
  clear hi hz0 hz1 hz2
  obtain ⟨a, ca, rfl, hla, hma, hxa⟩ := h
  unfold maxLen at hma
  obtain ⟨n, hN⟩ : ∃ n, n = xs.length := ⟨_, rfl⟩
  have HXA := Lib.hid hxa
  rw [← hN] at hla hn ⊢
  have HN := Lib.hid hN
  clear hN hxa
  go_enter Try.func28, Try.ntmps28
  go_wp2_with (at_make; refine wpList_make_full _ rfl (.tmp 6) (.tmp 6) 23 rfl w.heap.size 25 i0 (.agg #[.int .i64 0, .int .i64 0, .int .i64 0, .bool false]) 4 Try.underlying23 HI.out HZ0.out HZ1.out .i64 .i64 _ _ n rfl rfl rfl rfl (by rw [HZ2.out]; omega) (by unfold maxLen; omega) (Nat.le_refl _) ?_; intro w1 hown hg)
  have HST : Hid (∀ i, i < n → FourW w1 w.heap.size (0 + i * 4) (part4 xs 0 i)) := Lib.hid (fun i hi => by
    have hc : ∀ j v, j < 4 → (#[Value.int .i64 0, .int .i64 0, .int .i64 0, .bool false] : Array Value)[j]? = some v → w1.cell? ⟨w.heap.size, 0 + i * 4 + j, none⟩ = some v := fun j v hj hv => by
      have := hown.cells (g := w.heap.size) rfl (i * 4 + j) v (by
        rw [Array.getElem?_toList]
        unfold madeCells
        rw [Array.getElem?_map, Array.getElem?_range, if_pos (by omega)]
        simp only [Option.map_some, Value.cells]
        rw [← hv]
        have e : (i * 4 + j) % 4 = j := by omega
        simp only [List.size_toArray, List.length_cons, List.length_nil, e]
        obtain rfl | rfl | rfl | rfl : j = 0 ∨ j = 1 ∨ j = 2 ∨ j = 3 := by omega
        all_goals simp)
      rw [add0] at this
      rw [Nat.zero_add]
      exact this
    exact ⟨⟨hc 0 _ (by omega) rfl, hc 1 _ (by omega) rfl, hc 2 _ (by omega) rfl, hc 3 _ (by omega) rfl⟩, fun j _ => hown.frozenAt _⟩)
  have HB1 : Hid (Below w.heap.size w w1) := Lib.hid ((Below.refl _ _).grown hg (Nat.le_refl _) (fun k e => by cases e))
  have HS1 : Hid (w.heap.size < w1.heap.size) := Lib.hid (hown.lt _ rfl).2
  clear hown hg
  go_loopw [4] (fun i wr => ∃ k : Nat, k ≤ n ∧ i = .int .i64 k ∧ Hid (Below w.heap.size w wr) ∧ Hid (w.heap.size < wr.heap.size) ∧ Hid (∀ i, i < n → FourW wr w.heap.size (0 + i * 4) (part4 xs k i))) (fun i _ => n - (intOf i).toNat)
  case atStart => exact ⟨0, Nat.zero_le _, rfl, HB1, HS1, HST⟩
  case round =>
    obtain ⟨k, hk, rfl, HBW, HSW, HFW⟩ := hrel
    by_cases hlt : k < n
    · obtain ⟨b, o, rfl, hf0⟩ := HXA.out k (by have := HN.out; omega)
      obtain ⟨x, hx⟩ : ∃ x, x = xs.getD k c0 := ⟨_, rfl⟩
      rw [← hx] at hf0
      have hbl := block_lt_of_cell hf0.c0
      obtain ⟨g0, g1, g2, g3⟩ := hf0.below HBW.out hbl
      have HX := Lib.hid hx
      have HC := Lib.hid (toCached_any wr x)
      have hlt' : (k : Int) < (n : Int) := by omega
      clear hx hf0
      go_wp2_with fail
      refine HC.out.mono ?_
      rintro e w2 ⟨rfl, hb2⟩
      have HB2 := Lib.hid (HBW.out.trans (hb2.mono HBW.out.size))
      have HS2 : Hid (w.heap.size < w2.heap.size) := Lib.hid (Nat.lt_of_lt_of_le HSW.out hb2.size)
      have HF2 : Hid (∀ i, i < n → FourW w2 w.heap.size (0 + i * 4) (part4 xs k i)) := Lib.hid (fun i hi => (HFW.out i hi).block (hb2.block _ HSW.out))
      have HT : Hid (w2.there w.heap.size (k * 4) 4) := Lib.hid (by
        have h := HF2.out k hlt
        rw [Nat.zero_add] at h
        exact h.there)
      clear hb2
      go_wp2_with ((with_reducible refine store_is 25 (.tmp 21) (.tmp 20) ?_); refine store_arr 25 (.tmp 21) (.tmp 20) w.heap.size (k * 4) #[.int .i64 x.e, .int .i64 x.p, .int .i64 x.f, .bool x.b] rfl rfl HT.out (by kernel_rfl) (by simp [Value.oneCell']) ?_)
      go_roundw
      case rel =>
        refine ⟨k + 1, by omega, by go_num, Lib.hid (Below.setCells HB2.out _ (Nat.le_refl _) _ _ _ HB2.out), Lib.hid (by rw [size_setCells]; exact HS2.out), Lib.hid (fun i hi => ?_)⟩
        by_cases hik : i = k
        · subst hik
          have e : part4 xs (i + 1) i = x := by unfold part4; rw [if_pos (by omega), HX.out]
          rw [e, Nat.zero_add]
          exact FourW.stored HT.out
        · have e : part4 xs (k + 1) i = part4 xs k i := by
            unfold part4
            by_cases h : i < k
            · rw [if_pos h, if_pos (by omega)]
            · rw [if_neg h, if_neg (by omega)]
          rw [e]
          exact (HF2.out i hi).apart (by show 0 + i * 4 + 4 ≤ k * 4 ∨ k * 4 + 4 ≤ 0 + i * 4; omega)
      case measure => simp [intOf]; omega
    · have ek : k = n := by omega
      subst ek
      go_wp2
      go_ret
      refine ⟨_, rfl, ⟨some ⟨w.heap.size, 0, none⟩, k, by rw [← HN.out]; rfl, by rw [← HN.out]; exact Nat.le_refl _, by unfold maxLen; omega, fun i hi => ⟨w.heap.size, 0, rfl, Nat.le_refl _, HSW.out, ?_⟩⟩, HBW.out⟩
      have h := HFW.out i (by have := HN.out; omega)
      have e : part4 xs k i = xs.getD i c0 := by unfold part4; rw [if_pos (by have := HN.out; omega)]
      rwa [e] at h
end Go.Proofs.Ytklclcbhghjjfaa
