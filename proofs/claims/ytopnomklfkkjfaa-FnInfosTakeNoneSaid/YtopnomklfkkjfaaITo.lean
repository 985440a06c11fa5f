/- How the laws copy what is known of frames. -/
import Derived.Test.YtopnomklfkkjfaaIOwn
namespace Go.Proofs.Ytopnomklfkkjfaa
open Go.ChangeShapes Go.WideShapes Go.ChangeAt Go.RowKit
set_option linter.unusedVariables false

/-- a new slice in a block of its own; nothing that was there changes -/
def ToIs (xs : List IV) (w : World) (e : Ending) (w' : World) : Prop :=
  ∃ v, e = .returned v ∧ IsW w' w.heap.size w'.heap.size v xs ∧ Below w.heap.size w w' ∧ v = .slice (some ⟨w.heap.size, 0, none⟩) xs.length xs.length
set_option maxRecDepth 100000 in
theorem toInfo_any (w : World) (x : IV) : Calls Try.prog 47 #[ivV x] w fun e w' => e = .returned (ivV x) ∧ Below w.heap.size w w' := by
  obtain ⟨xk, xg, xr⟩ := x
  go_enter Try.func47, Try.ntmps47
  go_wp2
  refine bodyPost_ret (results_cell_row rfl _ _ (w.heap.size + 1) 30 #[.int .i64 xk, .string ⟨xg.toArray⟩, .int .i64 xr] (0, 0) _ rfl (by
    have h := heap_alloc_new (w.alloc (.cells #[.int .i64 xk, .string ⟨xg.toArray⟩, .int .i64 xr] 68)) (.cells #[.int .i64 xk, .string ⟨xg.toArray⟩, .int .i64 xr] 30)
    rw [World.size_alloc] at h
    exact (Below.heap_alloc _ _ _ (by simp)).trans h) Try.underlying30 rfl (by kernel_rfl)) rfl ?_
  exact ⟨rfl, (((Below.refl _ _).alloc (Nat.le_refl _) _).alloc (by simp) _).alloc (by simp; omega) _⟩
/-- translations copied so far, the rest zero -/
def part3 (xs : List IV) (k i : Nat) : IV := if i < k then xs.getD i iz else iz
set_option maxRecDepth 100000 in
set_option maxHeartbeats 1000000 in
theorem toInfoS_any (w : World) (v : Value) (xs : List IV) (h : Is w v xs) (hn : xs.length ≤ 1048576) :
    Calls Try.prog 28 #[v] w (ToIs xs w) := by
  obtain ⟨i0, hi, hz0, hz1, hz2⟩ := info_parts ivInfo
  have HI := Lib.hid hi
  have HZ0 := Lib.hid hz0
  have HZ1 := Lib.hid hz1
  have HZ2 := Lib.hid hz2
  clear hi hz0 hz1 hz2
  obtain ⟨a, ca, rfl, hla, hma, hxa⟩ := h
  unfold maxLen at hma
  obtain ⟨n, hN⟩ : ∃ n, n = xs.length := ⟨_, rfl⟩
  have HXA := Lib.hid hxa
  rw [← hN] at hla hn ⊢
  have HN := Lib.hid hN
  clear hN hxa
  go_enter Try.func28, Try.ntmps28
  go_wp2_with (at_make; refine wpList_make_full _ rfl (.tmp 6) (.tmp 6) 23 rfl w.heap.size 30 i0 (.agg #[.int .i64 0, .string ⟨#[]⟩, .int .i64 0]) 3 Try.underlying23 HI.out HZ0.out HZ1.out .i64 .i64 _ _ n rfl rfl rfl rfl (by rw [HZ2.out]; omega) (by unfold maxLen; omega) (Nat.le_refl _) ?_; intro w1 hown hg)
  have HST : Hid (∀ i, i < n → TriW w1 w.heap.size (0 + i * 3) (part3 xs 0 i)) := Lib.hid (fun i hi => by
    have hc : ∀ j v, j < 3 → (#[Value.int .i64 0, .string ⟨#[]⟩, .int .i64 0] : Array Value)[j]? = some v → w1.cell? ⟨w.heap.size, 0 + i * 3 + j, none⟩ = some v := fun j v hj hv => by
      have := hown.cells (g := w.heap.size) rfl (i * 3 + j) v (by
        rw [Array.getElem?_toList]
        unfold madeCells
        rw [Array.getElem?_map, Array.getElem?_range, if_pos (by omega)]
        simp only [Option.map_some, Value.cells]
        rw [← hv]
        have e : (i * 3 + j) % 3 = j := by omega
        simp only [List.size_toArray, List.length_cons, List.length_nil, e]
        obtain rfl | rfl | rfl : j = 0 ∨ j = 1 ∨ j = 2 := by omega
        all_goals simp)
      rw [add0] at this
      rw [Nat.zero_add]
      exact this
    exact ⟨⟨hc 0 _ (by omega) rfl, hc 1 _ (by omega) rfl, hc 2 _ (by omega) rfl⟩, fun j _ => hown.frozenAt _⟩)
  have HB1 : Hid (Below w.heap.size w w1) := Lib.hid ((Below.refl _ _).grown hg (Nat.le_refl _) (fun k e => by cases e))
  have HS1 : Hid (w.heap.size < w1.heap.size) := Lib.hid (hown.lt _ rfl).2
  clear hown hg
  go_loopw [4] (fun i wr => ∃ k : Nat, k ≤ n ∧ i = .int .i64 k ∧ Hid (Below w.heap.size w wr) ∧ Hid (w.heap.size < wr.heap.size) ∧ Hid (∀ i, i < n → TriW wr w.heap.size (0 + i * 3) (part3 xs k i))) (fun i _ => n - (intOf i).toNat)
  case atStart => exact ⟨0, Nat.zero_le _, rfl, HB1, HS1, HST⟩
  case round =>
    obtain ⟨k, hk, rfl, HBW, HSW, HFW⟩ := hrel
    by_cases hlt : k < n
    · obtain ⟨b, o, rfl, hf0⟩ := HXA.out k (by have := HN.out; omega)
      obtain ⟨x, hx⟩ : ∃ x, x = xs.getD k iz := ⟨_, rfl⟩
      rw [← hx] at hf0
      have hbl := block_lt_of_cell hf0.c0
      obtain ⟨g0, g1, g2⟩ := hf0.below HBW.out hbl
      have HX := Lib.hid hx
      have HC := Lib.hid (toInfo_any wr x)
      have hlt' : (k : Int) < (n : Int) := by omega
      clear hx hf0
      go_wp2_with fail
      refine HC.out.mono ?_
      rintro e w2 ⟨rfl, hb2⟩
      have HB2 := Lib.hid (HBW.out.trans (hb2.mono HBW.out.size))
      have HS2 : Hid (w.heap.size < w2.heap.size) := Lib.hid (Nat.lt_of_lt_of_le HSW.out hb2.size)
      have HF2 : Hid (∀ i, i < n → TriW w2 w.heap.size (0 + i * 3) (part3 xs k i)) := Lib.hid (fun i hi => (HFW.out i hi).block (hb2.block _ HSW.out))
      have HT : Hid (w2.there w.heap.size (k * 3) 3) := Lib.hid (by
        have h := HF2.out k hlt
        rw [Nat.zero_add] at h
        exact h.there)
      clear hb2
      go_wp2_with ((with_reducible refine store_is 30 (.tmp 21) (.tmp 20) ?_); refine store_arr 30 (.tmp 21) (.tmp 20) w.heap.size (k * 3) #[.int .i64 x.k, .string ⟨x.g.toArray⟩, .int .i64 x.r] rfl rfl HT.out (by kernel_rfl) (by simp [Value.oneCell']) ?_)
      go_roundw
      case rel =>
        refine ⟨k + 1, by omega, by go_num, Lib.hid (Below.setCells HB2.out _ (Nat.le_refl _) _ _ _ HB2.out), Lib.hid (by rw [size_setCells]; exact HS2.out), Lib.hid (fun i hi => ?_)⟩
        by_cases hik : i = k
        · subst hik
          have e : part3 xs (i + 1) i = x := by unfold part3; rw [if_pos (by omega), HX.out]
          rw [e, Nat.zero_add]
          exact TriW.stored HT.out
        · have e : part3 xs (k + 1) i = part3 xs k i := by
            unfold part3
            by_cases h : i < k
            · rw [if_pos h, if_pos (by omega)]
            · rw [if_neg h, if_neg (by omega)]
          rw [e]
          exact (HF2.out i hi).apart (.inr (by show 0 + i * 3 + 3 ≤ k * 3 ∨ k * 3 + 3 ≤ 0 + i * 3; omega))
      case measure => simp [intOf]; omega
    · have ek : k = n := by omega
      subst ek
      go_wp2
      go_ret
      refine ⟨_, rfl, ⟨some ⟨w.heap.size, 0, none⟩, k, by rw [← HN.out]; rfl, by rw [← HN.out]; exact Nat.le_refl _, by unfold maxLen; omega, fun i hi => ⟨w.heap.size, 0, rfl, Nat.le_refl _, HSW.out, ?_⟩⟩, HBW.out, congrArg (fun q => Value.slice (some ⟨w.heap.size, 0, none⟩) q q) HN.out⟩
      have h := HFW.out i (by have := HN.out; omega)
      have e : part3 xs k i = xs.getD i iz := by unfold part3; rw [if_pos (by have := HN.out; omega)]
      rwa [e] at h
end Go.Proofs.Ytopnomklfkkjfaa
