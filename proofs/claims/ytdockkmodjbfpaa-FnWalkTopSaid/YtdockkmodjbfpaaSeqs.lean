/- Frames out of an iterator, each once, ascending: the slices package's collecting, sorting and compacting over an iterator. -/
import Derived.Test.YtdockkmodjbfpaaCompSort
import Derived.Test.YtdockkmodjbfpaaRngD
import Derived.Maps.AppendAt
import Derived.RangeFuncBox
import Derived.RangeFuncWrites
namespace Go.Proofs.Ytdockkmodjbfpaa
open Go.ChangeShapes Go.WideShapes Go.ChangeAt Go.RowKit Go.Shelf
set_option linter.unusedVariables false
attribute [local go_sem] Oper.semAt_some

theorem boxed_appendedD {W w1 : World} {n0 n1 B M d : Nat} {t e : TypeId} {v v' : Value} {k m : Nat} {xs ys : List Value} {tmp : Obj}
    (hv : Boxed W B t v) (hte : t ≠ e) (hrow : W.ownsRow n1 e 1 v k xs) (hn1 : n1 ≤ W.heap.size) (h0 : n0 ≤ B) (h01 : n0 ≤ n1) (hBM : B < M) (hM : M + d ≤ n1)
    (hown' : w1.ownsRow n1 e 1 v' m ys) (hgrow : (W.alloc tmp).grownBy w1 v.ownBlock) :
    Boxed w1 B t v ∧ Boxed (w1.setCell ⟨B, 0, none⟩ v') B t v' ∧ (w1.setCell ⟨B, 0, none⟩ v').ownsRow n1 e 1 v' m ys ∧ KeepsOthers W (w1.setCell ⟨B, 0, none⟩ v') ∧ Below n0 W (w1.setCell ⟨B, 0, none⟩ v') ∧ Lies M d W (w1.setCell ⟨B, 0, none⟩ v') := by
  obtain ⟨h1, h2, h3, h4, h5⟩ := hv.appended hte (own_lower hrow h01) (by omega) h0 (own_lower hown' h01) hgrow
  refine ⟨h1, h2, hown'.kept (grownBy_setCell' w1 B v') (.inr (h1.not_row hte hown').symm), h4, h5, fun k hk hkM => ?_⟩
  rw [Below.heap_setCell _ _ _ k (by simp; omega), hgrow.block k (by simp; omega) (fun e => ?_), Below.heap_alloc _ _ _ (by omega)]
  have := (hrow.lt k e.symm).1
  omega
theorem intsW_of_row {w : World} {B B0 : Nat} {v : Value} {ys : List Int} {n : Nat} (h : w.ownsRow B 3 1 v n (ys.map (.int .i64))) (hn : n = ys.length) (hB : B0 ≤ B) : IntsW w B0 w.heap.size v ys := by
  subst hn
  rcases h.2 with ⟨rfl, hz⟩ | ⟨g, cap, cur, rfl, hb, hbl, hnc, hcm, hcs, htk⟩
  · exact ⟨none, 0, by rw [hz], by omega, Nat.zero_le _, fun i hi => by omega⟩
  · refine ⟨some ⟨g, 0, none⟩, cap, rfl, hnc, hcm, fun i hi => ⟨g, 0, rfl, by omega, (Array.getElem?_eq_some_iff.1 hbl).1, ?_, ?_⟩⟩
    · have := h.cells (g := g) rfl i (.int .i64 (ys.getD i 0)) (by rw [getD_lt hi]; simp)
      rw [add0] at this
      rw [Nat.zero_add]; exact this
    · simp [World.frozen?, hbl]

/-- the call returns a new slice with what the iterator gave -/
def Gave (S : List (Fin 12) → Prop) (w : World) (e : Ending) (w' : World) : Prop := ∃ xs v, e = .returned v ∧ S xs ∧ xs.length ≤ 1000 ∧ IntsW w' w.heap.size w'.heap.size v (finI xs) ∧ Below w.heap.size w w'

set_option maxRecDepth 100000 in
set_option maxHeartbeats 2000000 in
theorem appendSeq_in {d N g : Nat} {lb : Array Value} {S : List (Fin 12) → Prop} (n : Nat) (hN : N ≤ 1000) (hS : ∀ xs, S xs → xs.length ≤ 1000) (w : World) (eg : ∀ args w, (callFunc g args).run Try.prog w = .ok (.enter g args) w)
    (hseq : SeqD d Fence.wide n Try.prog g lb (fun k : Fin 12 => #[.int .i64 (k.val : Int)]) (Below w.heap.size) S N w) :
    CallsIn Fence.wide (n + 1) Try.prog 77 #[.slice none 0 0, .func (.func g) #[] lb] w (Gave S w) := by
  obtain ⟨i0, hi, hz0, hz1, hz2⟩ := info_parts intInfo
  have HI := Lib.hid hi
  have HZ0 := Lib.hid hz0
  have HZ1 := Lib.hid hz1
  have HZ2 := Lib.hid hz2
  have HS := Lib.hid hS
  have HSEQ := Lib.hid hseq
  clear hi hz0 hz1 hz2 hS hseq
  refine callsIn_of_wp_marks Try.func77 rfl trivial ?_ rfl
  simp only [Try.ntmps77, List.size_toArray, List.length_cons, List.length_nil, Nat.reduceAdd, Nat.reduceSub, Array.replicate_succ, Array.replicate_zero, List.push_toArray, List.append_toArray, List.nil_append, List.cons_append]
  gi_wp2
  have bO := Boxed.new w 34 (.slice none 0 0)
  have hB0 : Below w.heap.size w (w.alloc (.cells #[.slice none 0 0] 34)) := (Below.refl _ w).alloc (Nat.le_refl _) _
  refine range_slotD (d := d) 5 rfl (by omega) (gf := g) (lb := lb) rfl trivial eg HSEQ.out belowK_t (belowK_b (by simp)) hB0 (by simp)
    (fun pre W => (∃ v, Boxed W w.heap.size 34 v ∧ W.ownsRow (w.heap.size + 3 + d) 3 1 v pre.length ((finI pre).map (.int .i64)) ∧ True) ∧ Below w.heap.size w W)
    (OwnFrom.and (Own.from (holdsRow_own (w.heap.size + 3 + d) w.heap.size 34 3 1 (fun pre => pre.length) (fun pre => (finI pre).map (.int .i64)) (fun _ _ => True)) _) (ownFrom_below (Nat.le_refl _) (by simp)))
    ⟨⟨_, bO, World.ownsRow_nil _ _ _ _, trivial⟩, hB0⟩ ?body ?done
  case body =>
    rintro l pre x W hl _ ⟨⟨v, hv, hrow, _⟩, hB⟩ hlt hsz
    rw [World.size_alloc] at hsz
    have hc := hv.cell
    have HROW := Lib.hid hrow
    have HV := Lib.hid hv
    have HBB := Lib.hid hB
    have hpl : pre.length ≤ 1000 := by omega
    clear hrow hv hB
    gi_wp2_with (gi_at_builtin; refine wpListIn_append_own _ rfl (.tmp 8) (.tmp 10) 34 rfl (w.heap.size + 3 + d) 3 i0 (.int .i64 0) 1 8 Try.underlying34 HI.out HZ0.out HZ1.out HZ2.out rfl (by decide) _ _ _ rfl (HROW.out.alloc _) ⟨W.heap.size, 0, none⟩ 1 1 [.int .i64 (x.val : Int)] rfl rfl (cell_one_new _ _ _) (by intro u hu; simp at hu; subst hu; rfl) (by unfold maxLen; omega) (by omega) (by simp; omega) ?_; intro v' w1 hown' hgrow _; obtain ⟨g', cap', rfl⟩ := ownsRow_succ hown'; obtain ⟨hv1, hv2, hr2, hk2, hb2, hl2⟩ := boxed_appendedD (n0 := w.heap.size) (M := w.heap.size + 3) (d := d) HV.out (by decide) HROW.out (by omega) (Nat.le_refl _) (by omega) (by omega) (by omega) hown' hgrow; have hc1 := hv1.cell; have hf1 := hv1.frozen)
    exact ⟨hk2.from _, ⟨_, hv2, by rw [finI_snoc, List.map_append]; exact hr2⟩, HBB.out.trans hb2⟩
  case done =>
    rintro D xs W hD hSx ⟨⟨v, hv, hrow, _⟩, hB⟩ hK
    have hc := hv.cell
    have HROW := Lib.hid hrow
    have HBB := Lib.hid hB
    have HKK := Lib.hid hK
    have HSX := Lib.hid hSx
    clear hrow hB hSx hv
    gi_wp2
    refine ⟨by simp, .inl ⟨_, _, rfl, run_takeDeferred hK, ?_⟩⟩
    refine ⟨_, results_tmp rfl _ _ _, xs, v, rfl, HSX.out, HS.out _ HSX.out, intsW_of_row (ownsRow_putObj HROW.out _ HKK.out rfl) (by simp [finI]) (by omega), HBB.out.trans (belowK_b (w := w) (Nat.le_refl _) W D _ _ (by simp at hD; omega) HKK.out rfl rfl)⟩

set_option maxRecDepth 100000 in
set_option maxHeartbeats 2000000 in
theorem collect_in {g : Nat} {lb : Array Value} {S : List (Fin 12) → Prop} (n : Nat) (w : World)
    (hc : CallsIn Fence.wide n Try.prog 77 #[.slice none 0 0, .func (.func g) #[] lb] w (Gave S w)) :
    CallsIn Fence.wide (n + 1) Try.prog 74 #[.func (.func g) #[] lb] w (Gave S w) := by
  refine callsIn_of_wp Try.func74 rfl trivial ?_ rfl
  simp only [Try.ntmps74, List.size_toArray, List.length_cons, List.length_nil, Nat.reduceAdd, Nat.reduceSub, Array.replicate_succ, Array.replicate_zero, List.push_toArray, List.append_toArray, List.nil_append, List.cons_append]
  have HC := Lib.hid hc
  clear hc
  gi_wp2_with fail
  refine ⟨trivial, HC.out.mono ?_⟩
  rintro e w' ⟨xs, v, rfl, hG⟩
  have HG := Lib.hid hG
  clear hG
  gi_wp2_with fail
  go_ret
  exact ⟨xs, v, rfl, HG.out⟩
/-- the call returns a new slice with the iterator's frames, sorted -/
def Sorted (S : List (Fin 12) → Prop) (w : World) (e : Ending) (w' : World) : Prop := ∃ xs v, e = .returned v ∧ S xs ∧ xs.length ≤ 1000 ∧ IntsW w' w.heap.size w'.heap.size v ((finI xs).mergeSort fun x y => decide (x ≤ y)) ∧ Below w.heap.size w w'
set_option maxRecDepth 100000 in
set_option maxHeartbeats 2000000 in
theorem sorted_in {g : Nat} {lb : Array Value} {S : List (Fin 12) → Prop} (n : Nat) (w : World)
    (hc : CallsIn Fence.wide n Try.prog 74 #[.func (.func g) #[] lb] w (Gave S w)) :
    CallsIn Fence.wide (n + 1) Try.prog 67 #[.func (.func g) #[] lb] w (Sorted S w) := by
  refine callsIn_of_wp Try.func67 rfl trivial ?_ rfl
  simp only [Try.ntmps67, List.size_toArray, List.length_cons, List.length_nil, Nat.reduceAdd, Nat.reduceSub, Array.replicate_succ, Array.replicate_zero, List.push_toArray, List.append_toArray, List.nil_append, List.cons_append]
  have HC := Lib.hid hc
  clear hc
  gi_wp2_with fail
  refine ⟨trivial, HC.out.mono ?_⟩
  rintro e w' ⟨xs, v, rfl, hS, hl, hI, hB⟩
  have HS := Lib.hid hS
  have HL := Lib.hid hl
  have HSO := Lib.hid (sort_any w' w.heap.size v (finI xs) hI (by simpa [finI] using hl) hB.size)
  have HB := Lib.hid hB
  clear hS hl hI hB
  gi_wp2_with fail
  refine ⟨trivial, (callsIn_wide.2 HSO.out).mono ?_⟩
  rintro e w2 ⟨rfl, hI2, hB2⟩
  have HI2 := Lib.hid hI2
  have HB2 := Lib.hid (HB.out.trans hB2)
  clear hI2 hB2
  gi_wp2_with fail
  go_ret
  exact ⟨xs, v, rfl, HS.out, HL.out, HI2.out, HB2.out⟩
theorem fin_rng (xs : List (Fin 12)) : ∀ x ∈ finI xs, 0 ≤ x ∧ x < 12 := by
  intro x hx
  unfold finI at hx
  obtain ⟨k, _, rfl⟩ := List.mem_map.1 hx
  have := k.isLt
  omega
/-- the call returns a new slice with the iterator's frames, ascending, each once -/
def Once (S : List (Fin 12) → Prop) (w : World) (e : Ending) (w' : World) : Prop := ∃ xs v, e = .returned v ∧ S xs ∧ IntsW w' w.heap.size w'.heap.size v (srt (finI xs) 12) ∧ Below w.heap.size w w'
set_option maxRecDepth 100000 in
set_option maxHeartbeats 2000000 in
theorem eachOnce_in {g : Nat} {lb : Array Value} {S : List (Fin 12) → Prop} (n : Nat) (w : World)
    (hc : CallsIn Fence.wide n Try.prog 67 #[.func (.func g) #[] lb] w (Sorted S w)) :
    CallsIn Fence.wide (n + 1) Try.prog 52 #[.func (.func g) #[] lb] w (Once S w) := by
  refine callsIn_of_wp Try.func52 rfl trivial ?_ rfl
  simp only [Try.ntmps52, List.size_toArray, List.length_cons, List.length_nil, Nat.reduceAdd, Nat.reduceSub, Array.replicate_succ, Array.replicate_zero, List.push_toArray, List.append_toArray, List.nil_append, List.cons_append]
  have HC := Lib.hid hc
  clear hc
  gi_wp2_with fail
  refine ⟨trivial, HC.out.mono ?_⟩
  rintro e w' ⟨xs, v, rfl, hS, hl, hI, hB⟩
  have HS := Lib.hid hS
  have HCO := Lib.hid (compact_any w' w.heap.size v _ hI (by simpa [finI] using hl) hB.size)
  have HB := Lib.hid hB
  clear hS hl hI hB
  gi_wp2_with fail
  refine ⟨trivial, (callsIn_wide.2 HCO.out).mono ?_⟩
  rintro e w2 ⟨v2, rfl, hI2, hB2⟩
  have HI2 := Lib.hid hI2
  have HB2 := Lib.hid (HB.out.trans hB2)
  clear hI2 hB2
  gi_wp2_with fail
  go_ret
  refine ⟨xs, v2, rfl, HS.out, ?_, HB2.out⟩
  rw [← compact_srt (finI xs) (fin_rng xs)]
  exact HI2.out
theorem once_of_iter {d N g : Nat} {lb : Array Value} {S : List (Fin 12) → Prop} (n : Nat) (hN : N ≤ 1000) (hS : ∀ xs, S xs → xs.length ≤ 1000) (w : World) (eg : ∀ args w, (callFunc g args).run Try.prog w = .ok (.enter g args) w)
    (hseq : SeqD d Fence.wide n Try.prog g lb (fun k : Fin 12 => #[.int .i64 (k.val : Int)]) (Below w.heap.size) S N w) :
    Calls Try.prog 52 #[.func (.func g) #[] lb] w (Once S w) :=
  callsIn_wide.1 (eachOnce_in _ w (sorted_in _ w (collect_in _ w (appendSeq_in n hN hS w eg hseq))))
end Go.Proofs.Ytdockkmodjbfpaa
