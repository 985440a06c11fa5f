/- The iterators of the walks: the frames that a table's words name; the frames that the words of all tables name, one table behind the other. -/
import Derived.Test.YtdockkmodjbfpaaSeqs
import Derived.Test.YtdockkmodjbfpaaLaid
import Derived.Test.YtdockkmodjbfpaaArrIn
namespace Go.Proofs.Ytdockkmodjbfpaa
open Go.ChangeShapes Go.WideShapes Go.ChangeAt Go.RowKit Go.Shelf
set_option linter.unusedVariables false
attribute [local go_sem] Oper.semAt_some

theorem row_one (row : List Int) : (row.map (Value.int .i64)).toArray.all (·.oneCell') = true := by
  rw [Array.all_eq_true_iff_forall_mem]
  intro x hx
  obtain ⟨y, _, rfl⟩ := List.mem_map.1 (List.mem_toArray.1 hx)
  rfl
theorem nil_intsW {w : World} {B0 B1 : Nat} : IntsW w B0 B1 (.slice none 0 0) [] := ⟨none, 0, rfl, Nat.le_refl _, Nat.zero_le _, fun i hi => by simp at hi⟩
set_option maxRecDepth 100000 in
set_option maxHeartbeats 2000000 in
theorem named_make (w : World) (cs : Array Value) (hs : cs.size = 4) (h1 : cs.all (·.oneCell') = true) : Calls Try.prog 53 #[.agg cs] w fun e w' => e = .returned (.func (.func 68) #[] #[.pointer (some ⟨w.heap.size, 0, none⟩)]) ∧ w' = w.alloc (.cells cs 58) := by
  go_enter Try.func53, Try.ntmps53
  go_wp2
  go_ret
  exact ⟨rfl, rfl⟩
set_option maxRecDepth 100000 in
set_option maxHeartbeats 2000000 in
theorem all_make (w : World) (cs : Array Value) (g : Nat) (lb : Array Value) (hs : cs.size = 48) (h1 : cs.all (·.oneCell') = true) : Calls Try.prog 56 #[.agg cs, .func (.func g) #[] lb] w fun e w' =>
    e = .returned (.func (.func 71) #[] #[.pointer (some ⟨w.heap.size + 1, 0, none⟩), .pointer (some ⟨w.heap.size, 0, none⟩)]) ∧ w' = (w.alloc (.cells cs 60)).alloc (.cells #[.func (.func g) #[] lb] 70) := by
  go_enter Try.func56, Try.ntmps56
  go_wp2
  go_ret
  exact ⟨rfl, rfl⟩
theorem round_any {m : Nat} (m' : Nat) {P : Program} {l1 l2 l : Nat} {f : FuncId} {tmps : Array Value} {asg body : Code} {w : World} {R : Ending → World → Prop}
    (h : RoundIn Fence.wide m P l f tmps asg body w R) : RoundIn ((Fence.wide.inRound l1).inRound l2) m' P l f tmps asg body w R := ⟨h.1, fun c cs _ => h.2 c cs (room_wide _)⟩
theorem named_rng {xs : List Int} {x : Int} (h : x ∈ named xs) : 0 ≤ x ∧ x < 12 := by
  unfold named at h
  obtain ⟨y, hy, rfl⟩ := List.mem_map.1 h
  obtain ⟨h0, h1, h2⟩ := of_decide_eq_true (List.mem_filter.1 hy).2
  omega
theorem fin_len (xs : List (Fin 12)) : (finI xs).length = xs.length := by simp [finI]
theorem flat_add (xss : List (List Int)) (ts : List Int) (x : Nat) : flat xss (ts ++ [(x : Int)]) = flat xss ts ++ named (xss.getD x []) := by simp [flat, rw4]

set_option maxRecDepth 100000 in
set_option maxHeartbeats 2000000 in
theorem all_stops (n Bt Bm Bw : Nat) (xss : List (List Int)) (hm : memOk xss = true) (row : List Int) (h4 : row.length = 4) (hrb : ∀ i, i < 4 → 0 ≤ row.getD i 0 ∧ row.getD i 0 ≤ 9999) (w : World)
    (hBt : Bt < w.heap.size) (hBm : Bm < w.heap.size) (hBw : Bw < w.heap.size)
    (hcw : w.heap[Bw]? = some (.cells (rowC row) 58 (0, 0)))
    (hct : w.cell? ⟨Bt, 0, none⟩ = some (.func (.func 68) #[] #[.pointer (some ⟨Bw, 0, none⟩)]))
    (hcm : w.rangeAt Bm 0 (flatL xss)) :
    SeqD 1 Fence.wide (n + 6) Try.prog 71 #[.pointer (some ⟨Bt, 0, none⟩), .pointer (some ⟨Bm, 0, none⟩)] (fun k : Fin 12 => #[.int .i64 (k.val : Int)]) (Below w.heap.size) (fun xs => finI xs = flat xss (named row)) 16 w := by
  intro l J W hW hJ hY h0
  have hctW := (hW.cell (p := ⟨Bt, 0, none⟩) hBt).trans hct
  have hcta := fun ob => (World.cell?_alloc_lt W ob ⟨Bt, 0, none⟩ (cell_lt hctW)).trans hctW
  have HM := Lib.hid hm
  have HY := Lib.hid hY
  have HJ := Lib.hid hJ
  have HCM : Hid (∀ i, i < 12 → w.rangeAt Bm (i * 4) ((xss.getD i []).map (Value.int .i64))) := Lib.hid (fun i hi j v hv => by
    have h4 := mem_row hm hi
    have hj : j < 4 := by
      have := (List.getElem?_eq_some_iff.1 hv).1
      rwa [List.length_map, h4] at this
    have h1 := flat_get xss (fun i hi => mem_row hm (by have := mem_len hm; omega)) (i := i) (j := j) (by have := mem_len hm; omega) hj
    have h2 := hcm (i * 4 + j) _ h1
    rw [Nat.zero_add] at h2
    rw [h2, ← hv, List.getElem?_map, List.getElem?_eq_getElem (by rw [h4]; exact hj), getD_lt (l := xss.getD i []) (i := j) (by rw [h4]; exact hj)]
    rfl)
  have HW := Lib.hid hW
  have HNS := Lib.hid (fun m => named_stops m Bw w.heap.size row h4 hrb w (Nat.le_refl _) hBw hcw)
  have HNL : Hid ((named row).length ≤ 4) := Lib.hid (by have := named_len row; omega)
  clear hm hY hJ hcm hcw hct hrb hW
  refine callsIn_of_wp_marks Try.func71 rfl trivial ?_ rfl
  simp only [Try.ntmps71, List.size_toArray, List.length_cons, List.length_nil, Nat.reduceAdd, Nat.reduceSub, Array.replicate_succ, Array.replicate_zero, List.push_toArray, List.append_toArray, List.nil_append, List.cons_append]
  gi_wp2
  obtain ⟨y, hy⟩ : ∃ y : Value, y = .func (.yield l) #[] #[] := ⟨_, rfl⟩
  have hbx := Boxed.new W 55 y
  rw [hy] at hbx
  have hsz := HW.out.size
  obtain ⟨w1, hw1⟩ : ∃ w1, w1 = W.alloc (.cells #[.func (.yield l) #[] #[]] 55) := ⟨_, rfl⟩
  have hB1 : Below w.heap.size W w1 := by rw [hw1]; exact (Below.refl _ _).alloc hsz _
  have hs1 : w1.heap.size = W.heap.size + 1 := by rw [hw1]; simp
  have hJ1 : J [] w1 := by rw [hw1]; exact HJ.out.alloc _ h0
  rw [← hw1] at hbx ⊢
  clear hw1 h0 hy y
  refine range_slot 4 rfl (by omega) (gf := 68) (lb := #[.pointer (some ⟨Bw, 0, none⟩)]) rfl trivial (enters_of Try.func68 (by kernel_rfl) rfl)
    (HNS.out _) (fun W => Below.refl _ W) belowK_t (belowK_b (by omega)) (HW.out.trans hB1) (by simp)
    (fun pre A => ((∃ out, finI out = flat xss (finI pre) ∧ J out A) ∧ Boxed A W.heap.size 55 (.func (.yield l) #[] #[])) ∧ Below w.heap.size W A) (fun _ _ _ => False)
    (OwnFrom.and (OwnFrom.and (fun s A B r hs hg hr => by
        obtain ⟨out, e, hj⟩ := hs
        exact ⟨out, e, HJ.out out A B r hj hg (fun k ek => ⟨by have := (hr k ek).1; omega, (hr k ek).2⟩)⟩) (Own.from (boxed_own _ _ _) _)) (ownFrom_below hsz (by omega)))
    (fun _ _ _ _ _ hs _ _ => hs) ⟨⟨⟨[], rfl, hJ1⟩, hbx⟩, hB1⟩ ?body ?done ?stop
  case body =>
    rintro l1 pre x W1 hl1 ⟨r1, hr1⟩ ⟨⟨⟨out, hout, hJ2⟩, hbox⟩, hB2⟩ hlt
    have hix : ∀ W : World, (Instr.indexAt 60 (.pointer (some ⟨Bm, 0, none⟩)) (.int .i64 (x.val : Int))).run Try.prog W = .ok (.pointer (some ⟨Bm, x.val * 4, none⟩)) W := fun W => run_indexAt_arr 60 12 58 4 Try.underlying60 size_words (by omega) _ x.val x.isLt W
    obtain ⟨row2, hrow2⟩ : ∃ row2, row2 = xss.getD x.val [] := ⟨_, rfl⟩
    have h42 : row2.length = 4 := by rw [hrow2]; exact mem_row HM.out x.isLt
    have hrb2 : ∀ i, i < 4 → 0 ≤ row2.getD i 0 ∧ row2.getD i 0 ≤ 9999 := by rw [hrow2]; exact fun i hi => wd_bounds HM.out x.isLt hi
    have HRW2 := Lib.hid hrow2
    clear hrow2
    have HROW2 : Hid (W1.rangeAt Bm (x.val * 4) (row2.map (Value.int .i64))) := Lib.hid (by
      rw [HRW2.out]
      exact range_blocks (HCM.out _ x.isLt) ((HW.out.trans hB2).block _ hBm))
    gi_wp2_with ((with_reducible refine load_isI 58 (.tmp 9) ?_); refine load_arrI 58 (.tmp 9) Bm (x.val * 4) (row2.map (Value.int .i64)) _ rfl HROW2.out Try.underlying58 rfl (by rw [List.length_map, h42]; exact info_words) ?_)
    refine ⟨trivial, (CallsIn.inRound l1 (callsIn_wide.2 (named_make W1 _ (by simp [h42]) (row_one row2)))).mono ?_⟩
    rintro e W3 ⟨rfl, hW3⟩
    have HW3 := Lib.hid hW3
    clear hW3
    gi_wp2_with fail
    have hsz3 : W3.heap.size = W1.heap.size + 1 := by rw [HW3.out]; simp
    have hsW := hB2.size
    have hsW' : w.heap.size ≤ W1.heap.size := by omega
    have hBW3 : Below w.heap.size W1 W3 := by rw [HW3.out]; exact (Below.refl _ _).alloc hsW' _
    have hKW3 : KeepsFrom w1.heap.size W1 W3 := by rw [HW3.out]; exact (KeepsOthers.alloc _ _).from _
    have hJ3 : J out W3 := by rw [HW3.out]; exact HJ.out.alloc _ hJ2
    have hbox3 : Boxed W3 W.heap.size 55 (.func (.yield l) #[] #[]) := by rw [HW3.out]; exact hbox.alloc _
    have hc3 : W3.heap[W1.heap.size]? = some (.cells (rowC row2) 58 (0, 0)) := by rw [HW3.out]; exact World.alloc_heap_new W1 _
    have hr3 : W3.heap[l1]? = some (.loop r1) := by rw [HW3.out]; exact (Below.heap_alloc W1 _ l1 (Array.getElem?_eq_some_iff.1 hr1).1).trans hr1
    have hol : out.length ≤ 4 * pre.length := by
      have h1 := flat_len3 xss HM.out (finI pre) (fin_rng pre)
      rw [← hout, fin_len, fin_len] at h1
      exact h1
    refine range_slotN (l₀ := l1) (r₀ := r1) 5 rfl hr3 (by omega) (gf := 68) (lb := #[.pointer (some ⟨W1.heap.size, 0, none⟩)]) rfl trivial (enters_of Try.func68 (by kernel_rfl) rfl)
      ((named_stops _ W1.heap.size w.heap.size row2 h42 hrb2 W3 (by omega) (by omega) hc3).inRound l1) (fun W => Below.refl _ W) belowK_t (belowK_b (by omega)) (Below.refl _ _) (by simp)
      (fun pre' A => ((∃ out', finI out' = flat xss (finI pre) ++ finI pre' ∧ J out' A) ∧ Boxed A W.heap.size 55 (.func (.yield l) #[] #[])) ∧ (Below w.heap.size W1 A ∧ KeepsFrom w1.heap.size W1 A)) (fun _ _ _ => False)
      (OwnFrom.and (OwnFrom.and (fun s A B r hs hg hr => by
          obtain ⟨out', e, hj⟩ := hs
          exact ⟨out', e, HJ.out out' A B r hj hg (fun k ek => ⟨by have := (hr k ek).1; omega, (hr k ek).2⟩)⟩) (Own.from (boxed_own _ _ _) _)) (OwnFrom.and (ownFrom_below hsW' (by omega)) (ownFrom_keepsFrom (by omega))))
      (fun _ _ _ _ _ hs _ _ => hs) ⟨⟨⟨out, by rw [hout, show finI [] = [] from rfl, List.append_nil], hJ3⟩, hbox3⟩, hBW3, hKW3⟩ ?body2 ?done2 ?stop2
    case body2 =>
      rintro l2 pre' y W4 hl2 _ ⟨⟨⟨out', hout', hJ4⟩, hbox4⟩, hB4, hK4⟩ hlt'
      have hc4 := hbox4.cell
      have hlo : out'.length < 16 := by
        have h1 := congrArg List.length hout'
        rw [List.length_append, fin_len, fin_len, ← hout, fin_len] at h1
        omega
      obtain ⟨fn, tmps, asg, bd, hy, hR⟩ := HY.out out' y W4 hJ4 hlo (by have := hbox4.lt; omega)
      have HR := Lib.hid hR
      have HB4 := Lib.hid hB4
      have HK4 := Lib.hid hK4
      have HBX := Lib.hid hbox4
      have HOUT := Lib.hid hout'
      clear hR hB4 hK4 hbox4 hout' hJ4
      gi_wp2
      refine (round_any _ HR.out).mono ?_
      rintro e W5 ⟨rfl, hJ5, hk5, hkf5, hli5⟩
      have HF := Lib.hid hkf5
      have HJ5 := Lib.hid hJ5
      have HK5 := Lib.hid hk5
      have HBX5 : Hid (Boxed W5 W.heap.size 55 (.func (.yield l) #[] #[])) := Lib.hid ((hli5 _ (Nat.le_refl _) (by omega)).trans HBX.out)
      clear hJ5 hk5 hkf5 hli5
      have hsub : ∀ {B : Nat}, W.heap.size ≤ B → KeepsFrom B W4 W5 := fun h => ⟨HF.out.size, fun k o hB => HF.out.same k o (by omega)⟩
      gi_wp2
      refine ⟨hsub (by omega), HK5.out, ⟨⟨out' ++ [y], ?_, HJ5.out⟩, HBX5.out⟩, HB4.out.trans HK5.out, HK4.out.trans (hsub (by omega))⟩
      rw [finI_snoc, finI_snoc, HOUT.out, List.append_assoc]
    case done2 =>
      rintro ys A hys ⟨⟨⟨out', hout', hJ4⟩, hbox4⟩, hB4, hK4⟩
      gi_wp2
      refine ⟨hK4, hB4, ⟨⟨out', ?_, hJ4⟩, hbox4⟩, hB2.trans hB4⟩
      have e : flat xss (finI (pre ++ [x])) = flat xss (finI pre) ++ named row2 := by rw [finI_snoc, flat_add, HRW2.out]
      rw [e, ← hys]
      exact hout'
    case stop2 =>
      rintro c pre' A _ h
      exact h.elim
  case done =>
    rintro D ys A hD hys ⟨⟨⟨out, hout, hJ5⟩, hbox⟩, hB⟩ hK
    have HJ5 := Lib.hid hJ5
    gi_wp2
    refine ⟨by simp, .inl ⟨_, _, rfl, run_takeDeferred hK, ?_⟩⟩
    refine ⟨_, results_none rfl _ _ _, ⟨_, rfl⟩, out, by rw [hout, hys], ?_⟩
    exact HJ.out.putObj _ HJ5.out (by omega) hK rfl
  case stop =>
    rintro D c pre A _ _ h _
    exact h.elim
end Go.Proofs.Ytdockkmodjbfpaa
