/- Trial: an iterator over the words of a frame, and a range over it. -/
import Derived.RangeFuncNested
import Derived.RangeFuncBound
import Derived.RangeFuncCalls
import Derived.RangeFuncLeaves
import Derived.RangeFuncBox
import Derived.RangeFuncFrom
import Derived.Shelf.Abstract
import Derived.Shelf.RegionOpen
import Derived.OwnWalkIn
import Derived.TacticsInMore
import Derived.LoopNIn
import Derived.LoopIn
import Derived.Test.YtdockkmodjbfpaaIntsW
import Derived.Test.YtdockkmodjbfpaaWordsOf
namespace Go.Proofs.Ytdockkmodjbfpaa
open Go.ChangeShapes Go.WideShapes Go.ChangeAt Go.RowKit Go.Shelf
set_option linter.unusedVariables false
attribute [local go_sem] Oper.semAt_some

theorem names_yes (w : World) (x : Int) (h : goodB x) : Calls Try.prog 49 #[.int .i64 x] w fun e w' => e = .returned (.bool true) ∧ w = w' := by
  obtain ⟨h0, h1, h2⟩ := h
  have hc : x % 4 = 1 ∨ x % 4 = 3 := by omega
  have h3 : 0 ≤ x := by omega
  have h4 : x / 4 < 12 := by omega
  clear h1
  rcases hc with hc | hc
  · have e1 : (x % 4 == 1) = true := by simpa using hc
    clear hc
    go_enter Try.func49, Try.ntmps49
    go_wp2
    go_ret
    exact ⟨rfl, rfl⟩
  · have e1 : (x % 4 == 1) = false := by simp; omega
    have e3 : (x % 4 == 3) = true := by simpa using hc
    clear hc
    go_enter Try.func49, Try.ntmps49
    go_wp2
    go_ret
    exact ⟨rfl, rfl⟩
theorem names_no (w : World) (x : Int) (h : ¬ goodB x) (hb0 : 0 ≤ x) (hb1 : x ≤ 9999) : Calls Try.prog 49 #[.int .i64 x] w fun e w' => e = .returned (.bool false) ∧ w = w' := by
  unfold goodB at h
  by_cases h1 : x % 4 = 1
  · have h4 : decide (x / 4 < 12) = false := by simp; omega
    have e1 : (x % 4 == 1) = true := by simpa using h1
    clear h1 h
    go_enter Try.func49, Try.ntmps49
    go_wp2
    go_ret
    exact ⟨rfl, rfl⟩
  · have e1 : (x % 4 == 1) = false := by simpa using h1
    by_cases h3 : x % 4 = 3
    · have h4 : decide (x / 4 < 12) = false := by simp; omega
      have e3 : (x % 4 == 3) = true := by simpa using h3
      clear h1 h h3
      go_enter Try.func49, Try.ntmps49
      go_wp2
      go_ret
      exact ⟨rfl, rfl⟩
    · have e3 : (x % 4 == 3) = false := by simpa using h3
      clear h1 h h3
      go_enter Try.func49, Try.ntmps49
      go_wp2
      go_ret
      exact ⟨rfl, rfl⟩
theorem frame_of (w : World) (x : Int) (h : 0 ≤ x) (h1 : x ≤ 9999) : Calls Try.prog 50 #[.int .i64 x] w fun e w' => e = .returned (.int .i64 (x / 4)) ∧ w = w' := by
  go_enter Try.func50, Try.ntmps50
  go_wp2
  go_ret
  exact ⟨rfl, rfl⟩

theorem named_pre (xs : List Int) (k : Nat) : named (xs.take k) <+: named xs := by
  unfold named
  exact List.IsPrefix.map _ (List.IsPrefix.filter _ (List.take_prefix k xs))
/-- frames as numbers -/
def finI (l : List (Fin 12)) : List Int := l.map (fun k => (k.val : Int))
theorem finI_snoc (l : List (Fin 12)) (k : Fin 12) : finI (l ++ [k]) = finI l ++ [(k.val : Int)] := by simp [finI]
def frF {x : Int} (h : goodB x) : Fin 12 := ⟨(x / 4).toNat, by obtain ⟨_, _, _⟩ := h; omega⟩
theorem frF_val {x : Int} (h : goodB x) : ((frF h).val : Int) = x / 4 := by unfold frF; have := h.1; simp; omega
set_option maxRecDepth 100000 in
set_option maxHeartbeats 2000000 in
theorem named_stops (n Bw n₀ : Nat) (row : List Int) (h4 : row.length = 4) (hb : ∀ i, i < 4 → 0 ≤ row.getD i 0 ∧ row.getD i 0 ≤ 9999) (w : World) (hw : n₀ ≤ w.heap.size) (hB : Bw < w.heap.size) (hc : w.heap[Bw]? = some (.cells (rowC row) 58 (0, 0))) :
    SeqStopsK Fence.wide n Try.prog 68 #[.pointer (some ⟨Bw, 0, none⟩)] (fun k : Fin 12 => #[.int .i64 (k.val : Int)]) (Below n₀) (fun xs => finI xs = named row) (fun _ => True) 4 w := by
  intro l J Jx W hW hJ hJx hY h0
  have hcW := (hW.block Bw (by omega)).trans hc
  obtain ⟨x0, x1, x2, x3, rfl⟩ : ∃ x0 x1 x2 x3, row = [x0, x1, x2, x3] := by
    match row, h4 with
    | [x0, x1, x2, x3], _ => exact ⟨x0, x1, x2, x3, rfl⟩
  have k0 : W.cell? ⟨Bw, 0, none⟩ = some (.int .i64 x0) := by rw [cell_of_row W Bw 0 _ _ _ hcW]; rfl
  have k1 : W.cell? ⟨Bw, 1, none⟩ = some (.int .i64 x1) := by rw [cell_of_row W Bw 1 _ _ _ hcW]; rfl
  have k2 : W.cell? ⟨Bw, 2, none⟩ = some (.int .i64 x2) := by rw [cell_of_row W Bw 2 _ _ _ hcW]; rfl
  have k3 : W.cell? ⟨Bw, 3, none⟩ = some (.int .i64 x3) := by rw [cell_of_row W Bw 3 _ _ _ hcW]; rfl
  have HB := Lib.hid hb
  have HY := Lib.hid hY
  clear hcW hc hb hY
  refine callsIn_of_wp Try.func68 rfl trivial ?_ rfl
  simp only [Try.ntmps68, List.size_toArray, List.length_cons, List.length_nil, Nat.reduceAdd, Nat.reduceSub, Array.replicate_succ, Array.replicate_zero, List.push_toArray, List.append_toArray, List.nil_append, List.cons_append]
  gi_wp2
  gi_loopw [7] (fun p wr => ∃ k : Nat, k ≤ 4 ∧ p = .int .i64 (k : Int) ∧ ∃ pre, finI pre = named ([x0, x1, x2, x3].take k) ∧ J pre wr) (fun p wr => 4 - (intOf p).toNat)
  case atStart => exact ⟨0, by omega, rfl, [], rfl, h0⟩
  case round =>
    obtain ⟨k, hk, rfl, pre, hpre, hJk⟩ := hrel
    by_cases hk4 : k = 4
    · subst hk4
      gi_wp2
      go_end0
      exact ⟨⟨_, rfl⟩, .inl ⟨pre, hpre, hJk⟩⟩
    · have hkl : k < 4 := by omega
      obtain ⟨x, hxd⟩ : ∃ x, [x0, x1, x2, x3].getD k 0 = x := ⟨_, rfl⟩
      have hb := HB.out k hkl
      rw [hxd] at hb
      have hsn := named_snoc [x0, x1, x2, x3] k hkl
      rw [hxd] at hsn
      have hpl : pre.length < 4 := by
        have := named_len ([x0, x1, x2, x3].take k)
        rw [List.length_take, ← hpre] at this
        simp only [finI, List.length_map] at this
        omega
      have hix : ∀ W : World, (Instr.index 58 (.agg #[.int .i64 x0, .int .i64 x1, .int .i64 x2, .int .i64 x3]) (.int .i64 (k : Int))).run Try.prog W = .ok (.int .i64 x) W := by
        obtain rfl | rfl | rfl | rfl : k = 0 ∨ k = 1 ∨ k = 2 ∨ k = 3 := by omega
        · subst hxd; exact fun _ => by kernel_rfl
        · subst hxd; exact fun _ => by kernel_rfl
        · subst hxd; exact fun _ => by kernel_rfl
        · subst hxd; exact fun _ => by kernel_rfl
      by_cases hg : goodB x
      · rw [if_pos hg] at hsn
        obtain ⟨fn, tmps, assign, body, hy, hR⟩ := HY.out pre (frF hg) wr hJk hpl
        rw [frF_val hg] at hy
        gi_wp2_with (first
          | (refine ⟨trivial, (fun h => by cases h), ?_⟩; gi_at_call 49; refine (callsIn_wide.2 (names_yes _ _ hg)).mono ?_; rintro e w' ⟨rfl, rfl⟩)
          | (refine ⟨trivial, (fun h => by cases h), ?_⟩; gi_at_call 50; refine (callsIn_wide.2 (frame_of _ _ hb.1 hb.2)).mono ?_; rintro e w' ⟨rfl, rfl⟩))
        refine ⟨(fun h => by cases h), ?_⟩
        refine hR.mono ?_
        rintro e W' (⟨rfl, hJ', hk'⟩ | ⟨rfl, hJx'⟩)
        · gi_wp2
          go_roundw
          case rel => exact ⟨k + 1, by omega, by simp, pre ++ [frF hg], by rw [finI_snoc, hsn, hpre, frF_val hg], hJ'⟩
          case measure => simp [intOf]; omega
        · gi_wp2
          refine bodyPost_ret (results_none rfl _ _ _) rfl ?_
          exact ⟨⟨_, rfl⟩, .inr ⟨_, trivial, hJx'⟩⟩
      · rw [if_neg hg, List.append_nil] at hsn
        gi_wp2_with (first
          | (refine ⟨trivial, (fun h => by cases h), ?_⟩; gi_at_call 49; refine (callsIn_wide.2 (names_no _ _ hg hb.1 hb.2)).mono ?_; rintro e w' ⟨rfl, rfl⟩)
          | ((with_reducible refine And.intro ?_ ?_); (exact trivial)))
        refine ⟨(fun _ h => by cases h), ?_⟩
        gi_wp2
        go_roundw
        case rel => exact ⟨k + 1, by omega, by simp, pre, by rw [hpre, hsn], hJk⟩
        case measure => simp [intOf]; omega
end Go.Proofs.Ytdockkmodjbfpaa
