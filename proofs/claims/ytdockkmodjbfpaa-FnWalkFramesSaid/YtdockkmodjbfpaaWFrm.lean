/- What the frames that walks find have to do with the frames that are listed. -/
import Derived.Test.YtdockkmodjbfpaaWTab
namespace Go.Proofs.Ytdockkmodjbfpaa
open Go.ChangeShapes Go.WideShapes Go.ChangeAt Go.RowKit
set_option linter.unusedVariables false

/-- the frames that the walks of the first k addresses find -/
def seen (xss : List (List Int)) (r : Int) (k : Nat) : List Int := (List.range k).filterMap (fun a : Nat => if (walkF xss r a).c = 0 then some (walkF xss r a).f else none)
theorem seen_succ (xss : List (List Int)) (r : Int) (k : Nat) : seen xss r (k + 1) = seen xss r k ++ (if (walkF xss r k).c = 0 then [(walkF xss r k).f] else []) := by
  unfold seen
  rw [List.range_succ, List.filterMap_append]
  by_cases h : (walkF xss r k).c = 0
  · simp [h]
  · simp [h]
theorem seen_len (xss : List (List Int)) (r : Int) (k : Nat) : (seen xss r k).length ≤ k := by
  unfold seen
  have := List.length_filterMap_le (fun a : Nat => if (walkF xss r a).c = 0 then some (walkF xss r a).f else none) (List.range k)
  simpa using this
theorem seen_mem {xss : List (List Int)} {r : Int} {k a : Nat} (ha : a < k) (h : (walkF xss r a).c = 0) : (walkF xss r a).f ∈ seen xss r k := by
  unfold seen
  exact List.mem_filterMap.2 ⟨a, List.mem_range.2 ha, by rw [if_pos h]⟩

theorem walk_listed {xss : List (List Int)} {r a : Int} (h : (walkF xss r a).c = 0) : (walkF xss r a).f ∈ frmF xss r := by
  obtain ⟨hk, hx, hy, hw⟩ := walkF_done h
  obtain ⟨hm, hr, ha0, ha1⟩ := hk
  rw [hw]
  unfold frmF
  rw [if_pos ⟨hm, hr.1, hr.2⟩]
  have hfx := good_frame hx
  have hfy := good_frame hy
  unfold frs
  refine mem_srt hfy.1 hfy.2 ?_
  unfold flat
  refine List.mem_flatMap.2 ⟨top xss r a / 4, ?_, ?_⟩
  · unfold tabs
    refine mem_srt hfx.1 hfx.2 ?_
    have h4 : (rw4 xss r).length = 4 := mem_row hm (by omega)
    exact named_mem (xs := rw4 xss r) (i := (a / 16).toNat) (by omega) hx
  · have h4 : (rw4 xss (top xss r a / 4)).length = 4 := mem_row hm (by omega)
    exact named_mem (xs := rw4 xss (top xss r a / 4)) (i := (a / 4 % 4).toNat) (by omega) hy
theorem named_inv {xs : List Int} {z : Int} (h : z ∈ named xs) : ∃ i, i < xs.length ∧ goodB (xs.getD i 0) ∧ xs.getD i 0 / 4 = z := by
  unfold named at h
  obtain ⟨x, hx, rfl⟩ := List.mem_map.1 h
  rw [List.mem_filter] at hx
  obtain ⟨i, hi, rfl⟩ := List.getElem_of_mem hx.1
  exact ⟨i, hi, by rw [getD_lt hi]; exact of_decide_eq_true hx.2, by rw [getD_lt hi]⟩
theorem listed_walk {xss : List (List Int)} {r z : Int} (hk : memOk xss = true ∧ 0 ≤ r ∧ r < 12) (h : z ∈ frmF xss r) : z ∈ seen xss r 64 := by
  unfold frmF at h
  rw [if_pos hk] at h
  unfold frs at h
  have h1 := (srt_mem h).2.2
  unfold flat at h1
  obtain ⟨t, ht, hz⟩ := List.mem_flatMap.1 h1
  unfold tabs at ht
  have ht' := srt_mem ht
  obtain ⟨i, hi, hgi, hei⟩ := named_inv ht'.2.2
  obtain ⟨j, hj, hgj, hej⟩ := named_inv hz
  have h4 : (rw4 xss r).length = 4 := mem_row hk.1 (by omega)
  have h5 : (rw4 xss t).length = 4 := mem_row hk.1 (by omega)
  have e1 : ((16 * i + 4 * j : Nat) : Int) / 16 = (i : Int) := by omega
  have e2 : ((16 * i + 4 * j : Nat) : Int) / 4 % 4 = (j : Int) := by omega
  have et : top xss r ((16 * i + 4 * j : Nat) : Int) = (rw4 xss r).getD i 0 := by unfold top wd rw4; rw [e1]; simp
  have el : low xss r ((16 * i + 4 * j : Nat) : Int) = (rw4 xss t).getD j 0 := by unfold low wd; rw [et, hei, e2]; unfold rw4; simp
  have hok : wOk xss r ((16 * i + 4 * j : Nat) : Int) := ⟨hk.1, hk.2, by omega, by omega⟩
  have hwf : walkF xss r ((16 * i + 4 * j : Nat) : Int) = ⟨low xss r ((16 * i + 4 * j : Nat) : Int) / 4, ((16 * i + 4 * j : Nat) : Int) % 4, decide (top xss r ((16 * i + 4 * j : Nat) : Int) % 4 = 3) && decide (low xss r ((16 * i + 4 * j : Nat) : Int) % 4 = 3), 0⟩ := by
    unfold walkF
    rw [if_pos hok, if_pos (by rw [et]; exact hgi), if_pos (by rw [el]; exact hgj)]
  have := seen_mem (xss := xss) (r := r) (k := 64) (a := 16 * i + 4 * j) (by omega) (by rw [hwf])
  rw [hwf] at this
  simp only at this
  rwa [el, hej] at this
end Go.Proofs.Ytdockkmodjbfpaa
