/- The contracts of the program's MemoryCopy and MemoryClear where they succeed. -/
import Derived.Test.YticnfekjbknomaaMg6
namespace Go.Proofs.Yticnfekjbknomaa
open Go.ChangeShapes Go.WideShapes Go.ChangeAt Go.RowKit
set_option linter.unusedVariables false

set_option maxHeartbeats 1000000 in
theorem iclear_yes (w : World) (v : Value) (xss : List (List Int)) (i : Nat) (h : Rows2 w v xss) (hm : memOk xss = true) (hi : i < 12) :
    Calls Try.prog 30 #[v, .int .i64 i] w (NewMem (xss.set i [0, 0, 0, 0]) true w) := by
  obtain ⟨yss, hy0⟩ : ∃ yss, yss = xss.set i [0, 0, 0, 0] := ⟨_, rfl⟩
  rw [← hy0]
  have HY := Lib.hid hy0
  clear hy0
  have hl := mem_len hm
  have hr4 : ∀ i, i < 12 → (xss.getD i []).length = 4 := fun i hi => mem_row hm hi
  have hc := memoryOf_any h
  rw [hm] at hc
  replace hc : Calls Try.prog 81 #[v] w (ArrRes w (flatL xss).toArray true) := hc
  have HLL := Lib.hid (flat_len hm)
  have HLO := Lib.hid (flat_one xss)
  have HCR := Lib.hid (fun (W : World) (B : Nat) (h : W.rangeAt B 0 (flatL xss)) => Cells48.of_range hl hr4 h)
  obtain ⟨L, hL⟩ : ∃ L, L = flatL xss := ⟨_, rfl⟩
  rw [← hL] at hc HLL HLO HCR
  have HC := Lib.hid hc
  have HXL := Lib.hid hl
  have HX4 := Lib.hid hr4
  clear hL hc h hm hl hr4
  obtain ⟨z48, hz48⟩ : ∃ z, z = zero48 := ⟨_, rfl⟩
  have ZM := Lib.hid zero_mem
  have ZS := Lib.hid zero_size
  have ZO := Lib.hid zero_one
  rw [← hz48] at ZM ZS ZO
  clear hz48
  go_enter Try.func30, Try.ntmps30
  go_wp2_with fail
  refine HC.out.mono ?_
  rintro e w1 ⟨rfl, hb1⟩
  obtain ⟨wb, hwb⟩ : ∃ wb, wb = (w1.alloc (.cells z48 79)).setCells w1.heap.size 0 L.toArray.toList := ⟨_, rfl⟩
  have HLD : Hid (Laid w w1.heap.size L wb) := Lib.hid (by rw [hwb]; exact Laid.make hb1 ZS.out HLL.out)
  have HCE := Lib.hid (HCR.out wb w1.heap.size HLD.out.row)
  have hf : blw i 12 = true := blw_yes (by omega)
  have HIX := run_indexAt_arr (P := Try.prog) 79 12 77 4 Try.underlying79 size_words (by omega) w1.heap.size i hi
  obtain ⟨rw4, hrw⟩ : ∃ r : List Int, r = [0, 0, 0, 0] := ⟨_, rfl⟩
  have HR4 : Hid (rw4.length = 4) := Lib.hid (by rw [hrw]; rfl)
  rw [← hrw] at HY
  have HYL : Hid (yss.length = 12) := Lib.hid (by rw [HY.out, List.length_set, HXL.out])
  have HY4 : Hid (∀ k, k < 12 → (yss.getD k []).length = 4) := Lib.hid (fun m hk => by
    rw [HY.out, getD_set]
    split
    · exact HR4.out
    · exact HX4.out m hk)
  have HRG : Hid ((wb.setCells w1.heap.size (i * 4) (rw4.map (Value.int .i64))).rangeAt w1.heap.size 0 (flatL yss)) := Lib.hid (Cells48.range (HCE.out.row HLD.out.here (by omega) rw4 HR4.out) HYL.out HY4.out (fun m hk n hm => by
    rw [HY.out, getD_set]
    by_cases e : m = i
    · subst e
      rw [if_pos ⟨rfl, by rw [HXL.out]; exact hk⟩, if_pos rfl]
    · rw [if_neg (fun hh => e hh.1.symm), if_neg e]))
  have HLS := Lib.hid (fun W => lists_any (w := W) (xss := yss) HYL.out HY4.out)
  have HL2 := Lib.hid (flat_len12 HYL.out (by rw [HYL.out]; exact HY4.out))
  have HBC : Hid (Below w.heap.size w (wb.setCells w1.heap.size (i * 4) (rw4.map (Value.int .i64)))) := Lib.hid (Below.setCells (Below.refl _ _) _ HLD.out.lo _ _ _ HLD.out.bel)
  have HTH : Hid (wb.there w1.heap.size (i * 4) 4) := Lib.hid (there_part HLD.out.here (by omega))
  obtain ⟨L2, hL2⟩ : ∃ L2, L2 = flatL yss := ⟨_, rfl⟩
  rw [← hL2] at HRG HLS HL2
  clear hL2
  subst hrw
  replace HRG : Hid ((wb.setCells w1.heap.size (i * 4) [.int .i64 0, .int .i64 0, .int .i64 0, .int .i64 0]).rangeAt w1.heap.size 0 L2) := Lib.hid HRG.out
  replace HBC : Hid (Below w.heap.size w (wb.setCells w1.heap.size (i * 4) [.int .i64 0, .int .i64 0, .int .i64 0, .int .i64 0])) := Lib.hid HBC.out
  go_wp2_with (first | ((with_reducible refine alloc_is 79 ?_); refine alloc_arr 79 z48 ZM.out ?_) | ((with_reducible refine store_is 79 (.tmp 6) (.tmp 11) ?_); refine store_arr 79 (.tmp 6) (.tmp 11) w1.heap.size 0 L.toArray rfl rfl (there_row (heap_alloc_new w1 _) (by rw [ZS.out, List.size_toArray, HLL.out]; omega)) (info_mem (by rw [List.size_toArray, HLL.out])) HLO.out ?_; rw [← hwb]; clear hwb) | (go_at_call 82; refine (below_any _ _ _).mono ?_; rintro e w' ⟨rfl, rfl⟩) | ((with_reducible refine store_is 77 (.tmp 22) (.tmp 21) ?_); refine store_arr 77 (.tmp 22) (.tmp 21) w1.heap.size (i * 4) #[.int .i64 0, .int .i64 0, .int .i64 0, .int .i64 0] rfl rfl HTH.out info_words (by kernel_rfl) ?_) | ((with_reducible refine load_is 79 (.tmp 6) ?_); refine load_arr 79 (.tmp 6) w1.heap.size 0 L2 _ rfl HRG.out Try.underlying79 rfl (info_mem HL2.out) ?_))
  refine (HLS.out _).mono ?_
  rintro e w5 ⟨v5, rfl, hm5, hb5⟩
  have HE := Lib.hid (new_of HBC.out hm5 hb5)
  clear hm5 hb5
  go_wp2_with fail
  go_ret2
  exact HE.out
end Go.Proofs.Yticnfekjbknomaa
