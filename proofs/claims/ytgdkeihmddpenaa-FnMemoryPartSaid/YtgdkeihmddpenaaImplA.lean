/- What the program's functions on memories return: the contracts that the walks of the statements ask for. -/
import Derived.Test.YtgdkeihmddpenaaLists
namespace Go.Proofs.Ytgdkeihmddpenaa
open Go.ChangeShapes Go.WideShapes Go.ChangeAt Go.RowKit
set_option linter.unusedVariables false

theorem flat_get (xss : List (List Int)) (h : ∀ i, i < xss.length → (xss.getD i []).length = 4) {i j : Nat} (hi : i < xss.length) (hj : j < 4) :
    (flatL xss)[i * 4 + j]? = some (.int .i64 ((xss.getD i []).getD j 0)) := by
  have h1 := flat_take_len xss h i (by omega)
  have h4 := h i hi
  have e : flatL xss = flatL (xss.take i) ++ ((xss.getD i []).map (Value.int .i64) ++ flatL (xss.drop (i + 1))) := by
    rw [← List.append_assoc, ← flat_snoc xss i _ hi rfl]
    unfold flatL
    rw [← List.map_append, ← List.flatten_append, List.take_append_drop]
  rw [e, List.getElem?_append_right (by omega), h1, List.getElem?_append_left (by rw [List.length_map]; omega)]
  have e2 : i * 4 + j - i * 4 = j := by omega
  rw [e2, List.getElem?_map, getD_lt (l := xss.getD i []) (i := j) (by omega), List.getElem?_eq_getElem (by omega)]
  rfl
/-- the block B holds 12 rows of 4 numbers -/
def Cells48 (w : World) (B : Nat) (X : Nat → Nat → Int) : Prop := ∀ i, i < 12 → ∀ j, j < 4 → w.cell? ⟨B, i * 4 + j, none⟩ = some (.int .i64 (X i j))
theorem Cells48.of_range {w : World} {B : Nat} {xss : List (List Int)} (hl : xss.length = 12) (h4 : ∀ i, i < 12 → (xss.getD i []).length = 4) (h : w.rangeAt B 0 (flatL xss)) : Cells48 w B (fun i j => (xss.getD i []).getD j 0) := fun i hi j hj => by
  have := h (i * 4 + j) _ (flat_get xss (by rw [hl]; exact h4) (by omega) hj)
  rwa [Nat.zero_add] at this
theorem Cells48.range {w : World} {B : Nat} {X : Nat → Nat → Int} {yss : List (List Int)} (h : Cells48 w B X) (hl : yss.length = 12) (h4 : ∀ i, i < 12 → (yss.getD i []).length = 4)
    (hX : ∀ i, i < 12 → ∀ j, j < 4 → (yss.getD i []).getD j 0 = X i j) : w.rangeAt B 0 (flatL yss) := fun n v hv => by
  have hlen := flat_len12 hl (by rw [hl]; exact h4)
  have hn : n < 48 := by rw [← hlen]; exact (List.getElem?_eq_some_iff.1 hv).1
  have e : n = n / 4 * 4 + n % 4 := by omega
  have hi : n / 4 < 12 := by omega
  have hj : n % 4 < 4 := by omega
  have h1 := flat_get yss (by rw [hl]; exact h4) (i := n / 4) (j := n % 4) (by omega) hj
  rw [← e, hv] at h1
  injection h1 with h1
  rw [h1, hX _ hi _ hj, Nat.zero_add]
  have := h _ hi _ hj
  rwa [← e] at this
theorem MatW.lower {w : World} {B0 B0' B1 : Nat} {v : Value} {xss : List (List Int)} (h : MatW w B0 B1 v xss) (hB : B0' ≤ B0) : MatW w B0' B1 v xss := by
  obtain ⟨a, cap, A, C, rfl, h1, h2, h3⟩ := h
  refine ⟨a, cap, A, C, rfl, h1, h2, ⟨fun k hk => ?_, fun k hk m hm => ?_, h3.apart⟩⟩
  · obtain ⟨b, o, e, p1, p2, p3⟩ := h3.top k hk
    exact ⟨b, o, e, by omega, p2, p3⟩
  · obtain ⟨g, p, e, p1, p2, p3⟩ := h3.row k hk m hm
    exact ⟨g, p, e, by omega, p2, p3⟩
theorem nil_mem {w w' : World} (h : Below w.heap.size w w') : NewMem [] false w (.returned (.tuple #[.slice none 0 0, .bool false])) w' :=
  ⟨_, rfl, ⟨none, 0, fun _ => none, fun _ => 0, rfl, Nat.le_refl _, Nat.zero_le _, ⟨fun j hj => by simp at hj, fun j hj => by simp at hj, fun j hj => by simp at hj⟩⟩, h⟩

/-- a variable of its own that holds the array -/
structure Laid (w : World) (B : Nat) (cs : List Value) (wb : World) : Prop where
  bel : Below w.heap.size w wb
  lo : w.heap.size ≤ B
  hi : B < wb.heap.size
  here : wb.there B 0 48
  row : wb.rangeAt B 0 cs
theorem Laid.make {w w1 : World} {cs : List Value} {z : Array Value} {t : TypeId} (hb : Below w.heap.size w w1) (hz : z.size = 48) (hc : cs.length = 48) : Laid w w1.heap.size cs ((w1.alloc (.cells z t)).setCells w1.heap.size 0 cs) := by
  have ht : (w1.alloc (.cells z t)).there w1.heap.size 0 48 := there_row (heap_alloc_new w1 _) (by omega)
  refine ⟨Below.setCells (Below.refl _ _) _ hb.size _ _ _ (hb.alloc hb.size _), hb.size, by rw [size_setCells]; simp, World.there_setCells ht _ _ _, World.rangeAt_setCells_same _ _ _ _ (by rw [hc]; exact ht)⟩
theorem new_of {w wb w' : World} {v : Value} {yss : List (List Int)} (h : Below w.heap.size w wb) (hv : MatW w' wb.heap.size w'.heap.size v yss) (hb : Below wb.heap.size wb w') : NewMem yss true w (.returned (.tuple #[v, .bool true])) w' :=
  ⟨v, rfl, hv.lower h.size, h.trans (hb.mono h.size)⟩

theorem ivalid_any (w : World) (v : Value) (xss : List (List Int)) (h : Rows2 w v xss) :
    Calls Try.prog 25 #[v] w fun e w' => e = .returned (.bool (memOk xss)) ∧ Below w.heap.size w w' := by
  have hc := memoryOf_any h
  obtain ⟨b, hb⟩ : ∃ b, b = memOk xss := ⟨_, rfl⟩
  have hs : (bif memOk xss then (flatL xss).toArray else zero48).size = 48 := by
    cases hm : memOk xss
    · exact zero_size
    · simp [flat_len hm]
  have ho : (bif memOk xss then (flatL xss).toArray else zero48).all (·.oneCell') = true := by
    cases hm : memOk xss
    · exact zero_one
    · exact flat_one xss
  obtain ⟨cs, hcs⟩ : ∃ cs, cs = (bif memOk xss then (flatL xss).toArray else zero48) := ⟨_, rfl⟩
  rw [← hcs] at hc hs ho
  rw [← hb] at hc ⊢
  clear hcs hb h
  have HC := Lib.hid hc
  have HS := Lib.hid hs
  have HO := Lib.hid ho
  clear hc hs ho
  obtain ⟨z48, hz48⟩ : ∃ z, z = zero48 := ⟨_, rfl⟩
  have ZM := Lib.hid zero_mem
  have ZS := Lib.hid zero_size
  have ZO := Lib.hid zero_one
  rw [← hz48] at ZM ZS ZO
  clear hz48
  go_enter Try.func25, Try.ntmps25
  go_wp2_with fail
  refine HC.out.mono ?_
  rintro e w1 ⟨rfl, hb1⟩
  have HB : Hid (∀ t c, Below w.heap.size w ((w1.alloc (.cells z48 t)).setCells w1.heap.size 0 c)) := Lib.hid (fun t c => Below.setCells (Below.refl _ _) _ hb1.size _ _ _ (hb1.alloc hb1.size _))
  go_wp2_with (first | ((with_reducible refine alloc_is 55 ?_); refine alloc_arr 55 z48 ZM.out ?_) | ((with_reducible refine store_is 55 (.tmp 3) (.tmp 8) ?_); refine store_arr 55 (.tmp 3) (.tmp 8) w1.heap.size 0 cs rfl rfl (there_row (heap_alloc_new w1 _) (by rw [ZS.out, HS.out]; omega)) (info_mem HS.out) HO.out ?_))
  go_ret
  exact ⟨rfl, HB.out _ _⟩

theorem iget_bad (w : World) (v : Value) (xss : List (List Int)) (f t : Int) (h : Rows2 w v xss) (hm : memOk xss = false) :
    Calls Try.prog 15 #[v, .int .i64 f, .int .i64 t] w fun e w' => e = .returned (.tuple #[.int .i64 0, .bool false]) ∧ Below w.heap.size w w' := by
  have hc := memoryOf_any h
  rw [hm] at hc
  replace hc : Calls Try.prog 40 #[v] w (ArrRes w zero48 false) := hc
  obtain ⟨z48, hz48⟩ : ∃ z, z = zero48 := ⟨_, rfl⟩
  have ZM := Lib.hid zero_mem
  have ZS := Lib.hid zero_size
  have ZO := Lib.hid zero_one
  rw [← hz48] at ZM ZS ZO
  rw [← hz48] at hc
  have HC := Lib.hid hc
  clear hc h hm hz48
  go_enter Try.func15, Try.ntmps15
  go_wp2_with fail
  refine HC.out.mono ?_
  rintro e w1 ⟨rfl, hb1⟩
  have HB : Hid (∀ t c, Below w.heap.size w ((w1.alloc (.cells z48 t)).setCells w1.heap.size 0 c)) := Lib.hid (fun t c => Below.setCells (Below.refl _ _) _ hb1.size _ _ _ (hb1.alloc hb1.size _))
  go_wp2_with (first | ((with_reducible refine alloc_is 55 ?_); refine alloc_arr 55 z48 ZM.out ?_) | ((with_reducible refine store_is 55 (.tmp 8) (.tmp 13) ?_); refine store_arr 55 (.tmp 8) (.tmp 13) w1.heap.size 0 z48 rfl rfl (there_row (heap_alloc_new w1 _) (Nat.le_refl _)) (info_mem ZS.out) ZO.out ?_))
  go_ret2
  exact ⟨rfl, HB.out _ _⟩
theorem iput_bad (w : World) (v : Value) (xss : List (List Int)) (f t x : Int) (h : Rows2 w v xss) (hm : memOk xss = false) :
    Calls Try.prog 18 #[v, .int .i64 f, .int .i64 t, .int .i64 x] w (NewMem [] false w) := by
  have hc := memoryOf_any h
  rw [hm] at hc
  replace hc : Calls Try.prog 40 #[v] w (ArrRes w zero48 false) := hc
  obtain ⟨z48, hz48⟩ : ∃ z, z = zero48 := ⟨_, rfl⟩
  have ZM := Lib.hid zero_mem
  have ZS := Lib.hid zero_size
  have ZO := Lib.hid zero_one
  rw [← hz48] at ZM ZS ZO
  rw [← hz48] at hc
  have HC := Lib.hid hc
  clear hc h hm hz48
  go_enter Try.func18, Try.ntmps18
  go_wp2_with fail
  refine HC.out.mono ?_
  rintro e w1 ⟨rfl, hb1⟩
  have HB : Hid (∀ t c, Below w.heap.size w ((w1.alloc (.cells z48 t)).setCells w1.heap.size 0 c)) := Lib.hid (fun t c => Below.setCells (Below.refl _ _) _ hb1.size _ _ _ (hb1.alloc hb1.size _))
  go_wp2_with (first | ((with_reducible refine alloc_is 55 ?_); refine alloc_arr 55 z48 ZM.out ?_) | ((with_reducible refine store_is 55 (.tmp 10) (.tmp 15) ?_); refine store_arr 55 (.tmp 10) (.tmp 15) w1.heap.size 0 z48 rfl rfl (there_row (heap_alloc_new w1 _) (Nat.le_refl _)) (info_mem ZS.out) ZO.out ?_))
  go_ret2
  exact nil_mem (HB.out _ _)
theorem icopy_bad (w : World) (v : Value) (xss : List (List Int)) (f t : Int) (h : Rows2 w v xss) (hm : memOk xss = false) :
    Calls Try.prog 22 #[v, .int .i64 f, .int .i64 t] w (NewMem [] false w) := by
  have hc := memoryOf_any h
  rw [hm] at hc
  replace hc : Calls Try.prog 40 #[v] w (ArrRes w zero48 false) := hc
  obtain ⟨z48, hz48⟩ : ∃ z, z = zero48 := ⟨_, rfl⟩
  have ZM := Lib.hid zero_mem
  have ZS := Lib.hid zero_size
  have ZO := Lib.hid zero_one
  rw [← hz48] at ZM ZS ZO
  rw [← hz48] at hc
  have HC := Lib.hid hc
  clear hc h hm hz48
  go_enter Try.func22, Try.ntmps22
  go_wp2_with fail
  refine HC.out.mono ?_
  rintro e w1 ⟨rfl, hb1⟩
  have HB : Hid (∀ t c, Below w.heap.size w ((w1.alloc (.cells z48 t)).setCells w1.heap.size 0 c)) := Lib.hid (fun t c => Below.setCells (Below.refl _ _) _ hb1.size _ _ _ (hb1.alloc hb1.size _))
  go_wp2_with (first | ((with_reducible refine alloc_is 55 ?_); refine alloc_arr 55 z48 ZM.out ?_) | ((with_reducible refine store_is 55 (.tmp 8) (.tmp 13) ?_); refine store_arr 55 (.tmp 8) (.tmp 13) w1.heap.size 0 z48 rfl rfl (there_row (heap_alloc_new w1 _) (Nat.le_refl _)) (info_mem ZS.out) ZO.out ?_))
  go_ret2
  exact nil_mem (HB.out _ _)
theorem iclear_bad (w : World) (v : Value) (xss : List (List Int)) (f : Int) (h : Rows2 w v xss) (hm : memOk xss = false) :
    Calls Try.prog 27 #[v, .int .i64 f] w (NewMem [] false w) := by
  have hc := memoryOf_any h
  rw [hm] at hc
  replace hc : Calls Try.prog 40 #[v] w (ArrRes w zero48 false) := hc
  obtain ⟨z48, hz48⟩ : ∃ z, z = zero48 := ⟨_, rfl⟩
  have ZM := Lib.hid zero_mem
  have ZS := Lib.hid zero_size
  have ZO := Lib.hid zero_one
  rw [← hz48] at ZM ZS ZO
  rw [← hz48] at hc
  have HC := Lib.hid hc
  clear hc h hm hz48
  go_enter Try.func27, Try.ntmps27
  go_wp2_with fail
  refine HC.out.mono ?_
  rintro e w1 ⟨rfl, hb1⟩
  have HB : Hid (∀ t c, Below w.heap.size w ((w1.alloc (.cells z48 t)).setCells w1.heap.size 0 c)) := Lib.hid (fun t c => Below.setCells (Below.refl _ _) _ hb1.size _ _ _ (hb1.alloc hb1.size _))
  go_wp2_with (first | ((with_reducible refine alloc_is 55 ?_); refine alloc_arr 55 z48 ZM.out ?_) | ((with_reducible refine store_is 55 (.tmp 6) (.tmp 11) ?_); refine store_arr 55 (.tmp 6) (.tmp 11) w1.heap.size 0 z48 rfl rfl (there_row (heap_alloc_new w1 _) (Nat.le_refl _)) (info_mem ZS.out) ZO.out ?_))
  go_ret2
  exact nil_mem (HB.out _ _)
theorem iget_yes (w : World) (v : Value) (xss : List (List Int)) (i j : Nat) (h : Rows2 w v xss) (hm : memOk xss = true) (hi : i < 12) (hj : j < 4) :
    Calls Try.prog 15 #[v, .int .i64 i, .int .i64 j] w fun e w' => e = .returned (.tuple #[.int .i64 ((xss.getD i []).getD j 0), .bool true]) ∧ Below w.heap.size w w' := by
  obtain ⟨y, hy⟩ : ∃ y, y = (xss.getD i []).getD j 0 := ⟨_, rfl⟩
  rw [← hy]
  have HY := Lib.hid hy
  clear hy
  have hl := mem_len hm
  have hr4 : ∀ i, i < 12 → (xss.getD i []).length = 4 := fun i hi => mem_row hm hi
  have hc := memoryOf_any h
  rw [hm] at hc
  replace hc : Calls Try.prog 40 #[v] w (ArrRes w (flatL xss).toArray true) := hc
  have HLL := Lib.hid (flat_len hm)
  have HLO := Lib.hid (flat_one xss)
  have HCR := Lib.hid (fun (W : World) (B : Nat) (h : W.rangeAt B 0 (flatL xss)) => Cells48.of_range hl hr4 h)
  obtain ⟨L, hL⟩ : ∃ L, L = flatL xss := ⟨_, rfl⟩
  rw [← hL] at hc HLL HLO HCR
  have HC := Lib.hid hc
  have HXL := Lib.hid hl
  have HX4 := Lib.hid hr4
  clear hL hc h hm hl hr4
  obtain ⟨z48, hz48⟩ : ∃ z, z = zero48 := ⟨_, rfl⟩
  have ZM := Lib.hid zero_mem
  have ZS := Lib.hid zero_size
  have ZO := Lib.hid zero_one
  rw [← hz48] at ZM ZS ZO
  clear hz48
  go_enter Try.func15, Try.ntmps15
  go_wp2_with fail
  refine HC.out.mono ?_
  rintro e w1 ⟨rfl, hb1⟩
  obtain ⟨wb, hwb⟩ : ∃ wb, wb = (w1.alloc (.cells z48 55)).setCells w1.heap.size 0 L.toArray.toList := ⟨_, rfl⟩
  have HLD : Hid (Laid w w1.heap.size L wb) := Lib.hid (by rw [hwb]; exact Laid.make hb1 ZS.out HLL.out)
  have HCE := Lib.hid (HCR.out wb w1.heap.size HLD.out.row)
  have hf : blw i 12 = true := blw_yes (by omega)
  have ht : blw j 4 = true := blw_yes (by omega)
  have HIX := run_indexAt_arr (P := Try.prog) 55 12 53 4 Try.underlying55 size_words (by omega) w1.heap.size i hi
  have HJX := run_indexAt_part (P := Try.prog) 53 4 3 Try.underlying53 Try.sizeOf3 (by omega) w1.heap.size (i * 4) j hj
  have hcell : wb.cell? ⟨w1.heap.size, i * 4 + j, none⟩ = some (.int .i64 ((xss.getD i []).getD j 0)) := HCE.out i hi j hj
  rw [← HY.out] at hcell
  go_wp2_with (first | ((with_reducible refine alloc_is 55 ?_); refine alloc_arr 55 z48 ZM.out ?_) | ((with_reducible refine store_is 55 (.tmp 8) (.tmp 13) ?_); refine store_arr 55 (.tmp 8) (.tmp 13) w1.heap.size 0 L.toArray rfl rfl (there_row (heap_alloc_new w1 _) (by rw [ZS.out, List.size_toArray, HLL.out]; omega)) (info_mem (by rw [List.size_toArray, HLL.out])) HLO.out ?_; rw [← hwb]; clear hwb) | (go_at_call 41; refine (below_any _ _ _).mono ?_; rintro e w' ⟨rfl, rfl⟩))
  go_ret2
  exact ⟨rfl, HLD.out.bel⟩
theorem iget_no (w : World) (v : Value) (xss : List (List Int)) (f t : Int) (h : Rows2 w v xss) (hm : memOk xss = true) (hb : blw f 12 = false ∨ blw f 12 = true ∧ blw t 4 = false) :
    Calls Try.prog 15 #[v, .int .i64 f, .int .i64 t] w fun e w' => e = .returned (.tuple #[.int .i64 0, .bool false]) ∧ Below w.heap.size w w' := by
  have hl := mem_len hm
  have hr4 : ∀ i, i < 12 → (xss.getD i []).length = 4 := fun i hi => mem_row hm hi
  have hc := memoryOf_any h
  rw [hm] at hc
  replace hc : Calls Try.prog 40 #[v] w (ArrRes w (flatL xss).toArray true) := hc
  have HLL := Lib.hid (flat_len hm)
  have HLO := Lib.hid (flat_one xss)
  have HCR := Lib.hid (fun (W : World) (B : Nat) (h : W.rangeAt B 0 (flatL xss)) => Cells48.of_range hl hr4 h)
  obtain ⟨L, hL⟩ : ∃ L, L = flatL xss := ⟨_, rfl⟩
  rw [← hL] at hc HLL HLO HCR
  have HC := Lib.hid hc
  have HXL := Lib.hid hl
  have HX4 := Lib.hid hr4
  clear hL hc h hm hl hr4
  obtain ⟨z48, hz48⟩ : ∃ z, z = zero48 := ⟨_, rfl⟩
  have ZM := Lib.hid zero_mem
  have ZS := Lib.hid zero_size
  have ZO := Lib.hid zero_one
  rw [← hz48] at ZM ZS ZO
  clear hz48
  go_enter Try.func15, Try.ntmps15
  go_wp2_with fail
  refine HC.out.mono ?_
  rintro e w1 ⟨rfl, hb1⟩
  obtain ⟨wb, hwb⟩ : ∃ wb, wb = (w1.alloc (.cells z48 55)).setCells w1.heap.size 0 L.toArray.toList := ⟨_, rfl⟩
  have HLD : Hid (Laid w w1.heap.size L wb) := Lib.hid (by rw [hwb]; exact Laid.make hb1 ZS.out HLL.out)
  have HCE := Lib.hid (HCR.out wb w1.heap.size HLD.out.row)
  rcases hb with hf | ⟨hf, ht⟩
  · go_wp2_with (first | ((with_reducible refine alloc_is 55 ?_); refine alloc_arr 55 z48 ZM.out ?_) | ((with_reducible refine store_is 55 (.tmp 8) (.tmp 13) ?_); refine store_arr 55 (.tmp 8) (.tmp 13) w1.heap.size 0 L.toArray rfl rfl (there_row (heap_alloc_new w1 _) (by rw [ZS.out, List.size_toArray, HLL.out]; omega)) (info_mem (by rw [List.size_toArray, HLL.out])) HLO.out ?_; rw [← hwb]; clear hwb) | (go_at_call 41; refine (below_any _ _ _).mono ?_; rintro e w' ⟨rfl, rfl⟩))
    go_ret2
    exact ⟨rfl, HLD.out.bel⟩
  · go_wp2_with (first | ((with_reducible refine alloc_is 55 ?_); refine alloc_arr 55 z48 ZM.out ?_) | ((with_reducible refine store_is 55 (.tmp 8) (.tmp 13) ?_); refine store_arr 55 (.tmp 8) (.tmp 13) w1.heap.size 0 L.toArray rfl rfl (there_row (heap_alloc_new w1 _) (by rw [ZS.out, List.size_toArray, HLL.out]; omega)) (info_mem (by rw [List.size_toArray, HLL.out])) HLO.out ?_; rw [← hwb]; clear hwb) | (go_at_call 41; refine (below_any _ _ _).mono ?_; rintro e w' ⟨rfl, rfl⟩))
    go_ret2
    exact ⟨rfl, HLD.out.bel⟩
theorem iput_no (w : World) (v : Value) (xss : List (List Int)) (f t x : Int) (h : Rows2 w v xss) (hm : memOk xss = true) (hb : blw f 12 = false ∨ blw f 12 = true ∧ blw t 4 = false ∨ blw f 12 = true ∧ blw t 4 = true ∧ isw x = false) :
    Calls Try.prog 18 #[v, .int .i64 f, .int .i64 t, .int .i64 x] w (NewMem [] false w) := by
  have hl := mem_len hm
  have hr4 : ∀ i, i < 12 → (xss.getD i []).length = 4 := fun i hi => mem_row hm hi
  have hc := memoryOf_any h
  rw [hm] at hc
  replace hc : Calls Try.prog 40 #[v] w (ArrRes w (flatL xss).toArray true) := hc
  have HLL := Lib.hid (flat_len hm)
  have HLO := Lib.hid (flat_one xss)
  have HCR := Lib.hid (fun (W : World) (B : Nat) (h : W.rangeAt B 0 (flatL xss)) => Cells48.of_range hl hr4 h)
  obtain ⟨L, hL⟩ : ∃ L, L = flatL xss := ⟨_, rfl⟩
  rw [← hL] at hc HLL HLO HCR
  have HC := Lib.hid hc
  have HXL := Lib.hid hl
  have HX4 := Lib.hid hr4
  clear hL hc h hm hl hr4
  obtain ⟨z48, hz48⟩ : ∃ z, z = zero48 := ⟨_, rfl⟩
  have ZM := Lib.hid zero_mem
  have ZS := Lib.hid zero_size
  have ZO := Lib.hid zero_one
  rw [← hz48] at ZM ZS ZO
  clear hz48
  go_enter Try.func18, Try.ntmps18
  go_wp2_with fail
  refine HC.out.mono ?_
  rintro e w1 ⟨rfl, hb1⟩
  obtain ⟨wb, hwb⟩ : ∃ wb, wb = (w1.alloc (.cells z48 55)).setCells w1.heap.size 0 L.toArray.toList := ⟨_, rfl⟩
  have HLD : Hid (Laid w w1.heap.size L wb) := Lib.hid (by rw [hwb]; exact Laid.make hb1 ZS.out HLL.out)
  have HCE := Lib.hid (HCR.out wb w1.heap.size HLD.out.row)
  rcases hb with hf | ⟨hf, ht⟩ | ⟨hf, ht, hx⟩
  · go_wp2_with (first | ((with_reducible refine alloc_is 55 ?_); refine alloc_arr 55 z48 ZM.out ?_) | ((with_reducible refine store_is 55 (.tmp 10) (.tmp 15) ?_); refine store_arr 55 (.tmp 10) (.tmp 15) w1.heap.size 0 L.toArray rfl rfl (there_row (heap_alloc_new w1 _) (by rw [ZS.out, List.size_toArray, HLL.out]; omega)) (info_mem (by rw [List.size_toArray, HLL.out])) HLO.out ?_; rw [← hwb]; clear hwb) | (go_at_call 41; refine (below_any _ _ _).mono ?_; rintro e w' ⟨rfl, rfl⟩) | (go_at_call 45; refine (isWord_any _ _).mono ?_; rintro e w' ⟨rfl, rfl⟩))
    go_ret2
    exact nil_mem HLD.out.bel
  · go_wp2_with (first | ((with_reducible refine alloc_is 55 ?_); refine alloc_arr 55 z48 ZM.out ?_) | ((with_reducible refine store_is 55 (.tmp 10) (.tmp 15) ?_); refine store_arr 55 (.tmp 10) (.tmp 15) w1.heap.size 0 L.toArray rfl rfl (there_row (heap_alloc_new w1 _) (by rw [ZS.out, List.size_toArray, HLL.out]; omega)) (info_mem (by rw [List.size_toArray, HLL.out])) HLO.out ?_; rw [← hwb]; clear hwb) | (go_at_call 41; refine (below_any _ _ _).mono ?_; rintro e w' ⟨rfl, rfl⟩) | (go_at_call 45; refine (isWord_any _ _).mono ?_; rintro e w' ⟨rfl, rfl⟩))
    go_ret2
    exact nil_mem HLD.out.bel
  · go_wp2_with (first | ((with_reducible refine alloc_is 55 ?_); refine alloc_arr 55 z48 ZM.out ?_) | ((with_reducible refine store_is 55 (.tmp 10) (.tmp 15) ?_); refine store_arr 55 (.tmp 10) (.tmp 15) w1.heap.size 0 L.toArray rfl rfl (there_row (heap_alloc_new w1 _) (by rw [ZS.out, List.size_toArray, HLL.out]; omega)) (info_mem (by rw [List.size_toArray, HLL.out])) HLO.out ?_; rw [← hwb]; clear hwb) | (go_at_call 41; refine (below_any _ _ _).mono ?_; rintro e w' ⟨rfl, rfl⟩) | (go_at_call 45; refine (isWord_any _ _).mono ?_; rintro e w' ⟨rfl, rfl⟩))
    go_ret2
    exact nil_mem HLD.out.bel
theorem icopy_no (w : World) (v : Value) (xss : List (List Int)) (f t : Int) (h : Rows2 w v xss) (hm : memOk xss = true) (hb : blw f 12 = false ∨ blw f 12 = true ∧ blw t 12 = false) :
    Calls Try.prog 22 #[v, .int .i64 f, .int .i64 t] w (NewMem [] false w) := by
  have hl := mem_len hm
  have hr4 : ∀ i, i < 12 → (xss.getD i []).length = 4 := fun i hi => mem_row hm hi
  have hc := memoryOf_any h
  rw [hm] at hc
  replace hc : Calls Try.prog 40 #[v] w (ArrRes w (flatL xss).toArray true) := hc
  have HLL := Lib.hid (flat_len hm)
  have HLO := Lib.hid (flat_one xss)
  have HCR := Lib.hid (fun (W : World) (B : Nat) (h : W.rangeAt B 0 (flatL xss)) => Cells48.of_range hl hr4 h)
  obtain ⟨L, hL⟩ : ∃ L, L = flatL xss := ⟨_, rfl⟩
  rw [← hL] at hc HLL HLO HCR
  have HC := Lib.hid hc
  have HXL := Lib.hid hl
  have HX4 := Lib.hid hr4
  clear hL hc h hm hl hr4
  obtain ⟨z48, hz48⟩ : ∃ z, z = zero48 := ⟨_, rfl⟩
  have ZM := Lib.hid zero_mem
  have ZS := Lib.hid zero_size
  have ZO := Lib.hid zero_one
  rw [← hz48] at ZM ZS ZO
  clear hz48
  go_enter Try.func22, Try.ntmps22
  go_wp2_with fail
  refine HC.out.mono ?_
  rintro e w1 ⟨rfl, hb1⟩
  obtain ⟨wb, hwb⟩ : ∃ wb, wb = (w1.alloc (.cells z48 55)).setCells w1.heap.size 0 L.toArray.toList := ⟨_, rfl⟩
  have HLD : Hid (Laid w w1.heap.size L wb) := Lib.hid (by rw [hwb]; exact Laid.make hb1 ZS.out HLL.out)
  have HCE := Lib.hid (HCR.out wb w1.heap.size HLD.out.row)
  rcases hb with hf | ⟨hf, ht⟩
  · go_wp2_with (first | ((with_reducible refine alloc_is 55 ?_); refine alloc_arr 55 z48 ZM.out ?_) | ((with_reducible refine store_is 55 (.tmp 8) (.tmp 13) ?_); refine store_arr 55 (.tmp 8) (.tmp 13) w1.heap.size 0 L.toArray rfl rfl (there_row (heap_alloc_new w1 _) (by rw [ZS.out, List.size_toArray, HLL.out]; omega)) (info_mem (by rw [List.size_toArray, HLL.out])) HLO.out ?_; rw [← hwb]; clear hwb) | (go_at_call 41; refine (below_any _ _ _).mono ?_; rintro e w' ⟨rfl, rfl⟩))
    go_ret2
    exact nil_mem HLD.out.bel
  · go_wp2_with (first | ((with_reducible refine alloc_is 55 ?_); refine alloc_arr 55 z48 ZM.out ?_) | ((with_reducible refine store_is 55 (.tmp 8) (.tmp 13) ?_); refine store_arr 55 (.tmp 8) (.tmp 13) w1.heap.size 0 L.toArray rfl rfl (there_row (heap_alloc_new w1 _) (by rw [ZS.out, List.size_toArray, HLL.out]; omega)) (info_mem (by rw [List.size_toArray, HLL.out])) HLO.out ?_; rw [← hwb]; clear hwb) | (go_at_call 41; refine (below_any _ _ _).mono ?_; rintro e w' ⟨rfl, rfl⟩))
    go_ret2
    exact nil_mem HLD.out.bel
theorem iclear_no (w : World) (v : Value) (xss : List (List Int)) (f : Int) (h : Rows2 w v xss) (hm : memOk xss = true) (hf : blw f 12 = false) :
    Calls Try.prog 27 #[v, .int .i64 f] w (NewMem [] false w) := by
  have hl := mem_len hm
  have hr4 : ∀ i, i < 12 → (xss.getD i []).length = 4 := fun i hi => mem_row hm hi
  have hc := memoryOf_any h
  rw [hm] at hc
  replace hc : Calls Try.prog 40 #[v] w (ArrRes w (flatL xss).toArray true) := hc
  have HLL := Lib.hid (flat_len hm)
  have HLO := Lib.hid (flat_one xss)
  have HCR := Lib.hid (fun (W : World) (B : Nat) (h : W.rangeAt B 0 (flatL xss)) => Cells48.of_range hl hr4 h)
  obtain ⟨L, hL⟩ : ∃ L, L = flatL xss := ⟨_, rfl⟩
  rw [← hL] at hc HLL HLO HCR
  have HC := Lib.hid hc
  have HXL := Lib.hid hl
  have HX4 := Lib.hid hr4
  clear hL hc h hm hl hr4
  obtain ⟨z48, hz48⟩ : ∃ z, z = zero48 := ⟨_, rfl⟩
  have ZM := Lib.hid zero_mem
  have ZS := Lib.hid zero_size
  have ZO := Lib.hid zero_one
  rw [← hz48] at ZM ZS ZO
  clear hz48
  go_enter Try.func27, Try.ntmps27
  go_wp2_with fail
  refine HC.out.mono ?_
  rintro e w1 ⟨rfl, hb1⟩
  obtain ⟨wb, hwb⟩ : ∃ wb, wb = (w1.alloc (.cells z48 55)).setCells w1.heap.size 0 L.toArray.toList := ⟨_, rfl⟩
  have HLD : Hid (Laid w w1.heap.size L wb) := Lib.hid (by rw [hwb]; exact Laid.make hb1 ZS.out HLL.out)
  have HCE := Lib.hid (HCR.out wb w1.heap.size HLD.out.row)
  go_wp2_with (first | ((with_reducible refine alloc_is 55 ?_); refine alloc_arr 55 z48 ZM.out ?_) | ((with_reducible refine store_is 55 (.tmp 6) (.tmp 11) ?_); refine store_arr 55 (.tmp 6) (.tmp 11) w1.heap.size 0 L.toArray rfl rfl (there_row (heap_alloc_new w1 _) (by rw [ZS.out, List.size_toArray, HLL.out]; omega)) (info_mem (by rw [List.size_toArray, HLL.out])) HLO.out ?_; rw [← hwb]; clear hwb) | (go_at_call 41; refine (below_any _ _ _).mono ?_; rintro e w' ⟨rfl, rfl⟩))
  go_ret2
  exact nil_mem HLD.out.bel
theorem Laid.set {w wb : World} {B : Nat} {cs : List Value} (h : Laid w B cs wb) (o : Nat) (x : Value) : Below w.heap.size w (wb.setCell ⟨B, o, none⟩ x) ∧ (wb.setCell ⟨B, o, none⟩ x).heap.size = wb.heap.size :=
  ⟨h.bel.setCell (p := ⟨B, o, none⟩) h.lo x, by simp [World.setCell]⟩
theorem Cells48.set {w : World} {B : Nat} {X : Nat → Nat → Int} (h : Cells48 w B X) {i j : Nat} (hi : i < 12) (hj : j < 4) (x : Int) : Cells48 (w.setCell ⟨B, i * 4 + j, none⟩ (.int .i64 x)) B (fun k m => if k = i ∧ m = j then x else X k m) := fun k hk m hm => by
  show _ = some (Value.int .i64 (if k = i ∧ m = j then x else X k m))
  by_cases e : k = i ∧ m = j
  · obtain ⟨rfl, rfl⟩ := e
    rw [if_pos ⟨rfl, rfl⟩]
    exact cell_set_same (h k hk m hm)
  · rw [if_neg e]
    refine (cell_set_other (.inr ?_)).trans (h k hk m hm)
    show k * 4 + m ≠ i * 4 + j
    omega
theorem Cells48.row {w : World} {B : Nat} {X : Nat → Nat → Int} (h : Cells48 w B X) (ht : w.there B 0 48) {i : Nat} (hi : i < 12) (ys : List Int) (hy : ys.length = 4) :
    Cells48 (w.setCells B (i * 4) (ys.map (Value.int .i64))) B (fun k m => if k = i then ys.getD m 0 else X k m) := fun k hk m hm => by
  have hin := World.rangeAt_setCells_same w B (i * 4) (ys.map (Value.int .i64)) (there_part ht (by simp; omega))
  show _ = some (Value.int .i64 (if k = i then ys.getD m 0 else X k m))
  by_cases e : k = i
  · subst e
    rw [if_pos rfl]
    refine hin m _ ?_
    rw [List.getElem?_map, List.getElem?_eq_getElem (by omega), getD_lt (by omega)]
    rfl
  · rw [if_neg e, World.cell?_setCells_out B _ _ w ⟨B, k * 4 + m, none⟩ (fun _ _ => by
      simp
      omega)]
    exact h k hk m hm
set_option maxHeartbeats 1000000 in
theorem iput_yes (w : World) (v : Value) (xss : List (List Int)) (i j : Nat) (x : Int) (h : Rows2 w v xss) (hm : memOk xss = true) (hi : i < 12) (hj : j < 4) (hx : isw x = true) :
    Calls Try.prog 18 #[v, .int .i64 i, .int .i64 j, .int .i64 x] w (NewMem (mput xss i j x) true w) := by
  obtain ⟨yss, hy0⟩ : ∃ yss, yss = mput xss i j x := ⟨_, rfl⟩
  rw [← hy0]
  have HY := Lib.hid hy0
  clear hy0
  have hl := mem_len hm
  have hr4 : ∀ i, i < 12 → (xss.getD i []).length = 4 := fun i hi => mem_row hm hi
  have hc := memoryOf_any h
  rw [hm] at hc
  replace hc : Calls Try.prog 40 #[v] w (ArrRes w (flatL xss).toArray true) := hc
  have HLL := Lib.hid (flat_len hm)
  have HLO := Lib.hid (flat_one xss)
  have HCR := Lib.hid (fun (W : World) (B : Nat) (h : W.rangeAt B 0 (flatL xss)) => Cells48.of_range hl hr4 h)
  obtain ⟨L, hL⟩ : ∃ L, L = flatL xss := ⟨_, rfl⟩
  rw [← hL] at hc HLL HLO HCR
  have HC := Lib.hid hc
  have HXL := Lib.hid hl
  have HX4 := Lib.hid hr4
  clear hL hc h hm hl hr4
  obtain ⟨z48, hz48⟩ : ∃ z, z = zero48 := ⟨_, rfl⟩
  have ZM := Lib.hid zero_mem
  have ZS := Lib.hid zero_size
  have ZO := Lib.hid zero_one
  rw [← hz48] at ZM ZS ZO
  clear hz48
  go_enter Try.func18, Try.ntmps18
  go_wp2_with fail
  refine HC.out.mono ?_
  rintro e w1 ⟨rfl, hb1⟩
  obtain ⟨wb, hwb⟩ : ∃ wb, wb = (w1.alloc (.cells z48 55)).setCells w1.heap.size 0 L.toArray.toList := ⟨_, rfl⟩
  have HLD : Hid (Laid w w1.heap.size L wb) := Lib.hid (by rw [hwb]; exact Laid.make hb1 ZS.out HLL.out)
  have HCE := Lib.hid (HCR.out wb w1.heap.size HLD.out.row)
  have hf : blw i 12 = true := blw_yes (by omega)
  have ht : blw j 4 = true := blw_yes (by omega)
  have HIX := run_indexAt_arr (P := Try.prog) 55 12 53 4 Try.underlying55 size_words (by omega) w1.heap.size i hi
  have HJX := run_indexAt_part (P := Try.prog) 53 4 3 Try.underlying53 Try.sizeOf3 (by omega) w1.heap.size (i * 4) j hj
  obtain ⟨y, hcell⟩ : ∃ y, wb.cell? ⟨w1.heap.size, i * 4 + j, none⟩ = some y := ⟨_, HCE.out i hi j hj⟩
  have hfz : wb.frozen? ⟨w1.heap.size, i * 4 + j, none⟩ = false := by
    have := (HLD.out.here (i * 4 + j) (by omega)).2
    rwa [Nat.zero_add] at this
  have HYL : Hid (yss.length = 12) := Lib.hid (by rw [HY.out, mput_len, HXL.out])
  have HY4 : Hid (∀ k, k < 12 → (yss.getD k []).length = 4) := Lib.hid (fun k hk => by rw [HY.out, mput_row]; exact HX4.out k hk)
  have HRG : Hid ((wb.setCell ⟨w1.heap.size, i * 4 + j, none⟩ (.int .i64 x)).rangeAt w1.heap.size 0 (flatL yss)) := Lib.hid (Cells48.range (HCE.out.set hi hj x) HYL.out HY4.out (fun k hk m hm => by
    rw [HY.out, mput_get _ _ _ _ _ _ (by rw [HXL.out]; exact hi) (by rw [HX4.out i hi]; exact hj)]))
  have HLS := Lib.hid (fun W => lists_any (w := W) (xss := yss) HYL.out HY4.out)
  have HL2 := Lib.hid (flat_len12 HYL.out (by rw [HYL.out]; exact HY4.out))
  have HBC := Lib.hid (HLD.out.set (i * 4 + j) (.int .i64 x))
  obtain ⟨L2, hL2⟩ : ∃ L2, L2 = flatL yss := ⟨_, rfl⟩
  rw [← hL2] at HRG HLS HL2
  clear hL2
  go_wp2_with (first | ((with_reducible refine alloc_is 55 ?_); refine alloc_arr 55 z48 ZM.out ?_) | ((with_reducible refine store_is 55 (.tmp 10) (.tmp 15) ?_); refine store_arr 55 (.tmp 10) (.tmp 15) w1.heap.size 0 L.toArray rfl rfl (there_row (heap_alloc_new w1 _) (by rw [ZS.out, List.size_toArray, HLL.out]; omega)) (info_mem (by rw [List.size_toArray, HLL.out])) HLO.out ?_; rw [← hwb]; clear hwb) | (go_at_call 41; refine (below_any _ _ _).mono ?_; rintro e w' ⟨rfl, rfl⟩) | (go_at_call 45; refine (isWord_any _ _).mono ?_; rintro e w' ⟨rfl, rfl⟩) | ((with_reducible refine load_is 55 (.tmp 10) ?_); refine load_arr 55 (.tmp 10) w1.heap.size 0 L2 _ rfl HRG.out Try.underlying55 rfl (info_mem HL2.out) ?_))
  refine (HLS.out _).mono ?_
  rintro e w5 ⟨v5, rfl, hm5, hb5⟩
  have HE := Lib.hid (new_of HBC.out.1 hm5 hb5)
  clear hm5 hb5
  go_wp2_with fail
  go_ret2
  exact HE.out
end Go.Proofs.Ytgdkeihmddpenaa
