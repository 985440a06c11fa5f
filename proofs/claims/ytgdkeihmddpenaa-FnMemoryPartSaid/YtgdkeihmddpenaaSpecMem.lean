/- What the reference's functions of a memory return, each under the condition that its name tells: a word, or a memory in new blocks; nothing that was there changes. -/
import Derived.Test.YtgdkeihmddpenaaMatW
namespace Go.Proofs.Ytgdkeihmddpenaa
open Go.ChangeShapes Go.WideShapes Go.ChangeAt Go.RowKit
set_option linter.unusedVariables false

theorem mem_len {xss : List (List Int)} (h : memOk xss = true) : xss.length = 12 := (of_decide_eq_true h).2
theorem mem_row {xss : List (List Int)} (h : memOk xss = true) {i : Nat} (hi : i < 12) : (xss.getD i []).length = 4 := by
  have hl := mem_len h
  have := (of_decide_eq_true h).1 _ (List.getElem_mem (show i < xss.length by omega))
  rw [getD_lt (by omega)]
  exact (of_decide_eq_true this).2
theorem mem_word {xss : List (List Int)} (h : memOk xss = true) {i j : Nat} (hi : i < 12) (hj : j < 4) : 0 ≤ (xss.getD i []).getD j 0 ∧ (xss.getD i []).getD j 0 ≤ 9999 := by
  have hl := mem_len h
  have hr := mem_row h hi
  have := (of_decide_eq_true h).1 _ (List.getElem_mem (show i < xss.length by omega))
  rw [getD_lt (show i < xss.length by omega)] at hr ⊢
  rw [getD_lt (by omega)]
  exact (of_decide_eq_true this).1 _ (List.getElem_mem (by omega))

theorem sget_yes (w : World) (v : Value) (xss : List (List Int)) (i j : Nat) (h : Rows2 w v xss) (hm : memOk xss = true) (hi : i < 12) (hj : j < 4) :
    Calls Try.prog 16 #[v, .int .i64 i, .int .i64 j] w fun e w' => e = .returned (.tuple #[.int .i64 ((xss.getD i []).getD j 0), .bool true]) ∧ w = w' := by
  have HC := Lib.hid (l2Ok_yes w v xss i h hm (by omega))
  have HI := Lib.hid (in_yes w (j : Int) 0 3 (by omega))
  obtain ⟨a, ca, rfl, hla, hma, hxa⟩ := h
  have hl := mem_len hm
  obtain ⟨b, o, u, rfl, hc, hu⟩ := hxa i (by omega)
  obtain ⟨ra, rc, rfl, hr1, hr2, hr3⟩ := hu
  have hrl := mem_row hm hi
  obtain ⟨g, p, rfl, hgc⟩ := hr3 j (by omega)
  generalize (xss.getD i []).getD j 0 = x at hgc ⊢
  rw [hl] at HC ⊢
  rw [hrl] at hc
  clear hxa hr3 hl hrl
  have hi' : (i : Int) < 12 := by omega
  have hj' : (j : Int) < 4 := by omega
  go_enter Try.func16, Try.ntmps16
  go_wp2_with (first | (go_at_call 42; refine HC.out.mono ?_; rintro e w' ⟨rfl, rfl⟩) | (go_at_call 43; refine HI.out.mono ?_; rintro e w' ⟨rfl, rfl⟩))
  go_ret2
  exact ⟨rfl, rfl⟩
theorem sget_no (w : World) (v : Value) (xss : List (List Int)) (f t : Int) (h : Rows2 w v xss) (hm : ¬ ((memOk xss = true ∧ 0 ≤ f ∧ f < 12) ∧ 0 ≤ t ∧ t ≤ 3)) :
    Calls Try.prog 16 #[v, .int .i64 f, .int .i64 t] w fun e w' => e = .returned (.tuple #[.int .i64 0, .bool false]) ∧ w = w' := by
  by_cases h1 : memOk xss = true ∧ 0 ≤ f ∧ f < 12
  · have HC := Lib.hid (l2Ok_yes w v xss f h h1.1 h1.2)
    have HI := Lib.hid (in_no w t 0 3 (fun hh => hm ⟨h1, hh⟩))
    clear h h1 hm
    go_enter Try.func16, Try.ntmps16
    go_wp2_with (first | (go_at_call 42; refine HC.out.mono ?_; rintro e w' ⟨rfl, rfl⟩) | (go_at_call 43; refine HI.out.mono ?_; rintro e w' ⟨rfl, rfl⟩))
    go_ret2
    exact ⟨rfl, rfl⟩
  · have HC := Lib.hid (l2Ok_no w v xss f h h1)
    clear h h1 hm
    go_enter Try.func16, Try.ntmps16
    go_wp2_with (go_at_call 42; refine HC.out.mono ?_; rintro e w' ⟨rfl, rfl⟩)
    go_ret2
    exact ⟨rfl, rfl⟩

/-- a memory that reads as yss, in new blocks, and true -/
def NewMem (yss : List (List Int)) (b : Bool) (w : World) (e : Ending) (w' : World) : Prop := ∃ v, e = .returned (.tuple #[v, .bool b]) ∧ MatW w' w.heap.size w'.heap.size v yss ∧ Below w.heap.size w w'
theorem new_nil {w : World} : NewMem [] false w (.returned (.tuple #[.slice (some ⟨w.heap.size, 0, none⟩) 0 0, .bool false])) (w.alloc (.cells #[] 28)) :=
  ⟨_, rfl, ⟨some ⟨w.heap.size, 0, none⟩, 0, fun _ => none, fun _ => 0, rfl, Nat.le_refl _, Nat.zero_le _, ⟨fun j hj => by simp at hj, fun j hj => by simp at hj, fun j hj => by simp at hj⟩⟩, (Below.refl _ _).alloc (Nat.le_refl _) _⟩

theorem copy_of (w : World) (v : Value) (xss : List (List Int)) (h : Rows2 w v xss) (hm : memOk xss = true) : Calls Try.prog 47 #[v] w (ToMat xss w) := by
  have hl := mem_len hm
  refine l2Copy_any w v xss h (by omega) (by omega) (fun j hj => ?_)
  have := mem_row hm (i := j) (by omega)
  omega

theorem put_mk {w w1 : World} {a : Option Addr} {cap : Nat} {A : Nat → Option Addr} {C : Nat → Nat} {xss : List (List Int)} {i j : Nat} {x : Int} (h1 : xss.length ≤ cap) (h2 : cap ≤ maxLen)
    (h : MatAt w1 w.heap.size w1.heap.size a xss.length A (fun j => (xss.getD j []).length) C (fun j i => (xss.getD j []).getD i 0)) (hb : Below w.heap.size w w1) (hi : i < xss.length) (hj : j < (xss.getD i []).length)
    {g p : Nat} (hA : A i = some ⟨g, p, none⟩) (hg : w.heap.size ≤ g) :
    NewMem (mput xss i j x) true w (.returned (.tuple #[.slice a xss.length cap, .bool true])) (w1.setCell ⟨g, p + j, none⟩ (.int .i64 x)) := by
  refine ⟨_, rfl, ⟨a, cap, A, C, by rw [mput_len], by rw [mput_len]; exact h1, h2, ?_⟩, hb.setCell (p := ⟨g, p + j, none⟩) hg _⟩
  have hs : (w1.setCell ⟨g, p + j, none⟩ (.int .i64 x)).heap.size = w1.heap.size := by simp [World.setCell]
  rw [hs]
  exact (h.store hi hj hA x).congr (mput_len _ _ _ _) (fun k _ => mput_row _ _ _ _ _) (fun k _ m _ => mput_get _ _ _ _ _ _ hi hj)

theorem sput_yes (w : World) (v : Value) (xss : List (List Int)) (i j : Nat) (x : Int) (h : Rows2 w v xss) (hm : memOk xss = true) (hi : i < 12) (hj : j < 4) (hx0 : 0 ≤ x) (hx1 : x ≤ 9999) :
    Calls Try.prog 19 #[v, .int .i64 i, .int .i64 j, .int .i64 x] w (NewMem (mput xss i j x) true w) := by
  have HC := Lib.hid (l2Ok_yes w v xss i h hm (by omega))
  have HI := Lib.hid (in_yes w (j : Int) 0 3 (by omega))
  have HX := Lib.hid (in_yes w x 0 9999 (by omega))
  have HK := Lib.hid (copy_of w v xss h hm)
  have hl := mem_len hm
  have hrl := mem_row hm hi
  have hi' : (i : Int) < 12 := by omega
  have hj' : (j : Int) < 4 := by omega
  have HL := Lib.hid hl
  have HRL := Lib.hid hrl
  have HM := Lib.hid hm
  clear h hm hl hrl
  go_enter Try.func19, Try.ntmps19
  go_wp2_with fail
  refine HC.out.mono ?_
  rintro e w' ⟨rfl, rfl⟩
  go_wp2_with fail
  refine HI.out.mono ?_
  rintro e w' ⟨rfl, rfl⟩
  go_wp2_with fail
  refine HX.out.mono ?_
  rintro e w' ⟨rfl, rfl⟩
  go_wp2_with fail
  refine HK.out.mono ?_
  rintro e w1 ⟨v1, rfl, ⟨a1, cap, A, C, rfl, h1, h2, hmat⟩, hb⟩
  have hmat' := hmat
  rw [HL.out] at hmat'
  obtain ⟨b, o, rfl, _, _, hc, _⟩ := hmat'.top i hi
  obtain ⟨g, p, hA, hg, _, hgc, hgf, _⟩ := hmat'.row i hi j (by have := HRL.out; omega)
  simp only [HRL.out] at hc
  rw [hA] at hc
  have HE : Hid (NewMem (mput xss i j x) true w (.returned (.tuple #[.slice (some ⟨b, o, none⟩) xss.length cap, .bool true])) (w1.setCell ⟨g, p + j, none⟩ (.int .i64 x))) :=
    Lib.hid (put_mk h1 h2 hmat hb (by have := HL.out; omega) (by have := HRL.out; omega) hA hg)
  rw [HL.out] at HE
  have HA := Lib.hid hA
  rw [HL.out]
  clear hmat hmat' hA h1
  go_wp2_with fail
  go_ret2
  exact HE.out

theorem sput_no (w : World) (v : Value) (xss : List (List Int)) (f t x : Int) (h : Rows2 w v xss) (hm : ¬ (((memOk xss = true ∧ 0 ≤ f ∧ f < 12) ∧ 0 ≤ t ∧ t ≤ 3) ∧ 0 ≤ x ∧ x ≤ 9999)) :
    Calls Try.prog 19 #[v, .int .i64 f, .int .i64 t, .int .i64 x] w (NewMem [] false w) := by
  by_cases h1 : memOk xss = true ∧ 0 ≤ f ∧ f < 12
  · have HC := Lib.hid (l2Ok_yes w v xss f h h1.1 h1.2)
    by_cases h2 : 0 ≤ t ∧ t ≤ 3
    · have HI := Lib.hid (in_yes w t 0 3 h2)
      have HX := Lib.hid (in_no w x 0 9999 (fun hh => hm ⟨⟨h1, h2⟩, hh⟩))
      clear h h1 h2 hm
      go_enter Try.func19, Try.ntmps19
      go_wp2_with fail
      refine HC.out.mono ?_
      rintro e w' ⟨rfl, rfl⟩
      go_wp2_with fail
      refine HI.out.mono ?_
      rintro e w' ⟨rfl, rfl⟩
      go_wp2_with fail
      refine HX.out.mono ?_
      rintro e w' ⟨rfl, rfl⟩
      go_wp2_with fail
      go_ret2
      exact new_nil
    · have HI := Lib.hid (in_no w t 0 3 h2)
      clear h h1 h2 hm
      go_enter Try.func19, Try.ntmps19
      go_wp2_with fail
      refine HC.out.mono ?_
      rintro e w' ⟨rfl, rfl⟩
      go_wp2_with fail
      refine HI.out.mono ?_
      rintro e w' ⟨rfl, rfl⟩
      go_wp2_with fail
      go_ret2
      exact new_nil
  · have HC := Lib.hid (l2Ok_no w v xss f h h1)
    clear h h1 hm
    go_enter Try.func19, Try.ntmps19
    go_wp2_with fail
    refine HC.out.mono ?_
    rintro e w' ⟨rfl, rfl⟩
    go_wp2_with fail
    go_ret2
    exact new_nil

theorem scopy_no (w : World) (v : Value) (xss : List (List Int)) (f t : Int) (h : Rows2 w v xss) (hm : ¬ ((memOk xss = true ∧ 0 ≤ f ∧ f < 12) ∧ 0 ≤ t ∧ t < 12)) :
    Calls Try.prog 23 #[v, .int .i64 f, .int .i64 t] w (NewMem [] false w) := by
  by_cases h1 : memOk xss = true ∧ 0 ≤ f ∧ f < 12
  · have HC := Lib.hid (l2Ok_yes w v xss f h h1.1 h1.2)
    have HI := Lib.hid (l1Frame_no w t (fun hh => hm ⟨h1, hh⟩))
    clear h h1 hm
    go_enter Try.func23, Try.ntmps23
    go_wp2_with fail
    refine HC.out.mono ?_
    rintro e w' ⟨rfl, rfl⟩
    go_wp2_with fail
    refine HI.out.mono ?_
    rintro e w' ⟨rfl, rfl⟩
    go_wp2_with fail
    go_ret2
    exact new_nil
  · have HC := Lib.hid (l2Ok_no w v xss f h h1)
    clear h h1 hm
    go_enter Try.func23, Try.ntmps23
    go_wp2_with fail
    refine HC.out.mono ?_
    rintro e w' ⟨rfl, rfl⟩
    go_wp2_with fail
    go_ret2
    exact new_nil
theorem sclear_no (w : World) (v : Value) (xss : List (List Int)) (f : Int) (h : Rows2 w v xss) (hm : ¬ (memOk xss = true ∧ 0 ≤ f ∧ f < 12)) :
    Calls Try.prog 28 #[v, .int .i64 f] w (NewMem [] false w) := by
  have HC := Lib.hid (l2Ok_no w v xss f h hm)
  clear h hm
  go_enter Try.func28, Try.ntmps28
  go_wp2_with fail
  refine HC.out.mono ?_
  rintro e w' ⟨rfl, rfl⟩
  go_wp2_with fail
  go_ret2
  exact new_nil

theorem set_row_mk {w w1 w2 : World} {a : Option Addr} {cap : Nat} {A : Nat → Option Addr} {C : Nat → Nat} {xss : List (List Int)} {i : Nat} {ys : List Int} (h1 : xss.length ≤ cap) (h2 : cap ≤ maxLen)
    (h : MatAt w1 w.heap.size w1.heap.size a xss.length A (fun j => (xss.getD j []).length) C (fun j i => (xss.getD j []).getD i 0)) (hb : Below w.heap.size w w2)
    (e1 : ∀ b, w.heap.size ≤ b → b < w1.heap.size → w2.heap[b]? = w1.heap[b]?) (hi : i < xss.length)
    {b o g c : Nat} (ha : a = some ⟨b, o, none⟩) (hbb : w.heap.size ≤ b) (hg1 : w1.heap.size ≤ g) (hg2 : g < w2.heap.size) (hlc : ys.length ≤ c) (hcm : c ≤ maxLen)
    (hY : ∀ m, m < ys.length → w2.cell? ⟨g, m, none⟩ = some (.int .i64 (ys.getD m 0)) ∧ w2.frozen? ⟨g, m, none⟩ = false) :
    NewMem (xss.set i ys) true w (.returned (.tuple #[.slice a xss.length cap, .bool true])) (w2.setCell ⟨b, o + i, none⟩ (.slice (some ⟨g, 0, none⟩) ys.length c)) := by
  have hs : (w2.setCell ⟨b, o + i, none⟩ (.slice (some ⟨g, 0, none⟩) ys.length c)).heap.size = w2.heap.size := by simp [World.setCell]
  have hmat := (h.setrow e1 (B2 := w2.heap.size) (Y := fun m => ys.getD m 0) hi ha hg1 hg2 hlc hcm hY).congr (n' := (xss.set i ys).length) (L' := fun k => ((xss.set i ys).getD k []).length) (X' := fun k m => ((xss.set i ys).getD k []).getD m 0)
    List.length_set (fun k hk => by
      simp only [getD_set]
      by_cases h' : k = i
      · subst h'; simp [hk]
      · rw [if_neg (fun hh => h' hh.1.symm), if_neg h']) (fun k hk m _ => by
      simp only [getD_set]
      by_cases h' : k = i
      · subst h'; simp [hk]
      · rw [if_neg (fun hh => h' hh.1.symm), if_neg h'])
  exact ⟨_, rfl, ⟨a, cap, _, _, by rw [List.length_set], by rw [List.length_set]; exact h1, h2, by rw [hs]; exact hmat⟩, hb.setCell (p := ⟨b, o + i, none⟩) hbb _⟩

theorem sclear_yes (w : World) (v : Value) (xss : List (List Int)) (i : Nat) (h : Rows2 w v xss) (hm : memOk xss = true) (hi : i < 12) :
    Calls Try.prog 28 #[v, .int .i64 i] w (NewMem (xss.set i [0, 0, 0, 0]) true w) := by
  have HC := Lib.hid (l2Ok_yes w v xss i h hm (by omega))
  have HK := Lib.hid (copy_of w v xss h hm)
  have hl := mem_len hm
  have hi' : (i : Int) < 12 := by omega
  have HL := Lib.hid hl
  clear h hm hl
  go_enter Try.func28, Try.ntmps28
  go_wp2_with fail
  refine HC.out.mono ?_
  rintro e w' ⟨rfl, rfl⟩
  go_wp2_with fail
  refine HK.out.mono ?_
  rintro e w1 ⟨v1, rfl, ⟨a1, cap, A, C, rfl, h1, h2, hmat⟩, hb⟩
  have hmat' := hmat
  rw [HL.out] at hmat'
  obtain ⟨b, o, rfl, hbb, hbl, hc, _, _, hfz0⟩ := hmat'.top i hi
  have hsz := hb.size
  have hc2 : (w1.alloc (.cells (madeCells #[.int .i64 0] 4) 3)).cell? ⟨b, o + i, none⟩ = some (.slice (A i) ((xss.getD i []).length) (C i)) := (World.cell?_alloc_past _ _ _ hbl).trans hc
  rw [HL.out]
  have HMAT := Lib.hid hmat
  clear hmat hmat' hc
  have hmk : ∀ W : World, (Instr.makeSlice 28 (.int .i64 4) (.int .i64 4)).run Try.prog W = .ok (.slice (some ⟨W.heap.size, 0, none⟩) 4 4) (W.alloc (.cells (madeCells #[.int .i64 0] 4) 3)) := fun W =>
    run_make_row' (P := Try.prog) 28 3 (.int .i64 0) 8 Try.underlying28 intInfo rfl .i64 .i64 4 (by omega) (by omega) W
  have hfz : (w1.alloc (.cells (madeCells #[.int .i64 0] 4) 3)).frozen? ⟨b, o + i, none⟩ = false := (World.frozen?_of_block (Below.heap_alloc _ _ _ hbl)).trans hfz0
  have HE : Hid (NewMem (xss.set i [0, 0, 0, 0]) true w (.returned (.tuple #[.slice (some ⟨b, o, none⟩) xss.length cap, .bool true]))
      ((w1.alloc (.cells (madeCells #[.int .i64 0] 4) 3)).setCell ⟨b, o + i, none⟩ (.slice (some ⟨w1.heap.size, 0, none⟩) 4 4))) := by
    have hrow := World.rowIs_made w1 (.int .i64 0) 4 3
    exact Lib.hid (set_row_mk (ys := [0, 0, 0, 0]) (g := w1.heap.size) (c := 4) (w1 := w1) h1 h2 HMAT.out (hb.alloc hsz _) (fun k _ hk => Below.heap_alloc _ _ _ hk) (by have := HL.out; omega) rfl hbb (Nat.le_refl _) (by simp) (Nat.le_refl 4) (by unfold maxLen; omega) (fun m hm => by
      have hm' : m < 4 := by simpa using hm
      exact ⟨(hrow.cell hm').trans (by
        have : m = 0 ∨ m = 1 ∨ m = 2 ∨ m = 3 := by omega
        rcases this with rfl | rfl | rfl | rfl <;> rfl), hrow.frozen m⟩))
  rw [HL.out] at HE
  rw [World.setCell_alloc_past _ _ _ _ hbl] at HE
  clear h1
  go_wp2_with fail
  go_ret2
  exact HE.out

theorem scopy_yes (w : World) (v : Value) (xss : List (List Int)) (i k : Nat) (h : Rows2 w v xss) (hm : memOk xss = true) (hi : i < 12) (hk : k < 12) :
    Calls Try.prog 23 #[v, .int .i64 i, .int .i64 k] w (NewMem (xss.set k (xss.getD i [])) true w) := by
  have HC := Lib.hid (l2Ok_yes w v xss i h hm (by omega))
  have HF := Lib.hid (l1Frame_yes w (k : Int) (by omega))
  have HK := Lib.hid (copy_of w v xss h hm)
  have hl := mem_len hm
  have hrl := mem_row hm hi
  have hi' : (i : Int) < 12 := by omega
  have hk' : (k : Int) < 12 := by omega
  have HL := Lib.hid hl
  obtain ⟨a, ca, rfl, hla, hma, hxa⟩ := h
  rw [hl] at HC HK hla hxa ⊢
  obtain ⟨b0, o0, u, rfl, hc0, hu⟩ := hxa i (by omega)
  obtain ⟨xs, hxs⟩ : ∃ xs, xs = xss.getD i [] := ⟨_, rfl⟩
  rw [← hxs] at hu hrl ⊢
  have HXS := Lib.hid hxs
  obtain ⟨ra, rc, rfl, hr1, hr2, hr3⟩ := hu
  rw [hrl] at hc0 hr1 hr3
  obtain ⟨rb, ro, rfl, _⟩ := hr3 0 (by omega)
  have HR3 := Lib.hid hr3
  have HRL := Lib.hid hrl
  clear hm hl hrl hxs hxa hr3
  obtain ⟨i0, hii, hz0, hz1, hz2⟩ := info_parts intInfo
  have HI := Lib.hid hii
  have HZ0 := Lib.hid hz0
  have HZ1 := Lib.hid hz1
  have HZ2 := Lib.hid hz2
  clear hii hz0 hz1 hz2
  go_enter Try.func23, Try.ntmps23
  go_wp2_with fail
  refine HC.out.mono ?_
  rintro e w' ⟨rfl, rfl⟩
  go_wp2_with fail
  refine HF.out.mono ?_
  rintro e w' ⟨rfl, rfl⟩
  go_wp2_with fail
  refine HK.out.mono ?_
  rintro e w1 ⟨v1, rfl, ⟨a1, cap, A, C, rfl, h1, h2, hmat⟩, hb⟩
  have hmat' := hmat
  rw [HL.out] at hmat'
  obtain ⟨b, o, rfl, hbb, hbl, hc, _, _, hfz0⟩ := hmat'.top k hk
  have hsz := hb.size
  have hc1 : (w1.alloc (.cells #[] 3)).cell? ⟨b0, o0 + i, none⟩ = some (.slice (some ⟨rb, ro, none⟩) 4 rc) :=
    (World.cell?_alloc_past _ _ _ (by have := cell_lt hc0; show b0 < w1.heap.size; omega)).trans ((hb.cell (p := ⟨b0, o0 + i, none⟩) (cell_lt hc0)).trans hc0)
  have HNEWS : Hid (∀ j y, (xs.map (Value.int .i64))[j]? = some y → (w1.alloc (.cells #[] 3)).cell? ((⟨rb, ro, none⟩ : Addr).add j) = some y) := Lib.hid (fun j y hy => by
    have hj : j < xs.length := by
      rcases Nat.lt_or_ge j xs.length with h' | h'
      · exact h'
      · simp [List.getElem?_eq_none h'] at hy
    obtain ⟨b', o', e', hcell⟩ := HR3.out j (by have := HRL.out; omega)
    injection e' with e'
    injection e' with e1 e2
    subst e1
    subst e2
    have : (⟨rb, ro, none⟩ : Addr).add j = ⟨rb, ro + j, none⟩ := by unfold Addr.add; split <;> simp_all
    have hlt := cell_lt hcell
    rw [this, World.cell?_alloc_past _ _ _ (by show rb < w1.heap.size; omega), hb.cell (p := ⟨rb, ro + j, none⟩) hlt, hcell]
    simpa [List.getElem?_map, getD_lt hj, hj] using hy)
  have HMAT := Lib.hid hmat
  have HCAP := Lib.hid h1
  rw [HL.out]
  clear hmat hmat' h1
  have hxl : xs.length ≤ 4 := by have := HRL.out; omega
  have hxl2 : 4 ≤ xs.length := by have := HRL.out; omega
  go_wp2_with (at_builtin; refine wpList_append_own _ rfl (.tmp 23) (.tmp 27) 28 rfl w1.heap.size 3 i0 (.int .i64 0) 1 8 Try.underlying28 HI.out HZ0.out HZ1.out HZ2.out rfl (by decide) _ _ _ rfl (World.ownsRow_made w1 #[] 0 (Nat.le_refl _) (Nat.zero_le _) rfl) ⟨rb, ro, none⟩ 4 rc (xs.map (.int .i64)) rfl (by simp; omega) HNEWS.out (ints_one xs) (by unfold maxLen; omega) (by omega) (by simp) ?_; intro v2 w2 hown hgrow _; simp only [Nat.zero_add, List.nil_append] at hown; obtain ⟨g, c, rfl⟩ := own_slice hown (by omega); replace hgrow : (w1.alloc (.cells #[] 3)).grownBy w2 (some w1.heap.size) := hgrow; have hs2 := hgrow.size; simp at hs2; have HOWN := Lib.hid hown; have HGROW := Lib.hid hgrow; clear hown hgrow; have hc2 : w2.cell? ⟨b, o + k, none⟩ = some (.slice (A k) ((xss.getD k []).length) (C k)) := HGROW.out.cell ((World.cell?_alloc_past _ _ _ hbl).trans hc) (by simp; omega); have hf2 : w2.frozen? ⟨b, o + k, none⟩ = false := (World.frozen?_of_block (HGROW.out.block b (by simp; omega) (by simp; omega))).trans ((World.frozen?_of_block (Below.heap_alloc _ _ _ hbl)).trans hfz0))
  have hown := HOWN.out
  have hcells := hown.cells (g := g) rfl
  have hg := hown.lt g rfl
  have HE : NewMem (xss.set k xs) true w (.returned (.tuple #[.slice (some ⟨b, o, none⟩) xss.length cap, .bool true])) (w2.setCell ⟨b, o + k, none⟩ (.slice (some ⟨g, 0, none⟩) xs.length c)) := by
    obtain ⟨_, hcap⟩ : 4 ≤ c ∧ c ≤ maxLen := by
      rcases hown.2 with ⟨_, hz⟩ | ⟨_, _, _, e, _, _, h3, h4, _⟩
      · omega
      · injection e with _ _ e
        subst e
        exact ⟨h3, h4⟩
    have hblk : ∃ cur, w2.heap[g]? = some (.cells cur 3 (0, 0)) := by
      rcases hown.2 with ⟨_, hz⟩ | ⟨_, _, cur, e, _, h3, _⟩
      · omega
      · injection e with e _ _
        injection e with e
        injection e with e _
        subst e
        exact ⟨cur, h3⟩
    obtain ⟨cur, hcur⟩ := hblk
    exact set_row_mk (w1 := w1) HCAP.out h2 HMAT.out ((hb.alloc hsz _).grown HGROW.out (by simp; omega) (fun q hq => by injection hq with hq; omega))
      (fun q _ hq => (HGROW.out.block q (by simp; omega) (by simp; omega)).trans (Below.heap_alloc _ _ _ hq)) (by have := HL.out; omega) rfl hbb hg.1 hg.2 (by omega) hcap
      (fun m hm => ⟨by rw [← add0]; exact hcells m _ (by simp [hm]), by simp [World.frozen?, hcur]⟩)
  rw [HL.out, HRL.out] at HE
  go_ret2
  exact HE
end Go.Proofs.Ytgdkeihmddpenaa
