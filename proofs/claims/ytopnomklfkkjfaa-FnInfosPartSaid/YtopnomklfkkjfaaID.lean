/- What the program's methods on linked frames and on the array answer. -/
import Derived.Test.YtopnomklfkkjfaaIC
namespace Go.Proofs.Ytopnomklfkkjfaa
open Go.ChangeShapes Go.WideShapes Go.ChangeAt Go.RowKit
set_option linter.unusedVariables false

theorem tri_of_range {w : World} {b : Nat} {xs : List IV} (h : w.rangeAt b 0 (isC xs)) {i : Nat} (hi : i < xs.length) : Tri w b (i * 3) (xs.getD i iz) := by
  have hc : ∀ j v, j < 3 → (ivC (xs.getD i iz))[j]? = some v → w.cell? ⟨b, i * 3 + j, none⟩ = some v := fun j v hj hv => by
    have := h (i * 3 + j) v (by rw [isC_get xs hi hj]; exact hv)
    rwa [Nat.zero_add] at this
  exact ⟨hc 0 _ (by omega) rfl, hc 1 _ (by omega) rfl, hc 2 _ (by omega) rfl⟩
theorem triW_new (w : World) {xs : List IV} (t : TypeId) {i : Nat} (hi : i < xs.length) : TriW (w.alloc (.cells (isC xs).toArray t)) w.heap.size (i * 3) (xs.getD i iz) :=
  ⟨tri_of_range (by have := range_row (heap_alloc_new w (.cells (isC xs).toArray t)); rwa [List.toList_toArray] at this) hi, fun j hj => by
    have := (there_row (n := xs.length * 3) (heap_alloc_new w (.cells (isC xs).toArray t)) (by rw [List.size_toArray, isC_len]; exact Nat.le_refl _)) (i * 3 + j) (by omega)
    rw [Nat.zero_add] at this
    exact this.2⟩
theorem indexAt_infos (b : Nat) {k : Nat} (hk : k < 12) (W : World) : (Instr.indexAt 54 (.pointer (some ⟨b, 0, none⟩)) (.int .i64 k)).run Try.prog W = .ok (.pointer (some ⟨b, k * 3, none⟩)) W :=
  run_indexAt_arr (P := Try.prog) 54 12 30 3 Try.underlying54 size_info (by omega) b k hk W

/-- a new linked list, and where it begins; nothing that was there changes -/
def NewChain (us : List Nat) (w : World) (e : Ending) (w' : World) : Prop := ∃ p, e = .returned (.pointer p) ∧ Chain w' us p ∧ (∀ a, p = some a → w.heap.size ≤ a.block) ∧ Below w.heap.size w w'
set_option maxRecDepth 100000 in
set_option maxHeartbeats 1000000 in
theorem ifreeL_any (w : World) (xs : List IV) (hl : xs.length = 12) :
    Calls Try.prog 37 #[.agg (isC xs).toArray] w (NewChain (frs xs 0) w) := by
  have HT : Hid (∀ i, i < 12 → Tri (w.alloc (.cells (isC xs).toArray 54)) w.heap.size (i * 3) (xs.getD i iz)) := Lib.hid (fun i hi => (triW_new w 54 (by omega)).at3)
  have HL := Lib.hid hl
  clear hl
  obtain ⟨C, hC⟩ : ∃ C, C = (isC xs).toArray := ⟨_, rfl⟩
  rw [← hC] at HT ⊢
  clear hC
  obtain ⟨B, hB⟩ : ∃ B, B = w.heap.size := ⟨_, rfl⟩
  obtain ⟨w0, hw0⟩ : ∃ w0, w0 = w.alloc (.cells C 54) := ⟨_, rfl⟩
  have HB0 : Hid (Below w.heap.size w w0 ∧ w0.heap.size = B + 1) := Lib.hid ⟨by rw [hw0]; exact (Below.refl _ _).alloc (Nat.le_refl _) _, by rw [hw0, hB]; simp⟩
  rw [← hw0, ← hB] at HT
  go_enter Try.func37, Try.ntmps37
  go_wp2
  rw [← hw0, ← hB]
  rw [← hB] at HB0
  have HB := Lib.hid hB
  clear hw0 hB
  go_loopw [3, 4] (fun f i wr => ∃ (k : Nat) (p : Option Addr), k ≤ 12 ∧ i = .int .i64 ((k : Int) - 1) ∧ f = .pointer p ∧ Hid (Chain wr (frs xs k) p) ∧ Hid (Below w0.heap.size w0 wr) ∧ Hid (∀ a, p = some a → w0.heap.size ≤ a.block)) (fun _ i _ => (intOf i + 1).toNat)
  case atStart => exact ⟨12, none, Nat.le_refl _, rfl, rfl, Lib.hid (by rw [← HL.out, frs_end]; rfl), Lib.hid (Below.refl _ _), Lib.hid (fun a h => by cases h)⟩
  case round =>
    obtain ⟨k, p, hk, rfl, rfl, HCH, HBW, HNB⟩ := hrel
    obtain rfl | ⟨j, rfl⟩ : k = 0 ∨ ∃ j, k = j + 1 := by cases k with | zero => exact .inl rfl | succ j => exact .inr ⟨j, rfl⟩
    · have HFIN : Hid (Below w.heap.size w wr) := Lib.hid (by
        rw [← HB.out]
        exact HB0.out.1.trans (HBW.out.mono (by have := HB0.out.2; omega)))
      go_wp2_with fail
      go_ret
      exact ⟨p, rfl, HCH.out, fun a h => by have := HNB.out a h; have := HB0.out.2; have := HB.out; omega, HFIN.out⟩
    · rw [show (((j + 1 : Nat) : Int) - 1) = (j : Int) by omega]
      have hj12 : j < 12 := by omega
      have hfa := (HT.out j hj12).below HBW.out (by have := HB0.out.2; omega)
      have HIX := indexAt_infos B hj12
      have hst := frs_step (ys := xs) (k := j) (by have := HL.out; omega)
      obtain ⟨y, hy⟩ : ∃ y, y = xs.getD j iz := ⟨_, rfl⟩
      rw [← hy] at hfa hst
      clear hy
      have hj0 : (0 : Int) ≤ (j : Int) := by omega
      have hjm : (j : Int) < 12 := by omega
      have hwr : IntKind.i64.wrap ((j : Int) - 1) = (j : Int) - 1 := by rw [IntKind.wrap_i64]; omega
      obtain ⟨s0, s1, s2⟩ := hfa
      by_cases he : y.k = 0
      · rw [if_pos he] at hst
        have e1 : (y.k == 0) = true := by simpa using he
        have HC2 := Lib.hid (HCH.out.cons j 60)
        rw [← hst] at HC2
        have HB2 := Lib.hid (HBW.out.alloc HBW.out.size (.cells #[.int .i64 j, .pointer p] 60))
        have HN2 : Hid (∀ a, some (⟨wr.heap.size, 0, none⟩ : Addr) = some a → w0.heap.size ≤ a.block) := Lib.hid (fun a h => by cases h; exact HBW.out.size)
        clear hst HCH
        go_wp2_with fail
        go_roundw
        case rel => exact ⟨j, _, by omega, by go_num, rfl, HC2, HB2, HN2⟩
        case measure => simp [intOf]
      · rw [if_neg he] at hst
        have e1 : (y.k == 0) = false := by simpa using he
        rw [← hst] at HCH
        clear hst he
        go_wp2_with fail
        go_roundw
        case rel => exact ⟨j, p, by omega, by go_num, rfl, HCH, HBW, HNB⟩
        case measure => simp [intOf]
set_option maxRecDepth 100000 in
set_option maxHeartbeats 1000000 in
theorem icount_any (w : World) (zs : List Nat) (p : Option Addr) (h : Chain w zs p) (hl : zs.length ≤ 12) :
    Calls Try.prog 41 #[.pointer p] w (NRes (zs.length : Int) w) := by
  have HCH := Lib.hid h
  clear h
  obtain ⟨c, hc⟩ : ∃ c, c = zs.length := ⟨_, rfl⟩
  rw [← hc] at hl ⊢
  have HL := Lib.hid hc
  clear hc
  go_enter Try.func41, Try.ntmps41
  go_wp2
  go_loopw [0, 3] (fun f n wr => ∃ (t : Nat) (us : List Nat) (q : Option Addr), n = .int .i64 t ∧ f = .pointer q ∧ Hid (Chain w us q) ∧ t + us.length = c ∧ wr = w) (fun _ n _ => c - (intOf n).toNat)
  case atStart => exact ⟨0, zs, p, rfl, rfl, HCH, by rw [HL.out, Nat.zero_add], rfl⟩
  case round =>
    obtain ⟨t, us, q, rfl, rfl, HC, ht, rfl⟩ := hrel
    cases us with
    | nil =>
      obtain rfl : q = none := HC.out
      obtain rfl : t = c := ht
      go_wp2_with fail
      go_ret
      exact ⟨rfl, Below.refl _ _⟩
    | cons x us =>
      rw [List.length_cons] at ht
      obtain ⟨b, q2, rfl, hx0, hx1, hx2⟩ := HC.out
      have HX := Lib.hid hx2
      have HT := Lib.hid ht
      clear HC hx2
      have htc : (t : Int) < 12 := by omega
      clear ht
      go_wp2_with fail
      go_roundw
      case rel => exact ⟨t + 1, us, q2, by go_num, rfl, HX, by have := HT.out; omega, trivial⟩
      case measure => have := HT.out; simp [intOf]; omega
theorem iclone_any (w : World) (b n : Nat) (xs : List IV) (hl : xs.length ≤ 12) (h : Is w (.slice (some ⟨b, 0, none⟩) n n) xs) :
    Calls Try.prog 53 #[.slice (some ⟨b, 0, none⟩) n n] w (NewI xs w) := by
  have HE : ∀ W : World, (binOp .eql 23 (.slice (some ⟨b, 0, none⟩) n n) (.slice none 0 0)).run Try.prog W = .ok (.bool false) W := fun _ => by kernel_rfl
  have H := Lib.hid h
  have HN := Lib.hid hl
  clear h hl
  have HSO := Lib.hid (OwnI.start w)
  have H2 := Lib.hid (H.out.below HSO.out.bel)
  go_enter Try.func53, Try.ntmps53
  go_wp2_with (at_builtin; refine wpList_append_is (.tmp 5) (.tmp 6) w _ [] rfl HSO.out _ xs rfl H2.out nilOkI_some (by simp only [List.length_nil]; have := HN.out; omega) ?_; intro v2 w2 hown2 hnn2 hgrow2)
  rw [List.nil_append] at hown2
  have HO := Lib.hid hown2
  clear hown2 hnn2 hgrow2
  go_wp2
  go_ret
  exact ⟨_, rfl, HO.out.row, HO.out.bel⟩
set_option maxRecDepth 100000 in
set_option maxHeartbeats 1000000 in
theorem ilist_any (w : World) (xs : List IV) (hl : xs.length = 12) : Calls Try.prog 38 #[.agg (isC xs).toArray] w (NewI xs w) := by
  have HB1 : Hid (Below w.heap.size w (w.alloc (.cells (isC xs).toArray 54))) := Lib.hid ((Below.refl _ _).alloc (Nat.le_refl _) _)
  have HI : Hid (Is (w.alloc (.cells (isC xs).toArray 54)) (.slice (some ⟨w.heap.size, 0, none⟩) 12 12) xs) := Lib.hid (by
    rw [← hl]
    refine ⟨_, _, rfl, Nat.le_refl _, by unfold maxLen; omega, fun i hi => ⟨_, 0, rfl, ?_⟩⟩
    rw [Nat.zero_add]
    exact (triW_new w _ hi).at3)
  have HC := Lib.hid (fun w b h => iclone_any w b 12 xs (by omega) h)
  have HSL := slice_infos
  clear hl
  obtain ⟨C, hC⟩ : ∃ C, C = (isC xs).toArray := ⟨_, rfl⟩
  rw [← hC] at HB1 HI ⊢
  clear hC
  obtain ⟨w0, hw0⟩ : ∃ w0, w0 = w.alloc (.cells C 54) := ⟨_, rfl⟩
  rw [← hw0] at HB1 HI
  go_enter Try.func38, Try.ntmps38
  go_wp2_with fail
  rw [← hw0]
  clear hw0
  refine (HC.out w0 _ HI.out).mono ?_
  rintro e w1 ⟨v1, rfl, hr1, hb1⟩
  have HR := Lib.hid (hr1.wide HB1.out.size (Nat.le_refl _))
  have HB2 := Lib.hid (HB1.out.trans (hb1.mono HB1.out.size))
  clear hr1 hb1
  go_wp2_with fail
  go_ret
  exact ⟨_, rfl, HR.out, HB2.out⟩
end Go.Proofs.Ytopnomklfkkjfaa
