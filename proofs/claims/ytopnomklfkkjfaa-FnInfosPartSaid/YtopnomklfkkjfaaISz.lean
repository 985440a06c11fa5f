/- What the counting helper of the laws returns for what is known of frames: a number below 0, or what is left of the bound. -/
import Derived.Test.YtopnomklfkkjfaaIOwn
namespace Go.Proofs.Ytopnomklfkkjfaa
open Go.ChangeShapes Go.WideShapes Go.ChangeAt Go.RowKit
set_option linter.unusedVariables false

def FitI (xs : List IV) : Prop := ∀ x ∈ xs, x.g.length ≤ maxLen
theorem FitI.at {xs : List IV} (h : FitI xs) (i : Nat) : (xs.getD i iz).g.length ≤ maxLen := by
  by_cases hi : i < xs.length
  · rw [getD_lt hi]; exact h _ (List.getElem_mem hi)
  · rw [List.getD, List.getElem?_eq_none (Nat.le_of_not_lt hi)]; exact Nat.zero_le _
def totalI (xs : List IV) : Nat := (xs.map (fun x => x.g.length)).sum
theorem totalI_snoc (xs : List IV) (k : Nat) (h : k < xs.length) : totalI (xs.take (k + 1)) = totalI (xs.take k) + (xs.getD k iz).g.length := by
  rw [take_snoc_getD xs k iz h]; simp [totalI]
theorem totalI_mem {xs : List IV} {x : IV} (h : x ∈ xs) : x.g.length ≤ totalI xs := by
  induction xs with
  | nil => cases h
  | cons y ys ih =>
    simp only [totalI, List.map_cons, List.sum_cons] at ih ⊢
    rcases List.mem_cons.1 h with e | h
    · subst e; omega
    · have := ih h; omega
/-- below 0; or all and their letters together with it make 'left'; nothing that was there changes -/
def LeftI (xs : List IV) (left : Int) (w : World) (e : Ending) (w' : World) : Prop :=
  ∃ r : Int, (r < 0 ∨ (0 ≤ r ∧ r + xs.length + totalI xs = left)) ∧ e = .returned (.int .i64 r) ∧ Below w.heap.size w w'
theorem leftI_neg {xs : List IV} {left : Int} {w w' : World} (h : Below w.heap.size w w') : LeftI xs left w (.returned (.int .i64 (-1))) w' := ⟨-1, .inl (by omega), rfl, h⟩
theorem szInfo_any (w : World) (x : IV) (left : Int) (hx : x.g.length ≤ maxLen) (h0 : 0 ≤ left) (h1 : left ≤ 1048576) :
    Calls Try.prog 46 #[ivV x, .int .i64 left] w fun e w' => e = .returned (.int .i64 (if (x.g.length : Int) ≤ left then left - x.g.length else -1)) ∧ Below w.heap.size w w' := by
  obtain ⟨xk, xg, xr⟩ := x
  unfold maxLen at hx
  dsimp only at hx ⊢
  by_cases hc : (xg.length : Int) ≤ left
  · rw [if_pos hc]
    have hc' : ¬ left - (xg.length : Int) < 0 := by omega
    go_enter Try.func46, Try.ntmps46
    go_wp2
    go_ret
    exact ⟨rfl, (Below.refl _ _).alloc (Nat.le_refl _) _⟩
  · rw [if_neg hc]
    have hc' : left - (xg.length : Int) < 0 := by omega
    go_enter Try.func46, Try.ntmps46
    go_wp2
    go_ret
    exact ⟨rfl, (Below.refl _ _).alloc (Nat.le_refl _) _⟩
theorem szInfoS_any (w : World) (v : Value) (xs : List IV) (left : Int) (h : Is w v xs) (hf : FitI xs) (h0 : 0 ≤ left) (h1 : left ≤ 1048576) :
    Calls Try.prog 27 #[v, .int .i64 left] w (LeftI xs left w) := by
  obtain ⟨a, ca, rfl, hla, hma, hxa⟩ := h
  unfold maxLen at hma
  obtain ⟨n, hN⟩ : ∃ n, n = xs.length := ⟨_, rfl⟩
  rw [← hN] at hla hxa ⊢
  have HN := Lib.hid hN
  have HF := Lib.hid hf
  have HX := Lib.hid hxa
  clear hN hf hxa
  by_cases hneg : left < (n : Int)
  · have hneg' : left - (n : Int) < 0 := by omega
    go_enter Try.func27, Try.ntmps27
    go_wp2
    go_ret
    exact leftI_neg (Below.refl _ _)
  · have hpos : ¬ left - (n : Int) < 0 := by omega
    go_enter Try.func27, Try.ntmps27
    go_wp2
    go_loopw [1, 5] (fun l i wr => ∃ (k : Nat) (r : Int), k ≤ n ∧ i = .int .i64 k ∧ l = .int .i64 r ∧ 0 ≤ r ∧ r ≤ 1048576 ∧ Hid (r + n + totalI (xs.take k) = left) ∧ Hid (Below w.heap.size w wr)) (fun _ i _ => n - (intOf i).toNat)
    case atStart => exact ⟨0, left - n, Nat.zero_le _, rfl, rfl, by omega, by omega, Lib.hid (by simp [totalI]), Lib.hid (Below.refl _ _)⟩
    case round =>
      obtain ⟨k, r, hk, rfl, rfl, hr0, hr1, HT, HB⟩ := hrel
      by_cases hlt : k < n
      · obtain ⟨b, o, rfl, hc⟩ := HX.out k hlt
        have hc1 := hc.below HB.out hc.lt
        have HSZ := Lib.hid (fun w => szInfo_any w (xs.getD k iz) r (HF.out.at k) hr0 hr1)
        have HTT := Lib.hid (totalI_snoc xs k (by have := HN.out; omega))
        generalize xs.getD k iz = x at hc hc1 HSZ HTT
        have HXC := Lib.hid hc1
        obtain ⟨c0, c1, c2⟩ := hc1
        have hlt' : (k : Int) < (n : Int) := by omega
        clear hc
        by_cases hng : (x.g.length : Int) ≤ r
        · rw [if_pos hng] at HSZ
          have hrn : ¬ r - (x.g.length : Int) < 0 := by omega
          go_wp2_with fail
          refine (HSZ.out wr).mono ?_
          rintro e w1 ⟨rfl, hb1⟩
          have B1 := Lib.hid (HB.out.trans (hb1.mono HB.out.size))
          clear hb1
          go_wp2
          go_roundw
          case rel => exact ⟨k + 1, r - x.g.length, by omega, by go_num, rfl, by omega, by omega, Lib.hid (by have h1 := HT.out; have h2 := HTT.out; omega), B1⟩
          case measure => simp [intOf]; omega
        · rw [if_neg hng] at HSZ
          go_wp2_with fail
          refine (HSZ.out wr).mono ?_
          rintro e w1 ⟨rfl, hb1⟩
          have B1 := Lib.hid (HB.out.trans (hb1.mono HB.out.size))
          clear hb1
          go_wp2
          go_ret
          exact leftI_neg B1.out
      · go_wp2
        go_ret
        have e : k = n := by omega
        subst e
        exact ⟨r, .inr ⟨hr0, by have h1 := HT.out; rw [take_all HN.out] at h1; rw [← HN.out]; exact h1⟩, rfl, HB.out⟩
end Go.Proofs.Ytopnomklfkkjfaa
