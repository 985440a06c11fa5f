/- What the proofs stand on, part 5. -/
import Derived.Test.YtaalnjinocicgaaRows
import Derived.Test.YtaalnjinocicgaaW1
import Derived.Test.YtaalnjinocicgaaW3
set_option linter.unusedSimpArgs false
set_option linter.unusedVariables false
namespace Go.Proofs.Ytaalnjinocicgaa
set_option linter.unusedVariables false
set_option linter.unusedSimpArgs false
def inR (x lo hi : Int) : Bool := decide (lo ≤ x ∧ x ≤ hi)
theorem inR_iff {x lo hi : Int} : inR x lo hi = true ↔ lo ≤ x ∧ x ≤ hi := by unfold inR; rw [decide_eq_true_eq]
def sgetB (xss : Rs) (f : Int) : Bool := swOk xss && (inR f 0 15 && decide (0 < (xss.getD f.toNat []).length))
def sget (xss : Rs) (f : Int) : List Int := if sgetB xss f = true then xss.getD f.toNat [] else []
def sdrop (xss : Rs) (f : Int) : Rs := if sgetB xss f = true then xss.set f.toNat [] else []
end Go.Proofs.Ytaalnjinocicgaa
namespace Go.Proofs.Ytaalnjinocicgaa
set_option linter.unusedVariables false
set_option linter.unusedSimpArgs false
structure GetFacts (xss : Rs) (f : Int) (ys : List Int) (i : Nat) : Prop where
  ix : f = i
  lt : i < 16
  len : xss.length = 16
  y : ys = xss.getD i []
  four : ys.length = 4
  no : sgetB (sdrop xss f) f = false
theorem get_yes {xss : Rs} {f : Int} (h : sgetB xss f = true) : ∃ i, GetFacts xss f (sget xss f) i := by
  have h0 := h
  unfold sgetB at h0
  rw [Bool.and_eq_true, Bool.and_eq_true, decide_eq_true_eq] at h0
  obtain ⟨h1, h2, h3⟩ := h0
  obtain ⟨h4, h5⟩ := inR_iff.1 h2
  have hl := sw_len h1
  have hi : f.toNat < xss.length := by omega
  refine ⟨f.toNat, by omega, by omega, hl, by rw [sget, if_pos h], ?_, ?_⟩
  · rw [sget, if_pos h]
    exact words_len (row_some (sw_row h1 hi) h3)
  · rw [sdrop, if_pos h]
    unfold sgetB
    rw [getD_set, if_pos ⟨rfl, hi⟩]
    simp
end Go.Proofs.Ytaalnjinocicgaa
namespace Go.Proofs.Ytaalnjinocicgaa
open Go.ChangeShapes Go.WideShapes Go.ChangeAt Go.RowKit
set_option linter.unusedVariables false
set_option linter.unusedSimpArgs false
def HasR (w : World) (b : Bool) (e : Ending) (w' : World) : Prop := e = .returned (.bool b) ∧ Below w.heap.size w w'
set_option maxRecDepth 100000 in
set_option maxHeartbeats 1000000 in
theorem has_any (w : World) (C : Nat → Value) (xss : Rs) (f : Int) (hs : Sw C xss) (hl : xss.length = 16) (hok : swOk xss = true) :
    Calls Try.prog 45 #[.agg (cells C).toArray, .int .i64 f] w (HasR w (sgetB xss f)) := by
  have HB := Lib.hid (Blk.boxed w C 60)
  obtain ⟨L, hL⟩ : ∃ L, L = cells C := ⟨_, rfl⟩
  rw [← hL] at HB ⊢
  have HBL : Hid (Below w.heap.size w (w.alloc (.cells L.toArray 60))) := Lib.hid ((Below.refl _ _).alloc (Nat.le_refl _) _)
  clear hL
  obtain ⟨X, hX⟩ : ∃ X, w.heap.size = X := ⟨_, rfl⟩
  obtain ⟨w1, hw1⟩ : ∃ w1, w.alloc (.cells L.toArray 60) = w1 := ⟨_, rfl⟩
  rw [hX, hw1] at HB HBL
  have HXW := Lib.hid hX
  by_cases hf : 0 ≤ f ∧ f < 16
  · obtain ⟨k, rfl⟩ : ∃ k : Nat, f = (k : Int) := ⟨f.toNat, by omega⟩
    have hk : k < 16 := by omega
    have HW := Lib.hid (below_any w1 (k : Int) 16)
    rw [blw_yes hf] at HW
    have HIX := run_indexAt_arr (P := Try.prog) 55 16 54 5 Try.underlying55 slot_size (by omega) X k (by omega)
    have hc := HB.out.cell (k * 5 + 4) (by omega)
    rw [(hs k hk).1] at hc
    have HE : Hid (decide (xss.getD k [] ≠ []) = sgetB xss k) := Lib.hid (by
      unfold sgetB
      rw [hok, inR_iff.2 (by omega), Int.toNat_natCast, Bool.true_and, Bool.true_and, decide_eq_decide]
      exact List.length_pos_iff.symm)
    obtain ⟨q, hq⟩ : ∃ q, q = decide (xss.getD k [] ≠ []) := ⟨_, rfl⟩
    rw [← hq] at hc HE
    rw [← HE.out]
    clear hs hf hq
    go_enter Try.func45, Try.ntmps45
    go_wp2_with (first | ((with_reducible refine box_is 60 (.tmp 0) ?_); refine box_arr 60 (.tmp 0) L.toArray rfl ?_; simp only [hX, hw1]; clear hX hw1) | (go_at_call 55; refine HW.out.mono ?_; rintro e w' ⟨rfl, rfl⟩) | fail)
    go_ret
    exact ⟨rfl, by rw [HXW.out]; exact HBL.out⟩
  · have HW := Lib.hid (below_any w1 f 16)
    rw [blw_no hf] at HW
    have HE : Hid (sgetB xss f = false) := Lib.hid (by
      have e : inR f 0 15 = false := by cases hh : inR f 0 15 with | false => rfl | true => exact absurd (inR_iff.1 hh) (by omega)
      rw [sgetB, e, Bool.false_and, Bool.and_false])
    rw [HE.out]
    clear hs hf
    go_enter Try.func45, Try.ntmps45
    go_wp2_with (first | ((with_reducible refine box_is 60 (.tmp 0) ?_); refine box_arr 60 (.tmp 0) L.toArray rfl ?_; simp only [hX, hw1]; clear hX hw1) | (go_at_call 55; refine HW.out.mono ?_; rintro e w' ⟨rfl, rfl⟩) | fail)
    go_ret
    exact ⟨rfl, by rw [HXW.out]; exact HBL.out⟩
end Go.Proofs.Ytaalnjinocicgaa
namespace Go.Proofs.Ytaalnjinocicgaa
open Go.ChangeShapes Go.WideShapes Go.ChangeAt Go.RowKit
set_option linter.unusedVariables false
set_option linter.unusedSimpArgs false
theorem load_is_g {P : Program} {ops : Array Oper} {rest : List Oper} {a : Act} {w : World} {Q : Exit → Act → World → Prop} {dst : Option Nat} {tt : TypeId} {pos : String} {after : Array Edge} {g : Nat × Bool} (ty : TypeId) (x : Operand) (h : wpList P ops Q ({ dst := dst, op := .load ty x, type := tt, pos := pos, after := after, guard := some g } :: rest) a w) : wpList P ops Q ({ dst := dst, op := .load ty x, type := tt, pos := pos, after := after, guard := some g } :: rest) a w := h
theorem load_arr_g {P : Program} {ops : Array Oper} {rest : List Oper} {a : Act} {w : World} {Q : Exit → Act → World → Prop} {dst : Option Nat} {tt : TypeId} {pos : String} {after : Array Edge} {g : Nat × Bool} (ty : TypeId) (x : Operand)
    (hw : Region.wanted { dst := dst, op := .load ty x, type := tt, pos := pos, after := after, guard := some g } (yielded ops a.tmps) = true)
    (b o : Nat) (cs : List Value) (d : TypeDesc) (hx : a.eval x = .pointer (some ⟨b, o, none⟩)) (hc : w.rangeAt b o cs)
    (hu : P.underlying ty = some d) (hd : d.isRow = true) (hi : (P.info? ty).map (·.size) = some cs.length)
    (h : wpList P ops Q rest (a.put dst (.agg cs.toArray)) w) : wpList P ops Q ({ dst := dst, op := .load ty x, type := tt, pos := pos, after := after, guard := some g } :: rest) a w :=
  BigFrame.wpList_want hw (fun _ hK => wp_load_mid ty x rfl b o hx cs d hc hu hd hi (hK _ _ h))
end Go.Proofs.Ytaalnjinocicgaa
