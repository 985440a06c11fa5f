/- What the marking and the holding helpers of the laws do for slices of texts. -/
import Derived.Test.YtopnomklfkkjfaaStrSz
import Derived.Laws.BytesString
import Derived.Laws.IdiomStrings
import Derived.Test.YtopnomklfkkjfaaDraws
namespace Go.Proofs.Ytopnomklfkkjfaa
open Go.ChangeShapes Go.WideShapes Go.ChangeAt Go.RowKit
set_option linter.unusedVariables false

def dig (k : Nat) : UInt8 := UInt8.ofNat (48 + k % 10)
def digs (k : Nat) (acc : Bs) : Bs := if h : k = 0 then acc else digs (k / 10) (dig k :: acc)
termination_by k
decreasing_by omega
theorem digs_zero (acc : Bs) : digs 0 acc = acc := by rw [digs]; simp
theorem digs_step {k : Nat} (h : k ≠ 0) (acc : Bs) : digs k acc = digs (k / 10) (dig k :: acc) := by rw [digs, dif_neg h]
theorem dig_nat (k : Nat) : ((dig k).toNat : Int) = 48 + (k : Int) % 10 := by
  have : (dig k).toNat = 48 + k % 10 := by
    show (48 + k % 10) % 256 = _
    omega
  rw [this]; omega
/-- the text that marks with k -/
def mtext (k : Nat) : Bs := 109 :: digs k []

theorem markText_any (w : World) (k : Nat) (h0 : 1 ≤ k) (h1 : k ≤ 4000000) :
    Calls Try.prog 49 #[.int .i64 k] w fun e w' => e = .returned (.string ⟨(mtext k).toArray⟩) ∧ Below w.heap.size w w' := by
  have hk : ¬ (k : Int) ≤ 0 := by omega
  go_enter Try.func49, Try.ntmps49
  go_wp2
  go_loopw [0, 3] (fun a b wr => ∃ (j : Nat) (t : Bs), a = .int .i64 j ∧ b = .string ⟨t.toArray⟩ ∧ t.length + j ≤ k ∧ Hid (digs j t = digs k []) ∧ Below w.heap.size w wr) (fun a _ _ => (intOf a).toNat)
  case atStart => exact ⟨k, [], rfl, rfl, by simp, Lib.hid rfl, Below.refl _ _⟩
  case round =>
    obtain ⟨j, t, rfl, rfl, hl, HD, hb⟩ := hrel
    by_cases hj : 0 < j
    · have hj' : (0 : Int) < (j : Int) := by omega
      have hcv := run_convert_bytes_back (P := Try.prog) (wr.alloc (Obj.cells #[Value.int IntKind.u8 (48 + (j : Int) % 10)] 5)) 22 9 5 ⟨wr.heap.size, 0, none⟩ 1 [dig j] Try.underlying22 Try.underlying5 Try.underlying9 (fun i hi => by
        have e : i = 0 := by simpa using hi
        subst e
        show _ = some (Value.int .u8 ((dig j).toNat : Int))
        rw [dig_nat]
        exact new_cell rfl)
      simp only [List.length_singleton] at hcv
      have hb2 := Lib.hid (hb.alloc hb.size (Obj.cells #[Value.int IntKind.u8 (48 + (j : Int) % 10)] 5))
      have hsz : (t.length : Int) ≤ 4000000 := by omega
      go_wp2
      go_roundw
      case rel =>
        refine ⟨j / 10, dig j :: t, by simp, ?_, by simp only [List.length_cons]; omega, Lib.hid (by rw [← HD.out, digs_step (k := j) (by omega)]), hb2.out⟩
        rw [show (ByteArray.mk #[dig j]) = ByteArray.mk ([dig j] : List UInt8).toArray from rfl, ByteArray.mk_append_mk]
        rfl
      case measure => simp [intOf]; omega
    · have e : j = 0 := by omega
      subst e
      have hsz : (t.length : Int) ≤ 4000000 := by omega
      go_wp2
      go_ret
      have ht : t = digs k [] := by rw [← HD.out, digs_zero]
      refine ⟨?_, hb⟩
      rw [ht, show (ByteArray.mk #[109]) = ByteArray.mk ([109] : List UInt8).toArray from rfl, ByteArray.mk_append_mk]
      rfl

/-- the texts that mark n places -/
def mkS (n : Nat) : List Bs := (List.range n).map (fun i => mtext (1 + i))
theorem mkS_len (n : Nat) : (mkS n).length = n := by simp [mkS]
theorem mkS_get {n i : Nat} (h : i < n) : (mkS n).getD i [] = mtext (1 + i) := by
  rw [getD_lt (by rw [mkS_len]; exact h)]
  simp [mkS]
theorem list_ext_getD {xs ys : List Bs} (hl : xs.length = ys.length) (h : ∀ i, i < xs.length → xs.getD i [] = ys.getD i []) : xs = ys := by
  refine List.ext_getElem hl (fun i h1 h2 => ?_)
  have := h i h1
  rwa [getD_lt h1, getD_lt h2] at this
theorem set_getD {xs : List Bs} {k i : Nat} {t : Bs} (hk : k < xs.length) : (xs.set k t).getD i [] = if i = k then t else xs.getD i [] := by
  by_cases h : i = k
  · subst h
    rw [if_pos rfl, getD_lt (by rw [List.length_set]; exact hk), List.getElem_set_self]
  · rw [if_neg h]
    by_cases hi : i < xs.length
    · rw [getD_lt (by rw [List.length_set]; exact hi), getD_lt hi, List.getElem_set_ne (by omega)]
    · simp [List.getD, List.getElem?_eq_none (Nat.le_of_not_lt hi), List.getElem?_eq_none (show (xs.set k t).length ≤ i by rw [List.length_set]; omega)]

end Go.Proofs.Ytopnomklfkkjfaa
