/- What the helper of the laws that copies a memory returns: new rows in new blocks with the same numbers; nothing that was there changes. -/
import Derived.Test.YtdockkmodjbfpaaTo
namespace Go.Proofs.Ytdockkmodjbfpaa
open Go.ChangeShapes Go.WideShapes Go.ChangeAt Go.RowKit
set_option linter.unusedVariables false

/-- rows in blocks of their own: the upper one in block g, the others behind it, one after the other -/
def OwnRows (w : World) (g : Nat) (v : Value) (xss : List (List Int)) : Prop :=
  v = .slice (some ⟨g, 0, none⟩) xss.length xss.length ∧ xss.length ≤ maxLen ∧
    w.rowIs g 34 xss.length (fun j => .slice (some ⟨g + 1 + j, 0, none⟩) (xss.getD j []).length (xss.getD j []).length) ∧
    ∀ j, j < xss.length → OwnInts w (g + 1 + j) (.slice (some ⟨g + 1 + j, 0, none⟩) (xss.getD j []).length (xss.getD j []).length) (xss.getD j [])

def topc (xss : List (List Int)) (g k : Nat) (j : Nat) : Value := if j < k then .slice (some ⟨g + 1 + j, 0, none⟩) (xss.getD j []).length (xss.getD j []).length else .slice none 0 0
theorem topc_step {xss : List (List Int)} {g k : Nat} (j : Nat) : (if j = k then Value.slice (some ⟨g + 1 + k, 0, none⟩) (xss.getD k []).length (xss.getD k []).length else topc xss g k j) = topc xss g (k + 1) j := by
  unfold topc
  by_cases h : j = k
  · subst h; simp
  · by_cases h2 : j < k
    · rw [if_neg h, if_pos h2, if_pos (by omega)]
    · rw [if_neg h, if_neg h2, if_neg (by omega)]

/-- a new memory: its upper row in the first new block -/
def ToRows (xss : List (List Int)) (w : World) (e : Ending) (w' : World) : Prop :=
  ∃ v, e = .returned v ∧ OwnRows w' w.heap.size v xss ∧ Below w.heap.size w w' ∧ w'.heap.size = w.heap.size + 1 + xss.length
theorem own_rows_mk {w : World} {g n : Nat} {xss : List (List Int)} (hN : n = xss.length) (hn : n ≤ 1048576) (hr : w.rowIs g 34 n (topc xss g n))
    (hx : ∀ j, j < n → OwnInts w (g + 1 + j) (.slice (some ⟨g + 1 + j, 0, none⟩) (xss.getD j []).length (xss.getD j []).length) (xss.getD j [])) : OwnRows w g (.slice (some ⟨g, 0, none⟩) n n) xss := by
  subst hN
  exact ⟨rfl, by unfold maxLen; omega, hr.congr (fun j hj => by simp [topc, hj]), hx⟩
theorem len_le_total (xss : List (List Int)) (j : Nat) (h : j < xss.length) : (xss.getD j []).length ≤ total xss := by
  induction xss generalizing j with
  | nil => simp at h
  | cons x xs ih =>
    cases j with
    | zero => simp [total]
    | succ j => have := ih j (by simpa using h); simp [total] at this ⊢; omega

theorem toIntSS_any (w : World) (v : Value) (xss : List (List Int)) (h : Rows2 w v xss) (hn : xss.length + total xss ≤ 1048576) :
    Calls Try.prog 29 #[v] w (ToRows xss w) := by
  obtain ⟨a, ca, rfl, hla, hma, hxa⟩ := h
  unfold maxLen at hma
  have hlen := len_le_total xss
  obtain ⟨n, hN⟩ : ∃ n, n = xss.length := ⟨_, rfl⟩
  rw [← hN] at hla hxa hn hlen ⊢
  have HN := Lib.hid hN
  clear hN
  have HLEN := Lib.hid hlen
  clear hlen
  have hmk := run_make_row' (P := Try.prog) 23 34 (.slice none 0 0) 24 Try.underlying23 intsInfo rfl .i64 .i64 n (by omega) (by omega)
  go_enter Try.func29, Try.ntmps29
  go_wp2
  clear hmk
  go_loopw [4] (fun i wr => ∃ k : Nat, k ≤ n ∧ i = .int .i64 k ∧ Below w.heap.size w wr ∧ wr.rowIs w.heap.size 34 n (topc xss w.heap.size k) ∧ Hid (wr.heap.size = w.heap.size + 1 + k) ∧
    Hid (∀ j, j < k → OwnInts wr (w.heap.size + 1 + j) (.slice (some ⟨w.heap.size + 1 + j, 0, none⟩) (xss.getD j []).length (xss.getD j []).length) (xss.getD j []))) (fun i _ => n - (intOf i).toNat)
  case atStart => exact ⟨0, Nat.zero_le _, rfl, (Below.refl _ _).alloc (Nat.le_refl _) _, (World.rowIs_made w (.slice none 0 0) n 34).congr (fun j _ => by simp [topc]), Lib.hid (by simp), Lib.hid (fun j hj => by omega)⟩
  case round =>
    obtain ⟨k, hk, rfl, hbel, hrow, HS, HR⟩ := hrel
    by_cases hlt : k < n
    · obtain ⟨b, o, u, rfl, hc, hu⟩ := hxa k hlt
      have hb := cell_lt hc
      have hcr := (hbel.cell (p := ⟨b, o + k, none⟩) hb).trans hc
      have hur := Ints.below (B := 0) hu hbel
      have HC := Lib.hid (toIntS_any wr u _ hur (by have := HLEN.out k hlt; omega))
      clear hc hxa hu hur
      have hlt' : (k : Int) < (n : Int) := by omega
      go_wp2_with fail
      refine HC.out.mono ?_
      rintro e w2 ⟨v, rfl, ho, hb2, hs2⟩
      have hsz := HS.out
      rw [hsz] at ho hb2
      have hs3 : Hid (w2.heap.size = w.heap.size + 1 + (k + 1)) := Lib.hid (by omega)
      clear hs2
      obtain rfl := ho.1
      have hrow2 : w2.rowIs w.heap.size 34 n (topc xss w.heap.size k) := hrow.of_block (hb2.block _ (by omega))
      have hdst := hrow2.cell hlt
      have hfr := hrow2.frozen k
      have hbel2 : Below w.heap.size w w2 := hbel.trans (hb2.mono (by omega))
      have HR2 : Hid (∀ j, j < k + 1 → OwnInts (w2.setCell ⟨w.heap.size, k, none⟩ (.slice (some ⟨w.heap.size + 1 + k, 0, none⟩) (xss.getD k []).length (xss.getD k []).length)) (w.heap.size + 1 + j) (.slice (some ⟨w.heap.size + 1 + j, 0, none⟩) (xss.getD j []).length (xss.getD j []).length) (xss.getD j [])) := Lib.hid (fun j hj => by
        refine OwnInts.of_block ?_ (Below.heap_setCell _ _ _ _ (by show w.heap.size + 1 + j ≠ w.heap.size; omega))
        by_cases hjk : j = k
        · subst hjk; exact ho
        · exact (HR.out j (by omega)).of_block (hb2.block _ (by omega)))
      have HO := Lib.hid ho
      clear ho hsz HS
      go_wp2_with fail
      go_roundw
      case rel => exact ⟨k + 1, by omega, by go_num, hbel2.setCell (p := ⟨w.heap.size, k, none⟩) (Nat.le_refl _) _, (hrow2.set k _).congr (fun j _ => topc_step j), Lib.hid (by have := hs3.out; simpa [World.setCell] using this), HR2⟩
      case measure => simp [intOf]; omega
    · go_wp2
      go_ret
      have e : k = n := by omega
      subst e
      exact ⟨_, rfl, own_rows_mk HN.out (by omega) hrow HR.out, hbel, by rw [← HN.out]; exact HS.out⟩
end Go.Proofs.Ytdockkmodjbfpaa
