/- What the copying, counting and comparing helpers of the laws return for slices of texts. -/
import Derived.Test.YtjakelpdnmnofaaStr
namespace Go.Proofs.Ytjakelpdnmnofaa
open Go.ChangeShapes Go.WideShapes Go.ChangeAt Go.RowKit
set_option linter.unusedVariables false

theorem strInfo : (Try.prog.info? 9).map (fun i => (i.zero, i.size, i.bytes)) = some (some (.string ⟨#[]⟩), 1, 16) := by kernel_rfl

def contS (xs : List Bs) (k : Nat) (j : Nat) : Value := if j < k then .string ⟨(xs.getD j []).toArray⟩ else .string ⟨#[]⟩
theorem contS_step {xs : List Bs} {k : Nat} (j : Nat) : (if j = k then Value.string ⟨(xs.getD k []).toArray⟩ else contS xs k j) = contS xs (k + 1) j := by
  unfold contS
  by_cases h : j = k
  · subst h; simp
  · by_cases h2 : j < k
    · rw [if_neg h, if_pos h2, if_pos (by omega)]
    · rw [if_neg h, if_neg h2, if_neg (by omega)]
theorem strs_own {w : World} {g n : Nat} {xs : List Bs} (hN : n = xs.length) (hn : n ≤ 1048576) (hr : w.rowIs g 9 n (contS xs n)) : StrsW w g (g + 1) (.slice (some ⟨g, 0, none⟩) n n) xs := by
  subst hN
  refine ⟨_, _, rfl, Nat.le_refl _, by unfold maxLen; omega, fun i hi => ⟨g, 0, rfl, Nat.le_refl _, Nat.lt_succ_self _, ?_, ?_⟩⟩
  · have := hr.cell hi
    rw [Nat.zero_add, this]
    simp [contS, hi]
  · exact hr.frozen (0 + i)
/-- a new slice of texts -/
def ToStrs (xs : List Bs) (w : World) (e : Ending) (w' : World) : Prop :=
  ∃ v, e = .returned v ∧ StrsW w' w.heap.size (w.heap.size + 1) v xs ∧ Below w.heap.size w w' ∧ w'.heap.size = w.heap.size + 1 ∧ v = .slice (some ⟨w.heap.size, 0, none⟩) xs.length xs.length

theorem toStringS_any (w : World) (v : Value) (xs : List Bs) (h : Strs w v xs) (hn : xs.length ≤ 1048576) :
    Calls Try.prog 38 #[v] w (ToStrs xs w) := by
  obtain ⟨a, ca, rfl, hla, hma, hxa⟩ := h
  unfold maxLen at hma
  obtain ⟨n, hN⟩ : ∃ n, n = xs.length := ⟨_, rfl⟩
  rw [← hN] at hla hxa hn ⊢
  have HN := Lib.hid hN
  clear hN
  have hmk := run_make_row' (P := Try.prog) 29 9 (.string ⟨#[]⟩) 16 Try.underlying29 strInfo rfl .i64 .i64 n (by omega) (by omega)
  go_enter Try.func38, Try.ntmps38
  go_wp2
  clear hmk
  go_loopw [4] (fun i wr => ∃ k : Nat, k ≤ n ∧ i = .int .i64 k ∧ Below w.heap.size w wr ∧ wr.rowIs w.heap.size 9 n (contS xs k) ∧ Hid (wr.heap.size = w.heap.size + 1)) (fun i _ => n - (intOf i).toNat)
  case atStart => exact ⟨0, Nat.zero_le _, rfl, (Below.refl _ _).alloc (Nat.le_refl _) _, (World.rowIs_made w (.string ⟨#[]⟩) n 9).congr (fun j _ => by simp [contS]), Lib.hid (by simp)⟩
  case round =>
    obtain ⟨k, hk, rfl, hbel, hrow, HS⟩ := hrel
    by_cases hlt : k < n
    · obtain ⟨b, o, rfl, hc⟩ := hxa k hlt
      have hb := cell_lt hc
      have hcr := (hbel.cell (p := ⟨b, o + k, none⟩) hb).trans hc
      have hdst := hrow.cell hlt
      have hfr := hrow.frozen k
      generalize hx : xs.getD k [] = x at hcr
      have HX := Lib.hid hx
      clear hx hc hxa
      have hlt' : (k : Int) < (n : Int) := by omega
      go_wp2
      go_roundw
      case rel => exact ⟨k + 1, by omega, by go_num, hbel.setCell (p := ⟨w.heap.size, k, none⟩) (Nat.le_refl _) _, (hrow.set k _).congr (fun j _ => by rw [← HX.out]; exact contS_step j), Lib.hid (by have := HS.out; simpa [World.setCell] using this)⟩
      case measure => simp [intOf]; omega
    · go_wp2
      go_ret
      have e : k = n := by omega
      subst e
      exact ⟨_, rfl, strs_own HN.out hn hrow, hbel, HS.out, congrArg (fun q => Value.slice (some ⟨w.heap.size, 0, none⟩) q q) HN.out⟩

theorem eqStringS_any (w : World) (va vb : Value) (xs ys : List Bs) (ha : Strs w va xs) (hb : Strs w vb ys) :
    Calls Try.prog 39 #[va, vb] w (Reads (.bool (decide (xs = ys))) w) := by
  obtain ⟨a, ca, rfl, hla, hma, hxa⟩ := ha
  obtain ⟨b, cb, rfl, hlb, hmb, hxb⟩ := hb
  unfold maxLen at hma hmb
  by_cases hl : xs.length = ys.length
  · obtain ⟨n, hn⟩ : ∃ n, n = xs.length := ⟨_, rfl⟩
    have hn2 : ys.length = n := by omega
    rw [← hn] at hla hxa ⊢
    rw [hn2] at hlb hxb ⊢
    have HN := Lib.hid hn
    have HN2 := Lib.hid hn2
    clear hn hn2 hl
    go_enter Try.func39, Try.ntmps39
    go_wp2
    go_loopw [5] (fun i wr => ∃ k d : Nat, k ≤ n ∧ i = .int .i64 k ∧ Hid (xs.take k = ys.take k) ∧ wr = w.drewN d) (fun i _ => n - (intOf i).toNat)
    case atStart => exact ⟨0, 0, Nat.zero_le _, rfl, Lib.hid rfl, rfl⟩
    case round =>
      obtain ⟨k, d, hk, rfl, HT, rfl⟩ := hrel
      by_cases hlt : k < n
      · obtain ⟨ba, oa, rfl, hca⟩ := hxa k hlt
        obtain ⟨bb, ob, rfl, hcb⟩ := hxb k hlt
        generalize hx : xs.getD k [] = x at hca
        generalize hy : ys.getD k [] = y at hcb
        have HX := Lib.hid hx
        have HY := Lib.hid hy
        clear hx hy hxa hxb
        have hlt' : (k : Int) < (n : Int) := by omega
        by_cases he : x = y
        · subst he
          go_wp2_with fail
          go_quiet (fail)
          go_wp2
          go_roundw
          case rel => exact ⟨k + 1, _, by omega, by go_num, Lib.hid (take_eq_succ (d := []) (HN.out.symm.trans HN2.out.symm) (by have := HN.out; omega) HT.out (HX.out.trans HY.out.symm)), rfl⟩
          case measure => simp [intOf]; omega
        · have hne : (x == y) = false := by simpa using he
          have HE : Hid (¬ x = y) := Lib.hid he
          clear he
          go_wp2_with fail
          go_quiet (fail)
          go_wp2
          go_ret
          exact reads_mk2 (by symm; exact decide_eq_false (ne_of_getD (d := []) (k := k) (fun h => HE.out (HX.out.symm.trans (h.trans HY.out)))))
      · go_wp2
        go_ret
        exact reads_mk (by symm; exact decide_eq_true (eq_of_take (HN.out.symm.trans HN2.out.symm) (by have := HN.out; omega) HT.out))
  · have hne : ((xs.length : Int) != (ys.length : Int)) = true := by simp; omega
    have HL := Lib.hid hl
    clear hl
    go_enter Try.func39, Try.ntmps39
    go_wp2
    go_ret
    exact reads_mk0 (by symm; exact decide_eq_false (fun h => HL.out (by rw [h])))

theorem sameTexts_any (w : World) (va vb : Value) (xs ys : List Bs) (ha : Strs w va xs) (hb : Strs w vb ys) :
    Calls Try.prog 31 #[va, vb] w (Reads (.bool (decide (xs = ys))) w) := by
  obtain ⟨a, ca, rfl, hla, hma, hxa⟩ := ha
  obtain ⟨b, cb, rfl, hlb, hmb, hxb⟩ := hb
  unfold maxLen at hma hmb
  by_cases hl : xs.length = ys.length
  · obtain ⟨n, hn⟩ : ∃ n, n = xs.length := ⟨_, rfl⟩
    have hn2 : ys.length = n := by omega
    rw [← hn] at hla hxa ⊢
    rw [hn2] at hlb hxb ⊢
    have HN := Lib.hid hn
    have HN2 := Lib.hid hn2
    clear hn hn2 hl
    go_enter Try.func31, Try.ntmps31
    go_wp2
    go_loopw [5] (fun i wr => ∃ k d : Nat, k ≤ n ∧ i = .int .i64 k ∧ Hid (xs.take k = ys.take k) ∧ wr = w.drewN d) (fun i _ => n - (intOf i).toNat)
    case atStart => exact ⟨0, 0, Nat.zero_le _, rfl, Lib.hid rfl, rfl⟩
    case round =>
      obtain ⟨k, d, hk, rfl, HT, rfl⟩ := hrel
      by_cases hlt : k < n
      · obtain ⟨ba, oa, rfl, hca⟩ := hxa k hlt
        obtain ⟨bb, ob, rfl, hcb⟩ := hxb k hlt
        generalize hx : xs.getD k [] = x at hca
        generalize hy : ys.getD k [] = y at hcb
        have HX := Lib.hid hx
        have HY := Lib.hid hy
        clear hx hy hxa hxb
        have hlt' : (k : Int) < (n : Int) := by omega
        by_cases he : x = y
        · subst he
          go_wp2_with fail
          go_quiet (fail)
          go_wp2
          go_roundw
          case rel => exact ⟨k + 1, _, by omega, by go_num, Lib.hid (take_eq_succ (d := []) (HN.out.symm.trans HN2.out.symm) (by have := HN.out; omega) HT.out (HX.out.trans HY.out.symm)), rfl⟩
          case measure => simp [intOf]; omega
        · have hne : (x == y) = false := by simpa using he
          have HE : Hid (¬ x = y) := Lib.hid he
          clear he
          go_wp2_with fail
          go_quiet (fail)
          go_wp2
          go_ret
          exact reads_mk2 (by symm; exact decide_eq_false (ne_of_getD (d := []) (k := k) (fun h => HE.out (HX.out.symm.trans (h.trans HY.out)))))
      · go_wp2
        go_ret
        exact reads_mk (by symm; exact decide_eq_true (eq_of_take (HN.out.symm.trans HN2.out.symm) (by have := HN.out; omega) HT.out))
  · have hne : ((xs.length : Int) != (ys.length : Int)) = true := by simp; omega
    have HL := Lib.hid hl
    clear hl
    go_enter Try.func31, Try.ntmps31
    go_wp2
    go_ret
    exact reads_mk0 (by symm; exact decide_eq_false (fun h => HL.out (by rw [h])))
end Go.Proofs.Ytjakelpdnmnofaa
