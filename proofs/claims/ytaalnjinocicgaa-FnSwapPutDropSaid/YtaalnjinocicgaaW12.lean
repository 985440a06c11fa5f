/- What the proofs stand on, part 12. -/
import Derived.Test.YtaalnjinocicgaaRows
import Derived.Test.YtaalnjinocicgaaW1
import Derived.Test.YtaalnjinocicgaaW2
import Derived.Test.YtaalnjinocicgaaW3
import Derived.Test.YtaalnjinocicgaaW5
import Derived.Test.YtaalnjinocicgaaW6
import Derived.Test.YtaalnjinocicgaaW7
import Derived.Test.YtaalnjinocicgaaW8
import Derived.Test.YtaalnjinocicgaaW9
import Derived.Test.YtaalnjinocicgaaW10
import Derived.Test.YtaalnjinocicgaaW11
set_option linter.unusedSimpArgs false
set_option linter.unusedVariables false
namespace Go.Proofs.Ytaalnjinocicgaa
open Go.ChangeShapes Go.WideShapes Go.ChangeAt Go.RowKit
set_option linter.unusedVariables false
theorem sameInts_any (w : World) (va vb : Value) (xs ys : List Int) (ha : Ints w va xs) (hb : Ints w vb ys) :
    Calls Try.prog 18 #[va, vb] w (Reads (.bool (decide (xs = ys))) w) := by
  obtain ⟨a, ca, rfl, hla, hma, hxa⟩ := ha
  obtain ⟨b, cb, rfl, hlb, hmb, hxb⟩ := hb
  unfold maxLen at hma hmb
  by_cases hl : xs.length = ys.length
  · obtain ⟨n, hn⟩ : ∃ n, n = xs.length := ⟨_, rfl⟩
    have hn2 : ys.length = n := by omega
    rw [← hn] at hla hxa ⊢
    rw [hn2] at hlb hxb ⊢
    have HN := Lib.hid hn
    have HN2 := Lib.hid hn2
    clear hn hn2 hl
    go_enter Try.func18, Try.ntmps18
    go_wp2
    go_loopw [5] (fun i wr => ∃ k d : Nat, k ≤ n ∧ i = .int .i64 k ∧ Hid (xs.take k = ys.take k) ∧ wr = w.drewN d) (fun i _ => n - (intOf i).toNat)
    case atStart => exact ⟨0, 0, Nat.zero_le _, rfl, Lib.hid rfl, rfl⟩
    case round =>
      obtain ⟨k, d, hk, rfl, HT, rfl⟩ := hrel
      by_cases hlt : k < n
      · obtain ⟨ba, oa, rfl, hca⟩ := hxa k hlt
        obtain ⟨bb, ob, rfl, hcb⟩ := hxb k hlt
        generalize hx : xs.getD k 0 = x at hca
        generalize hy : ys.getD k 0 = y at hcb
        have HX := Lib.hid hx
        have HY := Lib.hid hy
        clear hx hy hxa hxb
        have hlt' : (k : Int) < (n : Int) := by omega
        by_cases he : x = y
        · subst he
          go_wp2_with fail
          go_quiet (fail)
          go_wp2
          go_roundw
          case rel => exact ⟨k + 1, _, by omega, by go_num, Lib.hid (take_eq_succ (d := 0) (HN.out.symm.trans HN2.out.symm) (by have := HN.out; omega) HT.out (HX.out.trans HY.out.symm)), rfl⟩
          case measure => simp [intOf]; omega
        · have hne : (x != y) = true := by simpa using he
          have HE : Hid (¬ x = y) := Lib.hid he
          clear he
          go_wp2_with fail
          go_quiet (fail)
          go_wp2
          go_ret
          exact reads_mk2 (by symm; exact decide_eq_false (ne_of_getD (d := 0) (k := k) (fun h => HE.out (HX.out.symm.trans (h.trans HY.out)))))
      · go_wp2
        go_ret
        exact reads_mk (by symm; exact decide_eq_true (eq_of_take (HN.out.symm.trans HN2.out.symm) (by have := HN.out; omega) HT.out))
  · have hne : ((xs.length : Int) != (ys.length : Int)) = true := by simp; omega
    have HL := Lib.hid hl
    clear hl
    go_enter Try.func18, Try.ntmps18
    go_wp2
    go_ret
    exact reads_mk0 (by symm; exact decide_eq_false (fun h => HL.out (by rw [h])))
end Go.Proofs.Ytaalnjinocicgaa
