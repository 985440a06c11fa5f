/- What the proofs stand on, part 13. -/
import Derived.Test.YtaalnjinocicgaaRows
import Derived.Test.YtaalnjinocicgaaW1
import Derived.Test.YtaalnjinocicgaaW2
import Derived.Test.YtaalnjinocicgaaW4
set_option linter.unusedSimpArgs false
set_option linter.unusedVariables false
namespace Go.Proofs.Ytaalnjinocicgaa
open Go.ChangeShapes Go.WideShapes Go.ChangeAt Go.RowKit
set_option linter.unusedVariables false
theorem eqIntS_any (w : World) (va vb : Value) (xs ys : List Int) (ha : Ints w va xs) (hb : Ints w vb ys) :
    Calls Try.prog 29 #[va, vb] w (Reads (.bool (decide (xs = ys))) w) := by
  obtain ⟨a, ca, rfl, hla, hma, hxa⟩ := ha
  obtain ⟨b, cb, rfl, hlb, hmb, hxb⟩ := hb
  unfold maxLen at hma hmb
  by_cases hl : xs.length = ys.length
  · obtain ⟨n, hn⟩ : ∃ n, n = xs.length := ⟨_, rfl⟩
    have hn2 : ys.length = n := by omega
    rw [← hn] at hla hxa ⊢
    rw [hn2] at hlb hxb ⊢
    have HN := Lib.hid hn
    have HN2 := Lib.hid hn2
    clear hn hn2 hl
    go_enter Try.func29, Try.ntmps29
    go_wp2
    go_loopw [5] (fun i wr => ∃ k d : Nat, k ≤ n ∧ i = .int .i64 k ∧ Hid (xs.take k = ys.take k) ∧ wr = w.drewN d) (fun i _ => n - (intOf i).toNat)
    case atStart => exact ⟨0, 0, Nat.zero_le _, rfl, Lib.hid rfl, rfl⟩
    case round =>
      obtain ⟨k, d, hk, rfl, HT, rfl⟩ := hrel
      by_cases hlt : k < n
      · obtain ⟨ba, oa, rfl, hca⟩ := hxa k hlt
        obtain ⟨bb, ob, rfl, hcb⟩ := hxb k hlt
        generalize hx : xs.getD k 0 = x at hca
        generalize hy : ys.getD k 0 = y at hcb
        have HX := Lib.hid hx
        have HY := Lib.hid hy
        clear hx hy hxa hxb
        have hlt' : (k : Int) < (n : Int) := by omega
        by_cases he : x = y
        · subst he
          go_wp2_with fail
          go_quiet (fail)
          go_wp2
          go_roundw
          case rel => exact ⟨k + 1, _, by omega, by go_num, Lib.hid (take_eq_succ (d := 0) (HN.out.symm.trans HN2.out.symm) (by have := HN.out; omega) HT.out (HX.out.trans HY.out.symm)), rfl⟩
          case measure => simp [intOf]; omega
        · have hne : (x != y) = true := by simpa using he
          have HE : Hid (¬ x = y) := Lib.hid he
          clear he
          go_wp2_with fail
          go_quiet (fail)
          go_wp2
          go_ret
          exact reads_mk2 (by symm; exact decide_eq_false (ne_of_getD (d := 0) (k := k) (fun h => HE.out (HX.out.symm.trans (h.trans HY.out)))))
      · go_wp2
        go_ret
        exact reads_mk (by symm; exact decide_eq_true (eq_of_take (HN.out.symm.trans HN2.out.symm) (by have := HN.out; omega) HT.out))
  · have hne : ((xs.length : Int) != (ys.length : Int)) = true := by simp; omega
    have HL := Lib.hid hl
    clear hl
    go_enter Try.func29, Try.ntmps29
    go_wp2
    go_ret
    exact reads_mk0 (by symm; exact decide_eq_false (fun h => HL.out (by rw [h])))
theorem eqIntSS_any (w : World) (va vb : Value) (xs ys : List (List Int)) (ha : Rows2 w va xs) (hb : Rows2 w vb ys) :
    Calls Try.prog 27 #[va, vb] w (Reads (.bool (decide (xs = ys))) w) := by
  obtain ⟨a, ca, rfl, hla, hma, hxa⟩ := ha
  obtain ⟨b, cb, rfl, hlb, hmb, hxb⟩ := hb
  unfold maxLen at hma hmb
  by_cases hl : xs.length = ys.length
  · obtain ⟨n, hn⟩ : ∃ n, n = xs.length := ⟨_, rfl⟩
    have hn2 : ys.length = n := by omega
    rw [← hn] at hla hxa ⊢
    rw [hn2] at hlb hxb ⊢
    have HN := Lib.hid hn
    have HN2 := Lib.hid hn2
    clear hn hn2 hl
    go_enter Try.func27, Try.ntmps27
    go_wp2
    go_loopw [5] (fun i wr => ∃ k d : Nat, k ≤ n ∧ i = .int .i64 k ∧ Hid (xs.take k = ys.take k) ∧ wr = w.drewN d) (fun i _ => n - (intOf i).toNat)
    case atStart => exact ⟨0, 0, Nat.zero_le _, rfl, Lib.hid rfl, rfl⟩
    case round =>
      obtain ⟨k, d, hk, rfl, HT, rfl⟩ := hrel
      by_cases hlt : k < n
      · obtain ⟨ba, oa, ua, rfl, hca, hia⟩ := hxa k hlt
        obtain ⟨bb, ob, ub, rfl, hcb, hib⟩ := hxb k hlt
        generalize hx : xs.getD k [] = x at hia
        generalize hy : ys.getD k [] = y at hib
        have HX := Lib.hid hx
        have HY := Lib.hid hy
        clear hx hy hxa hxb
        have hlt' : (k : Int) < (n : Int) := by omega
        have HA := Lib.hid hia
        have HB := Lib.hid hib
        clear hia hib
        by_cases he : x = y
        · have hd : decide (x = y) = true := decide_eq_true he
          have HE := Lib.hid he
          clear he
          have HC : ∀ m, Calls Try.prog 29 #[ua, ub] (w.drewN m) (Reads (.bool true) (w.drewN m)) := fun m => by
            have := eqIntS_any (w.drewN m) ua ub x y HA.out HB.out
            rw [hd] at this
            exact this
          have HC' := Lib.hid HC
          clear HC hd
          go_wp2_with fail
          go_quiet ((go_at_call 29; exact reads_add (HC'.out _)))
          go_wp2
          go_roundw
          case rel => exact ⟨k + 1, _, by omega, by go_num, Lib.hid (take_eq_succ (d := []) (HN.out.symm.trans HN2.out.symm) (by have := HN.out; omega) HT.out (HX.out.trans (HE.out.trans HY.out.symm))), rfl⟩
          case measure => simp [intOf]; omega
        · have hd : decide (x = y) = false := decide_eq_false he
          have HE : Hid (¬ x = y) := Lib.hid he
          clear he
          have HC : ∀ m, Calls Try.prog 29 #[ua, ub] (w.drewN m) (Reads (.bool false) (w.drewN m)) := fun m => by
            have := eqIntS_any (w.drewN m) ua ub x y HA.out HB.out
            rw [hd] at this
            exact this
          have HC' := Lib.hid HC
          clear HC hd
          go_wp2_with fail
          go_quiet ((go_at_call 29; exact reads_add (HC'.out _)))
          go_wp2
          go_ret
          exact reads_mk2 (by symm; exact decide_eq_false (ne_of_getD (d := []) (k := k) (fun h => HE.out (HX.out.symm.trans (h.trans HY.out)))))
      · go_wp2
        go_ret
        exact reads_mk (by symm; exact decide_eq_true (eq_of_take (HN.out.symm.trans HN2.out.symm) (by have := HN.out; omega) HT.out))
  · have hne : ((xs.length : Int) != (ys.length : Int)) = true := by simp; omega
    have HL := Lib.hid hl
    clear hl
    go_enter Try.func27, Try.ntmps27
    go_wp2
    go_ret
    exact reads_mk0 (by symm; exact decide_eq_false (fun h => HL.out (by rw [h])))
end Go.Proofs.Ytaalnjinocicgaa
namespace Go.Proofs.Ytaalnjinocicgaa
open Go.ChangeShapes Go.WideShapes Go.ChangeAt Go.RowKit
set_option linter.unusedVariables false
def total (xss : List (List Int)) : Nat := (xss.map List.length).sum
theorem total_snoc (xss : List (List Int)) (k : Nat) (h : k < xss.length) : total (xss.take (k + 1)) = total (xss.take k) + (xss.getD k []).length := by
  rw [take_snoc_getD xss k [] h]; simp [total]
theorem szIntS_any (w : World) (v : Value) (xs : List Int) (left : Int) (h : Ints w v xs) (h0 : 0 ≤ left) (h1 : left ≤ 1048576) :
    Calls Try.prog 49 #[v, .int .i64 left] w fun e w' => e = .returned (.int .i64 (if left < xs.length then -1 else left - xs.length)) ∧ w = w' := by
  obtain ⟨a, ca, rfl, hla, hma, hxa⟩ := h
  clear hxa
  unfold maxLen at hma
  generalize xs.length = n at *
  by_cases hl : left < n
  · have hd : left - (n : Int) < 0 := by omega
    rw [if_pos hl]
    go_enter Try.func49, Try.ntmps49
    go_wp2
    go_ret
    exact ⟨rfl, rfl⟩
  · have hd : decide (left - (n : Int) < 0) = false := by simp; omega
    have hd2 : decide (left < (n : Int)) = false := by simp; omega
    rw [if_neg hl]
    clear hl
    go_enter Try.func49, Try.ntmps49
    go_wp2
    go_ret
    exact ⟨rfl, rfl⟩
def Left (xss : List (List Int)) (left : Int) (w : World) (e : Ending) (w' : World) : Prop :=
  ∃ r : Int, (r < 0 ∨ (0 ≤ r ∧ r + xss.length + total xss = left)) ∧ e = .returned (.int .i64 r) ∧ w = w'
theorem left_neg {xss : List (List Int)} {left : Int} {w : World} : Left xss left w (.returned (.int .i64 (-1))) w := ⟨-1, .inl (by omega), rfl, rfl⟩
theorem szIntSS_any (w : World) (v : Value) (xss : List (List Int)) (left : Int) (h : Rows2 w v xss) (h0 : 0 ≤ left) (h1 : left ≤ 1048576) :
    Calls Try.prog 25 #[v, .int .i64 left] w (Left xss left w) := by
  obtain ⟨a, ca, rfl, hla, hma, hxa⟩ := h
  unfold maxLen at hma
  obtain ⟨n, hn⟩ : ∃ n, n = xss.length := ⟨_, rfl⟩
  rw [← hn] at hla hxa ⊢
  have HN := Lib.hid hn
  clear hn
  by_cases hl : left < n
  · have hd : left - (n : Int) < 0 := by omega
    go_enter Try.func25, Try.ntmps25
    go_wp2
    go_ret
    exact left_neg
  · have hd : decide (left - (n : Int) < 0) = false := by simp; omega
    have hd2 : decide (left < (n : Int)) = false := by simp; omega
    go_enter Try.func25, Try.ntmps25
    go_wp2
    go_loop [1, 5] (fun l i => ∃ (k : Nat) (r : Int), k ≤ n ∧ i = .int .i64 k ∧ l = .int .i64 r ∧ 0 ≤ r ∧ r ≤ 1048576 ∧ Hid (r + n + total (xss.take k) = left)) (fun _ i => n - (intOf i).toNat)
    case atStart => exact ⟨0, _, Nat.zero_le _, rfl, rfl, by omega, by omega, Lib.hid (by simp [total])⟩
    case round =>
      obtain ⟨k, r, hk, rfl, rfl, hr0, hr1, HT⟩ := hrel
      by_cases hlt : k < n
      · obtain ⟨ba, oa, ua, rfl, hca, hia⟩ := hxa k hlt
        have HS := Lib.hid (total_snoc xss k (by have := HN.out; omega))
        generalize hx : xss.getD k [] = x at hia HS
        clear hx hxa
        have hlt' : (k : Int) < (n : Int) := by omega
        by_cases hc : r < x.length
        · have HC := Lib.hid (szIntS_any w ua x r hia hr0 hr1)
          rw [if_pos hc] at HC
          go_wp2_with (go_at_call 49; refine HC.out.mono ?_; rintro e w' ⟨rfl, rfl⟩)
          go_ret
          exact left_neg
        · have HC := Lib.hid (szIntS_any w ua x r hia hr0 hr1)
          rw [if_neg hc] at HC
          have hc1 : decide (r - (x.length : Int) < 0) = false := by simp; omega
          have hc2 : decide (r < (x.length : Int)) = false := by simp; omega
          have hc3 : 0 ≤ r - (x.length : Int) := by omega
          go_wp2_with (go_at_call 49; refine HC.out.mono ?_; rintro e w' ⟨rfl, rfl⟩)
          go_round
          case rel => exact ⟨k + 1, r - x.length, by omega, by go_num, by go_num, by omega, by omega, Lib.hid (by have := HS.out; have := HT.out; omega)⟩
          case measure => simp [intOf]; omega
      · go_wp2
        go_ret
        exact ⟨r, .inr ⟨hr0, by have := HT.out; have := HN.out; rw [take_all (by omega)] at *; omega⟩, rfl, rfl⟩
end Go.Proofs.Ytaalnjinocicgaa
namespace Go.Proofs.Ytaalnjinocicgaa
open Go.ChangeShapes Go.WideShapes Go.ChangeAt Go.RowKit
set_option linter.unusedVariables false
def OwnInts (w : World) (g : Nat) (v : Value) (xs : List Int) : Prop := v = .slice (some ⟨g, 0, none⟩) xs.length xs.length ∧ xs.length ≤ maxLen ∧ w.rowIs g 3 xs.length (fun j => .int .i64 (xs.getD j 0))
theorem OwnInts.of_block {w w' : World} {g : Nat} {v : Value} {xs : List Int} (h : OwnInts w g v xs) (e : w'.heap[g]? = w.heap[g]?) : OwnInts w' g v xs := ⟨h.1, h.2.1, h.2.2.of_block e⟩
theorem OwnInts.lt {w : World} {g : Nat} {v : Value} {xs : List Int} (h : OwnInts w g v xs) : g < w.heap.size := h.2.2.lt
def cont (xs : List Int) (k : Nat) (j : Nat) : Value := if j < k then .int .i64 (xs.getD j 0) else .int .i64 0
theorem cont_step {xs : List Int} {k : Nat} (j : Nat) : (if j = k then Value.int .i64 (xs.getD k 0) else cont xs k j) = cont xs (k + 1) j := by
  unfold cont
  by_cases h : j = k
  · subst h; simp
  · by_cases h2 : j < k
    · rw [if_neg h, if_pos h2, if_pos (by omega)]
    · rw [if_neg h, if_neg h2, if_neg (by omega)]
theorem own_mk {w : World} {g n : Nat} {xs : List Int} (hN : n = xs.length) (hn : n ≤ 1048576) (hr : w.rowIs g 3 n (cont xs n)) : OwnInts w g (.slice (some ⟨g, 0, none⟩) n n) xs := by
  subst hN
  exact ⟨rfl, by unfold maxLen; omega, hr.congr (fun j hj => by simp [cont, hj])⟩
def ToInts (xs : List Int) (w : World) (e : Ending) (w' : World) : Prop :=
  ∃ v, e = .returned v ∧ OwnInts w' w.heap.size v xs ∧ Below w.heap.size w w' ∧ w'.heap.size = w.heap.size + 1
theorem toIntS_any (w : World) (v : Value) (xs : List Int) (h : Ints w v xs) (hn : xs.length ≤ 1048576) :
    Calls Try.prog 28 #[v] w (ToInts xs w) := by
  obtain ⟨a, ca, rfl, hla, hma, hxa⟩ := h
  unfold maxLen at hma
  obtain ⟨n, hN⟩ : ∃ n, n = xs.length := ⟨_, rfl⟩
  rw [← hN] at hla hxa hn ⊢
  have HN := Lib.hid hN
  clear hN
  have hmk := run_make_row' (P := Try.prog) 24 3 (.int .i64 0) 8 Try.underlying24 intInfo rfl .i64 .i64 n (by omega) (by omega)
  go_enter Try.func28, Try.ntmps28
  go_wp2
  clear hmk
  go_loopw [4] (fun i wr => ∃ k : Nat, k ≤ n ∧ i = .int .i64 k ∧ Below w.heap.size w wr ∧ wr.rowIs w.heap.size 3 n (cont xs k) ∧ Hid (wr.heap.size = w.heap.size + 1)) (fun i _ => n - (intOf i).toNat)
  case atStart => exact ⟨0, Nat.zero_le _, rfl, (Below.refl _ _).alloc (Nat.le_refl _) _, (World.rowIs_made w (.int .i64 0) n 3).congr (fun j _ => by simp [cont]), Lib.hid (by simp)⟩
  case round =>
    obtain ⟨k, hk, rfl, hbel, hrow, HS⟩ := hrel
    by_cases hlt : k < n
    · obtain ⟨b, o, rfl, hc⟩ := hxa k hlt
      have hb := cell_lt hc
      have hcr := (hbel.cell (p := ⟨b, o + k, none⟩) hb).trans hc
      have hdst := hrow.cell hlt
      have hfr := hrow.frozen k
      generalize hx : xs.getD k 0 = x at hcr
      have HX := Lib.hid hx
      clear hx hc hxa
      have hlt' : (k : Int) < (n : Int) := by omega
      go_wp2
      go_roundw
      case rel => exact ⟨k + 1, by omega, by go_num, hbel.setCell (p := ⟨w.heap.size, k, none⟩) (Nat.le_refl _) _, (hrow.set k _).congr (fun j _ => by rw [← HX.out]; exact cont_step j), Lib.hid (by have := HS.out; simpa [World.setCell] using this)⟩
      case measure => simp [intOf]; omega
    · go_wp2
      go_ret
      have e : k = n := by omega
      subst e
      exact ⟨_, rfl, own_mk HN.out hn hrow, hbel, HS.out⟩
end Go.Proofs.Ytaalnjinocicgaa
namespace Go.Proofs.Ytaalnjinocicgaa
open Go.ChangeShapes Go.WideShapes Go.ChangeAt Go.RowKit
set_option linter.unusedVariables false
def OwnRows (w : World) (g : Nat) (v : Value) (xss : List (List Int)) : Prop :=
  v = .slice (some ⟨g, 0, none⟩) xss.length xss.length ∧ xss.length ≤ maxLen ∧
    w.rowIs g 24 xss.length (fun j => .slice (some ⟨g + 1 + j, 0, none⟩) (xss.getD j []).length (xss.getD j []).length) ∧
    ∀ j, j < xss.length → OwnInts w (g + 1 + j) (.slice (some ⟨g + 1 + j, 0, none⟩) (xss.getD j []).length (xss.getD j []).length) (xss.getD j [])
def topc (xss : List (List Int)) (g k : Nat) (j : Nat) : Value := if j < k then .slice (some ⟨g + 1 + j, 0, none⟩) (xss.getD j []).length (xss.getD j []).length else .slice none 0 0
theorem topc_step {xss : List (List Int)} {g k : Nat} (j : Nat) : (if j = k then Value.slice (some ⟨g + 1 + k, 0, none⟩) (xss.getD k []).length (xss.getD k []).length else topc xss g k j) = topc xss g (k + 1) j := by
  unfold topc
  by_cases h : j = k
  · subst h; simp
  · by_cases h2 : j < k
    · rw [if_neg h, if_pos h2, if_pos (by omega)]
    · rw [if_neg h, if_neg h2, if_neg (by omega)]
def ToRows (xss : List (List Int)) (w : World) (e : Ending) (w' : World) : Prop :=
  ∃ v, e = .returned v ∧ OwnRows w' w.heap.size v xss ∧ Below w.heap.size w w' ∧ w'.heap.size = w.heap.size + 1 + xss.length
theorem own_rows_mk {w : World} {g n : Nat} {xss : List (List Int)} (hN : n = xss.length) (hn : n ≤ 1048576) (hr : w.rowIs g 24 n (topc xss g n))
    (hx : ∀ j, j < n → OwnInts w (g + 1 + j) (.slice (some ⟨g + 1 + j, 0, none⟩) (xss.getD j []).length (xss.getD j []).length) (xss.getD j [])) : OwnRows w g (.slice (some ⟨g, 0, none⟩) n n) xss := by
  subst hN
  exact ⟨rfl, by unfold maxLen; omega, hr.congr (fun j hj => by simp [topc, hj]), hx⟩
theorem len_le_total (xss : List (List Int)) (j : Nat) (h : j < xss.length) : (xss.getD j []).length ≤ total xss := by
  induction xss generalizing j with
  | nil => simp at h
  | cons x xs ih =>
    cases j with
    | zero => simp [total]
    | succ j => have := ih j (by simpa using h); simp [total] at this ⊢; omega
theorem toIntSS_any (w : World) (v : Value) (xss : List (List Int)) (h : Rows2 w v xss) (hn : xss.length + total xss ≤ 1048576) :
    Calls Try.prog 26 #[v] w (ToRows xss w) := by
  obtain ⟨a, ca, rfl, hla, hma, hxa⟩ := h
  unfold maxLen at hma
  have hlen := len_le_total xss
  obtain ⟨n, hN⟩ : ∃ n, n = xss.length := ⟨_, rfl⟩
  rw [← hN] at hla hxa hn hlen ⊢
  have HN := Lib.hid hN
  clear hN
  have HLEN := Lib.hid hlen
  clear hlen
  have hmk := run_make_row' (P := Try.prog) 23 24 (.slice none 0 0) 24 Try.underlying23 intsInfo rfl .i64 .i64 n (by omega) (by omega)
  go_enter Try.func26, Try.ntmps26
  go_wp2
  clear hmk
  go_loopw [4] (fun i wr => ∃ k : Nat, k ≤ n ∧ i = .int .i64 k ∧ Below w.heap.size w wr ∧ wr.rowIs w.heap.size 24 n (topc xss w.heap.size k) ∧ Hid (wr.heap.size = w.heap.size + 1 + k) ∧
    Hid (∀ j, j < k → OwnInts wr (w.heap.size + 1 + j) (.slice (some ⟨w.heap.size + 1 + j, 0, none⟩) (xss.getD j []).length (xss.getD j []).length) (xss.getD j []))) (fun i _ => n - (intOf i).toNat)
  case atStart => exact ⟨0, Nat.zero_le _, rfl, (Below.refl _ _).alloc (Nat.le_refl _) _, (World.rowIs_made w (.slice none 0 0) n 24).congr (fun j _ => by simp [topc]), Lib.hid (by simp), Lib.hid (fun j hj => by omega)⟩
  case round =>
    obtain ⟨k, hk, rfl, hbel, hrow, HS, HR⟩ := hrel
    by_cases hlt : k < n
    · obtain ⟨b, o, u, rfl, hc, hu⟩ := hxa k hlt
      have hb := cell_lt hc
      have hcr := (hbel.cell (p := ⟨b, o + k, none⟩) hb).trans hc
      have hur := Ints.below (B := 0) hu hbel
      have HC := Lib.hid (toIntS_any wr u _ hur (by have := HLEN.out k hlt; omega))
      clear hc hxa hu hur
      have hlt' : (k : Int) < (n : Int) := by omega
      go_wp2_with fail
      refine HC.out.mono ?_
      rintro e w2 ⟨v, rfl, ho, hb2, hs2⟩
      have hsz := HS.out
      rw [hsz] at ho hb2
      have hs3 : Hid (w2.heap.size = w.heap.size + 1 + (k + 1)) := Lib.hid (by omega)
      clear hs2
      obtain rfl := ho.1
      have hrow2 : w2.rowIs w.heap.size 24 n (topc xss w.heap.size k) := hrow.of_block (hb2.block _ (by omega))
      have hdst := hrow2.cell hlt
      have hfr := hrow2.frozen k
      have hbel2 : Below w.heap.size w w2 := hbel.trans (hb2.mono (by omega))
      have HR2 : Hid (∀ j, j < k + 1 → OwnInts (w2.setCell ⟨w.heap.size, k, none⟩ (.slice (some ⟨w.heap.size + 1 + k, 0, none⟩) (xss.getD k []).length (xss.getD k []).length)) (w.heap.size + 1 + j) (.slice (some ⟨w.heap.size + 1 + j, 0, none⟩) (xss.getD j []).length (xss.getD j []).length) (xss.getD j [])) := Lib.hid (fun j hj => by
        refine OwnInts.of_block ?_ (Below.heap_setCell _ _ _ _ (by show w.heap.size + 1 + j ≠ w.heap.size; omega))
        by_cases hjk : j = k
        · subst hjk; exact ho
        · exact (HR.out j (by omega)).of_block (hb2.block _ (by omega)))
      have HO := Lib.hid ho
      clear ho hsz HS
      go_wp2_with fail
      go_roundw
      case rel => exact ⟨k + 1, by omega, by go_num, hbel2.setCell (p := ⟨w.heap.size, k, none⟩) (Nat.le_refl _) _, (hrow2.set k _).congr (fun j _ => topc_step j), Lib.hid (by have := hs3.out; simpa [World.setCell] using this), HR2⟩
      case measure => simp [intOf]; omega
    · go_wp2
      go_ret
      have e : k = n := by omega
      subst e
      exact ⟨_, rfl, own_rows_mk HN.out (by omega) hrow HR.out, hbel, by rw [← HN.out]; exact HS.out⟩
end Go.Proofs.Ytaalnjinocicgaa
namespace Go.Proofs.Ytaalnjinocicgaa
open Go.ChangeShapes Go.WideShapes Go.ChangeAt Go.RowKit
set_option linter.unusedVariables false
theorem OwnRows.mat {w : World} {g : Nat} {v : Value} {xss : List (List Int)} (h : OwnRows w g v xss) :
    v = .slice (some ⟨g, 0, none⟩) xss.length xss.length ∧
    MatAt w g (g + 1 + xss.length) (some ⟨g, 0, none⟩) xss.length (fun j => some ⟨g + 1 + j, 0, none⟩) (fun j => (xss.getD j []).length) (fun j => (xss.getD j []).length) (fun j i => (xss.getD j []).getD i 0) := by
  obtain ⟨rfl, hm, hr, hx⟩ := h
  refine ⟨rfl, fun j hj => ?_, fun j hj i hi => ?_, fun j hj j' hj' hne _ _ g1 p1 g2 p2 e1 e2 => ?_⟩
  · exact ⟨g, 0, rfl, Nat.le_refl _, by omega, by simpa using hr.cell hj, Nat.le_refl _, (hx j hj).2.1, by simpa using hr.frozen j⟩
  · exact ⟨g + 1 + j, 0, rfl, by omega, by omega, by simpa using (hx j hj).2.2.cell hi, (hx j hj).2.2.frozen _, fun b o e => by cases e; omega⟩
  · cases e1; cases e2
    exact .inl (by omega)
theorem OwnRows.rows {w : World} {g : Nat} {v : Value} {xss : List (List Int)} (h : OwnRows w g v xss) : Rows2 w v xss := by
  obtain ⟨rfl, hm⟩ := h.mat
  exact hm.rows (Nat.le_refl _) h.2.1 (fun _ _ => rfl) (fun _ _ _ _ => rfl)
theorem OwnRows.of_blocks {w w' : World} {g : Nat} {v : Value} {xss : List (List Int)} (h : OwnRows w g v xss) (e : ∀ b, g ≤ b → b < g + 1 + xss.length → w'.heap[b]? = w.heap[b]?) : OwnRows w' g v xss :=
  ⟨h.1, h.2.1, h.2.2.1.of_block (e g (Nat.le_refl _) (by omega)), fun j hj => (h.2.2.2 j hj).of_block (e (g + 1 + j) (by omega) (by omega))⟩
end Go.Proofs.Ytaalnjinocicgaa
namespace Go.Proofs.Ytaalnjinocicgaa
open Go.ChangeShapes Go.WideShapes Go.ChangeAt Go.RowKit
set_option linter.unusedVariables false
theorem OwnRows.chg {lo hi g : Nat} {w w' : World} {v : Value} {xss : List (List Int)} (h : OwnRows w g v xss) (c : Chg lo hi w w') (hB : g + 1 + xss.length ≤ w.heap.size) (hh : g + 1 + xss.length ≤ lo ∨ hi ≤ g) : OwnRows w' g v xss :=
  h.of_blocks (fun b h0 h1 => c.block b (by omega) (by omega))
theorem eq_c (w : World) (va vb : Value) (xs : List (List Int)) (ha : Rows2 w va xs) (hb : Rows2 w vb xs) :
    Calls Try.prog 27 #[va, vb] w fun e w' => e = .returned (.bool true) ∧ Chg 0 0 w w' :=
  (eqIntSS_any w va vb xs xs ha hb).mono fun e w' ⟨he, n, hn⟩ => ⟨by rw [he]; simp, by rw [hn]; exact Chg.of_drewN w n⟩
end Go.Proofs.Ytaalnjinocicgaa
namespace Go.Proofs.Ytaalnjinocicgaa
open Go.ChangeShapes Go.WideShapes Go.ChangeAt Go.RowKit
set_option linter.unusedVariables false
set_option linter.unusedSimpArgs false
theorem toM_of (w : World) (v : Value) (xss : Rs) (h : Rows2 w v xss) (hn : xss.length + total xss ≤ 1048576) :
    Calls Try.prog 26 #[v] w fun e w' => ∃ u, e = .returned u ∧ MatW w' w.heap.size w'.heap.size u xss ∧ Below w.heap.size w w' := by
  refine (toIntSS_any w v xss h hn).mono ?_
  rintro e w' ⟨u, rfl, ho, hb, hs⟩
  obtain ⟨rfl, hm⟩ := ho.mat
  exact ⟨_, rfl, ⟨_, _, _, _, rfl, Nat.le_refl _, ho.2.1, by rw [hs]; exact hm⟩, hb⟩
end Go.Proofs.Ytaalnjinocicgaa
namespace Go.Proofs.Ytaalnjinocicgaa
open Go.ChangeShapes Go.WideShapes Go.ChangeAt Go.RowKit
set_option linter.unusedVariables false
theorem addr_at {w : World} {a : Addr} {n : Nat} {f : Nat → Value} (h : ∀ i, i < n → w.cell? (a.add i) = some (f i)) (hn : 0 < n) : ∃ b o, a = ⟨b, o, none⟩ ∧ ∀ i, i < n → w.cell? ⟨b, o + i, none⟩ = some (f i) := by
  obtain ⟨b, o, s⟩ := a
  have h0 := h 0 hn
  have hs : s = none := by
    have : w.cell? ⟨b, o, s⟩ = some (f 0) := by simpa [Addr.add] using h0
    exact World.cell?_spot this
  subst hs
  refine ⟨b, o, rfl, fun i hi => ?_⟩
  have := h i hi
  have e : (⟨b, o, none⟩ : Addr).add i = ⟨b, o + i, none⟩ := by unfold Addr.add; split <;> simp_all
  rwa [e] at this
theorem rows_of_trod {H : Type} {enc : TypeId × Value → H} {P : Program} {w : World} {base : Nat} {held : Bool} {t e q : TypeId} {fuel : Nat} {a : Option Addr} {len cap : Nat} {x : DataW H × List MemPlace}
    (ht : P.underlying t = some (.slice e)) (he : P.underlying e = some (.slice q)) (hq : P.underlying q = some (.int .i64)) (ce : P.cellsOf e = 1) (cq : P.cellsOf q = 1)
    (h : DataW.trod enc P w base (fun _ => true) held fuel t (Value.slice a len cap).cells.toList = some x) : ∃ xss, Rows2 w (.slice a len cap) xss := by
  rcases Go.Deep.open_int_rows ht he hq ce cq h with ⟨hcs, _⟩ | ⟨a', len', cap', A, L, C, Z, hcs, _, hl, hm, _, hrow⟩
  · simp [Value.cells] at hcs
    obtain ⟨rfl, rfl, rfl⟩ := hcs
    exact ⟨[], none, 0, rfl, Nat.le_refl _, Nat.zero_le _, fun i hi => by simp at hi⟩
  · simp [Value.cells] at hcs
    obtain ⟨rfl, rfl, rfl⟩ := hcs
    have hlen : ((List.range len).map fun r => (Z r).take (L r)).length = len := by simp
    refine ⟨(List.range len).map fun r => (Z r).take (L r), some a', cap, by rw [hlen], by rw [hlen]; exact hl, hm, fun i hi => ?_⟩
    rw [hlen] at hi
    obtain ⟨b, o, rfl, hcells⟩ := addr_at (w := w) (n := cap) (f := fun r => .slice (A r) (L r) (C r)) (fun r hr => (hrow r hr).1) (by omega)
    obtain ⟨_, h1, h2, h3, _, _, h6⟩ := hrow i (by omega)
    have hg : ((List.range len).map fun r => (Z r).take (L r)).getD i [] = (Z i).take (L i) := by rw [getD_lt (by simpa using hi)]; simp
    have hzl : ((Z i).take (L i)).length = L i := by rw [List.length_take]; omega
    refine ⟨b, o, _, rfl, hcells i (by omega), ?_⟩
    rw [hg]
    refine ⟨A i, C i, by rw [hzl], by rw [hzl]; exact h1, h2, fun m hm' => ?_⟩
    rw [hzl] at hm'
    cases hA : A i with
    | none =>
      have := (hrow i (by omega)).2.2.2.2.2.1 hA
      omega
    | some a'' =>
      obtain ⟨_, h7⟩ := h6 a'' hA
      obtain ⟨g, p, rfl, hgc⟩ := addr_at (w := w) (n := C i) (f := fun c => .int .i64 ((Z i).getD c 0)) h7 (by omega)
      refine ⟨g, p, rfl, (hgc m (by omega)).trans ?_⟩
      congr 2
      rw [getD_lt (show m < (Z i).length by omega), getD_lt (show m < ((Z i).take (L i)).length by omega)]
      simp
end Go.Proofs.Ytaalnjinocicgaa
