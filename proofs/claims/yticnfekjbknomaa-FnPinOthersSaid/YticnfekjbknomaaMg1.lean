/- What the proofs stand on, part 1: Mem Eq Sz To ToTo Mark Held Copy Valid MatW SpecMem Chg Arr Draw. -/
import Derived.WalkKit
import Derived.ProofKit
import Derived.OpenShut
import Derived.Below
import Derived.Lib.Hide
import Derived.Deep.Draws
import Derived.Deep.OwnRows
import Derived.Test.YticnfekjbknomaaRows
import Derived.Deep.QuietTactic
import Derived.BigQuiet
import Derived.LoopTactic
import Derived.Outline
import Derived.OwnWalk
import Derived.Laws.AppendOwn
import Derived.Maps.AppendAt
import Derived.Deep.MidRow
import Derived.Deep.WholeRow
import Derived.Laws.ResultCell
import Derived.Handy
import Derived.Tactics
/- Slices of numbers and slices of such slices, said of a world's cells: what they read as, and which blocks they lie in; shared by the proofs of memories. -/
namespace Go.Proofs.Yticnfekjbknomaa
open Go.ChangeShapes Go.WideShapes Go.ChangeAt Go.RowKit

/-- the slice v holds the numbers xs -/
def Ints (w : World) (v : Value) (xs : List Int) : Prop :=
  ∃ (a : Option Addr) (cap : Nat), v = .slice a xs.length cap ∧ xs.length ≤ cap ∧ cap ≤ maxLen ∧
    ∀ i, i < xs.length → ∃ b o, a = some ⟨b, o, none⟩ ∧ w.cell? ⟨b, o + i, none⟩ = some (.int .i64 (xs.getD i 0))

/-- the slice v holds slices that hold the numbers of xss -/
def Rows2 (w : World) (v : Value) (xss : List (List Int)) : Prop :=
  ∃ (a : Option Addr) (cap : Nat), v = .slice a xss.length cap ∧ xss.length ≤ cap ∧ cap ≤ maxLen ∧
    ∀ i, i < xss.length → ∃ b o u, a = some ⟨b, o, none⟩ ∧ w.cell? ⟨b, o + i, none⟩ = some u ∧ Ints w u (xss.getD i [])

theorem Ints.drewN {w : World} {v : Value} {xs : List Int} (h : Ints w v xs) (n : Nat) : Ints (w.drewN n) v xs := h
theorem Rows2.drewN {w : World} {v : Value} {xss : List (List Int)} (h : Rows2 w v xss) (n : Nat) : Rows2 (w.drewN n) v xss := h

theorem getD_lt {α : Type} {l : List α} {i : Nat} {d : α} (h : i < l.length) : l.getD i d = l[i] := by simp [List.getD, h]
theorem take_snoc_getD {α : Type} (l : List α) (k : Nat) (d : α) (h : k < l.length) : l.take (k + 1) = l.take k ++ [l.getD k d] := by
  rw [getD_lt h, List.take_succ_eq_append_getElem h]
theorem take_all {α : Type} {l : List α} {k : Nat} (h : k = l.length) : l.take k = l := by rw [h, List.take_length]
theorem take_eq_succ {α : Type} {xs ys : List α} {d : α} {k : Nat} (hl : xs.length = ys.length) (hk : k < xs.length) (h : xs.take k = ys.take k) (he : xs.getD k d = ys.getD k d) : xs.take (k + 1) = ys.take (k + 1) := by
  rw [take_snoc_getD xs k d hk, take_snoc_getD ys k d (by omega), h, he]
theorem eq_of_take {α : Type} {xs ys : List α} {k : Nat} (hl : xs.length = ys.length) (hk : k = xs.length) (h : xs.take k = ys.take k) : xs = ys := by
  have h1 := take_all hk
  have h2 := take_all (l := ys) (k := k) (by omega)
  rw [← h1, ← h2, h]
theorem ne_of_getD {α : Type} {xs ys : List α} {d : α} {k : Nat} (h : xs.getD k d ≠ ys.getD k d) : xs ≠ ys := fun e => h (by rw [e])
end Go.Proofs.Yticnfekjbknomaa
/- What the comparing helpers of the laws return: true exactly if both lists hold the same numbers; they change nothing. -/
namespace Go.Proofs.Yticnfekjbknomaa
open Go.ChangeShapes Go.WideShapes Go.ChangeAt Go.RowKit
set_option linter.unusedVariables false

/-- the call returns v and changes nothing -/
def Reads (v : Value) (w : World) (e : Ending) (w' : World) : Prop := e = .returned v ∧ ∃ n, w' = w.drewN n
theorem reads_mk {b c : Bool} {w : World} {n : Nat} (h : b = c) : Reads (.bool c) w (.returned (.bool b)) (w.drewN n) := ⟨by rw [h], n, rfl⟩
theorem reads_mk0 {b c : Bool} {w : World} (h : b = c) : Reads (.bool c) w (.returned (.bool b)) w := ⟨by rw [h], 0, rfl⟩

theorem reads_mk2 {b c : Bool} {w : World} {n m : Nat} (h : b = c) : Reads (.bool c) w (.returned (.bool b)) ((w.drewN n).drewN m) := ⟨by rw [h], n + m, by rw [World.drewN_drewN]⟩
theorem reads_add {P : Program} {f : FuncId} {args : Array Value} {w : World} {a n : Nat} {v : Value} (h : Calls P f args (w.drewN (a + n)) (Reads v (w.drewN (a + n)))) :
    Calls P f args (w.drewN (a + n)) fun e w'' => e = .returned v ∧ ∃ m, w'' = w.drewN (a + m) :=
  h.mono fun _ _ ⟨he, m, hm⟩ => ⟨he, n + m, by rw [hm, World.drewN_drewN, Nat.add_assoc]⟩
theorem reads_at {P : Program} {f : FuncId} {args : Array Value} {w : World} {n : Nat} {v : Value} (h : Calls P f args (w.drewN n) (Reads v (w.drewN n))) :
    Calls P f args (w.drewN n) fun e w'' => e = .returned v ∧ ∃ m, w'' = w.drewN m :=
  h.mono fun _ _ ⟨he, m, hm⟩ => ⟨he, n + m, by rw [hm, World.drewN_drewN]⟩

theorem eqIntS_any (w : World) (va vb : Value) (xs ys : List Int) (ha : Ints w va xs) (hb : Ints w vb ys) :
    Calls Try.prog 55 #[va, vb] w (Reads (.bool (decide (xs = ys))) w) := by
  obtain ⟨a, ca, rfl, hla, hma, hxa⟩ := ha
  obtain ⟨b, cb, rfl, hlb, hmb, hxb⟩ := hb
  unfold maxLen at hma hmb
  by_cases hl : xs.length = ys.length
  · obtain ⟨n, hn⟩ : ∃ n, n = xs.length := ⟨_, rfl⟩
    have hn2 : ys.length = n := by omega
    rw [← hn] at hla hxa ⊢
    rw [hn2] at hlb hxb ⊢
    have HN := Lib.hid hn
    have HN2 := Lib.hid hn2
    clear hn hn2 hl
    go_enter Try.func55, Try.ntmps55
    go_wp2
    go_loopw [5] (fun i wr => ∃ k d : Nat, k ≤ n ∧ i = .int .i64 k ∧ Hid (xs.take k = ys.take k) ∧ wr = w.drewN d) (fun i _ => n - (intOf i).toNat)
    case atStart => exact ⟨0, 0, Nat.zero_le _, rfl, Lib.hid rfl, rfl⟩
    case round =>
      obtain ⟨k, d, hk, rfl, HT, rfl⟩ := hrel
      by_cases hlt : k < n
      · obtain ⟨ba, oa, rfl, hca⟩ := hxa k hlt
        obtain ⟨bb, ob, rfl, hcb⟩ := hxb k hlt
        generalize hx : xs.getD k 0 = x at hca
        generalize hy : ys.getD k 0 = y at hcb
        have HX := Lib.hid hx
        have HY := Lib.hid hy
        clear hx hy hxa hxb
        have hlt' : (k : Int) < (n : Int) := by omega
        by_cases he : x = y
        · subst he
          go_wp2_with fail
          go_quiet (fail)
          go_wp2
          go_roundw
          case rel => exact ⟨k + 1, _, by omega, by go_num, Lib.hid (take_eq_succ (d := 0) (HN.out.symm.trans HN2.out.symm) (by have := HN.out; omega) HT.out (HX.out.trans HY.out.symm)), rfl⟩
          case measure => simp [intOf]; omega
        · have hne : (x != y) = true := by simpa using he
          have HE : Hid (¬ x = y) := Lib.hid he
          clear he
          go_wp2_with fail
          go_quiet (fail)
          go_wp2
          go_ret
          exact reads_mk2 (by symm; exact decide_eq_false (ne_of_getD (d := 0) (k := k) (fun h => HE.out (HX.out.symm.trans (h.trans HY.out)))))
      · go_wp2
        go_ret
        exact reads_mk (by symm; exact decide_eq_true (eq_of_take (HN.out.symm.trans HN2.out.symm) (by have := HN.out; omega) HT.out))
  · have hne : ((xs.length : Int) != (ys.length : Int)) = true := by simp; omega
    have HL := Lib.hid hl
    clear hl
    go_enter Try.func55, Try.ntmps55
    go_wp2
    go_ret
    exact reads_mk0 (by symm; exact decide_eq_false (fun h => HL.out (by rw [h])))

theorem eqIntSS_any (w : World) (va vb : Value) (xs ys : List (List Int)) (ha : Rows2 w va xs) (hb : Rows2 w vb ys) :
    Calls Try.prog 52 #[va, vb] w (Reads (.bool (decide (xs = ys))) w) := by
  obtain ⟨a, ca, rfl, hla, hma, hxa⟩ := ha
  obtain ⟨b, cb, rfl, hlb, hmb, hxb⟩ := hb
  unfold maxLen at hma hmb
  by_cases hl : xs.length = ys.length
  · obtain ⟨n, hn⟩ : ∃ n, n = xs.length := ⟨_, rfl⟩
    have hn2 : ys.length = n := by omega
    rw [← hn] at hla hxa ⊢
    rw [hn2] at hlb hxb ⊢
    have HN := Lib.hid hn
    have HN2 := Lib.hid hn2
    clear hn hn2 hl
    go_enter Try.func52, Try.ntmps52
    go_wp2
    go_loopw [5] (fun i wr => ∃ k d : Nat, k ≤ n ∧ i = .int .i64 k ∧ Hid (xs.take k = ys.take k) ∧ wr = w.drewN d) (fun i _ => n - (intOf i).toNat)
    case atStart => exact ⟨0, 0, Nat.zero_le _, rfl, Lib.hid rfl, rfl⟩
    case round =>
      obtain ⟨k, d, hk, rfl, HT, rfl⟩ := hrel
      by_cases hlt : k < n
      · obtain ⟨ba, oa, ua, rfl, hca, hia⟩ := hxa k hlt
        obtain ⟨bb, ob, ub, rfl, hcb, hib⟩ := hxb k hlt
        generalize hx : xs.getD k [] = x at hia
        generalize hy : ys.getD k [] = y at hib
        have HX := Lib.hid hx
        have HY := Lib.hid hy
        clear hx hy hxa hxb
        have hlt' : (k : Int) < (n : Int) := by omega
        have HA := Lib.hid hia
        have HB := Lib.hid hib
        clear hia hib
        by_cases he : x = y
        · have hd : decide (x = y) = true := decide_eq_true he
          have HE := Lib.hid he
          clear he
          have HC : ∀ m, Calls Try.prog 55 #[ua, ub] (w.drewN m) (Reads (.bool true) (w.drewN m)) := fun m => by
            have := eqIntS_any (w.drewN m) ua ub x y HA.out HB.out
            rw [hd] at this
            exact this
          have HC' := Lib.hid HC
          clear HC hd
          go_wp2_with fail
          go_quiet ((go_at_call 55; exact reads_add (HC'.out _)))
          go_wp2
          go_roundw
          case rel => exact ⟨k + 1, _, by omega, by go_num, Lib.hid (take_eq_succ (d := []) (HN.out.symm.trans HN2.out.symm) (by have := HN.out; omega) HT.out (HX.out.trans (HE.out.trans HY.out.symm))), rfl⟩
          case measure => simp [intOf]; omega
        · have hd : decide (x = y) = false := decide_eq_false he
          have HE : Hid (¬ x = y) := Lib.hid he
          clear he
          have HC : ∀ m, Calls Try.prog 55 #[ua, ub] (w.drewN m) (Reads (.bool false) (w.drewN m)) := fun m => by
            have := eqIntS_any (w.drewN m) ua ub x y HA.out HB.out
            rw [hd] at this
            exact this
          have HC' := Lib.hid HC
          clear HC hd
          go_wp2_with fail
          go_quiet ((go_at_call 55; exact reads_add (HC'.out _)))
          go_wp2
          go_ret
          exact reads_mk2 (by symm; exact decide_eq_false (ne_of_getD (d := []) (k := k) (fun h => HE.out (HX.out.symm.trans (h.trans HY.out)))))
      · go_wp2
        go_ret
        exact reads_mk (by symm; exact decide_eq_true (eq_of_take (HN.out.symm.trans HN2.out.symm) (by have := HN.out; omega) HT.out))
  · have hne : ((xs.length : Int) != (ys.length : Int)) = true := by simp; omega
    have HL := Lib.hid hl
    clear hl
    go_enter Try.func52, Try.ntmps52
    go_wp2
    go_ret
    exact reads_mk0 (by symm; exact decide_eq_false (fun h => HL.out (by rw [h])))
end Go.Proofs.Yticnfekjbknomaa
/- What the counting helpers of the laws return: a number below 0, or what is left of the bound behind the numbers of all rows; and what the reference's check of a memory returns. They change nothing. -/
namespace Go.Proofs.Yticnfekjbknomaa
open Go.ChangeShapes Go.WideShapes Go.ChangeAt Go.RowKit
set_option linter.unusedVariables false

def total (xss : List (List Int)) : Nat := (xss.map List.length).sum
theorem total_snoc (xss : List (List Int)) (k : Nat) (h : k < xss.length) : total (xss.take (k + 1)) = total (xss.take k) + (xss.getD k []).length := by
  rw [take_snoc_getD xss k [] h]; simp [total]

theorem szIntS_any (w : World) (v : Value) (xs : List Int) (left : Int) (h : Ints w v xs) (h0 : 0 ≤ left) (h1 : left ≤ 1048576) :
    Calls Try.prog 94 #[v, .int .i64 left] w fun e w' => e = .returned (.int .i64 (if left < xs.length then -1 else left - xs.length)) ∧ w = w' := by
  obtain ⟨a, ca, rfl, hla, hma, hxa⟩ := h
  clear hxa
  unfold maxLen at hma
  generalize xs.length = n at *
  by_cases hl : left < n
  · have hd : left - (n : Int) < 0 := by omega
    rw [if_pos hl]
    go_enter Try.func94, Try.ntmps94
    go_wp2
    go_ret
    exact ⟨rfl, rfl⟩
  · have hd : decide (left - (n : Int) < 0) = false := by simp; omega
    have hd2 : decide (left < (n : Int)) = false := by simp; omega
    rw [if_neg hl]
    clear hl
    go_enter Try.func94, Try.ntmps94
    go_wp2
    go_ret
    exact ⟨rfl, rfl⟩

/-- below 0; or all numbers and all rows together with it make 'left' -/
def Left (xss : List (List Int)) (left : Int) (w : World) (e : Ending) (w' : World) : Prop :=
  ∃ r : Int, (r < 0 ∨ (0 ≤ r ∧ r + xss.length + total xss = left)) ∧ e = .returned (.int .i64 r) ∧ w = w'
theorem left_neg {xss : List (List Int)} {left : Int} {w : World} : Left xss left w (.returned (.int .i64 (-1))) w := ⟨-1, .inl (by omega), rfl, rfl⟩

theorem szIntSS_any (w : World) (v : Value) (xss : List (List Int)) (left : Int) (h : Rows2 w v xss) (h0 : 0 ≤ left) (h1 : left ≤ 1048576) :
    Calls Try.prog 46 #[v, .int .i64 left] w (Left xss left w) := by
  obtain ⟨a, ca, rfl, hla, hma, hxa⟩ := h
  unfold maxLen at hma
  obtain ⟨n, hn⟩ : ∃ n, n = xss.length := ⟨_, rfl⟩
  rw [← hn] at hla hxa ⊢
  have HN := Lib.hid hn
  clear hn
  by_cases hl : left < n
  · have hd : left - (n : Int) < 0 := by omega
    go_enter Try.func46, Try.ntmps46
    go_wp2
    go_ret
    exact left_neg
  · have hd : decide (left - (n : Int) < 0) = false := by simp; omega
    have hd2 : decide (left < (n : Int)) = false := by simp; omega
    go_enter Try.func46, Try.ntmps46
    go_wp2
    go_loop [1, 5] (fun l i => ∃ (k : Nat) (r : Int), k ≤ n ∧ i = .int .i64 k ∧ l = .int .i64 r ∧ 0 ≤ r ∧ r ≤ 1048576 ∧ Hid (r + n + total (xss.take k) = left)) (fun _ i => n - (intOf i).toNat)
    case atStart => exact ⟨0, _, Nat.zero_le _, rfl, rfl, by omega, by omega, Lib.hid (by simp [total])⟩
    case round =>
      obtain ⟨k, r, hk, rfl, rfl, hr0, hr1, HT⟩ := hrel
      by_cases hlt : k < n
      · obtain ⟨ba, oa, ua, rfl, hca, hia⟩ := hxa k hlt
        have HS := Lib.hid (total_snoc xss k (by have := HN.out; omega))
        generalize hx : xss.getD k [] = x at hia HS
        clear hx hxa
        have hlt' : (k : Int) < (n : Int) := by omega
        by_cases hc : r < x.length
        · have HC := Lib.hid (szIntS_any w ua x r hia hr0 hr1)
          rw [if_pos hc] at HC
          go_wp2_with (go_at_call 94; refine HC.out.mono ?_; rintro e w' ⟨rfl, rfl⟩)
          go_ret
          exact left_neg
        · have HC := Lib.hid (szIntS_any w ua x r hia hr0 hr1)
          rw [if_neg hc] at HC
          have hc1 : decide (r - (x.length : Int) < 0) = false := by simp; omega
          have hc2 : decide (r < (x.length : Int)) = false := by simp; omega
          have hc3 : 0 ≤ r - (x.length : Int) := by omega
          go_wp2_with (go_at_call 94; refine HC.out.mono ?_; rintro e w' ⟨rfl, rfl⟩)
          go_round
          case rel => exact ⟨k + 1, r - x.length, by omega, by go_num, by go_num, by omega, by omega, Lib.hid (by have := HS.out; have := HT.out; omega)⟩
          case measure => simp [intOf]; omega
      · go_wp2
        go_ret
        exact ⟨r, .inr ⟨hr0, by have := HT.out; have := HN.out; rw [take_all (by omega)] at *; omega⟩, rfl, rfl⟩

/-- a frame's words -/
def wordsOk (xs : List Int) : Bool := decide ((∀ x ∈ xs, 0 ≤ x ∧ x ≤ 9999) ∧ xs.length = 4)
def memOk (xss : List (List Int)) : Bool := decide ((∀ xs ∈ xss, wordsOk xs = true) ∧ xss.length = 12)
end Go.Proofs.Yticnfekjbknomaa
/- What the copying helpers of the laws return: new rows with the same numbers; nothing that was there changes. -/
namespace Go.Proofs.Yticnfekjbknomaa
open Go.ChangeShapes Go.WideShapes Go.ChangeAt Go.RowKit
set_option linter.unusedVariables false

theorem intInfo : (Try.prog.info? 3).map (fun i => (i.zero, i.size, i.bytes)) = some (some (.int .i64 0), 1, 8) := by kernel_rfl
theorem intsInfo : (Try.prog.info? 34).map (fun i => (i.zero, i.size, i.bytes)) = some (some (.slice none 0 0), 1, 24) := by kernel_rfl
theorem cell_lt {w : World} {b o : Nat} {v : Value} (h : w.cell? ⟨b, o, none⟩ = some v) : b < w.heap.size := by
  rcases Nat.lt_or_ge b w.heap.size with h' | h'
  · exact h'
  · simp [World.cell?, Array.getElem?_eq_none h'] at h
theorem Ints.below {B : Nat} {w w' : World} {v : Value} {xs : List Int} (h : Ints w v xs) (hb : Below w.heap.size w w') : Ints w' v xs := by
  obtain ⟨a, cap, rfl, h1, h2, h3⟩ := h
  refine ⟨a, cap, rfl, h1, h2, fun i hi => ?_⟩
  obtain ⟨b, o, rfl, hc⟩ := h3 i hi
  exact ⟨b, o, rfl, (hb.cell (p := ⟨b, o + i, none⟩) (cell_lt hc)).trans hc⟩
theorem Rows2.below {w w' : World} {v : Value} {xss : List (List Int)} (h : Rows2 w v xss) (hb : Below w.heap.size w w') : Rows2 w' v xss := by
  obtain ⟨a, cap, rfl, h1, h2, h3⟩ := h
  refine ⟨a, cap, rfl, h1, h2, fun i hi => ?_⟩
  obtain ⟨b, o, u, rfl, hc, hu⟩ := h3 i hi
  exact ⟨b, o, u, rfl, (hb.cell (p := ⟨b, o + i, none⟩) (cell_lt hc)).trans hc, Ints.below (B := 0) hu hb⟩

/-- the slice v is the whole of block g, and holds the numbers xs -/
def OwnInts (w : World) (g : Nat) (v : Value) (xs : List Int) : Prop := v = .slice (some ⟨g, 0, none⟩) xs.length xs.length ∧ xs.length ≤ maxLen ∧ w.rowIs g 3 xs.length (fun j => .int .i64 (xs.getD j 0))
theorem OwnInts.ints {w : World} {g : Nat} {v : Value} {xs : List Int} (h : OwnInts w g v xs) : Ints w v xs := by
  obtain ⟨rfl, hm, hr⟩ := h
  exact ⟨_, _, rfl, Nat.le_refl _, hm, fun i hi => ⟨g, 0, rfl, by simpa using hr.cell hi⟩⟩
theorem OwnInts.of_block {w w' : World} {g : Nat} {v : Value} {xs : List Int} (h : OwnInts w g v xs) (e : w'.heap[g]? = w.heap[g]?) : OwnInts w' g v xs := ⟨h.1, h.2.1, h.2.2.of_block e⟩
theorem OwnInts.lt {w : World} {g : Nat} {v : Value} {xs : List Int} (h : OwnInts w g v xs) : g < w.heap.size := h.2.2.lt

def cont (xs : List Int) (k : Nat) (j : Nat) : Value := if j < k then .int .i64 (xs.getD j 0) else .int .i64 0
theorem cont_step {xs : List Int} {k : Nat} (j : Nat) : (if j = k then Value.int .i64 (xs.getD k 0) else cont xs k j) = cont xs (k + 1) j := by
  unfold cont
  by_cases h : j = k
  · subst h; simp
  · by_cases h2 : j < k
    · rw [if_neg h, if_pos h2, if_pos (by omega)]
    · rw [if_neg h, if_neg h2, if_neg (by omega)]

theorem own_mk {w : World} {g n : Nat} {xs : List Int} (hN : n = xs.length) (hn : n ≤ 1048576) (hr : w.rowIs g 3 n (cont xs n)) : OwnInts w g (.slice (some ⟨g, 0, none⟩) n n) xs := by
  subst hN
  exact ⟨rfl, by unfold maxLen; omega, hr.congr (fun j hj => by simp [cont, hj])⟩
/-- a new slice of numbers -/
def ToInts (xs : List Int) (w : World) (e : Ending) (w' : World) : Prop :=
  ∃ v, e = .returned v ∧ OwnInts w' w.heap.size v xs ∧ Below w.heap.size w w' ∧ w'.heap.size = w.heap.size + 1

theorem toIntS_any (w : World) (v : Value) (xs : List Int) (h : Ints w v xs) (hn : xs.length ≤ 1048576) :
    Calls Try.prog 96 #[v] w (ToInts xs w) := by
  obtain ⟨a, ca, rfl, hla, hma, hxa⟩ := h
  unfold maxLen at hma
  obtain ⟨n, hN⟩ : ∃ n, n = xs.length := ⟨_, rfl⟩
  rw [← hN] at hla hxa hn ⊢
  have HN := Lib.hid hN
  clear hN
  have hmk := run_make_row' (P := Try.prog) 34 3 (.int .i64 0) 8 Try.underlying34 intInfo rfl .i64 .i64 n (by omega) (by omega)
  go_enter Try.func96, Try.ntmps96
  go_wp2
  clear hmk
  go_loopw [4] (fun i wr => ∃ k : Nat, k ≤ n ∧ i = .int .i64 k ∧ Below w.heap.size w wr ∧ wr.rowIs w.heap.size 3 n (cont xs k) ∧ Hid (wr.heap.size = w.heap.size + 1)) (fun i _ => n - (intOf i).toNat)
  case atStart => exact ⟨0, Nat.zero_le _, rfl, (Below.refl _ _).alloc (Nat.le_refl _) _, (World.rowIs_made w (.int .i64 0) n 3).congr (fun j _ => by simp [cont]), Lib.hid (by simp)⟩
  case round =>
    obtain ⟨k, hk, rfl, hbel, hrow, HS⟩ := hrel
    by_cases hlt : k < n
    · obtain ⟨b, o, rfl, hc⟩ := hxa k hlt
      have hb := cell_lt hc
      have hcr := (hbel.cell (p := ⟨b, o + k, none⟩) hb).trans hc
      have hdst := hrow.cell hlt
      have hfr := hrow.frozen k
      generalize hx : xs.getD k 0 = x at hcr
      have HX := Lib.hid hx
      clear hx hc hxa
      have hlt' : (k : Int) < (n : Int) := by omega
      go_wp2
      go_roundw
      case rel => exact ⟨k + 1, by omega, by go_num, hbel.setCell (p := ⟨w.heap.size, k, none⟩) (Nat.le_refl _) _, (hrow.set k _).congr (fun j _ => by rw [← HX.out]; exact cont_step j), Lib.hid (by have := HS.out; simpa [World.setCell] using this)⟩
      case measure => simp [intOf]; omega
    · go_wp2
      go_ret
      have e : k = n := by omega
      subst e
      exact ⟨_, rfl, own_mk HN.out hn hrow, hbel, HS.out⟩
end Go.Proofs.Yticnfekjbknomaa
/- What the helper of the laws that copies a memory returns: new rows in new blocks with the same numbers; nothing that was there changes. -/
namespace Go.Proofs.Yticnfekjbknomaa
open Go.ChangeShapes Go.WideShapes Go.ChangeAt Go.RowKit
set_option linter.unusedVariables false

/-- rows in blocks of their own: the upper one in block g, the others behind it, one after the other -/
def OwnRows (w : World) (g : Nat) (v : Value) (xss : List (List Int)) : Prop :=
  v = .slice (some ⟨g, 0, none⟩) xss.length xss.length ∧ xss.length ≤ maxLen ∧
    w.rowIs g 34 xss.length (fun j => .slice (some ⟨g + 1 + j, 0, none⟩) (xss.getD j []).length (xss.getD j []).length) ∧
    ∀ j, j < xss.length → OwnInts w (g + 1 + j) (.slice (some ⟨g + 1 + j, 0, none⟩) (xss.getD j []).length (xss.getD j []).length) (xss.getD j [])

def topc (xss : List (List Int)) (g k : Nat) (j : Nat) : Value := if j < k then .slice (some ⟨g + 1 + j, 0, none⟩) (xss.getD j []).length (xss.getD j []).length else .slice none 0 0
theorem topc_step {xss : List (List Int)} {g k : Nat} (j : Nat) : (if j = k then Value.slice (some ⟨g + 1 + k, 0, none⟩) (xss.getD k []).length (xss.getD k []).length else topc xss g k j) = topc xss g (k + 1) j := by
  unfold topc
  by_cases h : j = k
  · subst h; simp
  · by_cases h2 : j < k
    · rw [if_neg h, if_pos h2, if_pos (by omega)]
    · rw [if_neg h, if_neg h2, if_neg (by omega)]

/-- a new memory: its upper row in the first new block -/
def ToRows (xss : List (List Int)) (w : World) (e : Ending) (w' : World) : Prop :=
  ∃ v, e = .returned v ∧ OwnRows w' w.heap.size v xss ∧ Below w.heap.size w w' ∧ w'.heap.size = w.heap.size + 1 + xss.length
theorem own_rows_mk {w : World} {g n : Nat} {xss : List (List Int)} (hN : n = xss.length) (hn : n ≤ 1048576) (hr : w.rowIs g 34 n (topc xss g n))
    (hx : ∀ j, j < n → OwnInts w (g + 1 + j) (.slice (some ⟨g + 1 + j, 0, none⟩) (xss.getD j []).length (xss.getD j []).length) (xss.getD j [])) : OwnRows w g (.slice (some ⟨g, 0, none⟩) n n) xss := by
  subst hN
  exact ⟨rfl, by unfold maxLen; omega, hr.congr (fun j hj => by simp [topc, hj]), hx⟩
theorem len_le_total (xss : List (List Int)) (j : Nat) (h : j < xss.length) : (xss.getD j []).length ≤ total xss := by
  induction xss generalizing j with
  | nil => simp at h
  | cons x xs ih =>
    cases j with
    | zero => simp [total]
    | succ j => have := ih j (by simpa using h); simp [total] at this ⊢; omega

theorem toIntSS_any (w : World) (v : Value) (xss : List (List Int)) (h : Rows2 w v xss) (hn : xss.length + total xss ≤ 1048576) :
    Calls Try.prog 49 #[v] w (ToRows xss w) := by
  obtain ⟨a, ca, rfl, hla, hma, hxa⟩ := h
  unfold maxLen at hma
  have hlen := len_le_total xss
  obtain ⟨n, hN⟩ : ∃ n, n = xss.length := ⟨_, rfl⟩
  rw [← hN] at hla hxa hn hlen ⊢
  have HN := Lib.hid hN
  clear hN
  have HLEN := Lib.hid hlen
  clear hlen
  have hmk := run_make_row' (P := Try.prog) 26 34 (.slice none 0 0) 24 Try.underlying26 intsInfo rfl .i64 .i64 n (by omega) (by omega)
  go_enter Try.func49, Try.ntmps49
  go_wp2
  clear hmk
  go_loopw [4] (fun i wr => ∃ k : Nat, k ≤ n ∧ i = .int .i64 k ∧ Below w.heap.size w wr ∧ wr.rowIs w.heap.size 34 n (topc xss w.heap.size k) ∧ Hid (wr.heap.size = w.heap.size + 1 + k) ∧
    Hid (∀ j, j < k → OwnInts wr (w.heap.size + 1 + j) (.slice (some ⟨w.heap.size + 1 + j, 0, none⟩) (xss.getD j []).length (xss.getD j []).length) (xss.getD j []))) (fun i _ => n - (intOf i).toNat)
  case atStart => exact ⟨0, Nat.zero_le _, rfl, (Below.refl _ _).alloc (Nat.le_refl _) _, (World.rowIs_made w (.slice none 0 0) n 34).congr (fun j _ => by simp [topc]), Lib.hid (by simp), Lib.hid (fun j hj => by omega)⟩
  case round =>
    obtain ⟨k, hk, rfl, hbel, hrow, HS, HR⟩ := hrel
    by_cases hlt : k < n
    · obtain ⟨b, o, u, rfl, hc, hu⟩ := hxa k hlt
      have hb := cell_lt hc
      have hcr := (hbel.cell (p := ⟨b, o + k, none⟩) hb).trans hc
      have hur := Ints.below (B := 0) hu hbel
      have HC := Lib.hid (toIntS_any wr u _ hur (by have := HLEN.out k hlt; omega))
      clear hc hxa hu hur
      have hlt' : (k : Int) < (n : Int) := by omega
      go_wp2_with fail
      refine HC.out.mono ?_
      rintro e w2 ⟨v, rfl, ho, hb2, hs2⟩
      have hsz := HS.out
      rw [hsz] at ho hb2
      have hs3 : Hid (w2.heap.size = w.heap.size + 1 + (k + 1)) := Lib.hid (by omega)
      clear hs2
      obtain rfl := ho.1
      have hrow2 : w2.rowIs w.heap.size 34 n (topc xss w.heap.size k) := hrow.of_block (hb2.block _ (by omega))
      have hdst := hrow2.cell hlt
      have hfr := hrow2.frozen k
      have hbel2 : Below w.heap.size w w2 := hbel.trans (hb2.mono (by omega))
      have HR2 : Hid (∀ j, j < k + 1 → OwnInts (w2.setCell ⟨w.heap.size, k, none⟩ (.slice (some ⟨w.heap.size + 1 + k, 0, none⟩) (xss.getD k []).length (xss.getD k []).length)) (w.heap.size + 1 + j) (.slice (some ⟨w.heap.size + 1 + j, 0, none⟩) (xss.getD j []).length (xss.getD j []).length) (xss.getD j [])) := Lib.hid (fun j hj => by
        refine OwnInts.of_block ?_ (Below.heap_setCell _ _ _ _ (by show w.heap.size + 1 + j ≠ w.heap.size; omega))
        by_cases hjk : j = k
        · subst hjk; exact ho
        · exact (HR.out j (by omega)).of_block (hb2.block _ (by omega)))
      have HO := Lib.hid ho
      clear ho hsz HS
      go_wp2_with fail
      go_roundw
      case rel => exact ⟨k + 1, by omega, by go_num, hbel2.setCell (p := ⟨w.heap.size, k, none⟩) (Nat.le_refl _) _, (hrow2.set k _).congr (fun j _ => topc_step j), Lib.hid (by have := hs3.out; simpa [World.setCell] using this), HR2⟩
      case measure => simp [intOf]; omega
    · go_wp2
      go_ret
      have e : k = n := by omega
      subst e
      exact ⟨_, rfl, own_rows_mk HN.out (by omega) hrow HR.out, hbel, by rw [← HN.out]; exact HS.out⟩
end Go.Proofs.Yticnfekjbknomaa
/- What the marking and the holding helpers of the laws do to rows: the first writes consecutive numbers into the cells of the rows alone, the second tells that they stand there. -/
namespace Go.Proofs.Yticnfekjbknomaa
open Go.ChangeShapes Go.WideShapes Go.ChangeAt Go.RowKit
set_option linter.unusedVariables false

theorem cell_set_same {w : World} {g p : Nat} {u v : Value} (h : w.cell? ⟨g, p, none⟩ = some u) : (w.setCell ⟨g, p, none⟩ v).cell? ⟨g, p, none⟩ = some v := by
  unfold World.cell? at h ⊢
  simp only [World.setCell, Array.getElem?_modify, if_pos]
  cases hb : w.heap[g]? with
  | none => rw [hb] at h; simp at h
  | some o =>
    rw [hb] at h
    cases o with
    | cells c t f =>
      have hp : p < c.size := by
        rcases Nat.lt_or_ge p c.size with h' | h'
        · exact h'
        · simp [Array.getElem?_eq_none h'] at h
      simp [hp]
    | _ => simp at h
theorem cell_set_other {w : World} {g p c o : Nat} {v : Value} (h : c ≠ g ∨ o ≠ p) : (w.setCell ⟨g, p, none⟩ v).cell? ⟨c, o, none⟩ = w.cell? ⟨c, o, none⟩ := by
  by_cases hc : c = g
  · subst hc
    have ho : o ≠ p := by rcases h with h | h <;> omega
    unfold World.cell?
    simp only [World.setCell, Array.getElem?_modify, if_pos]
    cases hb : w.heap[c]? with
    | none => rfl
    | some o =>
      cases o with
      | cells d t f => simp [Ne.symm ho]
      | _ => rfl
  · exact World.cell?_of_block (Below.heap_setCell w ⟨g, p, none⟩ v c hc)
theorem frozen_set {w : World} {a : Addr} {v : Value} (b : Addr) : (w.setCell a v).frozen? b = w.frozen? b := by
  unfold World.frozen?
  by_cases hc : b.block = a.block
  · simp only [World.setCell, Array.getElem?_modify, hc, if_pos]
    cases hb : w.heap[a.block]? with
    | none => rfl
    | some o => cases o <;> rfl
  · rw [Below.heap_setCell w a v b.block hc]

/-- n cells from p on in block g have been written, from k on one after the other; nothing else has changed -/
structure Marked (a : Option Addr) (n : Nat) (k : Int) (w w' : World) : Prop where
  os : w'.os = w.os
  tape : w'.tape = w.tape
  output : w'.output = w.output
  size : w'.heap.size = w.heap.size
  block : ∀ b, (∀ p, n = 0 ∨ a ≠ some ⟨b, p, none⟩) → w'.heap[b]? = w.heap[b]?
  frozen : ∀ b, w'.frozen? b = w.frozen? b
  inside : ∀ g p, a = some ⟨g, p, none⟩ → ∀ i, i < n → w'.cell? ⟨g, p + i, none⟩ = some (.int .i64 (k + i))
  outside : ∀ g p, a = some ⟨g, p, none⟩ → ∀ o, (o < p ∨ p + n ≤ o) → w'.cell? ⟨g, o, none⟩ = w.cell? ⟨g, o, none⟩
theorem Marked.zero (a : Option Addr) (k : Int) (w : World) : Marked a 0 k w w := ⟨rfl, rfl, rfl, rfl, fun _ _ => rfl, fun _ => rfl, fun _ _ _ i hi => by omega, fun _ _ _ _ _ => rfl⟩
theorem Marked.step {g p n : Nat} {k : Int} {w w' : World} (h : Marked (some ⟨g, p, none⟩) n k w w') {u : Value} (hc : w.cell? ⟨g, p + n, none⟩ = some u) :
    Marked (some ⟨g, p, none⟩) (n + 1) k w (w'.setCell ⟨g, p + n, none⟩ (.int .i64 (k + n))) := by
  refine ⟨h.os, h.tape, h.output, by simpa [World.setCell] using h.size, fun b hb => ?_, fun b => (frozen_set b).trans (h.frozen b), fun g' p' e i hi => ?_, fun g' p' e o ho => ?_⟩
  · have : b ≠ g := fun e => by
      rcases hb p with h' | h'
      · omega
      · exact h' (by rw [e])
    exact (Below.heap_setCell w' ⟨g, p + n, none⟩ _ b this).trans (h.block b (fun q => (hb q).elim (fun h' => by omega) .inr))
  · cases e
    by_cases hin : i = n
    · subst hin
      exact cell_set_same ((h.outside g p rfl (p + i) (.inr (Nat.le_refl _))).trans hc)
    · exact (cell_set_other (.inr (by omega))).trans (h.inside g p rfl i (by omega))
  · cases e
    exact (cell_set_other (.inr (by omega))).trans (h.outside g p rfl o (by omega))

/-- the call returns the next number, and has marked -/
def Marks (a : Option Addr) (n : Nat) (k : Int) (w : World) (e : Ending) (w' : World) : Prop := e = .returned (.int .i64 (k + n)) ∧ Marked a n k w w'
theorem marks_mk {a : Option Addr} {n : Nat} {k x : Int} {w w' : World} (h : x = k + n) (hm : Marked a n k w w') : Marks a n k w (.returned (.int .i64 x)) w' := ⟨by rw [h], hm⟩

theorem markIntS_any (w : World) (a : Option Addr) (n cap : Nat) (k : Int) (hn : n ≤ 1048576) (hk : 0 ≤ k) (hk2 : k ≤ 1000000000000)
    (h : ∀ i, i < n → ∃ g p u, a = some ⟨g, p, none⟩ ∧ w.cell? ⟨g, p + i, none⟩ = some u ∧ w.frozen? ⟨g, p + i, none⟩ = false) :
    Calls Try.prog 58 #[.slice a n cap, .int .i64 k] w (Marks a n k w) := by
  have H := Lib.hid h
  clear h
  go_enter Try.func58, Try.ntmps58
  go_wp2
  go_loopw [1, 5] (fun l i wr => ∃ j : Nat, j ≤ n ∧ i = .int .i64 j ∧ l = .int .i64 (k + j) ∧ Marked a j k w wr) (fun _ i _ => n - (intOf i).toNat)
  case atStart => exact ⟨0, Nat.zero_le _, rfl, by simp, Marked.zero _ _ _⟩
  case round =>
    obtain ⟨j, hj, rfl, rfl, hm⟩ := hrel
    by_cases hlt : j < n
    · obtain ⟨g, p, u, rfl, hc, hf⟩ := H.out j hlt
      have hcr := (hm.outside g p rfl (p + j) (.inr (Nat.le_refl _))).trans hc
      have hfr := (hm.frozen _).trans hf
      have hst := Lib.hid (hm.step hc)
      clear hc hf
      have hlt' : (j : Int) < (n : Int) := by omega
      go_wp2
      go_roundw
      case rel => exact ⟨j + 1, by omega, by go_num, by go_num, hst.out⟩
      case measure => simp [intOf]; omega
    · go_wp2
      go_ret
      have e : j = n := by omega
      subst e
      exact marks_mk rfl hm

theorem Marked.cell_same {a : Option Addr} {n : Nat} {k : Int} {w w' : World} (h : Marked a n k w w') (c o : Nat) (hh : ∀ g p, a = some ⟨g, p, none⟩ → c ≠ g ∨ o < p ∨ p + n ≤ o) :
    w'.cell? ⟨c, o, none⟩ = w.cell? ⟨c, o, none⟩ := by
  by_cases he : ∃ p, a = some ⟨c, p, none⟩
  · obtain ⟨p, rfl⟩ := he
    rcases hh c p rfl with h1 | h1
    · exact absurd rfl h1
    · exact h.outside c p rfl o h1
  · exact World.cell?_of_block (h.block c (fun p => .inr (fun e => he ⟨p, e⟩)))

/-- blocks outside B0 .. B1-1 are as they were -/
structure Kept (B0 B1 : Nat) (w w' : World) : Prop where
  os : w'.os = w.os
  tape : w'.tape = w.tape
  output : w'.output = w.output
  size : w'.heap.size = w.heap.size
  block : ∀ b, (b < B0 ∨ B1 ≤ b) → w'.heap[b]? = w.heap[b]?
theorem Kept.refl (B0 B1 : Nat) (w : World) : Kept B0 B1 w w := ⟨rfl, rfl, rfl, rfl, fun _ _ => rfl⟩
theorem Kept.trans {B0 B1 : Nat} {a b c : World} (h : Kept B0 B1 a b) (k : Kept B0 B1 b c) : Kept B0 B1 a c :=
  ⟨k.os.trans h.os, k.tape.trans h.tape, k.output.trans h.output, k.size.trans h.size, fun i hi => (k.block i hi).trans (h.block i hi)⟩
theorem Kept.below {B0 B1 B : Nat} {a b w : World} (h : Kept B0 B1 a b) (hb : Below B w a) (hB : B ≤ B0) : Below B w b :=
  ⟨h.os.trans hb.os, h.tape.trans hb.tape, h.output.trans hb.output, by rw [h.size]; exact hb.size, fun k hk => (h.block k (.inl (by omega))).trans (hb.block k hk)⟩

/-- rows whose cells lie apart, in blocks from B0 to B1-1; the upper row lies in a block of its own -/
structure MatAt (w : World) (B0 B1 : Nat) (a : Option Addr) (n : Nat) (A : Nat → Option Addr) (L C : Nat → Nat) (X : Nat → Nat → Int) : Prop where
  top : ∀ j, j < n → ∃ b o, a = some ⟨b, o, none⟩ ∧ B0 ≤ b ∧ b < B1 ∧ w.cell? ⟨b, o + j, none⟩ = some (.slice (A j) (L j) (C j)) ∧ L j ≤ C j ∧ C j ≤ maxLen ∧ w.frozen? ⟨b, o + j, none⟩ = false
  row : ∀ j, j < n → ∀ i, i < L j → ∃ g p, A j = some ⟨g, p, none⟩ ∧ B0 ≤ g ∧ g < B1 ∧ w.cell? ⟨g, p + i, none⟩ = some (.int .i64 (X j i)) ∧ w.frozen? ⟨g, p + i, none⟩ = false ∧ ∀ b o, a = some ⟨b, o, none⟩ → b ≠ g
  apart : ∀ j, j < n → ∀ j', j' < n → j ≠ j' → 0 < L j → 0 < L j' → ∀ g p g' p', A j = some ⟨g, p, none⟩ → A j' = some ⟨g', p', none⟩ → g ≠ g' ∨ p + L j ≤ p' ∨ p' + L j' ≤ p

def off (L : Nat → Nat) : Nat → Nat
  | 0 => 0
  | j + 1 => off L j + L j
def marks (L : Nat → Nat) (k : Int) (X : Nat → Nat → Int) (m : Nat) (j i : Nat) : Int := if j < m then k + off L j + i else X j i

theorem MatAt.marked {w w' : World} {B0 B1 : Nat} {a : Option Addr} {n : Nat} {A : Nat → Option Addr} {L C : Nat → Nat} {X : Nat → Nat → Int} {k : Int} {m : Nat} (hm : m < n)
    (h : MatAt w B0 B1 a n A L C (marks L k X m)) (hk : Marked (A m) (L m) (k + off L m) w w') : MatAt w' B0 B1 a n A L C (marks L k X (m + 1)) := by
  refine ⟨fun j hj => ?_, fun j hj i hi => ?_, h.apart⟩
  · obtain ⟨b, o, rfl, h1, h2, h3, h4⟩ := h.top j hj
    refine ⟨b, o, rfl, h1, h2, (hk.cell_same b (o + j) fun g p e => ?_).trans h3, h4.1, h4.2.1, (hk.frozen _).trans h4.2.2⟩
    by_cases hL : 0 < L m
    · obtain ⟨g', p', e', _, _, _, _, h5⟩ := h.row m hm 0 hL
      rw [e] at e'; cases e'
      exact .inl (h5 b o rfl)
    · omega
  · obtain ⟨g, p, e, h1, h2, h3, h4, h5⟩ := h.row j hj i hi
    refine ⟨g, p, e, h1, h2, ?_, (hk.frozen _).trans h4, h5⟩
    by_cases hjm : j = m
    · subst hjm
      rw [hk.inside g p e i hi]
      simp [marks]
    · have hx : marks L k X (m + 1) j i = marks L k X m j i := by
        unfold marks
        by_cases h6 : j < m
        · rw [if_pos h6, if_pos (by omega)]
        · rw [if_neg h6, if_neg (by omega)]
      rw [hx]
      refine (hk.cell_same g (p + i) fun g' p' e' => ?_).trans h3
      by_cases hL : 0 < L m
      · rcases h.apart j hj m hm hjm (by omega) hL g p g' p' e e' with h7 | h7 | h7
        · exact .inl h7
        · omega
        · omega
      · omega
theorem MatAt.kept {w w' : World} {B0 B1 : Nat} {a : Option Addr} {n : Nat} {A : Nat → Option Addr} {L C : Nat → Nat} {X : Nat → Nat → Int} {k : Int} {m : Nat} (hm : m < n)
    (h : MatAt w B0 B1 a n A L C X) (hk : Marked (A m) (L m) k w w') : Kept B0 B1 w w' :=
  ⟨hk.os, hk.tape, hk.output, hk.size, fun b hb => hk.block b fun p => by
    by_cases hL : 0 < L m
    · obtain ⟨g, p', e, h1, h2, _⟩ := h.row m hm 0 hL
      refine .inr (fun e' => ?_)
      rw [e] at e'; cases e'
      omega
    · exact .inl (by omega)⟩

/-- the call returns the next number; the rows are marked; other blocks are as they were -/
def MarksAll (B0 B1 : Nat) (a : Option Addr) (n : Nat) (A : Nat → Option Addr) (L C : Nat → Nat) (k : Int) (w : World) (e : Ending) (w' : World) : Prop :=
  e = .returned (.int .i64 (k + off L n)) ∧ MatAt w' B0 B1 a n A L C (fun j i => k + off L j + i) ∧ Kept B0 B1 w w'
theorem marksAll_mk {B0 B1 : Nat} {a : Option Addr} {n : Nat} {A : Nat → Option Addr} {L C : Nat → Nat} {X : Nat → Nat → Int} {k x : Int} {w w' : World} (hx : x = k + off L n)
    (h : MatAt w' B0 B1 a n A L C (marks L k X n)) (hk : Kept B0 B1 w w') : MarksAll B0 B1 a n A L C k w (.returned (.int .i64 x)) w' :=
  ⟨by rw [hx], ⟨h.top, fun j hj i hi => by
    obtain ⟨g, p, e, h1, h2, h3, h4⟩ := h.row j hj i hi
    refine ⟨g, p, e, h1, h2, ?_, h4⟩
    rw [h3]; simp [marks, hj], h.apart⟩, hk⟩

theorem off_mono (L : Nat → Nat) {j n : Nat} (h : j ≤ n) : off L j ≤ off L n := by
  induction n with
  | zero => have : j = 0 := by omega
            rw [this]; exact Nat.le_refl _
  | succ n ih =>
    by_cases hj : j ≤ n
    · exact Nat.le_trans (ih hj) (Nat.le_add_right _ _)
    · have : j = n + 1 := by omega
      rw [this]; exact Nat.le_refl _
theorem off_row (L : Nat → Nat) {j n : Nat} (h : j < n) : off L j + L j ≤ off L n := off_mono L (j := j + 1) h

theorem markIntSS_any (w : World) (B0 B1 : Nat) (a : Option Addr) (n cap : Nat) (A : Nat → Option Addr) (L C : Nat → Nat) (X : Nat → Nat → Int) (k : Int) (hn : n ≤ 1048576) (ho : off L n ≤ 1048576) (hk : 0 ≤ k) (hk2 : k ≤ 1000000)
    (h : MatAt w B0 B1 a n A L C X) :
    Calls Try.prog 56 #[.slice a n cap, .int .i64 k] w (MarksAll B0 B1 a n A L C k w) := by
  have HO := Lib.hid (fun j (hj : j < n) => off_row L hj)
  have h0 : MatAt w B0 B1 a n A L C (marks L k X 0) := by
    have : marks L k X 0 = X := by funext j i; simp [marks]
    rw [this]; exact h
  clear h
  go_enter Try.func56, Try.ntmps56
  go_wp2
  go_loopw [1, 5] (fun l i wr => ∃ j : Nat, j ≤ n ∧ i = .int .i64 j ∧ l = .int .i64 (k + off L j) ∧ MatAt wr B0 B1 a n A L C (marks L k X j) ∧ Kept B0 B1 w wr) (fun _ i _ => n - (intOf i).toNat)
  case atStart => exact ⟨0, Nat.zero_le _, rfl, by simp [off], h0, Kept.refl _ _ _⟩
  case round =>
    obtain ⟨j, hj, rfl, rfl, hm, hkept⟩ := hrel
    by_cases hlt : j < n
    · have hoff := HO.out j hlt
      obtain ⟨b, o, rfl, _, _, hc, hLC, hCm⟩ := hm.top j hlt
      have HC := Lib.hid (markIntS_any wr (A j) (L j) (C j) (k + off L j) (by omega) (by omega) (by omega) (fun i hi => by
        obtain ⟨g, p, e, _, _, h3, h4, _⟩ := hm.row j hlt i hi
        exact ⟨g, p, _, e, h3, h4⟩))
      have hlt' : (j : Int) < (n : Int) := by omega
      have HM := Lib.hid hm
      clear hm
      go_wp2_with fail
      refine HC.out.mono ?_
      rintro e w2 ⟨rfl, hmk⟩
      have HM2 := Lib.hid (HM.out.marked hlt hmk)
      have HK2 := Lib.hid (hkept.trans (HM.out.kept hlt hmk))
      clear hmk hc
      go_wp2_with fail
      go_roundw
      case rel => exact ⟨j + 1, by omega, by go_num, by simp [off]; omega, HM2.out, HK2.out⟩
      case measure => simp [intOf]; omega
    · go_wp2
      go_ret
      have e : j = n := by omega
      subst e
      exact marksAll_mk rfl hm hkept
end Go.Proofs.Yticnfekjbknomaa
/- What the holding helpers of the laws return where the marks stand: the next number; they change nothing. -/
namespace Go.Proofs.Yticnfekjbknomaa
open Go.ChangeShapes Go.WideShapes Go.ChangeAt Go.RowKit
set_option linter.unusedVariables false

theorem heldIntS_any (w : World) (a : Option Addr) (n cap : Nat) (k : Int) (hn : n ≤ 1048576) (hk : 0 ≤ k) (hk2 : k ≤ 1000000000000)
    (h : ∀ i, i < n → ∃ g p, a = some ⟨g, p, none⟩ ∧ w.cell? ⟨g, p + i, none⟩ = some (.int .i64 (k + i))) :
    Calls Try.prog 59 #[.slice a n cap, .int .i64 k] w fun e w' => e = .returned (.int .i64 (k + n)) ∧ w = w' := by
  have H := Lib.hid h
  clear h
  go_enter Try.func59, Try.ntmps59
  go_wp2
  go_loop [1, 5] (fun l i => ∃ j : Nat, j ≤ n ∧ i = .int .i64 j ∧ l = .int .i64 (k + j)) (fun _ i => n - (intOf i).toNat)
  case atStart => exact ⟨0, Nat.zero_le _, rfl, by simp⟩
  case round =>
    obtain ⟨j, hj, rfl, rfl⟩ := hrel
    by_cases hlt : j < n
    · obtain ⟨g, p, rfl, hc⟩ := H.out j hlt
      have hlt' : (j : Int) < (n : Int) := by omega
      go_wp2
      go_round
      case rel => exact ⟨j + 1, by omega, by go_num, by go_num⟩
      case measure => simp [intOf]; omega
    · go_wp2
      go_ret
      have e : j = n := by omega
      subst e
      exact ⟨rfl, rfl⟩

/-- what is read of the rows of a matrix -/
theorem MatAt.rows {w : World} {B0 B1 : Nat} {a : Option Addr} {cap : Nat} {A : Nat → Option Addr} {L C : Nat → Nat} {X : Nat → Nat → Int} {xss : List (List Int)}
    (h : MatAt w B0 B1 a xss.length A L C X) (hc : xss.length ≤ cap) (hm : cap ≤ maxLen) (hL : ∀ j, j < xss.length → L j = (xss.getD j []).length) (hX : ∀ j, j < xss.length → ∀ i, i < L j → X j i = (xss.getD j []).getD i 0) :
    Rows2 w (.slice a xss.length cap) xss := by
  refine ⟨a, cap, rfl, hc, hm, fun j hj => ?_⟩
  obtain ⟨b, o, rfl, _, _, h3, h4, h5⟩ := h.top j hj
  refine ⟨b, o, _, rfl, h3, A j, C j, by rw [hL j hj], by rw [← hL j hj]; exact h4, h5.1, fun i hi => ?_⟩
  rw [← hL j hj] at hi
  obtain ⟨g, p, e, _, _, h6, _⟩ := h.row j hj i hi
  exact ⟨g, p, e, by rw [h6, hX j hj i hi]⟩

/-- own rows, as a matrix -/
theorem OwnRows.mat {w : World} {g : Nat} {v : Value} {xss : List (List Int)} (h : OwnRows w g v xss) :
    v = .slice (some ⟨g, 0, none⟩) xss.length xss.length ∧
    MatAt w g (g + 1 + xss.length) (some ⟨g, 0, none⟩) xss.length (fun j => some ⟨g + 1 + j, 0, none⟩) (fun j => (xss.getD j []).length) (fun j => (xss.getD j []).length) (fun j i => (xss.getD j []).getD i 0) := by
  obtain ⟨rfl, hm, hr, hx⟩ := h
  refine ⟨rfl, fun j hj => ?_, fun j hj i hi => ?_, fun j hj j' hj' hne _ _ g1 p1 g2 p2 e1 e2 => ?_⟩
  · exact ⟨g, 0, rfl, Nat.le_refl _, by omega, by simpa using hr.cell hj, Nat.le_refl _, (hx j hj).2.1, by simpa using hr.frozen j⟩
  · exact ⟨g + 1 + j, 0, rfl, by omega, by omega, by simpa using (hx j hj).2.2.cell hi, (hx j hj).2.2.frozen _, fun b o e => by cases e; omega⟩
  · cases e1; cases e2
    exact .inl (by omega)
theorem OwnRows.rows {w : World} {g : Nat} {v : Value} {xss : List (List Int)} (h : OwnRows w g v xss) : Rows2 w v xss := by
  obtain ⟨rfl, hm⟩ := h.mat
  exact hm.rows (Nat.le_refl _) h.2.1 (fun _ _ => rfl) (fun _ _ _ _ => rfl)
theorem OwnRows.of_blocks {w w' : World} {g : Nat} {v : Value} {xss : List (List Int)} (h : OwnRows w g v xss) (e : ∀ b, g ≤ b → b < g + 1 + xss.length → w'.heap[b]? = w.heap[b]?) : OwnRows w' g v xss :=
  ⟨h.1, h.2.1, h.2.2.1.of_block (e g (Nat.le_refl _) (by omega)), fun j hj => (h.2.2.2 j hj).of_block (e (g + 1 + j) (by omega) (by omega))⟩
theorem MatAt.of_blocks {w w' : World} {B0 B1 : Nat} {a : Option Addr} {n : Nat} {A : Nat → Option Addr} {L C : Nat → Nat} {X : Nat → Nat → Int} (h : MatAt w B0 B1 a n A L C X)
    (e : ∀ b, B0 ≤ b → b < B1 → w'.heap[b]? = w.heap[b]?) : MatAt w' B0 B1 a n A L C X := by
  refine ⟨fun j hj => ?_, fun j hj i hi => ?_, h.apart⟩
  · obtain ⟨b, o, e1, h1, h2, h3, h4⟩ := h.top j hj
    exact ⟨b, o, e1, h1, h2, (World.cell?_of_block (e b h1 h2)).trans h3, h4.1, h4.2.1, (World.frozen?_of_block (e b h1 h2)).trans h4.2.2⟩
  · obtain ⟨g, p, e1, h1, h2, h3, h4, h5⟩ := h.row j hj i hi
    exact ⟨g, p, e1, h1, h2, (World.cell?_of_block (e g h1 h2)).trans h3, (World.frozen?_of_block (e g h1 h2)).trans h4, h5⟩
theorem off_total (xss : List (List Int)) (m : Nat) (h : m ≤ xss.length) : off (fun j => (xss.getD j []).length) m = total (xss.take m) := by
  induction m with
  | zero => simp [off, total]
  | succ m ih => rw [total_snoc xss m (by omega), ← ih (by omega)]; rfl
theorem off_all (xss : List (List Int)) : off (fun j => (xss.getD j []).length) xss.length = total xss := by
  rw [off_total xss _ (Nat.le_refl _), List.take_length]
end Go.Proofs.Yticnfekjbknomaa
/- What the reference's copy of a memory returns: rows of their own with the same numbers, in new blocks; nothing that was there changes. -/
namespace Go.Proofs.Yticnfekjbknomaa
open Go.ChangeShapes Go.WideShapes Go.ChangeAt Go.RowKit
set_option linter.unusedVariables false

theorem add0 (g j : Nat) : (⟨g, 0, none⟩ : Addr).add j = ⟨g, j, none⟩ := by unfold Addr.add; split <;> simp_all
/-- a matrix of numbers in blocks from B0 to B1-1, its rows apart -/
def MatW (w : World) (B0 B1 : Nat) (v : Value) (xss : List (List Int)) : Prop :=
  ∃ (a : Option Addr) (cap : Nat) (A : Nat → Option Addr) (C : Nat → Nat), v = .slice a xss.length cap ∧ xss.length ≤ cap ∧ cap ≤ maxLen ∧
    MatAt w B0 B1 a xss.length A (fun j => (xss.getD j []).length) C (fun j i => (xss.getD j []).getD i 0)
theorem MatW.rows {w : World} {B0 B1 : Nat} {v : Value} {xss : List (List Int)} (h : MatW w B0 B1 v xss) : Rows2 w v xss := by
  obtain ⟨a, cap, A, C, rfl, h1, h2, h3⟩ := h
  exact h3.rows h1 h2 (fun _ _ => rfl) (fun _ _ _ _ => rfl)
theorem MatW.of_blocks {w w' : World} {B0 B1 : Nat} {v : Value} {xss : List (List Int)} (h : MatW w B0 B1 v xss) (e : ∀ b, B0 ≤ b → b < B1 → w'.heap[b]? = w.heap[b]?) : MatW w' B0 B1 v xss := by
  obtain ⟨a, cap, A, C, rfl, h1, h2, h3⟩ := h
  exact ⟨a, cap, A, C, rfl, h1, h2, h3.of_blocks e⟩

theorem own_apart {w : World} {B1 B2 : Nat} {e1 e2 : TypeId} {v1 v2 : Value} {n1 n2 : Nat} {x1 x2 : List Value} (h1 : w.ownsRow B1 e1 1 v1 n1 x1) (h2 : w.ownsRow B2 e2 1 v2 n2 x2) (he : e1 ≠ e2) {g : Nat}
    (hg : v2.ownBlock = some g) : v1.ownBlock ≠ some g := by
  intro hh
  rcases h1.2 with ⟨rfl, _⟩ | ⟨g1, c1, cur1, rfl, _, hb1, _⟩
  · simp [Value.ownBlock] at hh
  rcases h2.2 with ⟨rfl, _⟩ | ⟨g2, c2, cur2, rfl, _, hb2, _⟩
  · simp [Value.ownBlock] at hg
  simp [Value.ownBlock] at hh hg
  subst hh
  subst hg
  rw [hb1] at hb2
  simp at hb2
  exact he hb2.2

/-- a row of numbers in a block of its own -/
def RowG (w : World) (B g : Nat) (V : Value) (xs : List Int) : Prop := w.ownsRow B 3 1 V xs.length (xs.map (.int .i64)) ∧ V.ownBlock = some g
theorem RowG.mono {w : World} {B B' g : Nat} {V : Value} {xs : List Int} (h : RowG w B g V xs) (hB : B' ≤ B) : RowG w B' g V xs := by
  refine ⟨⟨h.1.1, ?_⟩, h.2⟩
  rcases h.1.2 with hn | ⟨g', cap, cur, e, hb, rest⟩
  · exact .inl hn
  · exact .inr ⟨g', cap, cur, e, by omega, rest⟩

theorem own_slice {w : World} {B : Nat} {e : TypeId} {v : Value} {n : Nat} {x : List Value} (h : w.ownsRow B e 1 v n x) (hn : 0 < n) : ∃ g c, v = .slice (some ⟨g, 0, none⟩) n c := by
  rcases h.2 with ⟨_, hz⟩ | ⟨g, c, _, rfl, _⟩
  · omega
  · exact ⟨g, c, rfl⟩
theorem ints_one (xs : List Int) : ∀ u ∈ xs.map (Value.int .i64), u.oneCell' = true := fun u hu => by
  obtain ⟨x, _, rfl⟩ := List.mem_map.1 hu
  rfl
structure CRel (w : World) (xss : List (List Int)) (k : Nat) (v : Value) (wr : World) (V : Nat → Value) (G : Nat → Nat) : Prop where
  own : wr.ownsRow w.heap.size 34 1 v k ((List.range k).map V)
  rows : ∀ j, j < k → RowG wr w.heap.size (G j) (V j) (xss.getD j [])
  inj : ∀ i, i < k → ∀ j, j < k → G i = G j → i = j
  bel : Below w.heap.size w wr

theorem CRel.start (w : World) (xss : List (List Int)) : CRel w xss 0 (.slice (some ⟨w.heap.size, 0, none⟩) 0 0) (w.alloc (.cells #[] 34)) (fun _ => undef) (fun _ => 0) :=
  ⟨World.ownsRow_made w #[] 0 (Nat.le_refl _) (Nat.zero_le _) rfl, fun j hj => by omega, fun i hi => by omega, (Below.refl _ _).alloc (Nat.le_refl _) _⟩

theorem CRel.step {w wr w1 w2 : World} {xss : List (List Int)} {k : Nat} {v v1 v2 : Value} {V : Nat → Value} {G : Nat → Nat} {xs : List Int} {o1 o2 : Obj} (h : CRel w xss k v wr V G)
    (hx : xss.getD k [] = xs) (hpos : 0 < xs.length)
    (ho1 : w1.ownsRow wr.heap.size 3 1 v1 xs.length (xs.map (.int .i64))) (hg1 : (wr.alloc o1).grownBy w1 (some wr.heap.size))
    (ho2 : w2.ownsRow w.heap.size 34 1 v2 (k + 1) ((List.range k).map V ++ [v1])) (hg2 : (w1.alloc o2).grownBy w2 v.ownBlock) :
    ∃ V' G', CRel w xss (k + 1) v2 w2 V' G' := by
  have hsz := h.bel.size
  have hs1 : wr.heap.size + 1 ≤ w1.heap.size := by have := hg1.size; simpa using this
  obtain ⟨g1, e1, hb1⟩ : ∃ g, v1.ownBlock = some g ∧ wr.heap.size ≤ g := by
    rcases ho1.2 with ⟨_, hn⟩ | ⟨g, cap, cur, rfl, hb, _⟩
    · omega
    · exact ⟨g, rfl, hb⟩
  have hg1lt := (ho1.lt g1 e1).2
  have hvlt : ∀ b, v.ownBlock = some b → w.heap.size ≤ b ∧ b < wr.heap.size := h.own.lt
  have hold : ∀ j, j < k → G j < wr.heap.size := fun j hj => ((h.rows j hj).1.lt _ (h.rows j hj).2).2
  have hrow2 : RowG w2 wr.heap.size g1 v1 xs := ⟨((ho1.alloc o2).kept hg2 (.inr (fun e => by have := hvlt g1 (e.symm.trans e1); omega))), e1⟩
  refine ⟨fun j => if j = k then v1 else V j, fun j => if j = k then g1 else G j, ⟨?_, fun j hj => ?_, fun i hi j hj hij => ?_, ?_⟩⟩
  · have : (List.range (k + 1)).map (fun j => if j = k then v1 else V j) = (List.range k).map V ++ [v1] := by
      rw [List.range_succ, List.map_append]
      congr 1
      · exact List.map_congr_left (fun j hj => by have := List.mem_range.1 hj; rw [if_neg (by omega)])
      · simp
    rw [this]; exact ho2
  · by_cases hjk : j = k
    · subst hjk
      simp only [if_true]
      rw [hx]
      exact hrow2.mono hsz
    · simp only [if_neg hjk]
      have hr := h.rows j (by omega)
      have hG := hold j (by omega)
      refine ⟨?_, hr.2⟩
      have a1 := (hr.1.alloc o1).kept hg1 (.inr (by rw [hr.2]; intro e; injection e with e; omega))
      have a0 : v.ownBlock ≠ some (G j) := own_apart h.own hr.1 (by decide) hr.2
      exact (a1.alloc o2).kept hg2 (.inr (by rw [hr.2]; exact fun e => a0 e.symm))
  · by_cases h1 : i = k <;> by_cases h2 : j = k
    · omega
    · simp only [h1, if_true, if_neg h2] at hij
      have := hold j (by omega); omega
    · simp only [h2, if_true, if_neg h1] at hij
      have := hold i (by omega); omega
    · simp only [if_neg h1, if_neg h2] at hij
      exact h.inj i (by omega) j (by omega) hij
  · have b1 := (h.bel.alloc hsz o1).grown hg1 (by simp; omega) (fun b hb => by injection hb with hb; omega)
    exact (b1.alloc (by omega) o2).grown hg2 (by simp; omega) (fun b hb => (hvlt b hb).1)

theorem CRel.own_mid {w wr w1 : World} {xss : List (List Int)} {k : Nat} {v : Value} {V : Nat → Value} {G : Nat → Nat} {o1 o2 : Obj} (h : CRel w xss k v wr V G) (hg1 : (wr.alloc o1).grownBy w1 (some wr.heap.size)) :
    (w1.alloc o2).ownsRow w.heap.size 34 1 v k ((List.range k).map V) :=
  ((h.own.alloc o1).kept hg1 (by
    cases hv : v.ownBlock with
    | none => exact .inl rfl
    | some b => exact .inr (fun e => by injection e with e; have := h.own.lt b hv; omega))).alloc o2
theorem CRel.mat {w wr : World} {xss : List (List Int)} {n : Nat} {v : Value} {V : Nat → Value} {G : Nat → Nat} (h : CRel w xss n v wr V G) (hn : n = xss.length) (h0 : 0 < n) (hne : ∀ j, j < n → 0 < (xss.getD j []).length) :
    MatW wr w.heap.size wr.heap.size v xss := by
  subst hn
  rcases h.own.2 with ⟨_, hz⟩ | ⟨g, cap, cur, rfl, hb, hbl, hnc, hcm, hcs, htk⟩
  · omega
  have hgl := (Array.getElem?_eq_some_iff.1 hbl).1
  have each : ∀ j, j < xss.length → ∃ c, V j = .slice (some ⟨G j, 0, none⟩) (xss.getD j []).length c ∧ (xss.getD j []).length ≤ c ∧ c ≤ maxLen := fun j hj => by
    rcases (h.rows j hj).1.2 with ⟨_, hz⟩ | ⟨g', c, cur', e, _, _, h1, h2, _⟩
    · have := hne j hj; omega
    · have h3 := (h.rows j hj).2
      rw [e] at h3 ⊢
      simp [Value.ownBlock] at h3
      subst h3
      exact ⟨c, rfl, h1, h2⟩
  have hcell : ∀ j, j < xss.length → wr.cell? ⟨g, j, none⟩ = some (V j) := fun j hj => by
    have := h.own.cells (g := g) rfl j (V j) (by simp [hj])
    rwa [add0] at this
  obtain ⟨C, hC⟩ : ∃ C : Nat → Nat, ∀ j, j < xss.length → V j = .slice (some ⟨G j, 0, none⟩) (xss.getD j []).length (C j) ∧ (xss.getD j []).length ≤ C j ∧ C j ≤ maxLen :=
    ⟨fun j => if hj : j < xss.length then (each j hj).choose else 0, fun j hj => by simp only [hj, dif_pos]; exact (each j hj).choose_spec⟩
  refine ⟨some ⟨g, 0, none⟩, cap, fun j => some ⟨G j, 0, none⟩, C, rfl, hnc, hcm, ⟨fun j hj => ?_, fun j hj i hi => ?_, fun j hj j' hj' hne' _ _ g1 p1 g2 p2 e1 e2 => ?_⟩⟩
  · have hc := hC j hj
    exact ⟨g, 0, rfl, hb, hgl, by rw [Nat.zero_add, hcell j hj, hc.1], hc.2.1, hc.2.2, by simp [World.frozen?, hbl]⟩
  · have hr := h.rows j hj
    have hlt := hr.1.lt _ hr.2
    have hcl := hr.1.cells (g := G j) hr.2 i (.int .i64 ((xss.getD j []).getD i 0)) (by rw [getD_lt hi]; simp)
    rw [add0] at hcl
    refine ⟨G j, 0, rfl, hlt.1, hlt.2, by rw [Nat.zero_add]; exact hcl, ?_, fun b o e => ?_⟩
    · rcases hr.1.2 with ⟨_, hz⟩ | ⟨g', c, cur', e, _, hbb, _⟩
      · omega
      · have h3 := hr.2
        rw [e] at h3
        simp [Value.ownBlock] at h3
        subst h3
        simp [World.frozen?, hbb]
    · injection e with e
      injection e with e e'
      subst e
      intro hh
      exact own_apart h.own hr.1 (by decide) hr.2 (by rw [hh]; rfl)
  · injection e1 with e1; injection e1 with e1 _
    injection e2 with e2; injection e2 with e2 _
    exact .inl (fun hh => hne' (h.inj j hj j' hj' (by omega)))

/-- a copy: a matrix in new blocks -/
def ToMat (xss : List (List Int)) (w : World) (e : Ending) (w' : World) : Prop := ∃ v, e = .returned v ∧ MatW w' w.heap.size w'.heap.size v xss ∧ Below w.heap.size w w'

end Go.Proofs.Yticnfekjbknomaa
/- What the reference's checks of a memory and of a frame return; they change nothing. -/
namespace Go.Proofs.Yticnfekjbknomaa
open Go.ChangeShapes Go.WideShapes Go.ChangeAt Go.RowKit
set_option linter.unusedVariables false

theorem ret_bool {b c : Bool} {w : World} (h : b = c) : Ending.returned (.bool b) = .returned (.bool c) ∧ w = w := ⟨by rw [h], rfl⟩
theorem in_yes (w : World) (n a b : Int) (h : a ≤ n ∧ n ≤ b) : Calls Try.prog 111 #[.int .i64 n, .int .i64 a, .int .i64 b] w fun e w' => e = .returned (.bool true) ∧ w = w' := by
  obtain ⟨h1, h2⟩ := h
  go_enter Try.func111, Try.ntmps111
  go_wp2
  go_ret
  exact ⟨rfl, rfl⟩
theorem in_no (w : World) (n a b : Int) (h : ¬ (a ≤ n ∧ n ≤ b)) : Calls Try.prog 111 #[.int .i64 n, .int .i64 a, .int .i64 b] w fun e w' => e = .returned (.bool false) ∧ w = w' := by
  by_cases h1 : a ≤ n
  · have h2 : decide (n ≤ b) = false := by simp; omega
    clear h
    go_enter Try.func111, Try.ntmps111
    go_wp2
    go_ret
    exact ⟨rfl, rfl⟩
  · have h2 : decide (a ≤ n) = false := by simpa using h1
    clear h
    go_enter Try.func111, Try.ntmps111
    go_wp2
    go_ret
    exact ⟨rfl, rfl⟩

theorem words_no {xs : List Int} {k : Nat} (hk : k < xs.length) (h : ¬ (0 ≤ xs.getD k 0 ∧ xs.getD k 0 ≤ 9999)) : wordsOk xs = false := by
  unfold wordsOk
  refine decide_eq_false (fun hh => h ?_)
  rw [getD_lt hk]
  exact hh.1 _ (List.getElem_mem hk)
theorem words_end {xs : List Int} {n : Nat} (hn : n = xs.length) (h : ∀ i, i < n → 0 ≤ xs.getD i 0 ∧ xs.getD i 0 ≤ 9999) : wordsOk xs = ((n : Int) == 4) := by
  subst hn
  unfold wordsOk
  have h1 : ∀ x ∈ xs, 0 ≤ x ∧ x ≤ 9999 := fun x hx => by
    obtain ⟨i, hi, rfl⟩ := List.getElem_of_mem hx
    have := h i hi
    rwa [getD_lt hi] at this
  by_cases h4 : xs.length = 4
  · have : ((xs.length : Int) == 4) = true := by simp; omega
    rw [this]; exact decide_eq_true ⟨h1, h4⟩
  · have : ((xs.length : Int) == 4) = false := by simp; omega
    rw [this]; exact decide_eq_false (fun hh => h4 hh.2)

theorem l2Words_any (w : World) (v : Value) (xs : List Int) (h : Ints w v xs) :
    Calls Try.prog 86 #[v] w fun e w' => e = .returned (.bool (wordsOk xs)) ∧ w = w' := by
  obtain ⟨a, ca, rfl, hla, hma, hxa⟩ := h
  unfold maxLen at hma
  obtain ⟨n, hn⟩ : ∃ n, n = xs.length := ⟨_, rfl⟩
  rw [← hn] at hla hxa ⊢
  have HN := Lib.hid hn
  clear hn
  go_enter Try.func86, Try.ntmps86
  go_wp2
  go_loop [3] (fun i => ∃ k : Nat, k ≤ n ∧ i = .int .i64 k ∧ Hid (∀ i, i < k → 0 ≤ xs.getD i 0 ∧ xs.getD i 0 ≤ 9999)) (fun i => n - (intOf i).toNat)
  case atStart => exact ⟨0, Nat.zero_le _, rfl, Lib.hid (fun i hi => by omega)⟩
  case round =>
    obtain ⟨k, hk, rfl, HB⟩ := hrel
    by_cases hlt : k < n
    · obtain ⟨ba, oa, rfl, hca⟩ := hxa k hlt
      obtain ⟨x, hx⟩ : ∃ x, x = xs.getD k 0 := ⟨_, rfl⟩
      rw [← hx] at hca
      have HX := Lib.hid hx
      clear hx hxa
      have hlt' : (k : Int) < (n : Int) := by omega
      by_cases hi : 0 ≤ x ∧ x ≤ 9999
      · have HC := Lib.hid (in_yes w x 0 9999 hi)
        go_wp2_with (go_at_call 111; refine HC.out.mono ?_; rintro e w' ⟨rfl, rfl⟩)
        go_round
        case rel => exact ⟨k + 1, by omega, by go_num, Lib.hid (fun i hik => by
          by_cases hk2 : i = k
          · rw [hk2, ← HX.out]; exact hi
          · exact HB.out i (by omega))⟩
        case measure => simp [intOf]; omega
      · have HC := Lib.hid (in_no w x 0 9999 hi)
        have HW : Hid (wordsOk xs = false) := Lib.hid (words_no (k := k) (by have := HN.out; omega) (by rw [← HX.out]; exact hi))
        clear hi
        go_wp2_with (go_at_call 111; refine HC.out.mono ?_; rintro e w' ⟨rfl, rfl⟩)
        go_ret
        exact ret_bool HW.out.symm
    · go_wp2
      go_ret
      have e : k = n := by omega
      subst e
      exact ret_bool (words_end HN.out HB.out).symm

theorem mem_no {xss : List (List Int)} {k : Nat} (hk : k < xss.length) (h : wordsOk (xss.getD k []) = false) : memOk xss = false := by
  unfold memOk
  refine decide_eq_false (fun hh => ?_)
  have := hh.1 _ (List.getElem_mem hk)
  rw [getD_lt hk] at h
  rw [h] at this
  cases this
theorem mem_end {xss : List (List Int)} {n : Nat} (hn : n = xss.length) (h : ∀ i, i < n → wordsOk (xss.getD i []) = true) : memOk xss = ((n : Int) == 12) := by
  subst hn
  unfold memOk
  have h1 : ∀ x ∈ xss, wordsOk x = true := fun x hx => by
    obtain ⟨i, hi, rfl⟩ := List.getElem_of_mem hx
    have := h i hi
    rwa [getD_lt hi] at this
  by_cases h4 : xss.length = 12
  · have : ((xss.length : Int) == 12) = true := by simp; omega
    rw [this]; exact decide_eq_true ⟨h1, h4⟩
  · have : ((xss.length : Int) == 12) = false := by simp; omega
    rw [this]; exact decide_eq_false (fun hh => h4 hh.2)

theorem valid_any (w : World) (v : Value) (xss : List (List Int)) (h : Rows2 w v xss) :
    Calls Try.prog 35 #[v] w fun e w' => e = .returned (.bool (memOk xss)) ∧ w = w' := by
  obtain ⟨a, ca, rfl, hla, hma, hxa⟩ := h
  unfold maxLen at hma
  obtain ⟨n, hn⟩ : ∃ n, n = xss.length := ⟨_, rfl⟩
  rw [← hn] at hla hxa ⊢
  have HN := Lib.hid hn
  clear hn
  go_enter Try.func35, Try.ntmps35
  go_wp2
  go_loop [3] (fun i => ∃ k : Nat, k ≤ n ∧ i = .int .i64 k ∧ Hid (∀ i, i < k → wordsOk (xss.getD i []) = true)) (fun i => n - (intOf i).toNat)
  case atStart => exact ⟨0, Nat.zero_le _, rfl, Lib.hid (fun i hi => by omega)⟩
  case round =>
    obtain ⟨k, hk, rfl, HB⟩ := hrel
    by_cases hlt : k < n
    · obtain ⟨ba, oa, u, rfl, hca, hu⟩ := hxa k hlt
      have HC := Lib.hid (l2Words_any w u _ hu)
      clear hxa hu
      have hlt' : (k : Int) < (n : Int) := by omega
      by_cases hi : wordsOk (xss.getD k []) = true
      · rw [hi] at HC
        have HI := Lib.hid hi
        clear hi
        go_wp2_with (go_at_call 86; refine HC.out.mono ?_; rintro e w' ⟨rfl, rfl⟩)
        go_round
        case rel => exact ⟨k + 1, by omega, by go_num, Lib.hid (fun i hik => by
          by_cases hk2 : i = k
          · rw [hk2]; exact HI.out
          · exact HB.out i (by omega))⟩
        case measure => simp [intOf]; omega
      · have hi' : wordsOk (xss.getD k []) = false := by simpa using hi
        rw [hi'] at HC
        have HW : Hid (memOk xss = false) := Lib.hid (mem_no (k := k) (by have := HN.out; omega) hi')
        clear hi hi'
        go_wp2_with (go_at_call 86; refine HC.out.mono ?_; rintro e w' ⟨rfl, rfl⟩)
        go_ret
        exact ret_bool HW.out.symm
    · go_wp2
      go_ret
      have e : k = n := by omega
      subst e
      exact ret_bool (mem_end HN.out HB.out).symm

theorem l1Frame_yes (w : World) (f : Int) (h : 0 ≤ f ∧ f < 12) : Calls Try.prog 102 #[.int .i64 f] w fun e w' => e = .returned (.bool true) ∧ w = w' := by
  go_enter Try.func102, Try.ntmps102
  go_wp2_with (go_at_call 111; refine (in_yes _ _ _ _ (by omega)).mono ?_; rintro e w' ⟨rfl, rfl⟩)
  go_ret
  exact ⟨rfl, rfl⟩
theorem l1Frame_no (w : World) (f : Int) (h : ¬ (0 ≤ f ∧ f < 12)) : Calls Try.prog 102 #[.int .i64 f] w fun e w' => e = .returned (.bool false) ∧ w = w' := by
  go_enter Try.func102, Try.ntmps102
  go_wp2_with (go_at_call 111; refine (in_no _ _ _ _ (by omega)).mono ?_; rintro e w' ⟨rfl, rfl⟩)
  go_ret
  exact ⟨rfl, rfl⟩
theorem l2Ok_yes (w : World) (v : Value) (xss : List (List Int)) (f : Int) (h : Rows2 w v xss) (hm : memOk xss = true) (hf : 0 ≤ f ∧ f < 12) :
    Calls Try.prog 108 #[v, .int .i64 f] w fun e w' => e = .returned (.bool true) ∧ w = w' := by
  have HC := Lib.hid (valid_any w v xss h)
  rw [hm] at HC
  clear h hm
  go_enter Try.func108, Try.ntmps108
  go_wp2_with (first | (go_at_call 35; refine HC.out.mono ?_; rintro e w' ⟨rfl, rfl⟩) | (go_at_call 102; refine (l1Frame_yes _ _ hf).mono ?_; rintro e w' ⟨rfl, rfl⟩))
  go_ret
  exact ⟨rfl, rfl⟩
theorem l2Ok_no (w : World) (v : Value) (xss : List (List Int)) (f : Int) (h : Rows2 w v xss) (hm : ¬ (memOk xss = true ∧ 0 ≤ f ∧ f < 12)) :
    Calls Try.prog 108 #[v, .int .i64 f] w fun e w' => e = .returned (.bool false) ∧ w = w' := by
  have HC := Lib.hid (valid_any w v xss h)
  clear h
  by_cases h1 : memOk xss = true
  · have hf : ¬ (0 ≤ f ∧ f < 12) := fun hh => hm ⟨h1, hh⟩
    rw [h1] at HC
    clear h1 hm
    go_enter Try.func108, Try.ntmps108
    go_wp2_with (first | (go_at_call 35; refine HC.out.mono ?_; rintro e w' ⟨rfl, rfl⟩) | (go_at_call 102; refine (l1Frame_no _ _ hf).mono ?_; rintro e w' ⟨rfl, rfl⟩))
    go_ret
    exact ⟨rfl, rfl⟩
  · have h2 : memOk xss = false := by simpa using h1
    rw [h2] at HC
    clear h1 h2 hm
    go_enter Try.func108, Try.ntmps108
    go_wp2_with (go_at_call 35; refine HC.out.mono ?_; rintro e w' ⟨rfl, rfl⟩)
    go_ret
    exact ⟨rfl, rfl⟩
end Go.Proofs.Yticnfekjbknomaa
/- What becomes of a matrix in memory where one word is stored, or one row is replaced by a new one. -/
namespace Go.Proofs.Yticnfekjbknomaa
open Go.ChangeShapes Go.WideShapes Go.ChangeAt Go.RowKit
set_option linter.unusedVariables false

def mput (xss : List (List Int)) (i j : Nat) (x : Int) : List (List Int) := xss.set i ((xss.getD i []).set j x)
theorem getD_set {α : Type} (l : List α) (i j : Nat) (x d : α) : (l.set i x).getD j d = if i = j ∧ j < l.length then x else l.getD j d := by
  simp only [List.getD, List.getElem?_set]
  by_cases h : i = j
  · subst h
    by_cases h2 : i < l.length
    · simp [h2]
    · simp [h2]
  · simp [h]
theorem mput_len (xss : List (List Int)) (i j : Nat) (x : Int) : (mput xss i j x).length = xss.length := by simp [mput]
theorem mput_row (xss : List (List Int)) (i j k : Nat) (x : Int) : ((mput xss i j x).getD k []).length = (xss.getD k []).length := by
  unfold mput
  rw [getD_set]
  by_cases h : i = k ∧ k < xss.length
  · rw [if_pos h, List.length_set, h.1]
  · rw [if_neg h]
theorem mput_get (xss : List (List Int)) (i j k m : Nat) (x : Int) (hi : i < xss.length) (hj : j < (xss.getD i []).length) :
    ((mput xss i j x).getD k []).getD m 0 = if k = i ∧ m = j then x else (xss.getD k []).getD m 0 := by
  unfold mput
  rw [getD_set]
  by_cases h : i = k
  · subst h
    rw [if_pos ⟨rfl, hi⟩, getD_set]
    by_cases h2 : j = m
    · subst h2
      rw [if_pos ⟨rfl, hj⟩, if_pos ⟨rfl, rfl⟩]
    · rw [if_neg (fun hh => h2 hh.1), if_neg (fun hh => h2 hh.2.symm)]
  · rw [if_neg (fun hh => h hh.1), if_neg (fun hh => h hh.1.symm)]

theorem MatAt.store {w : World} {B0 B1 : Nat} {a : Option Addr} {n : Nat} {A : Nat → Option Addr} {L C : Nat → Nat} {X : Nat → Nat → Int} (h : MatAt w B0 B1 a n A L C X) {i j : Nat} (hi : i < n) (hj : j < L i)
    {g p : Nat} (hA : A i = some ⟨g, p, none⟩) (x : Int) : MatAt (w.setCell ⟨g, p + j, none⟩ (.int .i64 x)) B0 B1 a n A L C (fun k m => if k = i ∧ m = j then x else X k m) := by
  refine ⟨fun k hk => ?_, fun k hk m hm => ?_, h.apart⟩
  · obtain ⟨b, o, rfl, h1, h2, h3, h4⟩ := h.top k hk
    refine ⟨b, o, rfl, h1, h2, (cell_set_other (.inl ?_)).trans h3, h4.1, h4.2.1, (frozen_set _).trans h4.2.2⟩
    obtain ⟨g', p', e, _, _, _, _, h5⟩ := h.row i hi j hj
    rw [hA] at e; cases e
    exact h5 b o rfl
  · obtain ⟨g', p', e, h1, h2, h3, h4, h5⟩ := h.row k hk m hm
    refine ⟨g', p', e, h1, h2, ?_, (frozen_set _).trans h4, h5⟩
    by_cases hki : k = i
    · subst hki
      rw [hA] at e; cases e
      by_cases hmj : m = j
      · subst hmj
        rw [if_pos ⟨rfl, rfl⟩]
        exact cell_set_same h3
      · rw [if_neg (fun hh => hmj hh.2)]
        exact (cell_set_other (.inr (by omega))).trans h3
    · rw [if_neg (fun hh => hki hh.1)]
      refine (cell_set_other ?_).trans h3
      rcases h.apart k hk i hi hki (by omega) (by omega) g' p' g p e hA with h7 | h7 | h7
      · exact .inl h7
      · exact .inr (by omega)
      · exact .inr (by omega)

theorem MatAt.congr {w : World} {B0 B1 : Nat} {a : Option Addr} {n n' : Nat} {A : Nat → Option Addr} {L L' C : Nat → Nat} {X X' : Nat → Nat → Int} (h : MatAt w B0 B1 a n A L C X) (hn : n' = n) (hL : ∀ j, j < n → L' j = L j)
    (hX : ∀ j, j < n → ∀ i, i < L j → X' j i = X j i) : MatAt w B0 B1 a n' A L' C X' := by
  subst hn
  refine ⟨fun k hk => ?_, fun k hk m hm => ?_, fun j hj j' hj' hne h0 h0' g p g' p' e e' => ?_⟩
  · rw [hL k hk]; exact h.top k hk
  · rw [hL k hk] at hm
    rw [hX k hk m hm]; exact h.row k hk m hm
  · rw [hL j hj] at h0 ⊢
    rw [hL j' hj'] at h0' ⊢
    exact h.apart j hj j' hj' hne h0 h0' g p g' p' e e'
theorem MatAt.mono {w : World} {B0 B1 B2 : Nat} {a : Option Addr} {n : Nat} {A : Nat → Option Addr} {L C : Nat → Nat} {X : Nat → Nat → Int} (h : MatAt w B0 B1 a n A L C X) (hB : B1 ≤ B2) : MatAt w B0 B2 a n A L C X := by
  refine ⟨fun k hk => ?_, fun k hk m hm => ?_, h.apart⟩
  · obtain ⟨b, o, e, h1, h2, h3⟩ := h.top k hk
    exact ⟨b, o, e, h1, by omega, h3⟩
  · obtain ⟨g, p, e, h1, h2, h3⟩ := h.row k hk m hm
    exact ⟨g, p, e, h1, by omega, h3⟩

theorem MatAt.setrow {w w1 : World} {B0 B1 B2 : Nat} {a : Option Addr} {n : Nat} {A : Nat → Option Addr} {L C : Nat → Nat} {X : Nat → Nat → Int} (h : MatAt w B0 B1 a n A L C X) (e1 : ∀ b, B0 ≤ b → b < B1 → w1.heap[b]? = w.heap[b]?)
    {i b o g len c : Nat} {Y : Nat → Int} (hi : i < n) (ha : a = some ⟨b, o, none⟩) (hg1 : B1 ≤ g) (hg2 : g < B2) (hlc : len ≤ c) (hcm : c ≤ maxLen)
    (hY : ∀ m, m < len → w1.cell? ⟨g, m, none⟩ = some (.int .i64 (Y m)) ∧ w1.frozen? ⟨g, m, none⟩ = false) :
    MatAt (w1.setCell ⟨b, o + i, none⟩ (.slice (some ⟨g, 0, none⟩) len c)) B0 B2 a n (fun k => if k = i then some ⟨g, 0, none⟩ else A k) (fun k => if k = i then len else L k) (fun k => if k = i then c else C k)
      (fun k m => if k = i then Y m else X k m) := by
  have h' := h.of_blocks e1
  subst ha
  obtain ⟨b', o', eb, hb1, hb2, hbc, _⟩ := h'.top i hi
  injection eb with eb
  injection eb with eb eo
  subst eb
  subst eo
  refine ⟨fun k hk => ?_, fun k hk m hm => ?_, fun j hj j' hj' hne h0 h0' g1 p1 g2 p2 ee ee' => ?_⟩
  · obtain ⟨b', o', ek, h1, h2, h3, h4⟩ := h'.top k hk
    injection ek with ek
    injection ek with ek eo
    subst ek
    subst eo
    by_cases hki : k = i
    · subst hki
      simp only [if_true]
      exact ⟨b, o, rfl, hb1, by omega, cell_set_same hbc, hlc, hcm, (frozen_set _).trans h4.2.2⟩
    · simp only [if_neg hki]
      exact ⟨b, o, rfl, hb1, by omega, (cell_set_other (.inr (by omega))).trans h3, h4.1, h4.2.1, (frozen_set _).trans h4.2.2⟩
  · by_cases hki : k = i
    · subst hki
      simp only [if_true] at hm ⊢
      refine ⟨g, 0, rfl, by omega, hg2, ?_, ?_, fun b' o' e => ?_⟩
      · rw [Nat.zero_add]; exact (cell_set_other (.inl (by omega))).trans (hY m hm).1
      · rw [Nat.zero_add]; exact (frozen_set _).trans (hY m hm).2
      · injection e with e; injection e with e _; omega
    · simp only [if_neg hki] at hm ⊢
      obtain ⟨g', p', e, h1, h2, h3, h4, h5⟩ := h'.row k hk m hm
      exact ⟨g', p', e, h1, by omega, (cell_set_other (.inl (h5 b o rfl).symm)).trans h3, (frozen_set _).trans h4, h5⟩
  · by_cases hji : j = i <;> by_cases hji' : j' = i
    · omega
    · subst hji
      simp only [if_true, if_neg hji'] at *
      obtain ⟨g', p', e, h1, h2, _⟩ := h'.row j' hj' 0 h0'
      rw [e] at ee'
      injection ee' with ee'; injection ee' with ee' _
      injection ee with ee; injection ee with ee _
      exact .inl (by omega)
    · subst hji'
      simp only [if_true, if_neg hji] at *
      obtain ⟨g', p', e, h1, h2, _⟩ := h'.row j hj 0 h0
      rw [e] at ee
      injection ee' with ee'; injection ee' with ee' _
      injection ee with ee; injection ee with ee _
      exact .inl (by omega)
    · simp only [if_neg hji, if_neg hji'] at *
      exact h'.apart j hj j' hj' hne h0 h0' g1 p1 g2 p2 ee ee'
end Go.Proofs.Yticnfekjbknomaa
/- What the reference's functions of a memory return, each under the condition that its name tells: a word, or a memory in new blocks; nothing that was there changes. -/
namespace Go.Proofs.Yticnfekjbknomaa
open Go.ChangeShapes Go.WideShapes Go.ChangeAt Go.RowKit
set_option linter.unusedVariables false

theorem mem_len {xss : List (List Int)} (h : memOk xss = true) : xss.length = 12 := (of_decide_eq_true h).2
theorem mem_row {xss : List (List Int)} (h : memOk xss = true) {i : Nat} (hi : i < 12) : (xss.getD i []).length = 4 := by
  have hl := mem_len h
  have := (of_decide_eq_true h).1 _ (List.getElem_mem (show i < xss.length by omega))
  rw [getD_lt (by omega)]
  exact (of_decide_eq_true this).2
theorem mem_word {xss : List (List Int)} (h : memOk xss = true) {i j : Nat} (hi : i < 12) (hj : j < 4) : 0 ≤ (xss.getD i []).getD j 0 ∧ (xss.getD i []).getD j 0 ≤ 9999 := by
  have hl := mem_len h
  have hr := mem_row h hi
  have := (of_decide_eq_true h).1 _ (List.getElem_mem (show i < xss.length by omega))
  rw [getD_lt (show i < xss.length by omega)] at hr ⊢
  rw [getD_lt (by omega)]
  exact (of_decide_eq_true this).1 _ (List.getElem_mem (by omega))

/-- a memory that reads as yss, in new blocks, and true -/
def NewMem (yss : List (List Int)) (b : Bool) (w : World) (e : Ending) (w' : World) : Prop := ∃ v, e = .returned (.tuple #[v, .bool b]) ∧ MatW w' w.heap.size w'.heap.size v yss ∧ Below w.heap.size w w'
theorem new_nil {w : World} : NewMem [] false w (.returned (.tuple #[.slice (some ⟨w.heap.size, 0, none⟩) 0 0, .bool false])) (w.alloc (.cells #[] 34)) :=
  ⟨_, rfl, ⟨some ⟨w.heap.size, 0, none⟩, 0, fun _ => none, fun _ => 0, rfl, Nat.le_refl _, Nat.zero_le _, ⟨fun j hj => by simp at hj, fun j hj => by simp at hj, fun j hj => by simp at hj⟩⟩, (Below.refl _ _).alloc (Nat.le_refl _) _⟩

theorem put_mk {w w1 : World} {a : Option Addr} {cap : Nat} {A : Nat → Option Addr} {C : Nat → Nat} {xss : List (List Int)} {i j : Nat} {x : Int} (h1 : xss.length ≤ cap) (h2 : cap ≤ maxLen)
    (h : MatAt w1 w.heap.size w1.heap.size a xss.length A (fun j => (xss.getD j []).length) C (fun j i => (xss.getD j []).getD i 0)) (hb : Below w.heap.size w w1) (hi : i < xss.length) (hj : j < (xss.getD i []).length)
    {g p : Nat} (hA : A i = some ⟨g, p, none⟩) (hg : w.heap.size ≤ g) :
    NewMem (mput xss i j x) true w (.returned (.tuple #[.slice a xss.length cap, .bool true])) (w1.setCell ⟨g, p + j, none⟩ (.int .i64 x)) := by
  refine ⟨_, rfl, ⟨a, cap, A, C, by rw [mput_len], by rw [mput_len]; exact h1, h2, ?_⟩, hb.setCell (p := ⟨g, p + j, none⟩) hg _⟩
  have hs : (w1.setCell ⟨g, p + j, none⟩ (.int .i64 x)).heap.size = w1.heap.size := by simp [World.setCell]
  rw [hs]
  exact (h.store hi hj hA x).congr (mput_len _ _ _ _) (fun k _ => mput_row _ _ _ _ _) (fun k _ m _ => mput_get _ _ _ _ _ _ hi hj)

theorem set_row_mk {w w1 w2 : World} {a : Option Addr} {cap : Nat} {A : Nat → Option Addr} {C : Nat → Nat} {xss : List (List Int)} {i : Nat} {ys : List Int} (h1 : xss.length ≤ cap) (h2 : cap ≤ maxLen)
    (h : MatAt w1 w.heap.size w1.heap.size a xss.length A (fun j => (xss.getD j []).length) C (fun j i => (xss.getD j []).getD i 0)) (hb : Below w.heap.size w w2)
    (e1 : ∀ b, w.heap.size ≤ b → b < w1.heap.size → w2.heap[b]? = w1.heap[b]?) (hi : i < xss.length)
    {b o g c : Nat} (ha : a = some ⟨b, o, none⟩) (hbb : w.heap.size ≤ b) (hg1 : w1.heap.size ≤ g) (hg2 : g < w2.heap.size) (hlc : ys.length ≤ c) (hcm : c ≤ maxLen)
    (hY : ∀ m, m < ys.length → w2.cell? ⟨g, m, none⟩ = some (.int .i64 (ys.getD m 0)) ∧ w2.frozen? ⟨g, m, none⟩ = false) :
    NewMem (xss.set i ys) true w (.returned (.tuple #[.slice a xss.length cap, .bool true])) (w2.setCell ⟨b, o + i, none⟩ (.slice (some ⟨g, 0, none⟩) ys.length c)) := by
  have hs : (w2.setCell ⟨b, o + i, none⟩ (.slice (some ⟨g, 0, none⟩) ys.length c)).heap.size = w2.heap.size := by simp [World.setCell]
  have hmat := (h.setrow e1 (B2 := w2.heap.size) (Y := fun m => ys.getD m 0) hi ha hg1 hg2 hlc hcm hY).congr (n' := (xss.set i ys).length) (L' := fun k => ((xss.set i ys).getD k []).length) (X' := fun k m => ((xss.set i ys).getD k []).getD m 0)
    List.length_set (fun k hk => by
      simp only [getD_set]
      by_cases h' : k = i
      · subst h'; simp [hk]
      · rw [if_neg (fun hh => h' hh.1.symm), if_neg h']) (fun k hk m _ => by
      simp only [getD_set]
      by_cases h' : k = i
      · subst h'; simp [hk]
      · rw [if_neg (fun hh => h' hh.1.symm), if_neg h'])
  exact ⟨_, rfl, ⟨a, cap, _, _, by rw [List.length_set], by rw [List.length_set]; exact h1, h2, by rw [hs]; exact hmat⟩, hb.setCell (p := ⟨b, o + i, none⟩) hbb _⟩

end Go.Proofs.Yticnfekjbknomaa
/- How what is known of matrices and of what was there goes on from one world to the next, where only some blocks change. -/
namespace Go.Proofs.Yticnfekjbknomaa
open Go.ChangeShapes Go.WideShapes Go.ChangeAt Go.RowKit
set_option linter.unusedVariables false

/-- of what was there only blocks from lo to hi-1 may have changed -/
structure Chg (lo hi : Nat) (w w' : World) : Prop where
  os : w'.os = w.os
  tape : w'.tape = w.tape
  output : w'.output = w.output
  size : w.heap.size ≤ w'.heap.size
  block : ∀ b, b < w.heap.size → (b < lo ∨ hi ≤ b) → w'.heap[b]? = w.heap[b]?
theorem Chg.of_below {w w' : World} (h : Below w.heap.size w w') : Chg 0 0 w w' := ⟨h.os, h.tape, h.output, h.size, fun b hb _ => h.block b hb⟩
theorem Chg.of_kept {lo hi : Nat} {w w' : World} (h : Kept lo hi w w') : Chg lo hi w w' := ⟨h.os, h.tape, h.output, Nat.le_of_eq h.size.symm, fun b _ hb => h.block b hb⟩
theorem Chg.of_drewN (w : World) (n : Nat) : Chg 0 0 w (w.drewN n) := ⟨rfl, rfl, rfl, Nat.le_refl _, fun _ _ _ => rfl⟩
theorem Below.chg {lo hi S : Nat} {W w w' : World} (h : Below S W w) (c : Chg lo hi w w') (hS : S ≤ w.heap.size) (hh : S ≤ lo ∨ hi = 0) : Below S W w' :=
  ⟨c.os.trans h.os, c.tape.trans h.tape, c.output.trans h.output, Nat.le_trans h.size c.size, fun b hb => (c.block b (by omega) (by omega)).trans (h.block b hb)⟩
theorem MatW.chg {lo hi B0 B1 : Nat} {w w' : World} {v : Value} {xss : List (List Int)} (h : MatW w B0 B1 v xss) (c : Chg lo hi w w') (hB : B1 ≤ w.heap.size) (hh : B1 ≤ lo ∨ hi ≤ B0) : MatW w' B0 B1 v xss :=
  h.of_blocks (fun b h0 h1 => c.block b (by omega) (by omega))
theorem OwnRows.chg {lo hi g : Nat} {w w' : World} {v : Value} {xss : List (List Int)} (h : OwnRows w g v xss) (c : Chg lo hi w w') (hB : g + 1 + xss.length ≤ w.heap.size) (hh : g + 1 + xss.length ≤ lo ∨ hi ≤ g) : OwnRows w' g v xss :=
  h.of_blocks (fun b h0 h1 => c.block b (by omega) (by omega))
theorem MatAt.chg {lo hi B0 B1 : Nat} {w w' : World} {a : Option Addr} {n : Nat} {A : Nat → Option Addr} {L C : Nat → Nat} {X : Nat → Nat → Int} (h : MatAt w B0 B1 a n A L C X) (c : Chg lo hi w w') (hB : B1 ≤ w.heap.size) (hh : B1 ≤ lo ∨ hi ≤ B0) :
    MatAt w' B0 B1 a n A L C X := h.of_blocks (fun b h0 h1 => c.block b (by omega) (by omega))
theorem rows_chg {S : Nat} {W w : World} {v : Value} {xss : List (List Int)} (h : Rows2 W v xss) (hb : Below W.heap.size W w) : Rows2 w v xss := h.below hb

theorem eq_c (w : World) (va vb : Value) (xs : List (List Int)) (ha : Rows2 w va xs) (hb : Rows2 w vb xs) :
    Calls Try.prog 52 #[va, vb] w fun e w' => e = .returned (.bool true) ∧ Chg 0 0 w w' :=
  (eqIntSS_any w va vb xs xs ha hb).mono fun e w' ⟨he, n, hn⟩ => ⟨by rw [he]; simp, by rw [hn]; exact Chg.of_drewN w n⟩
end Go.Proofs.Yticnfekjbknomaa
/- Whole arrays as values: how they are made, read in part, laid into variables and returned; whatever their number of cells. -/
namespace Go.Proofs.Yticnfekjbknomaa
open Go.ChangeShapes Go.WideShapes Go.ChangeAt Go.RowKit
set_option linter.unusedVariables false
section
variable {P : Program}

theorem wpList_alloc_arr {ops : Array Oper} {rest : List Oper} {op : Oper} {a : Act} {w : World} {Q : Exit → Act → World → Prop} (hgd : op.guard = none) (t : TypeId) (ho : op.op = .alloc t)
    (z : Array Value) (hz : ∀ w, (zeroValue t).run P w = .ok (.agg z) w)
    (h : wpList P ops Q rest (a.put op.dst (.pointer (some ⟨w.heap.size, 0, none⟩))) (w.alloc (.cells z t))) : wpList P ops Q (op :: rest) a w :=
  wpList_plain hgd fun _ hK => by
    unfold Oper.wp execOp
    simp only [ho, Instr.alloc, Sem.run_bind, Sem.run_pure, Result.andThen_ok, hz]
    exact hK _ _ h
theorem wpList_box_arr {ops : Array Oper} {rest : List Oper} {op : Oper} {a : Act} {w : World} {Q : Exit → Act → World → Prop} (hgd : op.guard = none) (t : TypeId) (x : Operand) (ho : op.op = .box t x)
    (z : Array Value) (hx : a.eval x = .agg z)
    (h : wpList P ops Q rest (a.put op.dst (.pointer (some ⟨w.heap.size, 0, none⟩))) (w.alloc (.cells z t))) : wpList P ops Q (op :: rest) a w :=
  wpList_plain hgd fun _ hK => by
    unfold Oper.wp execOp
    simp only [ho, hx]
    exact hK _ _ h
theorem wpList_build_arr {ops : Array Oper} {rest : List Oper} {op : Oper} {a : Act} {w : World} {Q : Exit → Act → World → Prop} (hgd : op.guard = none) (t : TypeId) (ho : op.op = .build t #[])
    (z : Array Value) (n : Nat) (e : TypeId) (s : Nat) (hz : ∀ w, (zeroValue t).run P w = .ok (.agg z) w) (hu : P.underlying t = some (.array n e)) (hs : ∀ w, (sizeOf e).run P w = .ok s w)
    (h : wpList P ops Q rest (a.put op.dst (.agg z)) w) : wpList P ops Q (op :: rest) a w :=
  wpList_plain hgd fun _ hK => by
    unfold Oper.wp execOp
    simp only [ho, Instr.build, Sem.run_bind, Sem.run_pure, Result.andThen_ok, hz, run_underlying hu, hs, Value.cells, List.map_toArray, List.map_nil, Instr.fill]
    exact hK _ _ h
/-- the store of a whole array at a place within a block; the load of one -/
theorem store_arr {ops : Array Oper} {rest : List Oper} {a : Act} {w : World} {Q : Exit → Act → World → Prop} {dst : Option Nat} {tt : TypeId} {pos : String} {after : Array Edge} (ty : TypeId) (x y : Operand)
    (b o : Nat) (cells : Array Value) (hx : a.eval x = .pointer (some ⟨b, o, none⟩)) (hy : a.eval y = .agg cells)
    (ht : w.there b o cells.size) (hi : (P.info? ty).map (·.size) = some cells.size) (h1 : cells.all (·.oneCell') = true)
    (h : wpList P ops Q rest (a.put dst undef) (w.setCells b o cells.toList)) : wpList P ops Q ({ dst := dst, op := .store ty x y, type := tt, pos := pos, after := after, guard := none } :: rest) a w :=
  wpList_store_mid rfl ty x y rfl b o cells hx hy ht hi h1 h
theorem build_arr {ops : Array Oper} {rest : List Oper} {a : Act} {w : World} {Q : Exit → Act → World → Prop} {dst : Option Nat} {tt : TypeId} {pos : String} {after : Array Edge} (t : TypeId)
    (z : Array Value) (n : Nat) (e : TypeId) (s : Nat) (hz : ∀ w, (zeroValue t).run P w = .ok (.agg z) w) (hu : P.underlying t = some (.array n e)) (hs : ∀ w, (sizeOf e).run P w = .ok s w)
    (h : wpList P ops Q rest (a.put dst (.agg z)) w) : wpList P ops Q ({ dst := dst, op := .build t #[], type := tt, pos := pos, after := after, guard := none } :: rest) a w :=
  wpList_build_arr rfl t rfl z n e s hz hu hs h
theorem alloc_arr {ops : Array Oper} {rest : List Oper} {a : Act} {w : World} {Q : Exit → Act → World → Prop} {dst : Option Nat} {tt : TypeId} {pos : String} {after : Array Edge} (t : TypeId)
    (z : Array Value) (hz : ∀ w, (zeroValue t).run P w = .ok (.agg z) w)
    (h : wpList P ops Q rest (a.put dst (.pointer (some ⟨w.heap.size, 0, none⟩))) (w.alloc (.cells z t))) : wpList P ops Q ({ dst := dst, op := .alloc t, type := tt, pos := pos, after := after, guard := none } :: rest) a w :=
  wpList_alloc_arr rfl t rfl z hz h
theorem box_arr {ops : Array Oper} {rest : List Oper} {a : Act} {w : World} {Q : Exit → Act → World → Prop} {dst : Option Nat} {tt : TypeId} {pos : String} {after : Array Edge} (t : TypeId) (x : Operand)
    (z : Array Value) (hx : a.eval x = .agg z)
    (h : wpList P ops Q rest (a.put dst (.pointer (some ⟨w.heap.size, 0, none⟩))) (w.alloc (.cells z t))) : wpList P ops Q ({ dst := dst, op := .box t x, type := tt, pos := pos, after := after, guard := none } :: rest) a w :=
  wpList_box_arr rfl t x rfl z hx h
theorem load_arr {ops : Array Oper} {rest : List Oper} {a : Act} {w : World} {Q : Exit → Act → World → Prop} {dst : Option Nat} {tt : TypeId} {pos : String} {after : Array Edge} (ty : TypeId) (x : Operand)
    (b o : Nat) (cs : List Value) (d : TypeDesc) (hx : a.eval x = .pointer (some ⟨b, o, none⟩)) (hc : w.rangeAt b o cs)
    (hu : P.underlying ty = some d) (hd : d.isRow = true) (hi : (P.info? ty).map (·.size) = some cs.length)
    (h : wpList P ops Q rest (a.put dst (.agg cs.toArray)) w) : wpList P ops Q ({ dst := dst, op := .load ty x, type := tt, pos := pos, after := after, guard := none } :: rest) a w :=
  wpList_load_mid rfl ty x rfl b o hx cs d hc hu hd hi h
theorem run_index_arr (t : TypeId) (n : Nat) (e : TypeId) (s : Nat) (hu : P.underlying t = some (.array n e)) (ha : ∀ w, (isAgg e).run P w = .ok true w) (hs : ∀ w, (sizeOf e).run P w = .ok s w)
    (cs : Array Value) (k : Nat) (hk : k < n) (W : World) : (Instr.index t (.agg cs) (.int .i64 k)).run P W = .ok (.agg (cs.extract (k * s) (k * s + s))) W := by
  have h1 : (0 : Int) ≤ (k : Int) ∧ (k : Int) < (n : Int) := by omega
  unfold Instr.index
  simp only [asIntOf, Sem.run_bind, Sem.run_pure, Result.andThen_ok, run_underlying hu, hs, part, ha, if_pos h1, Int.toNat_natCast, if_true]
theorem run_indexAt_arr (t : TypeId) (n : Nat) (e : TypeId) (s : Nat) (hu : P.underlying t = some (.array n e)) (hs : ∀ w, (sizeOf e).run P w = .ok s w) (hn : 1 < n)
    (b : Nat) (k : Nat) (hk : k < n) (W : World) : (Instr.indexAt t (.pointer (some ⟨b, 0, none⟩)) (.int .i64 k)).run P W = .ok (.pointer (some ⟨b, k * s, none⟩)) W := by
  have h1 : (0 : Int) ≤ (k : Int) ∧ (k : Int) < (n : Int) := by omega
  unfold Instr.indexAt
  simp only [asIntOf, Instr.sureAddr, Sem.run_bind, Sem.run_pure, Result.andThen_ok, run_underlying hu, hs, if_pos h1, Int.toNat_natCast, add0]
theorem run_indexAt_part (t : TypeId) (n : Nat) (e : TypeId) (hu : P.underlying t = some (.array n e)) (hs : ∀ w, (sizeOf e).run P w = .ok 1 w) (hn : 1 < n)
    (b o : Nat) (k : Nat) (hk : k < n) (W : World) : (Instr.indexAt t (.pointer (some ⟨b, o, none⟩)) (.int .i64 k)).run P W = .ok (.pointer (some ⟨b, o + k, none⟩)) W := by
  have h1 : (0 : Int) ≤ (k : Int) ∧ (k : Int) < (n : Int) := by omega
  unfold Instr.indexAt
  simp only [asIntOf, Instr.sureAddr, Sem.run_bind, Sem.run_pure, Result.andThen_ok, run_underlying hu, hs, if_pos h1, Int.toNat_natCast, Nat.mul_one, Addr.add_mid]
theorem results_cell_mid {fn : Func} {p u : Tmp} {ty : TypeId} (h : fn.results = #[.cell p ty, .tmp u]) (tmps : Array Value) (w : World) (b o : Nat) (cs : List Value) (d : TypeDesc)
    (hp : tmps.getD p undef = .pointer (some ⟨b, o, none⟩)) (hc : w.rangeAt b o cs)
    (hu : P.underlying ty = some d) (hd : d.isRow = true) (hi : (P.info? ty).map (·.size) = some cs.length) :
    (results fn tmps).run P w = .ok (.tuple #[.agg cs.toArray, tmps.getD u undef]) w := by
  rw [results_cell_tmp h, hp]
  simp only [asAddr, Sem.run_pure, Result.andThen_ok, run_loadVar_mid w b o ty cs d hc hu hd hi]
end

/-! which operation comes next: asked before a law is offered -/
theorem store_is {P : Program} {ops : Array Oper} {rest : List Oper} {a : Act} {w : World} {Q : Exit → Act → World → Prop} {dst : Option Nat} {tt : TypeId} {pos : String} {after : Array Edge} (ty : TypeId) (x y : Operand) (h : wpList P ops Q ({ dst := dst, op := .store ty x y, type := tt, pos := pos, after := after, guard := none } :: rest) a w) : wpList P ops Q ({ dst := dst, op := .store ty x y, type := tt, pos := pos, after := after, guard := none } :: rest) a w := h
theorem load_is {P : Program} {ops : Array Oper} {rest : List Oper} {a : Act} {w : World} {Q : Exit → Act → World → Prop} {dst : Option Nat} {tt : TypeId} {pos : String} {after : Array Edge} (ty : TypeId) (x : Operand) (h : wpList P ops Q ({ dst := dst, op := .load ty x, type := tt, pos := pos, after := after, guard := none } :: rest) a w) : wpList P ops Q ({ dst := dst, op := .load ty x, type := tt, pos := pos, after := after, guard := none } :: rest) a w := h
theorem build_is {P : Program} {ops : Array Oper} {rest : List Oper} {a : Act} {w : World} {Q : Exit → Act → World → Prop} {dst : Option Nat} {tt : TypeId} {pos : String} {after : Array Edge} (ty : TypeId) (h : wpList P ops Q ({ dst := dst, op := .build ty #[], type := tt, pos := pos, after := after, guard := none } :: rest) a w) : wpList P ops Q ({ dst := dst, op := .build ty #[], type := tt, pos := pos, after := after, guard := none } :: rest) a w := h
theorem alloc_is {P : Program} {ops : Array Oper} {rest : List Oper} {a : Act} {w : World} {Q : Exit → Act → World → Prop} {dst : Option Nat} {tt : TypeId} {pos : String} {after : Array Edge} (ty : TypeId) (h : wpList P ops Q ({ dst := dst, op := .alloc ty, type := tt, pos := pos, after := after, guard := none } :: rest) a w) : wpList P ops Q ({ dst := dst, op := .alloc ty, type := tt, pos := pos, after := after, guard := none } :: rest) a w := h
theorem box_is {P : Program} {ops : Array Oper} {rest : List Oper} {a : Act} {w : World} {Q : Exit → Act → World → Prop} {dst : Option Nat} {tt : TypeId} {pos : String} {after : Array Edge} (ty : TypeId) (x : Operand) (h : wpList P ops Q ({ dst := dst, op := .box ty x, type := tt, pos := pos, after := after, guard := none } :: rest) a w) : wpList P ops Q ({ dst := dst, op := .box ty x, type := tt, pos := pos, after := after, guard := none } :: rest) a w := h
theorem make_is {P : Program} {ops : Array Oper} {rest : List Oper} {a : Act} {w : World} {Q : Exit → Act → World → Prop} {dst : Option Nat} {tt : TypeId} {pos : String} {after : Array Edge} (ty : TypeId) (x y : Operand) (h : wpList P ops Q ({ dst := dst, op := .makeSlice ty x y, type := tt, pos := pos, after := after, guard := none } :: rest) a w) : wpList P ops Q ({ dst := dst, op := .makeSlice ty x y, type := tt, pos := pos, after := after, guard := none } :: rest) a w := h
theorem range_append {w : World} {b o : Nat} {l1 l2 : List Value} {o2 : Nat} (h1 : w.rangeAt b o l1) (h2 : w.rangeAt b o2 l2) (ho : o2 = o + l1.length) : w.rangeAt b o (l1 ++ l2) := by
  subst ho
  intro j v hv
  rw [List.getElem?_append] at hv
  by_cases hj : j < l1.length
  · rw [if_pos hj] at hv
    exact h1 j v hv
  · rw [if_neg hj] at hv
    have := h2 _ v hv
    have e : o + l1.length + (j - l1.length) = o + j := by omega
    rwa [e] at this
theorem range_row {w : World} {b : Nat} {C : Array Value} {t : TypeId} {fr : Nat × Nat} (hb : w.heap[b]? = some (.cells C t fr)) : w.rangeAt b 0 C.toList := fun j v hv => by
  rw [cell_of_row w b (0 + j) C t fr hb, Nat.zero_add]
  simpa using hv
theorem range_nil {w : World} {b o : Nat} : w.rangeAt b o [] := fun j v hv => by simp at hv
theorem range_blocks {w w' : World} {b o : Nat} {cs : List Value} (h : w.rangeAt b o cs) (e : w'.heap[b]? = w.heap[b]?) : w'.rangeAt b o cs := fun j v hv => by
  rw [World.cell?_of_block e]; exact h j v hv
theorem there_blocks {w w' : World} {b o n : Nat} (h : w.there b o n) (e : w'.heap[b]? = w.heap[b]?) : w'.there b o n := fun j hj => by
  rw [World.cell?_of_block e, World.frozen?_of_block e]; exact h j hj
theorem there_row {w : World} {b : Nat} {C : Array Value} {t : TypeId} {n : Nat} (hb : w.heap[b]? = some (.cells C t (0, 0))) (hn : n ≤ C.size) : w.there b 0 n := fun j hj => by
  rw [cell_of_row w b (0 + j) C t (0, 0) hb, frozen_of_row w b (0 + j) C t hb, Nat.zero_add]
  exact ⟨by simp; omega, rfl⟩
theorem there_part {w : World} {b n o m : Nat} (h : w.there b 0 n) (hm : o + m ≤ n) : w.there b o m := fun j hj => by
  have := h (o + j) (by omega)
  rwa [Nat.zero_add] at this
theorem heap_setCells_other (w : World) (b : Nat) : ∀ (vs : List Value) (o : Nat) (w : World) (k : Nat), k ≠ b → (w.setCells b o vs).heap[k]? = w.heap[k]?
  | [], _, _, _, _ => rfl
  | v :: r, o, w, k, h => by
    rw [World.setCells, heap_setCells_other w b r (o + 1) _ k h, heap_setCell_other _ _ _ _ h]
theorem size_setCells (b : Nat) : ∀ (vs : List Value) (o : Nat) (w : World), (w.setCells b o vs).heap.size = w.heap.size
  | [], _, _ => rfl
  | v :: r, o, w => by rw [World.setCells, size_setCells b r (o + 1)]; simp [World.setCell]
theorem Below.setCells {S : Nat} {W w : World} (h : Below S W w) (b : Nat) (hb : S ≤ b) : ∀ (vs : List Value) (o : Nat) (w : World), Below S W w → Below S W (w.setCells b o vs)
  | [], _, _, h => h
  | v :: r, o, w, h => by rw [World.setCells]; exact Below.setCells h b hb r (o + 1) _ (h.setCell (p := ⟨b, o, none⟩) hb v)
end Go.Proofs.Yticnfekjbknomaa
/- What the reader of a code picks: a number from 0 to n-1, whatever the code; only the reader's own block changes. -/
namespace Go.Proofs.Yticnfekjbknomaa
open Go.ChangeShapes Go.WideShapes Go.ChangeAt Go.RowKit
set_option linter.unusedVariables false

/-- a slice of numbers that lies in 'w', or nil -/
def Row (k : IntKind) (w : World) (a : Option Addr) (len cap : Nat) (zs : List Int) : Prop :=
  (a = none ∧ len = 0 ∧ cap = 0 ∧ zs = []) ∨
  ∃ x, a = some x ∧ len ≤ cap ∧ cap ≤ maxLen ∧ zs.length = cap ∧ (∀ i, i < zs.length → w.cell? (x.add i) = some (.int k (zs.getD i 0))) ∧ ∀ n ∈ zs, (Lit.int k n).wf = true

/-- the reader in block B has been asked at most k times; what was there before is as it was -/
def Rdr (w0 w : World) (B k : Nat) : Prop :=
  ∃ (a : Option Addr) (len cap : Nat) (zs : List Int) (p : Nat), Row .u8 w0 a len cap zs ∧ p ≤ k ∧
    w.heap[B]? = some (.cells #[.slice a len cap, .int .i64 p] 122 (0, 0)) ∧ Below w0.heap.size w0 w ∧ w0.heap.size ≤ B

/-- nothing but block B has changed -/
def Only (B : Nat) (w w' : World) : Prop := w'.os = w.os ∧ w'.tape = w.tape ∧ w'.output = w.output ∧ w'.heap.size = w.heap.size ∧ ∀ i, i ≠ B → w'.heap[i]? = w.heap[i]?

def Picked (n : Int) (w0 : World) (B k : Nat) (w : World) (e : Ending) (w' : World) : Prop :=
  ∃ m : Int, 0 ≤ m ∧ m < n ∧ e = .returned (.int .i64 m) ∧ Rdr w0 w' B k ∧ Only B w w'

theorem xor_nn (E : Int) (h0 : 0 ≤ E) (h1 : E < 1000000000000) : 0 ≤ bits .xor .i64 E (E / 64) := by
  obtain ⟨X, rfl⟩ : ∃ X : Nat, E = X := ⟨E.toNat, by omega⟩
  have hd : ((X : Int) / 64) = ((X / 64 : Nat) : Int) := by omega
  rw [hd]
  have hx : X ^^^ (X / 64) < 2 ^ 40 := Nat.xor_lt_two_pow (by omega) (by omega)
  have k1 : (BitVec.ofInt 64 (X : Int)).toNat = X := by
    rw [BitVec.ofInt_natCast, BitVec.toNat_ofNat]; exact Nat.mod_eq_of_lt (by omega)
  have k2 : (BitVec.ofInt 64 ((X / 64 : Nat) : Int)).toNat = X / 64 := by
    rw [BitVec.ofInt_natCast, BitVec.toNat_ofNat]; exact Nat.mod_eq_of_lt (by omega)
  show 0 ≤ IntKind.i64.wrap ((BitVec.ofInt 64 (X : Int) ^^^ BitVec.ofInt 64 ((X / 64 : Nat) : Int)).toNat : Int)
  rw [BitVec.toNat_xor, k1, k2]
  have := IntWalk.i64_in ((X ^^^ (X / 64) : Nat) : Int) (by omega)
  rw [this]
  omega

theorem two_cell0 {w : World} {B : Nat} {u v : Value} {t : TypeId} (h : w.heap[B]? = some (.cells #[u, v] t (0, 0))) : w.cell? ⟨B, 0, none⟩ = some u := by simp [World.cell?, h]
theorem two_cell1 {w : World} {B : Nat} {u v : Value} {t : TypeId} (h : w.heap[B]? = some (.cells #[u, v] t (0, 0))) : w.cell? ⟨B, 1, none⟩ = some v := by simp [World.cell?, h]
theorem two_free {w : World} {B : Nat} {u v : Value} {t : TypeId} {o : Nat} (h : w.heap[B]? = some (.cells #[u, v] t (0, 0))) : w.frozen? ⟨B, o, none⟩ = false := by simp [World.frozen?, h]
theorem two_set1 {w : World} {B : Nat} {u v x : Value} {t : TypeId} (h : w.heap[B]? = some (.cells #[u, v] t (0, 0))) : (w.setCell ⟨B, 1, none⟩ x).heap[B]? = some (.cells #[u, x] t (0, 0)) := by
  simp only [World.setCell, Array.getElem?_modify, h]
  rfl
theorem only_set {w : World} {B o : Nat} {x : Value} {d : Nat} : Only B w ((w.setCell ⟨B, o, none⟩ x).drewN d) :=
  ⟨rfl, rfl, rfl, by simp [World.setCell], fun i hi => by simpa using Below.heap_setCell w ⟨B, o, none⟩ x i hi⟩

theorem rdr_set {w0 w : World} {B k : Nat} {a : Option Addr} {len cap : Nat} {zs : List Int} {p : Nat} (hr : Row .u8 w0 a len cap zs) (hp : p ≤ k)
    (h : w.heap[B]? = some (.cells #[.slice a len cap, .int .i64 p] 122 (0, 0))) (hb : Below w0.heap.size w0 w) (hB : w0.heap.size ≤ B) (d : Nat) :
    Rdr w0 ((w.setCell ⟨B, 1, none⟩ (.int .i64 ((p : Int) + 1))).drewN d) B (k + 1) :=
  ⟨a, len, cap, zs, p + 1, hr, by omega, by simpa using two_set1 h, (by have := hb.setCell (p := ⟨B, 1, none⟩) hB (.int .i64 ((p : Int) + 1)); exact ⟨this.os, this.tape, this.output, this.size, this.block⟩), hB⟩

theorem picked_mk {w0 w : World} {B k : Nat} {a : Option Addr} {len cap : Nat} {zs : List Int} {p : Nat} (hr : Row .u8 w0 a len cap zs) (hp : p ≤ k)
    (h : w.heap[B]? = some (.cells #[.slice a len cap, .int .i64 p] 122 (0, 0))) (hb : Below w0.heap.size w0 w) (hB : w0.heap.size ≤ B) (d : Nat) {n m : Int} (h0 : 0 ≤ m) (h1 : m < n) :
    Picked n w0 B (k + 1) w (.returned (.int .i64 m)) ((w.setCell ⟨B, 1, none⟩ (.int .i64 ((p : Int) + 1))).drewN d) :=
  ⟨m, h0, h1, rfl, rdr_set hr hp h hb hB d, only_set⟩

theorem byte_bd {zs : List Int} (hw : ∀ n ∈ zs, (Lit.int .u8 n).wf = true) (i : Nat) : 0 ≤ zs.getD i 0 ∧ zs.getD i 0 ≤ 255 := by
  by_cases h : i < zs.length
  · have e : zs.getD i 0 = zs[i] := by simp [List.getD, h]
    have := hw zs[i] (List.getElem_mem h)
    rw [e]
    simpa [Lit.wf, IntKind.min, IntKind.max, IntKind.signed, IntKind.bits] using this
  · have e : zs.getD i 0 = 0 := by simp [List.getD, List.getElem?_eq_none (Nat.le_of_not_lt h)]
    omega

theorem mod_lo {a n : Int} (h : 0 ≤ a) : 0 ≤ a.tmod n := Int.tmod_nonneg n h
theorem mod_hi {a n : Int} (h : 0 ≤ a) (hn : 1 ≤ n) : a.tmod n < n := Int.tmod_lt_of_pos a (by omega)

theorem pick_empty (w0 w : World) (B k : Nat) (n : Int) (a : Option Addr) (cap : Nat) (zs : List Int) (p : Nat) (hr : Row .u8 w0 a 0 cap zs) (hp : p ≤ k) (hk : k ≤ 1000000)
    (h : w.heap[B]? = some (.cells #[.slice a 0 cap, .int .i64 p] 122 (0, 0))) (hb : Below w0.heap.size w0 w) (hB : w0.heap.size ≤ B) (hn : 1 ≤ n) :
    Calls Try.prog 63 #[.pointer (some ⟨B, 0, none⟩), .int .i64 n] w (Picked n w0 B (k + 1) w) := by
  have c0 := two_cell0 h
  have c1 := two_cell1 h
  have f1 : w.frozen? ⟨B, 1, none⟩ = false := two_free h
  have hp' : (p : Int) ≤ 1000000 := by omega
  have hd : decide (n < 1) = false := by simp; omega
  have H := Lib.hid h
  clear h
  go_enter Try.func63, Try.ntmps63
  go_wp2
  go_ret
  exact picked_mk hr hp H.out hb hB 0 (by omega) (by omega)

theorem pick_near (w0 w : World) (B k : Nat) (n : Int) (b off len cap : Nat) (zs : List Int) (p : Nat) (c : Int) (hr : Row .u8 w0 (some ⟨b, off, none⟩) len cap zs) (hp : p ≤ k) (hk : k ≤ 1000000)
    (h : w.heap[B]? = some (.cells #[.slice (some ⟨b, off, none⟩) len cap, .int .i64 p] 122 (0, 0))) (hb : Below w0.heap.size w0 w) (hB : w0.heap.size ≤ B) (hn : 1 ≤ n)
    (hlen : p < len) (hbB : b ≠ B) (hc : w.cell? ⟨b, off + p, none⟩ = some (.int .u8 c)) (hz0 : 0 ≤ c) (hz1 : c ≤ 255) :
    Calls Try.prog 63 #[.pointer (some ⟨B, 0, none⟩), .int .i64 n] w (Picked n w0 B (k + 1) w) := by
  have c0 := two_cell0 h
  have c1 := two_cell1 h
  have f1 : w.frozen? ⟨B, 1, none⟩ = false := two_free h
  have hp' : (p : Int) ≤ 1000000 := by omega
  have hd : decide (n < 1) = false := by simp; omega
  have hl0 : ((len : Int) == 0) = false := by simp; omega
  have hl1 : (p : Int) < (len : Int) := by omega
  have hc' : (w.setCell ⟨B, 1, none⟩ (.int .i64 ((p : Int) + 1))).cell? ⟨b, off + p, none⟩ = some (.int .u8 c) := by
    rw [World.cell?_of_block (Below.heap_setCell w ⟨B, 1, none⟩ _ b hbB)]; exact hc
  have hm0 : 0 ≤ c % n := Int.emod_nonneg _ (by omega)
  have hm1 : c % n < n := Int.emod_lt_of_pos _ (by omega)
  have hnz : (n == 0) = false := by simp; omega
  have H := Lib.hid h
  clear h
  go_enter Try.func63, Try.ntmps63
  go_wp2
  go_ret
  exact picked_mk hr hp H.out hb hB 0 hm0 hm1

theorem pick_far (w0 w : World) (B k : Nat) (n : Int) (b off len cap : Nat) (zs : List Int) (p : Nat) (x y : Int) (hr : Row .u8 w0 (some ⟨b, off, none⟩) len cap zs) (hp : p ≤ k) (hk : k ≤ 1000000)
    (h : w.heap[B]? = some (.cells #[.slice (some ⟨b, off, none⟩) len cap, .int .i64 p] 122 (0, 0))) (hb : Below w0.heap.size w0 w) (hB : w0.heap.size ≤ B) (hn : 1 ≤ n)
    (hlen : len ≤ p) (hl : 0 < len) (hbB : b ≠ B) (hx : w.cell? ⟨b, off + p % len, none⟩ = some (.int .u8 x)) (hy : w.cell? ⟨b, off + (p * 7 + 3) % len, none⟩ = some (.int .u8 y))
    (hx0 : 0 ≤ x) (hx1 : x ≤ 255) (hy0 : 0 ≤ y) (hy1 : y ≤ 255) :
    Calls Try.prog 63 #[.pointer (some ⟨B, 0, none⟩), .int .i64 n] w (Picked n w0 B (k + 1) w) := by
  have c0 := two_cell0 h
  have c1 := two_cell1 h
  have f1 : w.frozen? ⟨B, 1, none⟩ = false := two_free h
  have hp' : (p : Int) ≤ 1000000 := by omega
  have hd : decide (n < 1) = false := by simp; omega
  have hl0 : ((len : Int) == 0) = false := by simp; omega
  have hl1 : decide ((p : Int) < (len : Int)) = false := by simp; omega
  have hl2 : decide (p < len) = false := by simp; omega
  have hx' : (w.setCell ⟨B, 1, none⟩ (.int .i64 ((p : Int) + 1))).cell? ⟨b, off + p % len, none⟩ = some (.int .u8 x) := by
    rw [World.cell?_of_block (Below.heap_setCell w ⟨B, 1, none⟩ _ b hbB)]; exact hx
  have hy' : (w.setCell ⟨B, 1, none⟩ (.int .i64 ((p : Int) + 1))).cell? ⟨b, off + (p * 7 + 3) % len, none⟩ = some (.int .u8 y) := by
    rw [World.cell?_of_block (Below.heap_setCell w ⟨B, 1, none⟩ _ b hbB)]; exact hy
  have hi1 : (p : Int) % (len : Int) < (len : Int) := Int.emod_lt_of_pos _ (by omega)
  have hi2 : 0 ≤ (p : Int) % (len : Int) := Int.emod_nonneg _ (by omega)
  have hq0 : 0 ≤ (p : Int) / (len : Int) := Int.ediv_nonneg (by omega) (by omega)
  have hq1 : (p : Int) / (len : Int) ≤ 1000000 := Int.le_trans (Int.ediv_le_self _ (by omega)) (by omega)
  have hj1 : ((p : Int) * 7 + 3) % (len : Int) < (len : Int) := Int.emod_lt_of_pos _ (by omega)
  have hj2 : 0 ≤ ((p : Int) * 7 + 3) % (len : Int) := Int.emod_nonneg _ (by omega)
  have hnz : (n == 0) = false := by simp; omega
  have H := Lib.hid h
  clear h
  go_enter Try.func63, Try.ntmps63
  go_wp2_with fail
  go_quiet (fail)
  go_wp2
  go_ret
  have hE := xor_nn (x * 131 + y * 1117 + (p : Int) * 29 + (p : Int) / (len : Int) * 53) (by omega) (by omega)
  refine picked_mk hr hp H.out hb hB _ (mod_lo hE) (mod_hi hE (by omega))
end Go.Proofs.Yticnfekjbknomaa
