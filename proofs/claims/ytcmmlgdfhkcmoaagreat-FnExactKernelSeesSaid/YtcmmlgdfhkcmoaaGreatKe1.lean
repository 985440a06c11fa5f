/- What the proofs stand on, part 1. -/
import Derived.Test.YtcmmlgdfhkcmoaaGreatRows
import Derived.WalkKit
import Derived.ProofKit
import Derived.OpenShut
import Derived.Below
import Derived.Lib.Hide
import Derived.Deep.Draws
import Derived.Deep.OwnRows
import Derived.Deep.QuietTactic
import Derived.BigQuiet
import Derived.LoopTactic
import Derived.Outline
import Derived.OwnWalk
import Derived.Laws.AppendOwn
import Derived.Maps.AppendAt
import Derived.Deep.MidRow
import Derived.Deep.WholeRow
import Derived.Laws.ResultCell
import Derived.Handy
import Derived.Tactics
import Derived.Laws.Strings
import Derived.Laws.Concat
import Derived.Deep.RegionWith
import Derived.Deep.RegionHeld3
import Derived.Laws.BytesString
import Derived.Laws.IdiomStrings
import Derived.Laws.AppendOwnNone
import Derived.Laws.DeepStrings4
import Derived.Laws.Cover1
import Derived.Deep.RegionHeld
import Derived.Maps.Ext
import Derived.Maps.OwnSet
import Derived.Sort.Walk0
import Derived.Sort.KeysCollected
import Derived.Lib.SlMapFilter
import Derived.Deep.SlicePairs
import Derived.Shelf.Lays
import Derived.Shelf.Lays2
import Derived.Shelf.Sort.Plain
import Derived.Shelf.Slices.CompactI
import Derived.Shelf.Slices.In.SortNone
import Derived.Lib.SortBridge
import Derived.RangeFuncNested
import Derived.RangeFuncBound
import Derived.RangeFuncCalls
import Derived.RangeFuncLeaves
import Derived.RangeFuncBox
import Derived.RangeFuncFrom
import Derived.Shelf.Abstract
import Derived.Shelf.RegionOpen
import Derived.OwnWalkIn
import Derived.TacticsInMore
import Derived.LoopNIn
import Derived.LoopIn
import Derived.RangeFuncWrites
import Derived.Maps.OwnIn
import Derived.Deep.Matrix
import Derived.Lib.SmallJoins
import Derived.SliceStrings
import Derived.Deep.Strs
namespace Go.Proofs.YtcmmlgdfhkcmoaaGreat
open Go.ChangeShapes Go.WideShapes Go.ChangeAt Go.RowKit
def Ints (w : World) (v : Value) (xs : List Int) : Prop :=
  ∃ (a : Option Addr) (cap : Nat), v = .slice a xs.length cap ∧ xs.length ≤ cap ∧ cap ≤ maxLen ∧
    ∀ i, i < xs.length → ∃ b o, a = some ⟨b, o, none⟩ ∧ w.cell? ⟨b, o + i, none⟩ = some (.int .i64 (xs.getD i 0))
def Rows2 (w : World) (v : Value) (xss : List (List Int)) : Prop :=
  ∃ (a : Option Addr) (cap : Nat), v = .slice a xss.length cap ∧ xss.length ≤ cap ∧ cap ≤ maxLen ∧
    ∀ i, i < xss.length → ∃ b o u, a = some ⟨b, o, none⟩ ∧ w.cell? ⟨b, o + i, none⟩ = some u ∧ Ints w u (xss.getD i [])
theorem Ints.drewN {w : World} {v : Value} {xs : List Int} (h : Ints w v xs) (n : Nat) : Ints (w.drewN n) v xs := h
theorem Rows2.drewN {w : World} {v : Value} {xss : List (List Int)} (h : Rows2 w v xss) (n : Nat) : Rows2 (w.drewN n) v xss := h
theorem getD_lt {α : Type} {l : List α} {i : Nat} {d : α} (h : i < l.length) : l.getD i d = l[i] := by simp [List.getD, h]
theorem take_snoc_getD {α : Type} (l : List α) (k : Nat) (d : α) (h : k < l.length) : l.take (k + 1) = l.take k ++ [l.getD k d] := by
  rw [getD_lt h, List.take_succ_eq_append_getElem h]
theorem take_all {α : Type} {l : List α} {k : Nat} (h : k = l.length) : l.take k = l := by rw [h, List.take_length]
theorem take_eq_succ {α : Type} {xs ys : List α} {d : α} {k : Nat} (hl : xs.length = ys.length) (hk : k < xs.length) (h : xs.take k = ys.take k) (he : xs.getD k d = ys.getD k d) : xs.take (k + 1) = ys.take (k + 1) := by
  rw [take_snoc_getD xs k d hk, take_snoc_getD ys k d (by omega), h, he]
theorem eq_of_take {α : Type} {xs ys : List α} {k : Nat} (hl : xs.length = ys.length) (hk : k = xs.length) (h : xs.take k = ys.take k) : xs = ys := by
  have h1 := take_all hk
  have h2 := take_all (l := ys) (k := k) (by omega)
  rw [← h1, ← h2, h]
theorem ne_of_getD {α : Type} {xs ys : List α} {d : α} {k : Nat} (h : xs.getD k d ≠ ys.getD k d) : xs ≠ ys := fun e => h (by rw [e])
end Go.Proofs.YtcmmlgdfhkcmoaaGreat
namespace Go.Proofs.YtcmmlgdfhkcmoaaGreat
open Go.ChangeShapes Go.WideShapes Go.ChangeAt Go.RowKit
set_option linter.unusedVariables false
set_option maxRecDepth 100000
def Reads (v : Value) (w : World) (e : Ending) (w' : World) : Prop := e = .returned v ∧ ∃ n, w' = w.drewN n
theorem reads_mk {b c : Bool} {w : World} {n : Nat} (h : b = c) : Reads (.bool c) w (.returned (.bool b)) (w.drewN n) := ⟨by rw [h], n, rfl⟩
theorem reads_mk0 {b c : Bool} {w : World} (h : b = c) : Reads (.bool c) w (.returned (.bool b)) w := ⟨by rw [h], 0, rfl⟩
theorem reads_mk2 {b c : Bool} {w : World} {n m : Nat} (h : b = c) : Reads (.bool c) w (.returned (.bool b)) ((w.drewN n).drewN m) := ⟨by rw [h], n + m, by rw [World.drewN_drewN]⟩
theorem reads_add {P : Program} {f : FuncId} {args : Array Value} {w : World} {a n : Nat} {v : Value} (h : Calls P f args (w.drewN (a + n)) (Reads v (w.drewN (a + n)))) :
    Calls P f args (w.drewN (a + n)) fun e w'' => e = .returned v ∧ ∃ m, w'' = w.drewN (a + m) :=
  h.mono fun _ _ ⟨he, m, hm⟩ => ⟨he, n + m, by rw [hm, World.drewN_drewN, Nat.add_assoc]⟩
theorem eqIntS_any (w : World) (va vb : Value) (xs ys : List Int) (ha : Ints w va xs) (hb : Ints w vb ys) :
    Calls Tryz.prog 44 #[va, vb] w (Reads (.bool (decide (xs = ys))) w) := by
  obtain ⟨a, ca, rfl, hla, hma, hxa⟩ := ha
  obtain ⟨b, cb, rfl, hlb, hmb, hxb⟩ := hb
  unfold maxLen at hma hmb
  by_cases hl : xs.length = ys.length
  · obtain ⟨n, hn⟩ : ∃ n, n = xs.length := ⟨_, rfl⟩
    have hn2 : ys.length = n := by omega
    rw [← hn] at hla hxa ⊢
    rw [hn2] at hlb hxb ⊢
    have HN := Lib.hid hn
    have HN2 := Lib.hid hn2
    clear hn hn2 hl
    go_enter Tryz.func44, Tryz.ntmps44
    go_wp2
    go_loopw [5] (fun i wr => ∃ k d : Nat, k ≤ n ∧ i = .int .i64 k ∧ Hid (xs.take k = ys.take k) ∧ wr = w.drewN d) (fun i _ => n - (intOf i).toNat)
    case atStart => exact ⟨0, 0, Nat.zero_le _, rfl, Lib.hid rfl, rfl⟩
    case round =>
      obtain ⟨k, d, hk, rfl, HT, rfl⟩ := hrel
      by_cases hlt : k < n
      · obtain ⟨ba, oa, rfl, hca⟩ := hxa k hlt
        obtain ⟨bb, ob, rfl, hcb⟩ := hxb k hlt
        generalize hx : xs.getD k 0 = x at hca
        generalize hy : ys.getD k 0 = y at hcb
        have HX := Lib.hid hx
        have HY := Lib.hid hy
        clear hx hy hxa hxb
        have hlt' : (k : Int) < (n : Int) := by omega
        by_cases he : x = y
        · subst he
          go_wp2_with fail
          go_quiet (fail)
          go_wp2
          go_roundw
          case rel => exact ⟨k + 1, _, by omega, by go_num, Lib.hid (take_eq_succ (d := 0) (HN.out.symm.trans HN2.out.symm) (by have := HN.out; omega) HT.out (HX.out.trans HY.out.symm)), rfl⟩
          case measure => simp [intOf]; omega
        · have hne : (x != y) = true := by simpa using he
          have HE : Hid (¬ x = y) := Lib.hid he
          clear he
          go_wp2_with fail
          go_quiet (fail)
          go_wp2
          go_ret
          exact reads_mk2 (by symm; exact decide_eq_false (ne_of_getD (d := 0) (k := k) (fun h => HE.out (HX.out.symm.trans (h.trans HY.out)))))
      · go_wp2
        go_ret
        exact reads_mk (by symm; exact decide_eq_true (eq_of_take (HN.out.symm.trans HN2.out.symm) (by have := HN.out; omega) HT.out))
  · have hne : ((xs.length : Int) != (ys.length : Int)) = true := by simp; omega
    have HL := Lib.hid hl
    clear hl
    go_enter Tryz.func44, Tryz.ntmps44
    go_wp2
    go_ret
    exact reads_mk0 (by symm; exact decide_eq_false (fun h => HL.out (by rw [h])))
theorem eqIntSS_any (w : World) (va vb : Value) (xs ys : List (List Int)) (ha : Rows2 w va xs) (hb : Rows2 w vb ys) :
    Calls Tryz.prog 100 #[va, vb] w (Reads (.bool (decide (xs = ys))) w) := by
  obtain ⟨a, ca, rfl, hla, hma, hxa⟩ := ha
  obtain ⟨b, cb, rfl, hlb, hmb, hxb⟩ := hb
  unfold maxLen at hma hmb
  by_cases hl : xs.length = ys.length
  · obtain ⟨n, hn⟩ : ∃ n, n = xs.length := ⟨_, rfl⟩
    have hn2 : ys.length = n := by omega
    rw [← hn] at hla hxa ⊢
    rw [hn2] at hlb hxb ⊢
    have HN := Lib.hid hn
    have HN2 := Lib.hid hn2
    clear hn hn2 hl
    go_enter Tryz.func100, Tryz.ntmps100
    go_wp2
    go_loopw [5] (fun i wr => ∃ k d : Nat, k ≤ n ∧ i = .int .i64 k ∧ Hid (xs.take k = ys.take k) ∧ wr = w.drewN d) (fun i _ => n - (intOf i).toNat)
    case atStart => exact ⟨0, 0, Nat.zero_le _, rfl, Lib.hid rfl, rfl⟩
    case round =>
      obtain ⟨k, d, hk, rfl, HT, rfl⟩ := hrel
      by_cases hlt : k < n
      · obtain ⟨ba, oa, ua, rfl, hca, hia⟩ := hxa k hlt
        obtain ⟨bb, ob, ub, rfl, hcb, hib⟩ := hxb k hlt
        generalize hx : xs.getD k [] = x at hia
        generalize hy : ys.getD k [] = y at hib
        have HX := Lib.hid hx
        have HY := Lib.hid hy
        clear hx hy hxa hxb
        have hlt' : (k : Int) < (n : Int) := by omega
        have HA := Lib.hid hia
        have HB := Lib.hid hib
        clear hia hib
        by_cases he : x = y
        · have hd : decide (x = y) = true := decide_eq_true he
          have HE := Lib.hid he
          clear he
          have HC : ∀ m, Calls Tryz.prog 44 #[ua, ub] (w.drewN m) (Reads (.bool true) (w.drewN m)) := fun m => by
            have := eqIntS_any (w.drewN m) ua ub x y HA.out HB.out
            rw [hd] at this
            exact this
          have HC' := Lib.hid HC
          clear HC hd
          go_wp2_with fail
          go_quiet ((go_at_call 44; exact reads_add (HC'.out _)))
          go_wp2
          go_roundw
          case rel => exact ⟨k + 1, _, by omega, by go_num, Lib.hid (take_eq_succ (d := []) (HN.out.symm.trans HN2.out.symm) (by have := HN.out; omega) HT.out (HX.out.trans (HE.out.trans HY.out.symm))), rfl⟩
          case measure => simp [intOf]; omega
        · have hd : decide (x = y) = false := decide_eq_false he
          have HE : Hid (¬ x = y) := Lib.hid he
          clear he
          have HC : ∀ m, Calls Tryz.prog 44 #[ua, ub] (w.drewN m) (Reads (.bool false) (w.drewN m)) := fun m => by
            have := eqIntS_any (w.drewN m) ua ub x y HA.out HB.out
            rw [hd] at this
            exact this
          have HC' := Lib.hid HC
          clear HC hd
          go_wp2_with fail
          go_quiet ((go_at_call 44; exact reads_add (HC'.out _)))
          go_wp2
          go_ret
          exact reads_mk2 (by symm; exact decide_eq_false (ne_of_getD (d := []) (k := k) (fun h => HE.out (HX.out.symm.trans (h.trans HY.out)))))
      · go_wp2
        go_ret
        exact reads_mk (by symm; exact decide_eq_true (eq_of_take (HN.out.symm.trans HN2.out.symm) (by have := HN.out; omega) HT.out))
  · have hne : ((xs.length : Int) != (ys.length : Int)) = true := by simp; omega
    have HL := Lib.hid hl
    clear hl
    go_enter Tryz.func100, Tryz.ntmps100
    go_wp2
    go_ret
    exact reads_mk0 (by symm; exact decide_eq_false (fun h => HL.out (by rw [h])))
end Go.Proofs.YtcmmlgdfhkcmoaaGreat
namespace Go.Proofs.YtcmmlgdfhkcmoaaGreat
open Go.ChangeShapes Go.WideShapes Go.ChangeAt Go.RowKit
set_option linter.unusedVariables false
set_option maxRecDepth 100000
def total (xss : List (List Int)) : Nat := (xss.map List.length).sum
theorem total_snoc (xss : List (List Int)) (k : Nat) (h : k < xss.length) : total (xss.take (k + 1)) = total (xss.take k) + (xss.getD k []).length := by
  rw [take_snoc_getD xss k [] h]; simp [total]
theorem szIntS_any (w : World) (v : Value) (xs : List Int) (left : Int) (h : Ints w v xs) (h0 : 0 ≤ left) (h1 : left ≤ 1048576) :
    Calls Tryz.prog 150 #[v, .int .i64 left] w fun e w' => e = .returned (.int .i64 (if left < xs.length then -1 else left - xs.length)) ∧ w = w' := by
  obtain ⟨a, ca, rfl, hla, hma, hxa⟩ := h
  clear hxa
  unfold maxLen at hma
  generalize xs.length = n at *
  by_cases hl : left < n
  · have hd : left - (n : Int) < 0 := by omega
    rw [if_pos hl]
    go_enter Tryz.func150, Tryz.ntmps150
    go_wp2
    go_ret
    exact ⟨rfl, rfl⟩
  · have hd : decide (left - (n : Int) < 0) = false := by simp; omega
    have hd2 : decide (left < (n : Int)) = false := by simp; omega
    rw [if_neg hl]
    clear hl
    go_enter Tryz.func150, Tryz.ntmps150
    go_wp2
    go_ret
    exact ⟨rfl, rfl⟩
def Left (xss : List (List Int)) (left : Int) (w : World) (e : Ending) (w' : World) : Prop :=
  ∃ r : Int, (r < 0 ∨ (0 ≤ r ∧ r + xss.length + total xss = left)) ∧ e = .returned (.int .i64 r) ∧ w = w'
theorem left_neg {xss : List (List Int)} {left : Int} {w : World} : Left xss left w (.returned (.int .i64 (-1))) w := ⟨-1, .inl (by omega), rfl, rfl⟩
theorem szIntSS_any (w : World) (v : Value) (xss : List (List Int)) (left : Int) (h : Rows2 w v xss) (h0 : 0 ≤ left) (h1 : left ≤ 1048576) :
    Calls Tryz.prog 92 #[v, .int .i64 left] w (Left xss left w) := by
  obtain ⟨a, ca, rfl, hla, hma, hxa⟩ := h
  unfold maxLen at hma
  obtain ⟨n, hn⟩ : ∃ n, n = xss.length := ⟨_, rfl⟩
  rw [← hn] at hla hxa ⊢
  have HN := Lib.hid hn
  clear hn
  by_cases hl : left < n
  · have hd : left - (n : Int) < 0 := by omega
    go_enter Tryz.func92, Tryz.ntmps92
    go_wp2
    go_ret
    exact left_neg
  · have hd : decide (left - (n : Int) < 0) = false := by simp; omega
    have hd2 : decide (left < (n : Int)) = false := by simp; omega
    go_enter Tryz.func92, Tryz.ntmps92
    go_wp2
    go_loop [1, 5] (fun l i => ∃ (k : Nat) (r : Int), k ≤ n ∧ i = .int .i64 k ∧ l = .int .i64 r ∧ 0 ≤ r ∧ r ≤ 1048576 ∧ Hid (r + n + total (xss.take k) = left)) (fun _ i => n - (intOf i).toNat)
    case atStart => exact ⟨0, _, Nat.zero_le _, rfl, rfl, by omega, by omega, Lib.hid (by simp [total])⟩
    case round =>
      obtain ⟨k, r, hk, rfl, rfl, hr0, hr1, HT⟩ := hrel
      by_cases hlt : k < n
      · obtain ⟨ba, oa, ua, rfl, hca, hia⟩ := hxa k hlt
        have HS := Lib.hid (total_snoc xss k (by have := HN.out; omega))
        generalize hx : xss.getD k [] = x at hia HS
        clear hx hxa
        have hlt' : (k : Int) < (n : Int) := by omega
        by_cases hc : r < x.length
        · have HC := Lib.hid (szIntS_any w ua x r hia hr0 hr1)
          rw [if_pos hc] at HC
          go_wp2_with (go_at_call 150; refine HC.out.mono ?_; rintro e w' ⟨rfl, rfl⟩)
          go_ret
          exact left_neg
        · have HC := Lib.hid (szIntS_any w ua x r hia hr0 hr1)
          rw [if_neg hc] at HC
          have hc1 : decide (r - (x.length : Int) < 0) = false := by simp; omega
          have hc2 : decide (r < (x.length : Int)) = false := by simp; omega
          have hc3 : 0 ≤ r - (x.length : Int) := by omega
          go_wp2_with (go_at_call 150; refine HC.out.mono ?_; rintro e w' ⟨rfl, rfl⟩)
          go_round
          case rel => exact ⟨k + 1, r - x.length, by omega, by go_num, by go_num, by omega, by omega, Lib.hid (by have := HS.out; have := HT.out; omega)⟩
          case measure => simp [intOf]; omega
      · go_wp2
        go_ret
        exact ⟨r, .inr ⟨hr0, by have := HT.out; have := HN.out; rw [take_all (by omega)] at *; omega⟩, rfl, rfl⟩
def wordsOk (xs : List Int) : Bool := decide ((∀ x ∈ xs, 0 ≤ x ∧ x ≤ 9999) ∧ xs.length = 4)
def memOk (xss : List (List Int)) : Bool := decide ((∀ xs ∈ xss, wordsOk xs = true) ∧ xss.length = 12)
end Go.Proofs.YtcmmlgdfhkcmoaaGreat
namespace Go.Proofs.YtcmmlgdfhkcmoaaGreat
open Go.ChangeShapes Go.WideShapes Go.ChangeAt Go.RowKit
set_option linter.unusedVariables false
set_option maxRecDepth 100000
theorem intInfo : (Tryz.prog.info? 3).map (fun i => (i.zero, i.size, i.bytes)) = some (some (.int .i64 0), 1, 8) := by kernel_rfl
theorem intsInfo : (Tryz.prog.info? 42).map (fun i => (i.zero, i.size, i.bytes)) = some (some (.slice none 0 0), 1, 24) := by kernel_rfl
theorem cell_lt {w : World} {b o : Nat} {v : Value} (h : w.cell? ⟨b, o, none⟩ = some v) : b < w.heap.size := by
  rcases Nat.lt_or_ge b w.heap.size with h' | h'
  · exact h'
  · simp [World.cell?, Array.getElem?_eq_none h'] at h
theorem Ints.below {B : Nat} {w w' : World} {v : Value} {xs : List Int} (h : Ints w v xs) (hb : Below w.heap.size w w') : Ints w' v xs := by
  obtain ⟨a, cap, rfl, h1, h2, h3⟩ := h
  refine ⟨a, cap, rfl, h1, h2, fun i hi => ?_⟩
  obtain ⟨b, o, rfl, hc⟩ := h3 i hi
  exact ⟨b, o, rfl, (hb.cell (p := ⟨b, o + i, none⟩) (cell_lt hc)).trans hc⟩
theorem Rows2.below {w w' : World} {v : Value} {xss : List (List Int)} (h : Rows2 w v xss) (hb : Below w.heap.size w w') : Rows2 w' v xss := by
  obtain ⟨a, cap, rfl, h1, h2, h3⟩ := h
  refine ⟨a, cap, rfl, h1, h2, fun i hi => ?_⟩
  obtain ⟨b, o, u, rfl, hc, hu⟩ := h3 i hi
  exact ⟨b, o, u, rfl, (hb.cell (p := ⟨b, o + i, none⟩) (cell_lt hc)).trans hc, Ints.below (B := 0) hu hb⟩
def OwnInts (w : World) (g : Nat) (v : Value) (xs : List Int) : Prop := v = .slice (some ⟨g, 0, none⟩) xs.length xs.length ∧ xs.length ≤ maxLen ∧ w.rowIs g 3 xs.length (fun j => .int .i64 (xs.getD j 0))
theorem OwnInts.ints {w : World} {g : Nat} {v : Value} {xs : List Int} (h : OwnInts w g v xs) : Ints w v xs := by
  obtain ⟨rfl, hm, hr⟩ := h
  exact ⟨_, _, rfl, Nat.le_refl _, hm, fun i hi => ⟨g, 0, rfl, by simpa using hr.cell hi⟩⟩
theorem OwnInts.of_block {w w' : World} {g : Nat} {v : Value} {xs : List Int} (h : OwnInts w g v xs) (e : w'.heap[g]? = w.heap[g]?) : OwnInts w' g v xs := ⟨h.1, h.2.1, h.2.2.of_block e⟩
theorem OwnInts.lt {w : World} {g : Nat} {v : Value} {xs : List Int} (h : OwnInts w g v xs) : g < w.heap.size := h.2.2.lt
def cont (xs : List Int) (k : Nat) (j : Nat) : Value := if j < k then .int .i64 (xs.getD j 0) else .int .i64 0
theorem cont_step {xs : List Int} {k : Nat} (j : Nat) : (if j = k then Value.int .i64 (xs.getD k 0) else cont xs k j) = cont xs (k + 1) j := by
  unfold cont
  by_cases h : j = k
  · subst h; simp
  · by_cases h2 : j < k
    · rw [if_neg h, if_pos h2, if_pos (by omega)]
    · rw [if_neg h, if_neg h2, if_neg (by omega)]
theorem own_mk {w : World} {g n : Nat} {xs : List Int} (hN : n = xs.length) (hn : n ≤ 1048576) (hr : w.rowIs g 3 n (cont xs n)) : OwnInts w g (.slice (some ⟨g, 0, none⟩) n n) xs := by
  subst hN
  exact ⟨rfl, by unfold maxLen; omega, hr.congr (fun j hj => by simp [cont, hj])⟩
def ToInts (xs : List Int) (w : World) (e : Ending) (w' : World) : Prop :=
  ∃ v, e = .returned v ∧ OwnInts w' w.heap.size v xs ∧ Below w.heap.size w w' ∧ w'.heap.size = w.heap.size + 1
theorem toIntS_any (w : World) (v : Value) (xs : List Int) (h : Ints w v xs) (hn : xs.length ≤ 1048576) :
    Calls Tryz.prog 153 #[v] w (ToInts xs w) := by
  obtain ⟨a, ca, rfl, hla, hma, hxa⟩ := h
  unfold maxLen at hma
  obtain ⟨n, hN⟩ : ∃ n, n = xs.length := ⟨_, rfl⟩
  rw [← hN] at hla hxa hn ⊢
  have HN := Lib.hid hN
  clear hN
  have hmk := run_make_row' (P := Tryz.prog) 42 3 (.int .i64 0) 8 Tryz.underlying42 intInfo rfl .i64 .i64 n (by omega) (by omega)
  go_enter Tryz.func153, Tryz.ntmps153
  go_wp2
  clear hmk
  go_loopw [4] (fun i wr => ∃ k : Nat, k ≤ n ∧ i = .int .i64 k ∧ Below w.heap.size w wr ∧ wr.rowIs w.heap.size 3 n (cont xs k) ∧ Hid (wr.heap.size = w.heap.size + 1)) (fun i _ => n - (intOf i).toNat)
  case atStart => exact ⟨0, Nat.zero_le _, rfl, (Below.refl _ _).alloc (Nat.le_refl _) _, (World.rowIs_made w (.int .i64 0) n 3).congr (fun j _ => by simp [cont]), Lib.hid (by simp)⟩
  case round =>
    obtain ⟨k, hk, rfl, hbel, hrow, HS⟩ := hrel
    by_cases hlt : k < n
    · obtain ⟨b, o, rfl, hc⟩ := hxa k hlt
      have hb := cell_lt hc
      have hcr := (hbel.cell (p := ⟨b, o + k, none⟩) hb).trans hc
      have hdst := hrow.cell hlt
      have hfr := hrow.frozen k
      generalize hx : xs.getD k 0 = x at hcr
      have HX := Lib.hid hx
      clear hx hc hxa
      have hlt' : (k : Int) < (n : Int) := by omega
      go_wp2
      go_roundw
      case rel => exact ⟨k + 1, by omega, by go_num, hbel.setCell (p := ⟨w.heap.size, k, none⟩) (Nat.le_refl _) _, (hrow.set k _).congr (fun j _ => by rw [← HX.out]; exact cont_step j), Lib.hid (by have := HS.out; simpa [World.setCell] using this)⟩
      case measure => simp [intOf]; omega
    · go_wp2
      go_ret
      have e : k = n := by omega
      subst e
      exact ⟨_, rfl, own_mk HN.out hn hrow, hbel, HS.out⟩
end Go.Proofs.YtcmmlgdfhkcmoaaGreat
namespace Go.Proofs.YtcmmlgdfhkcmoaaGreat
open Go.ChangeShapes Go.WideShapes Go.ChangeAt Go.RowKit
set_option linter.unusedVariables false
set_option maxRecDepth 100000
def OwnRows (w : World) (g : Nat) (v : Value) (xss : List (List Int)) : Prop :=
  v = .slice (some ⟨g, 0, none⟩) xss.length xss.length ∧ xss.length ≤ maxLen ∧
    w.rowIs g 42 xss.length (fun j => .slice (some ⟨g + 1 + j, 0, none⟩) (xss.getD j []).length (xss.getD j []).length) ∧
    ∀ j, j < xss.length → OwnInts w (g + 1 + j) (.slice (some ⟨g + 1 + j, 0, none⟩) (xss.getD j []).length (xss.getD j []).length) (xss.getD j [])
def topc (xss : List (List Int)) (g k : Nat) (j : Nat) : Value := if j < k then .slice (some ⟨g + 1 + j, 0, none⟩) (xss.getD j []).length (xss.getD j []).length else .slice none 0 0
theorem topc_step {xss : List (List Int)} {g k : Nat} (j : Nat) : (if j = k then Value.slice (some ⟨g + 1 + k, 0, none⟩) (xss.getD k []).length (xss.getD k []).length else topc xss g k j) = topc xss g (k + 1) j := by
  unfold topc
  by_cases h : j = k
  · subst h; simp
  · by_cases h2 : j < k
    · rw [if_neg h, if_pos h2, if_pos (by omega)]
    · rw [if_neg h, if_neg h2, if_neg (by omega)]
def ToRows (xss : List (List Int)) (w : World) (e : Ending) (w' : World) : Prop :=
  ∃ v, e = .returned v ∧ OwnRows w' w.heap.size v xss ∧ Below w.heap.size w w' ∧ w'.heap.size = w.heap.size + 1 + xss.length
theorem own_rows_mk {w : World} {g n : Nat} {xss : List (List Int)} (hN : n = xss.length) (hn : n ≤ 1048576) (hr : w.rowIs g 42 n (topc xss g n))
    (hx : ∀ j, j < n → OwnInts w (g + 1 + j) (.slice (some ⟨g + 1 + j, 0, none⟩) (xss.getD j []).length (xss.getD j []).length) (xss.getD j [])) : OwnRows w g (.slice (some ⟨g, 0, none⟩) n n) xss := by
  subst hN
  exact ⟨rfl, by unfold maxLen; omega, hr.congr (fun j hj => by simp [topc, hj]), hx⟩
theorem len_le_total (xss : List (List Int)) (j : Nat) (h : j < xss.length) : (xss.getD j []).length ≤ total xss := by
  induction xss generalizing j with
  | nil => simp at h
  | cons x xs ih =>
    cases j with
    | zero => simp [total]
    | succ j => have := ih j (by simpa using h); simp [total] at this ⊢; omega
theorem toIntSS_any (w : World) (v : Value) (xss : List (List Int)) (h : Rows2 w v xss) (hn : xss.length + total xss ≤ 1048576) :
    Calls Tryz.prog 96 #[v] w (ToRows xss w) := by
  obtain ⟨a, ca, rfl, hla, hma, hxa⟩ := h
  unfold maxLen at hma
  have hlen := len_le_total xss
  obtain ⟨n, hN⟩ : ∃ n, n = xss.length := ⟨_, rfl⟩
  rw [← hN] at hla hxa hn hlen ⊢
  have HN := Lib.hid hN
  clear hN
  have HLEN := Lib.hid hlen
  clear hlen
  have hmk := run_make_row' (P := Tryz.prog) 25 42 (.slice none 0 0) 24 Tryz.underlying25 intsInfo rfl .i64 .i64 n (by omega) (by omega)
  go_enter Tryz.func96, Tryz.ntmps96
  go_wp2
  clear hmk
  go_loopw [4] (fun i wr => ∃ k : Nat, k ≤ n ∧ i = .int .i64 k ∧ Below w.heap.size w wr ∧ wr.rowIs w.heap.size 42 n (topc xss w.heap.size k) ∧ Hid (wr.heap.size = w.heap.size + 1 + k) ∧
    Hid (∀ j, j < k → OwnInts wr (w.heap.size + 1 + j) (.slice (some ⟨w.heap.size + 1 + j, 0, none⟩) (xss.getD j []).length (xss.getD j []).length) (xss.getD j []))) (fun i _ => n - (intOf i).toNat)
  case atStart => exact ⟨0, Nat.zero_le _, rfl, (Below.refl _ _).alloc (Nat.le_refl _) _, (World.rowIs_made w (.slice none 0 0) n 42).congr (fun j _ => by simp [topc]), Lib.hid (by simp), Lib.hid (fun j hj => by omega)⟩
  case round =>
    obtain ⟨k, hk, rfl, hbel, hrow, HS, HR⟩ := hrel
    by_cases hlt : k < n
    · obtain ⟨b, o, u, rfl, hc, hu⟩ := hxa k hlt
      have hb := cell_lt hc
      have hcr := (hbel.cell (p := ⟨b, o + k, none⟩) hb).trans hc
      have hur := Ints.below (B := 0) hu hbel
      have HC := Lib.hid (toIntS_any wr u _ hur (by have := HLEN.out k hlt; omega))
      clear hc hxa hu hur
      have hlt' : (k : Int) < (n : Int) := by omega
      go_wp2_with fail
      refine HC.out.mono ?_
      rintro e w2 ⟨v, rfl, ho, hb2, hs2⟩
      have hsz := HS.out
      rw [hsz] at ho hb2
      have hs3 : Hid (w2.heap.size = w.heap.size + 1 + (k + 1)) := Lib.hid (by omega)
      clear hs2
      obtain rfl := ho.1
      have hrow2 : w2.rowIs w.heap.size 42 n (topc xss w.heap.size k) := hrow.of_block (hb2.block _ (by omega))
      have hdst := hrow2.cell hlt
      have hfr := hrow2.frozen k
      have hbel2 : Below w.heap.size w w2 := hbel.trans (hb2.mono (by omega))
      have HR2 : Hid (∀ j, j < k + 1 → OwnInts (w2.setCell ⟨w.heap.size, k, none⟩ (.slice (some ⟨w.heap.size + 1 + k, 0, none⟩) (xss.getD k []).length (xss.getD k []).length)) (w.heap.size + 1 + j) (.slice (some ⟨w.heap.size + 1 + j, 0, none⟩) (xss.getD j []).length (xss.getD j []).length) (xss.getD j [])) := Lib.hid (fun j hj => by
        refine OwnInts.of_block ?_ (Below.heap_setCell _ _ _ _ (by show w.heap.size + 1 + j ≠ w.heap.size; omega))
        by_cases hjk : j = k
        · subst hjk; exact ho
        · exact (HR.out j (by omega)).of_block (hb2.block _ (by omega)))
      have HO := Lib.hid ho
      clear ho hsz HS
      go_wp2_with fail
      go_roundw
      case rel => exact ⟨k + 1, by omega, by go_num, hbel2.setCell (p := ⟨w.heap.size, k, none⟩) (Nat.le_refl _) _, (hrow2.set k _).congr (fun j _ => topc_step j), Lib.hid (by have := hs3.out; simpa [World.setCell] using this), HR2⟩
      case measure => simp [intOf]; omega
    · go_wp2
      go_ret
      have e : k = n := by omega
      subst e
      exact ⟨_, rfl, own_rows_mk HN.out (by omega) hrow HR.out, hbel, by rw [← HN.out]; exact HS.out⟩
end Go.Proofs.YtcmmlgdfhkcmoaaGreat
namespace Go.Proofs.YtcmmlgdfhkcmoaaGreat
open Go.ChangeShapes Go.WideShapes Go.ChangeAt Go.RowKit
set_option linter.unusedVariables false
set_option maxRecDepth 100000
theorem cell_set_same {w : World} {g p : Nat} {u v : Value} (h : w.cell? ⟨g, p, none⟩ = some u) : (w.setCell ⟨g, p, none⟩ v).cell? ⟨g, p, none⟩ = some v := by
  unfold World.cell? at h ⊢
  simp only [World.setCell, Array.getElem?_modify, if_pos]
  cases hb : w.heap[g]? with
  | none => rw [hb] at h; simp at h
  | some o =>
    rw [hb] at h
    cases o with
    | cells c t f =>
      have hp : p < c.size := by
        rcases Nat.lt_or_ge p c.size with h' | h'
        · exact h'
        · simp [Array.getElem?_eq_none h'] at h
      simp [hp]
    | _ => simp at h
theorem cell_set_other {w : World} {g p c o : Nat} {v : Value} (h : c ≠ g ∨ o ≠ p) : (w.setCell ⟨g, p, none⟩ v).cell? ⟨c, o, none⟩ = w.cell? ⟨c, o, none⟩ := by
  by_cases hc : c = g
  · subst hc
    have ho : o ≠ p := by rcases h with h | h <;> omega
    unfold World.cell?
    simp only [World.setCell, Array.getElem?_modify, if_pos]
    cases hb : w.heap[c]? with
    | none => rfl
    | some o =>
      cases o with
      | cells d t f => simp [Ne.symm ho]
      | _ => rfl
  · exact World.cell?_of_block (Below.heap_setCell w ⟨g, p, none⟩ v c hc)
theorem frozen_set {w : World} {a : Addr} {v : Value} (b : Addr) : (w.setCell a v).frozen? b = w.frozen? b := by
  unfold World.frozen?
  by_cases hc : b.block = a.block
  · simp only [World.setCell, Array.getElem?_modify, hc, if_pos]
    cases hb : w.heap[a.block]? with
    | none => rfl
    | some o => cases o <;> rfl
  · rw [Below.heap_setCell w a v b.block hc]
structure Marked (a : Option Addr) (n : Nat) (k : Int) (w w' : World) : Prop where
  os : w'.os = w.os
  tape : w'.tape = w.tape
  output : w'.output = w.output
  size : w'.heap.size = w.heap.size
  block : ∀ b, (∀ p, n = 0 ∨ a ≠ some ⟨b, p, none⟩) → w'.heap[b]? = w.heap[b]?
  frozen : ∀ b, w'.frozen? b = w.frozen? b
  inside : ∀ g p, a = some ⟨g, p, none⟩ → ∀ i, i < n → w'.cell? ⟨g, p + i, none⟩ = some (.int .i64 (k + i))
  outside : ∀ g p, a = some ⟨g, p, none⟩ → ∀ o, (o < p ∨ p + n ≤ o) → w'.cell? ⟨g, o, none⟩ = w.cell? ⟨g, o, none⟩
theorem Marked.zero (a : Option Addr) (k : Int) (w : World) : Marked a 0 k w w := ⟨rfl, rfl, rfl, rfl, fun _ _ => rfl, fun _ => rfl, fun _ _ _ i hi => by omega, fun _ _ _ _ _ => rfl⟩
theorem Marked.step {g p n : Nat} {k : Int} {w w' : World} (h : Marked (some ⟨g, p, none⟩) n k w w') {u : Value} (hc : w.cell? ⟨g, p + n, none⟩ = some u) :
    Marked (some ⟨g, p, none⟩) (n + 1) k w (w'.setCell ⟨g, p + n, none⟩ (.int .i64 (k + n))) := by
  refine ⟨h.os, h.tape, h.output, by simpa [World.setCell] using h.size, fun b hb => ?_, fun b => (frozen_set b).trans (h.frozen b), fun g' p' e i hi => ?_, fun g' p' e o ho => ?_⟩
  · have : b ≠ g := fun e => by
      rcases hb p with h' | h'
      · omega
      · exact h' (by rw [e])
    exact (Below.heap_setCell w' ⟨g, p + n, none⟩ _ b this).trans (h.block b (fun q => (hb q).elim (fun h' => by omega) .inr))
  · cases e
    by_cases hin : i = n
    · subst hin
      exact cell_set_same ((h.outside g p rfl (p + i) (.inr (Nat.le_refl _))).trans hc)
    · exact (cell_set_other (.inr (by omega))).trans (h.inside g p rfl i (by omega))
  · cases e
    exact (cell_set_other (.inr (by omega))).trans (h.outside g p rfl o (by omega))
structure Kept (B0 B1 : Nat) (w w' : World) : Prop where
  os : w'.os = w.os
  tape : w'.tape = w.tape
  output : w'.output = w.output
  size : w'.heap.size = w.heap.size
  block : ∀ b, (b < B0 ∨ B1 ≤ b) → w'.heap[b]? = w.heap[b]?
theorem Kept.refl (B0 B1 : Nat) (w : World) : Kept B0 B1 w w := ⟨rfl, rfl, rfl, rfl, fun _ _ => rfl⟩
theorem Kept.trans {B0 B1 : Nat} {a b c : World} (h : Kept B0 B1 a b) (k : Kept B0 B1 b c) : Kept B0 B1 a c :=
  ⟨k.os.trans h.os, k.tape.trans h.tape, k.output.trans h.output, k.size.trans h.size, fun i hi => (k.block i hi).trans (h.block i hi)⟩
theorem Kept.below {B0 B1 B : Nat} {a b w : World} (h : Kept B0 B1 a b) (hb : Below B w a) (hB : B ≤ B0) : Below B w b :=
  ⟨h.os.trans hb.os, h.tape.trans hb.tape, h.output.trans hb.output, by rw [h.size]; exact hb.size, fun k hk => (h.block k (.inl (by omega))).trans (hb.block k hk)⟩
structure MatAt (w : World) (B0 B1 : Nat) (a : Option Addr) (n : Nat) (A : Nat → Option Addr) (L C : Nat → Nat) (X : Nat → Nat → Int) : Prop where
  top : ∀ j, j < n → ∃ b o, a = some ⟨b, o, none⟩ ∧ B0 ≤ b ∧ b < B1 ∧ w.cell? ⟨b, o + j, none⟩ = some (.slice (A j) (L j) (C j)) ∧ L j ≤ C j ∧ C j ≤ maxLen ∧ w.frozen? ⟨b, o + j, none⟩ = false
  row : ∀ j, j < n → ∀ i, i < L j → ∃ g p, A j = some ⟨g, p, none⟩ ∧ B0 ≤ g ∧ g < B1 ∧ w.cell? ⟨g, p + i, none⟩ = some (.int .i64 (X j i)) ∧ w.frozen? ⟨g, p + i, none⟩ = false ∧ ∀ b o, a = some ⟨b, o, none⟩ → b ≠ g
  apart : ∀ j, j < n → ∀ j', j' < n → j ≠ j' → 0 < L j → 0 < L j' → ∀ g p g' p', A j = some ⟨g, p, none⟩ → A j' = some ⟨g', p', none⟩ → g ≠ g' ∨ p + L j ≤ p' ∨ p' + L j' ≤ p
def off (L : Nat → Nat) : Nat → Nat
  | 0 => 0
  | j + 1 => off L j + L j
theorem MatAt.kept {w w' : World} {B0 B1 : Nat} {a : Option Addr} {n : Nat} {A : Nat → Option Addr} {L C : Nat → Nat} {X : Nat → Nat → Int} {k : Int} {m : Nat} (hm : m < n)
    (h : MatAt w B0 B1 a n A L C X) (hk : Marked (A m) (L m) k w w') : Kept B0 B1 w w' :=
  ⟨hk.os, hk.tape, hk.output, hk.size, fun b hb => hk.block b fun p => by
    by_cases hL : 0 < L m
    · obtain ⟨g, p', e, h1, h2, _⟩ := h.row m hm 0 hL
      refine .inr (fun e' => ?_)
      rw [e] at e'; cases e'
      omega
    · exact .inl (by omega)⟩
end Go.Proofs.YtcmmlgdfhkcmoaaGreat
namespace Go.Proofs.YtcmmlgdfhkcmoaaGreat
open Go.ChangeShapes Go.WideShapes Go.ChangeAt Go.RowKit
set_option linter.unusedVariables false
set_option maxRecDepth 100000
theorem MatAt.rows {w : World} {B0 B1 : Nat} {a : Option Addr} {cap : Nat} {A : Nat → Option Addr} {L C : Nat → Nat} {X : Nat → Nat → Int} {xss : List (List Int)}
    (h : MatAt w B0 B1 a xss.length A L C X) (hc : xss.length ≤ cap) (hm : cap ≤ maxLen) (hL : ∀ j, j < xss.length → L j = (xss.getD j []).length) (hX : ∀ j, j < xss.length → ∀ i, i < L j → X j i = (xss.getD j []).getD i 0) :
    Rows2 w (.slice a xss.length cap) xss := by
  refine ⟨a, cap, rfl, hc, hm, fun j hj => ?_⟩
  obtain ⟨b, o, rfl, _, _, h3, h4, h5⟩ := h.top j hj
  refine ⟨b, o, _, rfl, h3, A j, C j, by rw [hL j hj], by rw [← hL j hj]; exact h4, h5.1, fun i hi => ?_⟩
  rw [← hL j hj] at hi
  obtain ⟨g, p, e, _, _, h6, _⟩ := h.row j hj i hi
  exact ⟨g, p, e, by rw [h6, hX j hj i hi]⟩
theorem OwnRows.mat {w : World} {g : Nat} {v : Value} {xss : List (List Int)} (h : OwnRows w g v xss) :
    v = .slice (some ⟨g, 0, none⟩) xss.length xss.length ∧
    MatAt w g (g + 1 + xss.length) (some ⟨g, 0, none⟩) xss.length (fun j => some ⟨g + 1 + j, 0, none⟩) (fun j => (xss.getD j []).length) (fun j => (xss.getD j []).length) (fun j i => (xss.getD j []).getD i 0) := by
  obtain ⟨rfl, hm, hr, hx⟩ := h
  refine ⟨rfl, fun j hj => ?_, fun j hj i hi => ?_, fun j hj j' hj' hne _ _ g1 p1 g2 p2 e1 e2 => ?_⟩
  · exact ⟨g, 0, rfl, Nat.le_refl _, by omega, by simpa using hr.cell hj, Nat.le_refl _, (hx j hj).2.1, by simpa using hr.frozen j⟩
  · exact ⟨g + 1 + j, 0, rfl, by omega, by omega, by simpa using (hx j hj).2.2.cell hi, (hx j hj).2.2.frozen _, fun b o e => by cases e; omega⟩
  · cases e1; cases e2
    exact .inl (by omega)
theorem OwnRows.rows {w : World} {g : Nat} {v : Value} {xss : List (List Int)} (h : OwnRows w g v xss) : Rows2 w v xss := by
  obtain ⟨rfl, hm⟩ := h.mat
  exact hm.rows (Nat.le_refl _) h.2.1 (fun _ _ => rfl) (fun _ _ _ _ => rfl)
theorem OwnRows.of_blocks {w w' : World} {g : Nat} {v : Value} {xss : List (List Int)} (h : OwnRows w g v xss) (e : ∀ b, g ≤ b → b < g + 1 + xss.length → w'.heap[b]? = w.heap[b]?) : OwnRows w' g v xss :=
  ⟨h.1, h.2.1, h.2.2.1.of_block (e g (Nat.le_refl _) (by omega)), fun j hj => (h.2.2.2 j hj).of_block (e (g + 1 + j) (by omega) (by omega))⟩
theorem MatAt.of_blocks {w w' : World} {B0 B1 : Nat} {a : Option Addr} {n : Nat} {A : Nat → Option Addr} {L C : Nat → Nat} {X : Nat → Nat → Int} (h : MatAt w B0 B1 a n A L C X)
    (e : ∀ b, B0 ≤ b → b < B1 → w'.heap[b]? = w.heap[b]?) : MatAt w' B0 B1 a n A L C X := by
  refine ⟨fun j hj => ?_, fun j hj i hi => ?_, h.apart⟩
  · obtain ⟨b, o, e1, h1, h2, h3, h4⟩ := h.top j hj
    exact ⟨b, o, e1, h1, h2, (World.cell?_of_block (e b h1 h2)).trans h3, h4.1, h4.2.1, (World.frozen?_of_block (e b h1 h2)).trans h4.2.2⟩
  · obtain ⟨g, p, e1, h1, h2, h3, h4, h5⟩ := h.row j hj i hi
    exact ⟨g, p, e1, h1, h2, (World.cell?_of_block (e g h1 h2)).trans h3, (World.frozen?_of_block (e g h1 h2)).trans h4, h5⟩
end Go.Proofs.YtcmmlgdfhkcmoaaGreat
namespace Go.Proofs.YtcmmlgdfhkcmoaaGreat
open Go.ChangeShapes Go.WideShapes Go.ChangeAt Go.RowKit
set_option linter.unusedVariables false
set_option maxRecDepth 100000
theorem add0 (g j : Nat) : (⟨g, 0, none⟩ : Addr).add j = ⟨g, j, none⟩ := by unfold Addr.add; split <;> simp_all
def MatW (w : World) (B0 B1 : Nat) (v : Value) (xss : List (List Int)) : Prop :=
  ∃ (a : Option Addr) (cap : Nat) (A : Nat → Option Addr) (C : Nat → Nat), v = .slice a xss.length cap ∧ xss.length ≤ cap ∧ cap ≤ maxLen ∧
    MatAt w B0 B1 a xss.length A (fun j => (xss.getD j []).length) C (fun j i => (xss.getD j []).getD i 0)
theorem MatW.rows {w : World} {B0 B1 : Nat} {v : Value} {xss : List (List Int)} (h : MatW w B0 B1 v xss) : Rows2 w v xss := by
  obtain ⟨a, cap, A, C, rfl, h1, h2, h3⟩ := h
  exact h3.rows h1 h2 (fun _ _ => rfl) (fun _ _ _ _ => rfl)
theorem MatW.of_blocks {w w' : World} {B0 B1 : Nat} {v : Value} {xss : List (List Int)} (h : MatW w B0 B1 v xss) (e : ∀ b, B0 ≤ b → b < B1 → w'.heap[b]? = w.heap[b]?) : MatW w' B0 B1 v xss := by
  obtain ⟨a, cap, A, C, rfl, h1, h2, h3⟩ := h
  exact ⟨a, cap, A, C, rfl, h1, h2, h3.of_blocks e⟩
theorem ints_one (xs : List Int) : ∀ u ∈ xs.map (Value.int .i64), u.oneCell' = true := fun u hu => by
  obtain ⟨x, _, rfl⟩ := List.mem_map.1 hu
  rfl
end Go.Proofs.YtcmmlgdfhkcmoaaGreat
namespace Go.Proofs.YtcmmlgdfhkcmoaaGreat
open Go.ChangeShapes Go.WideShapes Go.ChangeAt Go.RowKit
set_option linter.unusedVariables false
set_option maxRecDepth 100000
theorem ret_bool {b c : Bool} {w : World} (h : b = c) : Ending.returned (.bool b) = .returned (.bool c) ∧ w = w := ⟨by rw [h], rfl⟩
theorem in_yes (w : World) (n a b : Int) (h : a ≤ n ∧ n ≤ b) : Calls Tryz.prog 127 #[.int .i64 n, .int .i64 a, .int .i64 b] w fun e w' => e = .returned (.bool true) ∧ w = w' := by
  obtain ⟨h1, h2⟩ := h
  go_enter Tryz.func127, Tryz.ntmps127
  go_wp2
  go_ret
  exact ⟨rfl, rfl⟩
theorem in_no (w : World) (n a b : Int) (h : ¬ (a ≤ n ∧ n ≤ b)) : Calls Tryz.prog 127 #[.int .i64 n, .int .i64 a, .int .i64 b] w fun e w' => e = .returned (.bool false) ∧ w = w' := by
  by_cases h1 : a ≤ n
  · have h2 : decide (n ≤ b) = false := by simp; omega
    clear h
    go_enter Tryz.func127, Tryz.ntmps127
    go_wp2
    go_ret
    exact ⟨rfl, rfl⟩
  · have h2 : decide (a ≤ n) = false := by simpa using h1
    clear h
    go_enter Tryz.func127, Tryz.ntmps127
    go_wp2
    go_ret
    exact ⟨rfl, rfl⟩
theorem words_no {xs : List Int} {k : Nat} (hk : k < xs.length) (h : ¬ (0 ≤ xs.getD k 0 ∧ xs.getD k 0 ≤ 9999)) : wordsOk xs = false := by
  unfold wordsOk
  refine decide_eq_false (fun hh => h ?_)
  rw [getD_lt hk]
  exact hh.1 _ (List.getElem_mem hk)
theorem words_end {xs : List Int} {n : Nat} (hn : n = xs.length) (h : ∀ i, i < n → 0 ≤ xs.getD i 0 ∧ xs.getD i 0 ≤ 9999) : wordsOk xs = ((n : Int) == 4) := by
  subst hn
  unfold wordsOk
  have h1 : ∀ x ∈ xs, 0 ≤ x ∧ x ≤ 9999 := fun x hx => by
    obtain ⟨i, hi, rfl⟩ := List.getElem_of_mem hx
    have := h i hi
    rwa [getD_lt hi] at this
  by_cases h4 : xs.length = 4
  · have : ((xs.length : Int) == 4) = true := by simp; omega
    rw [this]; exact decide_eq_true ⟨h1, h4⟩
  · have : ((xs.length : Int) == 4) = false := by simp; omega
    rw [this]; exact decide_eq_false (fun hh => h4 hh.2)
theorem l2Words_any (w : World) (v : Value) (xs : List Int) (h : Ints w v xs) :
    Calls Tryz.prog 123 #[v] w fun e w' => e = .returned (.bool (wordsOk xs)) ∧ w = w' := by
  obtain ⟨a, ca, rfl, hla, hma, hxa⟩ := h
  unfold maxLen at hma
  obtain ⟨n, hn⟩ : ∃ n, n = xs.length := ⟨_, rfl⟩
  rw [← hn] at hla hxa ⊢
  have HN := Lib.hid hn
  clear hn
  go_enter Tryz.func123, Tryz.ntmps123
  go_wp2
  go_loop [3] (fun i => ∃ k : Nat, k ≤ n ∧ i = .int .i64 k ∧ Hid (∀ i, i < k → 0 ≤ xs.getD i 0 ∧ xs.getD i 0 ≤ 9999)) (fun i => n - (intOf i).toNat)
  case atStart => exact ⟨0, Nat.zero_le _, rfl, Lib.hid (fun i hi => by omega)⟩
  case round =>
    obtain ⟨k, hk, rfl, HB⟩ := hrel
    by_cases hlt : k < n
    · obtain ⟨ba, oa, rfl, hca⟩ := hxa k hlt
      obtain ⟨x, hx⟩ : ∃ x, x = xs.getD k 0 := ⟨_, rfl⟩
      rw [← hx] at hca
      have HX := Lib.hid hx
      clear hx hxa
      have hlt' : (k : Int) < (n : Int) := by omega
      by_cases hi : 0 ≤ x ∧ x ≤ 9999
      · have HC := Lib.hid (in_yes w x 0 9999 hi)
        go_wp2_with (go_at_call 127; refine HC.out.mono ?_; rintro e w' ⟨rfl, rfl⟩)
        go_round
        case rel => exact ⟨k + 1, by omega, by go_num, Lib.hid (fun i hik => by
          by_cases hk2 : i = k
          · rw [hk2, ← HX.out]; exact hi
          · exact HB.out i (by omega))⟩
        case measure => simp [intOf]; omega
      · have HC := Lib.hid (in_no w x 0 9999 hi)
        have HW : Hid (wordsOk xs = false) := Lib.hid (words_no (k := k) (by have := HN.out; omega) (by rw [← HX.out]; exact hi))
        clear hi
        go_wp2_with (go_at_call 127; refine HC.out.mono ?_; rintro e w' ⟨rfl, rfl⟩)
        go_ret
        exact ret_bool HW.out.symm
    · go_wp2
      go_ret
      have e : k = n := by omega
      subst e
      exact ret_bool (words_end HN.out HB.out).symm
theorem mem_no {xss : List (List Int)} {k : Nat} (hk : k < xss.length) (h : wordsOk (xss.getD k []) = false) : memOk xss = false := by
  unfold memOk
  refine decide_eq_false (fun hh => ?_)
  have := hh.1 _ (List.getElem_mem hk)
  rw [getD_lt hk] at h
  rw [h] at this
  cases this
theorem mem_end {xss : List (List Int)} {n : Nat} (hn : n = xss.length) (h : ∀ i, i < n → wordsOk (xss.getD i []) = true) : memOk xss = ((n : Int) == 12) := by
  subst hn
  unfold memOk
  have h1 : ∀ x ∈ xss, wordsOk x = true := fun x hx => by
    obtain ⟨i, hi, rfl⟩ := List.getElem_of_mem hx
    have := h i hi
    rwa [getD_lt hi] at this
  by_cases h4 : xss.length = 12
  · have : ((xss.length : Int) == 12) = true := by simp; omega
    rw [this]; exact decide_eq_true ⟨h1, h4⟩
  · have : ((xss.length : Int) == 12) = false := by simp; omega
    rw [this]; exact decide_eq_false (fun hh => h4 hh.2)
theorem valid_any (w : World) (v : Value) (xss : List (List Int)) (h : Rows2 w v xss) :
    Calls Tryz.prog 64 #[v] w fun e w' => e = .returned (.bool (memOk xss)) ∧ w = w' := by
  obtain ⟨a, ca, rfl, hla, hma, hxa⟩ := h
  unfold maxLen at hma
  obtain ⟨n, hn⟩ : ∃ n, n = xss.length := ⟨_, rfl⟩
  rw [← hn] at hla hxa ⊢
  have HN := Lib.hid hn
  clear hn
  go_enter Tryz.func64, Tryz.ntmps64
  go_wp2
  go_loop [3] (fun i => ∃ k : Nat, k ≤ n ∧ i = .int .i64 k ∧ Hid (∀ i, i < k → wordsOk (xss.getD i []) = true)) (fun i => n - (intOf i).toNat)
  case atStart => exact ⟨0, Nat.zero_le _, rfl, Lib.hid (fun i hi => by omega)⟩
  case round =>
    obtain ⟨k, hk, rfl, HB⟩ := hrel
    by_cases hlt : k < n
    · obtain ⟨ba, oa, u, rfl, hca, hu⟩ := hxa k hlt
      have HC := Lib.hid (l2Words_any w u _ hu)
      clear hxa hu
      have hlt' : (k : Int) < (n : Int) := by omega
      by_cases hi : wordsOk (xss.getD k []) = true
      · rw [hi] at HC
        have HI := Lib.hid hi
        clear hi
        go_wp2_with (go_at_call 123; refine HC.out.mono ?_; rintro e w' ⟨rfl, rfl⟩)
        go_round
        case rel => exact ⟨k + 1, by omega, by go_num, Lib.hid (fun i hik => by
          by_cases hk2 : i = k
          · rw [hk2]; exact HI.out
          · exact HB.out i (by omega))⟩
        case measure => simp [intOf]; omega
      · have hi' : wordsOk (xss.getD k []) = false := by simpa using hi
        rw [hi'] at HC
        have HW : Hid (memOk xss = false) := Lib.hid (mem_no (k := k) (by have := HN.out; omega) hi')
        clear hi hi'
        go_wp2_with (go_at_call 123; refine HC.out.mono ?_; rintro e w' ⟨rfl, rfl⟩)
        go_ret
        exact ret_bool HW.out.symm
    · go_wp2
      go_ret
      have e : k = n := by omega
      subst e
      exact ret_bool (mem_end HN.out HB.out).symm
end Go.Proofs.YtcmmlgdfhkcmoaaGreat
namespace Go.Proofs.YtcmmlgdfhkcmoaaGreat
open Go.ChangeShapes Go.WideShapes Go.ChangeAt Go.RowKit
set_option linter.unusedVariables false
set_option maxRecDepth 100000
theorem MatAt.store {w : World} {B0 B1 : Nat} {a : Option Addr} {n : Nat} {A : Nat → Option Addr} {L C : Nat → Nat} {X : Nat → Nat → Int} (h : MatAt w B0 B1 a n A L C X) {i j : Nat} (hi : i < n) (hj : j < L i)
    {g p : Nat} (hA : A i = some ⟨g, p, none⟩) (x : Int) : MatAt (w.setCell ⟨g, p + j, none⟩ (.int .i64 x)) B0 B1 a n A L C (fun k m => if k = i ∧ m = j then x else X k m) := by
  refine ⟨fun k hk => ?_, fun k hk m hm => ?_, h.apart⟩
  · obtain ⟨b, o, rfl, h1, h2, h3, h4⟩ := h.top k hk
    refine ⟨b, o, rfl, h1, h2, (cell_set_other (.inl ?_)).trans h3, h4.1, h4.2.1, (frozen_set _).trans h4.2.2⟩
    obtain ⟨g', p', e, _, _, _, _, h5⟩ := h.row i hi j hj
    rw [hA] at e; cases e
    exact h5 b o rfl
  · obtain ⟨g', p', e, h1, h2, h3, h4, h5⟩ := h.row k hk m hm
    refine ⟨g', p', e, h1, h2, ?_, (frozen_set _).trans h4, h5⟩
    by_cases hki : k = i
    · subst hki
      rw [hA] at e; cases e
      by_cases hmj : m = j
      · subst hmj
        rw [if_pos ⟨rfl, rfl⟩]
        exact cell_set_same h3
      · rw [if_neg (fun hh => hmj hh.2)]
        exact (cell_set_other (.inr (by omega))).trans h3
    · rw [if_neg (fun hh => hki hh.1)]
      refine (cell_set_other ?_).trans h3
      rcases h.apart k hk i hi hki (by omega) (by omega) g' p' g p e hA with h7 | h7 | h7
      · exact .inl h7
      · exact .inr (by omega)
      · exact .inr (by omega)
theorem MatAt.congr {w : World} {B0 B1 : Nat} {a : Option Addr} {n n' : Nat} {A : Nat → Option Addr} {L L' C : Nat → Nat} {X X' : Nat → Nat → Int} (h : MatAt w B0 B1 a n A L C X) (hn : n' = n) (hL : ∀ j, j < n → L' j = L j)
    (hX : ∀ j, j < n → ∀ i, i < L j → X' j i = X j i) : MatAt w B0 B1 a n' A L' C X' := by
  subst hn
  refine ⟨fun k hk => ?_, fun k hk m hm => ?_, fun j hj j' hj' hne h0 h0' g p g' p' e e' => ?_⟩
  · rw [hL k hk]; exact h.top k hk
  · rw [hL k hk] at hm
    rw [hX k hk m hm]; exact h.row k hk m hm
  · rw [hL j hj] at h0 ⊢
    rw [hL j' hj'] at h0' ⊢
    exact h.apart j hj j' hj' hne h0 h0' g p g' p' e e'
theorem MatAt.mono {w : World} {B0 B1 B2 : Nat} {a : Option Addr} {n : Nat} {A : Nat → Option Addr} {L C : Nat → Nat} {X : Nat → Nat → Int} (h : MatAt w B0 B1 a n A L C X) (hB : B1 ≤ B2) : MatAt w B0 B2 a n A L C X := by
  refine ⟨fun k hk => ?_, fun k hk m hm => ?_, h.apart⟩
  · obtain ⟨b, o, e, h1, h2, h3⟩ := h.top k hk
    exact ⟨b, o, e, h1, by omega, h3⟩
  · obtain ⟨g, p, e, h1, h2, h3⟩ := h.row k hk m hm
    exact ⟨g, p, e, h1, by omega, h3⟩
end Go.Proofs.YtcmmlgdfhkcmoaaGreat
namespace Go.Proofs.YtcmmlgdfhkcmoaaGreat
open Go.ChangeShapes Go.WideShapes Go.ChangeAt Go.RowKit
set_option linter.unusedVariables false
set_option maxRecDepth 100000
theorem mem_len {xss : List (List Int)} (h : memOk xss = true) : xss.length = 12 := (of_decide_eq_true h).2
theorem mem_row {xss : List (List Int)} (h : memOk xss = true) {i : Nat} (hi : i < 12) : (xss.getD i []).length = 4 := by
  have hl := mem_len h
  have := (of_decide_eq_true h).1 _ (List.getElem_mem (show i < xss.length by omega))
  rw [getD_lt (by omega)]
  exact (of_decide_eq_true this).2
theorem mem_word {xss : List (List Int)} (h : memOk xss = true) {i j : Nat} (hi : i < 12) (hj : j < 4) : 0 ≤ (xss.getD i []).getD j 0 ∧ (xss.getD i []).getD j 0 ≤ 9999 := by
  have hl := mem_len h
  have hr := mem_row h hi
  have := (of_decide_eq_true h).1 _ (List.getElem_mem (show i < xss.length by omega))
  rw [getD_lt (show i < xss.length by omega)] at hr ⊢
  rw [getD_lt (by omega)]
  exact (of_decide_eq_true this).1 _ (List.getElem_mem (by omega))
end Go.Proofs.YtcmmlgdfhkcmoaaGreat
namespace Go.Proofs.YtcmmlgdfhkcmoaaGreat
open Go.ChangeShapes Go.WideShapes Go.ChangeAt Go.RowKit
set_option linter.unusedVariables false
set_option maxRecDepth 100000
structure Chg (lo hi : Nat) (w w' : World) : Prop where
  os : w'.os = w.os
  tape : w'.tape = w.tape
  output : w'.output = w.output
  size : w.heap.size ≤ w'.heap.size
  block : ∀ b, b < w.heap.size → (b < lo ∨ hi ≤ b) → w'.heap[b]? = w.heap[b]?
theorem Chg.of_below {w w' : World} (h : Below w.heap.size w w') : Chg 0 0 w w' := ⟨h.os, h.tape, h.output, h.size, fun b hb _ => h.block b hb⟩
theorem Chg.of_drewN (w : World) (n : Nat) : Chg 0 0 w (w.drewN n) := ⟨rfl, rfl, rfl, Nat.le_refl _, fun _ _ _ => rfl⟩
theorem Below.chg {lo hi S : Nat} {W w w' : World} (h : Below S W w) (c : Chg lo hi w w') (hS : S ≤ w.heap.size) (hh : S ≤ lo ∨ hi = 0) : Below S W w' :=
  ⟨c.os.trans h.os, c.tape.trans h.tape, c.output.trans h.output, Nat.le_trans h.size c.size, fun b hb => (c.block b (by omega) (by omega)).trans (h.block b hb)⟩
theorem MatW.chg {lo hi B0 B1 : Nat} {w w' : World} {v : Value} {xss : List (List Int)} (h : MatW w B0 B1 v xss) (c : Chg lo hi w w') (hB : B1 ≤ w.heap.size) (hh : B1 ≤ lo ∨ hi ≤ B0) : MatW w' B0 B1 v xss :=
  h.of_blocks (fun b h0 h1 => c.block b (by omega) (by omega))
theorem OwnRows.chg {lo hi g : Nat} {w w' : World} {v : Value} {xss : List (List Int)} (h : OwnRows w g v xss) (c : Chg lo hi w w') (hB : g + 1 + xss.length ≤ w.heap.size) (hh : g + 1 + xss.length ≤ lo ∨ hi ≤ g) : OwnRows w' g v xss :=
  h.of_blocks (fun b h0 h1 => c.block b (by omega) (by omega))
theorem MatAt.chg {lo hi B0 B1 : Nat} {w w' : World} {a : Option Addr} {n : Nat} {A : Nat → Option Addr} {L C : Nat → Nat} {X : Nat → Nat → Int} (h : MatAt w B0 B1 a n A L C X) (c : Chg lo hi w w') (hB : B1 ≤ w.heap.size) (hh : B1 ≤ lo ∨ hi ≤ B0) :
    MatAt w' B0 B1 a n A L C X := h.of_blocks (fun b h0 h1 => c.block b (by omega) (by omega))
end Go.Proofs.YtcmmlgdfhkcmoaaGreat
namespace Go.Proofs.YtcmmlgdfhkcmoaaGreat
open Go.ChangeShapes Go.WideShapes Go.ChangeAt Go.RowKit
set_option linter.unusedVariables false
set_option maxRecDepth 100000
section
variable {P : Program}
theorem wpList_alloc_arr {ops : Array Oper} {rest : List Oper} {op : Oper} {a : Act} {w : World} {Q : Exit → Act → World → Prop} (hgd : op.guard = none) (t : TypeId) (ho : op.op = .alloc t)
    (z : Array Value) (hz : ∀ w, (zeroValue t).run P w = .ok (.agg z) w)
    (h : wpList P ops Q rest (a.put op.dst (.pointer (some ⟨w.heap.size, 0, none⟩))) (w.alloc (.cells z t))) : wpList P ops Q (op :: rest) a w :=
  wpList_plain hgd fun _ hK => by
    unfold Oper.wp execOp
    simp only [ho, Instr.alloc, Sem.run_bind, Sem.run_pure, Result.andThen_ok, hz]
    exact hK _ _ h
theorem wpList_box_arr {ops : Array Oper} {rest : List Oper} {op : Oper} {a : Act} {w : World} {Q : Exit → Act → World → Prop} (hgd : op.guard = none) (t : TypeId) (x : Operand) (ho : op.op = .box t x)
    (z : Array Value) (hx : a.eval x = .agg z)
    (h : wpList P ops Q rest (a.put op.dst (.pointer (some ⟨w.heap.size, 0, none⟩))) (w.alloc (.cells z t))) : wpList P ops Q (op :: rest) a w :=
  wpList_plain hgd fun _ hK => by
    unfold Oper.wp execOp
    simp only [ho, hx]
    exact hK _ _ h
theorem wpList_build_arr {ops : Array Oper} {rest : List Oper} {op : Oper} {a : Act} {w : World} {Q : Exit → Act → World → Prop} (hgd : op.guard = none) (t : TypeId) (ho : op.op = .build t #[])
    (z : Array Value) (n : Nat) (e : TypeId) (s : Nat) (hz : ∀ w, (zeroValue t).run P w = .ok (.agg z) w) (hu : P.underlying t = some (.array n e)) (hs : ∀ w, (sizeOf e).run P w = .ok s w)
    (h : wpList P ops Q rest (a.put op.dst (.agg z)) w) : wpList P ops Q (op :: rest) a w :=
  wpList_plain hgd fun _ hK => by
    unfold Oper.wp execOp
    simp only [ho, Instr.build, Sem.run_bind, Sem.run_pure, Result.andThen_ok, hz, run_underlying hu, hs, Value.cells, List.map_toArray, List.map_nil, Instr.fill]
    exact hK _ _ h
theorem store_arr {ops : Array Oper} {rest : List Oper} {a : Act} {w : World} {Q : Exit → Act → World → Prop} {dst : Option Nat} {tt : TypeId} {pos : String} {after : Array Edge} (ty : TypeId) (x y : Operand)
    (b o : Nat) (cells : Array Value) (hx : a.eval x = .pointer (some ⟨b, o, none⟩)) (hy : a.eval y = .agg cells)
    (ht : w.there b o cells.size) (hi : (P.info? ty).map (·.size) = some cells.size) (h1 : cells.all (·.oneCell') = true)
    (h : wpList P ops Q rest (a.put dst undef) (w.setCells b o cells.toList)) : wpList P ops Q ({ dst := dst, op := .store ty x y, type := tt, pos := pos, after := after, guard := none } :: rest) a w :=
  wpList_store_mid rfl ty x y rfl b o cells hx hy ht hi h1 h
theorem build_arr {ops : Array Oper} {rest : List Oper} {a : Act} {w : World} {Q : Exit → Act → World → Prop} {dst : Option Nat} {tt : TypeId} {pos : String} {after : Array Edge} (t : TypeId)
    (z : Array Value) (n : Nat) (e : TypeId) (s : Nat) (hz : ∀ w, (zeroValue t).run P w = .ok (.agg z) w) (hu : P.underlying t = some (.array n e)) (hs : ∀ w, (sizeOf e).run P w = .ok s w)
    (h : wpList P ops Q rest (a.put dst (.agg z)) w) : wpList P ops Q ({ dst := dst, op := .build t #[], type := tt, pos := pos, after := after, guard := none } :: rest) a w :=
  wpList_build_arr rfl t rfl z n e s hz hu hs h
theorem alloc_arr {ops : Array Oper} {rest : List Oper} {a : Act} {w : World} {Q : Exit → Act → World → Prop} {dst : Option Nat} {tt : TypeId} {pos : String} {after : Array Edge} (t : TypeId)
    (z : Array Value) (hz : ∀ w, (zeroValue t).run P w = .ok (.agg z) w)
    (h : wpList P ops Q rest (a.put dst (.pointer (some ⟨w.heap.size, 0, none⟩))) (w.alloc (.cells z t))) : wpList P ops Q ({ dst := dst, op := .alloc t, type := tt, pos := pos, after := after, guard := none } :: rest) a w :=
  wpList_alloc_arr rfl t rfl z hz h
theorem box_arr {ops : Array Oper} {rest : List Oper} {a : Act} {w : World} {Q : Exit → Act → World → Prop} {dst : Option Nat} {tt : TypeId} {pos : String} {after : Array Edge} (t : TypeId) (x : Operand)
    (z : Array Value) (hx : a.eval x = .agg z)
    (h : wpList P ops Q rest (a.put dst (.pointer (some ⟨w.heap.size, 0, none⟩))) (w.alloc (.cells z t))) : wpList P ops Q ({ dst := dst, op := .box t x, type := tt, pos := pos, after := after, guard := none } :: rest) a w :=
  wpList_box_arr rfl t x rfl z hx h
theorem load_arr {ops : Array Oper} {rest : List Oper} {a : Act} {w : World} {Q : Exit → Act → World → Prop} {dst : Option Nat} {tt : TypeId} {pos : String} {after : Array Edge} (ty : TypeId) (x : Operand)
    (b o : Nat) (cs : List Value) (d : TypeDesc) (hx : a.eval x = .pointer (some ⟨b, o, none⟩)) (hc : w.rangeAt b o cs)
    (hu : P.underlying ty = some d) (hd : d.isRow = true) (hi : (P.info? ty).map (·.size) = some cs.length)
    (h : wpList P ops Q rest (a.put dst (.agg cs.toArray)) w) : wpList P ops Q ({ dst := dst, op := .load ty x, type := tt, pos := pos, after := after, guard := none } :: rest) a w :=
  wpList_load_mid rfl ty x rfl b o hx cs d hc hu hd hi h
theorem run_index_arr (t : TypeId) (n : Nat) (e : TypeId) (s : Nat) (hu : P.underlying t = some (.array n e)) (ha : ∀ w, (isAgg e).run P w = .ok true w) (hs : ∀ w, (sizeOf e).run P w = .ok s w)
    (cs : Array Value) (k : Nat) (hk : k < n) (W : World) : (Instr.index t (.agg cs) (.int .i64 k)).run P W = .ok (.agg (cs.extract (k * s) (k * s + s))) W := by
  have h1 : (0 : Int) ≤ (k : Int) ∧ (k : Int) < (n : Int) := by omega
  unfold Instr.index
  simp only [asIntOf, Sem.run_bind, Sem.run_pure, Result.andThen_ok, run_underlying hu, hs, part, ha, if_pos h1, Int.toNat_natCast, if_true]
theorem run_indexAt_arr (t : TypeId) (n : Nat) (e : TypeId) (s : Nat) (hu : P.underlying t = some (.array n e)) (hs : ∀ w, (sizeOf e).run P w = .ok s w) (hn : 1 < n)
    (b : Nat) (k : Nat) (hk : k < n) (W : World) : (Instr.indexAt t (.pointer (some ⟨b, 0, none⟩)) (.int .i64 k)).run P W = .ok (.pointer (some ⟨b, k * s, none⟩)) W := by
  have h1 : (0 : Int) ≤ (k : Int) ∧ (k : Int) < (n : Int) := by omega
  unfold Instr.indexAt
  simp only [asIntOf, Instr.sureAddr, Sem.run_bind, Sem.run_pure, Result.andThen_ok, run_underlying hu, hs, if_pos h1, Int.toNat_natCast, add0]
theorem run_indexAt_part (t : TypeId) (n : Nat) (e : TypeId) (hu : P.underlying t = some (.array n e)) (hs : ∀ w, (sizeOf e).run P w = .ok 1 w) (hn : 1 < n)
    (b o : Nat) (k : Nat) (hk : k < n) (W : World) : (Instr.indexAt t (.pointer (some ⟨b, o, none⟩)) (.int .i64 k)).run P W = .ok (.pointer (some ⟨b, o + k, none⟩)) W := by
  have h1 : (0 : Int) ≤ (k : Int) ∧ (k : Int) < (n : Int) := by omega
  unfold Instr.indexAt
  simp only [asIntOf, Instr.sureAddr, Sem.run_bind, Sem.run_pure, Result.andThen_ok, run_underlying hu, hs, if_pos h1, Int.toNat_natCast, Nat.mul_one, Addr.add_mid]
theorem results_cell_mid {fn : Func} {p u : Tmp} {ty : TypeId} (h : fn.results = #[.cell p ty, .tmp u]) (tmps : Array Value) (w : World) (b o : Nat) (cs : List Value) (d : TypeDesc)
    (hp : tmps.getD p undef = .pointer (some ⟨b, o, none⟩)) (hc : w.rangeAt b o cs)
    (hu : P.underlying ty = some d) (hd : d.isRow = true) (hi : (P.info? ty).map (·.size) = some cs.length) :
    (results fn tmps).run P w = .ok (.tuple #[.agg cs.toArray, tmps.getD u undef]) w := by
  rw [results_cell_tmp h, hp]
  simp only [asAddr, Sem.run_pure, Result.andThen_ok, run_loadVar_mid w b o ty cs d hc hu hd hi]
end
theorem store_is {P : Program} {ops : Array Oper} {rest : List Oper} {a : Act} {w : World} {Q : Exit → Act → World → Prop} {dst : Option Nat} {tt : TypeId} {pos : String} {after : Array Edge} (ty : TypeId) (x y : Operand) (h : wpList P ops Q ({ dst := dst, op := .store ty x y, type := tt, pos := pos, after := after, guard := none } :: rest) a w) : wpList P ops Q ({ dst := dst, op := .store ty x y, type := tt, pos := pos, after := after, guard := none } :: rest) a w := h
theorem load_is {P : Program} {ops : Array Oper} {rest : List Oper} {a : Act} {w : World} {Q : Exit → Act → World → Prop} {dst : Option Nat} {tt : TypeId} {pos : String} {after : Array Edge} (ty : TypeId) (x : Operand) (h : wpList P ops Q ({ dst := dst, op := .load ty x, type := tt, pos := pos, after := after, guard := none } :: rest) a w) : wpList P ops Q ({ dst := dst, op := .load ty x, type := tt, pos := pos, after := after, guard := none } :: rest) a w := h
theorem build_is {P : Program} {ops : Array Oper} {rest : List Oper} {a : Act} {w : World} {Q : Exit → Act → World → Prop} {dst : Option Nat} {tt : TypeId} {pos : String} {after : Array Edge} (ty : TypeId) (h : wpList P ops Q ({ dst := dst, op := .build ty #[], type := tt, pos := pos, after := after, guard := none } :: rest) a w) : wpList P ops Q ({ dst := dst, op := .build ty #[], type := tt, pos := pos, after := after, guard := none } :: rest) a w := h
theorem alloc_is {P : Program} {ops : Array Oper} {rest : List Oper} {a : Act} {w : World} {Q : Exit → Act → World → Prop} {dst : Option Nat} {tt : TypeId} {pos : String} {after : Array Edge} (ty : TypeId) (h : wpList P ops Q ({ dst := dst, op := .alloc ty, type := tt, pos := pos, after := after, guard := none } :: rest) a w) : wpList P ops Q ({ dst := dst, op := .alloc ty, type := tt, pos := pos, after := after, guard := none } :: rest) a w := h
theorem box_is {P : Program} {ops : Array Oper} {rest : List Oper} {a : Act} {w : World} {Q : Exit → Act → World → Prop} {dst : Option Nat} {tt : TypeId} {pos : String} {after : Array Edge} (ty : TypeId) (x : Operand) (h : wpList P ops Q ({ dst := dst, op := .box ty x, type := tt, pos := pos, after := after, guard := none } :: rest) a w) : wpList P ops Q ({ dst := dst, op := .box ty x, type := tt, pos := pos, after := after, guard := none } :: rest) a w := h
theorem range_append {w : World} {b o : Nat} {l1 l2 : List Value} {o2 : Nat} (h1 : w.rangeAt b o l1) (h2 : w.rangeAt b o2 l2) (ho : o2 = o + l1.length) : w.rangeAt b o (l1 ++ l2) := by
  subst ho
  intro j v hv
  rw [List.getElem?_append] at hv
  by_cases hj : j < l1.length
  · rw [if_pos hj] at hv
    exact h1 j v hv
  · rw [if_neg hj] at hv
    have := h2 _ v hv
    have e : o + l1.length + (j - l1.length) = o + j := by omega
    rwa [e] at this
theorem range_row {w : World} {b : Nat} {C : Array Value} {t : TypeId} {fr : Nat × Nat} (hb : w.heap[b]? = some (.cells C t fr)) : w.rangeAt b 0 C.toList := fun j v hv => by
  rw [cell_of_row w b (0 + j) C t fr hb, Nat.zero_add]
  simpa using hv
theorem range_nil {w : World} {b o : Nat} : w.rangeAt b o [] := fun j v hv => by simp at hv
theorem range_blocks {w w' : World} {b o : Nat} {cs : List Value} (h : w.rangeAt b o cs) (e : w'.heap[b]? = w.heap[b]?) : w'.rangeAt b o cs := fun j v hv => by
  rw [World.cell?_of_block e]; exact h j v hv
theorem there_blocks {w w' : World} {b o n : Nat} (h : w.there b o n) (e : w'.heap[b]? = w.heap[b]?) : w'.there b o n := fun j hj => by
  rw [World.cell?_of_block e, World.frozen?_of_block e]; exact h j hj
theorem there_row {w : World} {b : Nat} {C : Array Value} {t : TypeId} {n : Nat} (hb : w.heap[b]? = some (.cells C t (0, 0))) (hn : n ≤ C.size) : w.there b 0 n := fun j hj => by
  rw [cell_of_row w b (0 + j) C t (0, 0) hb, frozen_of_row w b (0 + j) C t hb, Nat.zero_add]
  exact ⟨by simp; omega, rfl⟩
theorem there_part {w : World} {b n o m : Nat} (h : w.there b 0 n) (hm : o + m ≤ n) : w.there b o m := fun j hj => by
  have := h (o + j) (by omega)
  rwa [Nat.zero_add] at this
theorem heap_setCells_other (w : World) (b : Nat) : ∀ (vs : List Value) (o : Nat) (w : World) (k : Nat), k ≠ b → (w.setCells b o vs).heap[k]? = w.heap[k]?
  | [], _, _, _, _ => rfl
  | v :: r, o, w, k, h => by
    rw [World.setCells, heap_setCells_other w b r (o + 1) _ k h, heap_setCell_other _ _ _ _ h]
theorem size_setCells (b : Nat) : ∀ (vs : List Value) (o : Nat) (w : World), (w.setCells b o vs).heap.size = w.heap.size
  | [], _, _ => rfl
  | v :: r, o, w => by rw [World.setCells, size_setCells b r (o + 1)]; simp [World.setCell]
theorem Below.setCells {S : Nat} {W w : World} (h : Below S W w) (b : Nat) (hb : S ≤ b) : ∀ (vs : List Value) (o : Nat) (w : World), Below S W w → Below S W (w.setCells b o vs)
  | [], _, _, h => h
  | v :: r, o, w, h => by rw [World.setCells]; exact Below.setCells h b hb r (o + 1) _ (h.setCell (p := ⟨b, o, none⟩) hb v)
end Go.Proofs.YtcmmlgdfhkcmoaaGreat
namespace Go.Proofs.YtcmmlgdfhkcmoaaGreat
open Go.ChangeShapes Go.WideShapes Go.ChangeAt Go.RowKit
set_option linter.unusedVariables false
set_option maxRecDepth 100000
theorem ret3e {k : IntKind} {x y : Int} {b c d : Bool} (h : x = y) (g : b = c) : Ending.returned (.tuple #[.int k x, .bool b, .bool d]) = .returned (.tuple #[.int k y, .bool c, .bool d]) := by rw [h, g]
theorem ret4e {k : IntKind} {x y z x' y' z' : Int} {d : Bool} (h : x = x') (g : y = y') (i : z = z') : Ending.returned (.tuple #[.int k x, .int k y, .int k z, .bool d]) = .returned (.tuple #[.int k x', .int k y', .int k z', .bool d]) := by rw [h, g, i]
theorem results_t4e {fn : Func} {t u v x : Tmp} (h : fn.results = #[.tmp t, .tmp u, .tmp v, .tmp x]) (tmps : Array Value) (P : Program) (w : World) :
    (results fn tmps).run P w = .ok (.tuple #[tmps.getD t undef, tmps.getD u undef, tmps.getD v undef, tmps.getD x undef]) w := by simp [results, h]
theorem tm_neg (n : Int) (h : n ≤ 0) : n.tmod 4 ≤ 0 := by
  obtain ⟨m, rfl⟩ : ∃ m : Int, n = -m := ⟨-n, by omega⟩
  rw [Int.neg_tmod]
  have := Int.tmod_nonneg (a := m) 4 (by omega)
  omega
theorem tm2_neg (n : Int) (h : n ≤ 0) : n.tmod 2 ≤ 0 := by
  obtain ⟨m, rfl⟩ : ∃ m : Int, n = -m := ⟨-n, by omega⟩
  rw [Int.neg_tmod]
  have := Int.tmod_nonneg (a := m) 2 (by omega)
  omega
def goodB (w : Int) : Prop := 0 < w ∧ w % 2 = 1 ∧ w < 48
theorem eS_yes (n : Int) (w : World) (h : goodB n) :
    Calls Tryz.prog 149 #[.int .i64 n] w fun e w' => e = .returned (.tuple #[.int .i64 (n / 4), .bool (decide (n % 4 = 3)), .bool true]) ∧ w = w' := by
  obtain ⟨h0, h1, h2⟩ := h
  have hc : n % 4 = 1 ∨ n % 4 = 3 := by omega
  have h3 : 0 ≤ n := by omega
  have h4 : n / 4 < 12 := by omega
  have hz : (n == 0) = false := by simp; omega
  have hk : (n % 2 == 1) = true := by simpa using h1
  clear h1
  rcases hc with hc | hc
  · have e1 : (n % 4 == 1) = true := by simpa using hc
    have e3 : (n % 4 == 3) = false := by simp; omega
    have HC := Lib.hid hc
    clear hc
    go_enter Tryz.func149, Tryz.ntmps149
    go_wp2
    go_ret3
    exact ⟨ret3e rfl (by have := HC.out; simp; omega), rfl⟩
  · have e1 : (n % 4 == 1) = false := by simp; omega
    have e3 : (n % 4 == 3) = true := by simpa using hc
    have HC := Lib.hid hc
    clear hc
    go_enter Tryz.func149, Tryz.ntmps149
    go_wp2
    go_ret3
    exact ⟨ret3e rfl (by have := HC.out; simp; omega), rfl⟩
theorem eS_no (n : Int) (w : World) (hn : ¬ goodB n) (hm : -9223372036854775808 ≤ n) (hM : n ≤ 9223372036854775807) :
    Calls Tryz.prog 149 #[.int .i64 n] w fun e w' => e = .returned (.tuple #[.int .i64 0, .bool false, .bool false]) ∧ w = w' := by
  unfold goodB at hn
  by_cases h0 : 0 < n
  · have h3 : 0 ≤ n := by omega
    have hz : (n == 0) = false := by simp; omega
    by_cases h1 : n % 2 = 1
    · have h2 : 48 ≤ n := by omega
      have h4 : decide (n / 4 < 12) = false := by simp; omega
      have h5 : decide (n < 48) = false := by simp; omega
      have hk : (n % 2 == 1) = true := by simpa using h1
      have hc : n % 4 = 1 ∨ n % 4 = 3 := by omega
      clear h1 hn
      rcases hc with hc | hc
      · have e1 : (n % 4 == 1) = true := by simpa using hc
        have e3 : (n % 4 == 3) = false := by simp; omega
        clear hc
        go_enter Tryz.func149, Tryz.ntmps149
        go_wp2
        go_ret3
        exact ⟨rfl, rfl⟩
      · have e1 : (n % 4 == 1) = false := by simp; omega
        have e3 : (n % 4 == 3) = true := by simpa using hc
        clear hc
        go_enter Tryz.func149, Tryz.ntmps149
        go_wp2
        go_ret3
        exact ⟨rfl, rfl⟩
    · have hk : (n % 2 == 1) = false := by simp; omega
      have e1 : (n % 4 == 1) = false := by simp; omega
      have e3 : (n % 4 == 3) = false := by simp; omega
      clear h1 hn
      go_enter Tryz.func149, Tryz.ntmps149
      go_wp2
      go_ret3
      exact ⟨rfl, rfl⟩
  · have hd : decide (0 < n) = false := by simpa using h0
    clear hn
    have ht := tm_neg n (by omega)
    have e1 : (n.tmod 4 == 1) = false := by simp; omega
    have e3 : (n.tmod 4 == 3) = false := by simp; omega
    have e5 : (n.tmod 2 == 1) = false := by have := tm2_neg n (by omega); simp; omega
    clear ht
    by_cases hz0 : n = 0
    · subst hz0
      go_enter Tryz.func149, Tryz.ntmps149
      go_wp2
      go_ret3
      exact ⟨rfl, rfl⟩
    · have hz : (n == 0) = false := by simpa using hz0
      have h6 : n < 0 := by omega
      go_enter Tryz.func149, Tryz.ntmps149
      go_wp2
      go_ret3
      exact ⟨rfl, rfl⟩
theorem aI_yes (a : Int) (w : World) (h0 : 0 ≤ a) (h1 : a < 64) :
    Calls Tryz.prog 80 #[.int .i64 a] w fun e w' => e = .returned (.tuple #[.int .i64 (a / 16), .int .i64 (a / 4 % 4), .int .i64 (a % 4), .bool true]) ∧ w = w' := by
  have h2 : a < 64 := by omega
  have h3 : 0 ≤ a / 4 := by omega
  go_enter Tryz.func80, Tryz.ntmps80
  go_wp2
  refine bodyPost_ret (results_t4e rfl _ _ _) rfl ?_
  exact ⟨ret4e (by first | rfl | omega) (by first | rfl | omega) (by first | rfl | omega), rfl⟩
theorem aI_no (a : Int) (w : World) (h : a < 0 ∨ 64 ≤ a) :
    Calls Tryz.prog 80 #[.int .i64 a] w fun e w' => e = .returned (.tuple #[.int .i64 0, .int .i64 0, .int .i64 0, .bool false]) ∧ w = w' := by
  rcases h with h | h
  · have h2 : decide (0 ≤ a) = false := by simpa using h
    go_enter Tryz.func80, Tryz.ntmps80
    go_wp2
    refine bodyPost_ret (results_t4e rfl _ _ _) rfl ?_
    exact ⟨rfl, rfl⟩
  · have h0 : 0 ≤ a := by omega
    have h2 : decide (a < 64) = false := by simp; omega
    go_enter Tryz.func80, Tryz.ntmps80
    go_wp2
    refine bodyPost_ret (results_t4e rfl _ _ _) rfl ?_
    exact ⟨rfl, rfl⟩
end Go.Proofs.YtcmmlgdfhkcmoaaGreat
namespace Go.Proofs.YtcmmlgdfhkcmoaaGreat
open Go.ChangeShapes Go.WideShapes Go.ChangeAt Go.RowKit
set_option linter.unusedVariables false
set_option maxRecDepth 100000
theorem Rows2.word {w : World} {v : Value} {xss : List (List Int)} (h : Rows2 w v xss) (hm : memOk xss = true) {i j : Nat} (hi : i < 12) (hj : j < 4) :
    ∃ b o c g p d, v = .slice (some ⟨b, o, none⟩) 12 c ∧ w.cell? ⟨b, o + i, none⟩ = some (.slice (some ⟨g, p, none⟩) 4 d) ∧ w.cell? ⟨g, p + j, none⟩ = some (.int .i64 ((xss.getD i []).getD j 0)) := by
  obtain ⟨a, c, rfl, h1, h2, h3⟩ := h
  have hl := mem_len hm
  have hr := mem_row hm hi
  obtain ⟨b, o, u, rfl, hc, hu⟩ := h3 i (by omega)
  obtain ⟨ga, d, rfl, hg1, hg2, hg3⟩ := hu
  obtain ⟨g, p, rfl, hgc⟩ := hg3 j (by omega)
  rw [hr] at hc
  exact ⟨b, o, c, g, p, d, by rw [hl], hc, hgc⟩
instance (x : Int) : Decidable (goodB x) := by unfold goodB; infer_instance
def wd (xss : List (List Int)) (i j : Nat) : Int := (xss.getD i []).getD j 0
def plV (f t : Int) (b : Bool) : Value := .agg #[.int .i64 f, .int .i64 t, .bool b]
def top (xss : List (List Int)) (r a : Int) : Int := wd xss r.toNat (a / 16).toNat
def low (xss : List (List Int)) (r a : Int) : Int := wd xss (top xss r a / 4).toNat (a / 4 % 4).toNat
def wOk (xss : List (List Int)) (r a : Int) : Prop := memOk xss = true ∧ (0 ≤ r ∧ r < 12) ∧ 0 ≤ a ∧ a < 64
instance (xss : List (List Int)) (r a : Int) : Decidable (wOk xss r a) := by unfold wOk; infer_instance
structure WV where
  f : Int
  t : Int
  b : Bool
  c : Int
def walkF (xss : List (List Int)) (r a : Int) : WV :=
  if wOk xss r a then
    if goodB (top xss r a) then
      if goodB (low xss r a) then ⟨low xss r a / 4, a % 4, decide (top xss r a % 4 = 3) && decide (low xss r a % 4 = 3), 0⟩
      else ⟨0, 0, false, 2⟩
    else ⟨0, 0, false, 1⟩
  else ⟨0, 0, false, 3⟩
def WalkRes (w : World) (p : WV) (e : Ending) (w' : World) : Prop := e = .returned (.tuple #[plV p.f p.t p.b, .int .i64 p.c]) ∧ Below w.heap.size w w'
theorem good_frame {x : Int} (h : goodB x) : 0 ≤ x / 4 ∧ x / 4 < 12 := by obtain ⟨h0, h1, h2⟩ := h; omega
theorem wd_bounds {xss : List (List Int)} (hm : memOk xss = true) {i j : Nat} (hi : i < 12) (hj : j < 4) : 0 ≤ wd xss i j ∧ wd xss i j ≤ 9999 := mem_word hm hi hj
theorem l3Walk_top (w : World) (v : Value) (xss : List (List Int)) (r a : Int) (h : Rows2 w v xss) (hk : wOk xss r a) (ht : ¬ goodB (top xss r a)) :
    Calls Tryz.prog 91 #[v, .int .i64 r, .int .i64 a] w (WalkRes w ⟨0, 0, false, 1⟩) := by
  obtain ⟨hm, ⟨hr0, hr1⟩, ha0, ha1⟩ := hk
  obtain ⟨r, rfl⟩ := Int.eq_ofNat_of_zero_le hr0
  obtain ⟨i, hi⟩ := Int.eq_ofNat_of_zero_le (show 0 ≤ a / 16 by omega)
  obtain ⟨b, o, c, g, p, d, rfl, hc, hx⟩ := h.word hm (i := r) (j := i) (by omega) (by omega)
  have hxe : (xss.getD r []).getD i 0 = top xss r a := by unfold top wd; rw [hi]; simp
  have hbd := wd_bounds hm (i := r) (j := i) (by omega) (by omega)
  unfold wd at hbd
  rw [hxe] at hx hbd
  obtain ⟨x, hxx⟩ : ∃ x, x = top xss r a := ⟨_, rfl⟩
  rw [← hxx] at hx ht hbd
  have HC := Lib.hid (fun w => eS_no x w ht (by omega) (by omega))
  have hi4 : (i : Int) < 4 := by omega
  clear hxe hxx ht h hbd
  obtain ⟨R, HRR⟩ : ∃ R : Ending → World → Prop, Hid (R = WalkRes w ⟨0, 0, false, 1⟩) := ⟨_, Lib.hid rfl⟩
  rw [← HRR.out]
  have hca := fun ob => (World.cell?_alloc_lt w ob ⟨b, o + r, none⟩ (cell_lt hc)).trans hc
  have hxa := fun ob => (World.cell?_alloc_lt w ob ⟨g, p + i, none⟩ (cell_lt hx)).trans hx
  clear hc hx
  go_enter Tryz.func91, Tryz.ntmps91
  go_wp2_with (go_at_call 149; refine (HC.out _).mono ?_; rintro e w' ⟨rfl, rfl⟩)
  refine bodyPost_ret (results_cell_mid rfl _ _ w.heap.size 0 [.int .i64 (0), .int .i64 (0), .bool false] _ rfl (range_row (heap_alloc_new w _)) Tryz.underlying50 rfl (by kernel_rfl)) rfl ?_
  rw [HRR.out]
  exact ⟨rfl, (Below.refl _ _).alloc (Nat.le_refl _) _⟩
theorem l3Walk_low (w : World) (v : Value) (xss : List (List Int)) (r a : Int) (h : Rows2 w v xss) (hk : wOk xss r a) (ht : goodB (top xss r a)) (hl : ¬ goodB (low xss r a)) :
    Calls Tryz.prog 91 #[v, .int .i64 r, .int .i64 a] w (WalkRes w ⟨0, 0, false, 2⟩) := by
  obtain ⟨hm, ⟨hr0, hr1⟩, ha0, ha1⟩ := hk
  obtain ⟨r, rfl⟩ := Int.eq_ofNat_of_zero_le hr0
  obtain ⟨i, hi⟩ := Int.eq_ofNat_of_zero_le (show 0 ≤ a / 16 by omega)
  obtain ⟨b, o, c, g, p, d, rfl, hc, hx⟩ := h.word hm (i := r) (j := i) (by omega) (by omega)
  have hxe : (xss.getD r []).getD i 0 = top xss r a := by unfold top wd; rw [hi]; simp
  have hbd := wd_bounds hm (i := r) (j := i) (by omega) (by omega)
  unfold wd at hbd
  rw [hxe] at hx hbd
  obtain ⟨f, hf⟩ := Int.eq_ofNat_of_zero_le (good_frame ht).1
  have hf12 := (good_frame ht).2
  obtain ⟨j, hj⟩ := Int.eq_ofNat_of_zero_le (show 0 ≤ a / 4 % 4 by omega)
  obtain ⟨b', o', c', g2, p2, d2, e0, hc2, hy⟩ := h.word hm (i := f) (j := j) (by omega) (by omega)
  injection e0 with e0 _ e3
  injection e0 with e0
  injection e0 with e1 e2
  subst e1
  subst e2
  subst e3
  have hye : (xss.getD f []).getD j 0 = low xss r a := by unfold low wd; rw [hf, hj]; simp
  have hbd2 := wd_bounds hm (i := f) (j := j) (by omega) (by omega)
  unfold wd at hbd2
  rw [hye] at hy hbd2
  obtain ⟨x, hxx⟩ : ∃ x, x = top xss r a := ⟨_, rfl⟩
  obtain ⟨y, hyy⟩ : ∃ y, y = low xss r a := ⟨_, rfl⟩
  rw [← hxx] at hx ht hbd hf hf12
  rw [← hyy] at hy hl hbd2
  have HC := Lib.hid (fun w => eS_yes x w ht)
  rw [hf] at HC
  have HC2 := Lib.hid (fun w => eS_no y w hl (by omega) (by omega))
  have hi4 : (i : Int) < 4 := by omega
  have hj4 : (j : Int) < 4 := by omega
  have hf12' : (f : Int) < 12 := by omega
  clear hxe hxx hyy hye ht hl h hbd hbd2 hf hf12
  obtain ⟨R, HRR⟩ : ∃ R : Ending → World → Prop, Hid (R = WalkRes w ⟨0, 0, false, 2⟩) := ⟨_, Lib.hid rfl⟩
  rw [← HRR.out]
  have hca := fun ob => (World.cell?_alloc_lt w ob ⟨b, o + r, none⟩ (cell_lt hc)).trans hc
  have hxa := fun ob => (World.cell?_alloc_lt w ob ⟨g, p + i, none⟩ (cell_lt hx)).trans hx
  have hcb := fun ob => (World.cell?_alloc_lt w ob ⟨b, o + f, none⟩ (cell_lt hc2)).trans hc2
  have hyb := fun ob => (World.cell?_alloc_lt w ob ⟨g2, p2 + j, none⟩ (cell_lt hy)).trans hy
  clear hc hx hc2 hy
  go_enter Tryz.func91, Tryz.ntmps91
  go_wp2_with fail
  refine (HC.out _).mono ?_
  rintro e w' ⟨rfl, rfl⟩
  go_wp2_with fail
  refine (HC2.out _).mono ?_
  rintro e w' ⟨rfl, rfl⟩
  go_wp2_with fail
  refine bodyPost_ret (results_cell_mid rfl _ _ w.heap.size 0 [.int .i64 (0), .int .i64 (0), .bool false] _ rfl (range_row (heap_alloc_new w _)) Tryz.underlying50 rfl (by kernel_rfl)) rfl ?_
  rw [HRR.out]
  exact ⟨rfl, (Below.refl _ _).alloc (Nat.le_refl _) _⟩
theorem l3Walk_done (w : World) (v : Value) (xss : List (List Int)) (r a : Int) (h : Rows2 w v xss) (hk : wOk xss r a) (ht : goodB (top xss r a)) (hl : goodB (low xss r a)) :
    Calls Tryz.prog 91 #[v, .int .i64 r, .int .i64 a] w (WalkRes w ⟨low xss r a / 4, a % 4, decide (top xss r a % 4 = 3) && decide (low xss r a % 4 = 3), 0⟩) := by
  obtain ⟨hm, ⟨hr0, hr1⟩, ha0, ha1⟩ := hk
  obtain ⟨r, rfl⟩ := Int.eq_ofNat_of_zero_le hr0
  obtain ⟨i, hi⟩ := Int.eq_ofNat_of_zero_le (show 0 ≤ a / 16 by omega)
  obtain ⟨b, o, c, g, p, d, rfl, hc, hx⟩ := h.word hm (i := r) (j := i) (by omega) (by omega)
  have hxe : (xss.getD r []).getD i 0 = top xss r a := by unfold top wd; rw [hi]; simp
  have hbd := wd_bounds hm (i := r) (j := i) (by omega) (by omega)
  unfold wd at hbd
  rw [hxe] at hx hbd
  obtain ⟨f, hf⟩ := Int.eq_ofNat_of_zero_le (good_frame ht).1
  have hf12 := (good_frame ht).2
  obtain ⟨j, hj⟩ := Int.eq_ofNat_of_zero_le (show 0 ≤ a / 4 % 4 by omega)
  obtain ⟨b', o', c', g2, p2, d2, e0, hc2, hy⟩ := h.word hm (i := f) (j := j) (by omega) (by omega)
  injection e0 with e0 _ e3
  injection e0 with e0
  injection e0 with e1 e2
  subst e1
  subst e2
  subst e3
  have hye : (xss.getD f []).getD j 0 = low xss r a := by unfold low wd; rw [hf, hj]; simp
  have hbd2 := wd_bounds hm (i := f) (j := j) (by omega) (by omega)
  unfold wd at hbd2
  rw [hye] at hy hbd2
  obtain ⟨x, hxx⟩ : ∃ x, x = top xss r a := ⟨_, rfl⟩
  obtain ⟨y, hyy⟩ : ∃ y, y = low xss r a := ⟨_, rfl⟩
  rw [← hxx] at hx ht hbd hf hf12 ⊢
  rw [← hyy] at hy hl hbd2 ⊢
  have HC := Lib.hid (fun w => eS_yes x w ht)
  rw [hf] at HC
  have HC2 := Lib.hid (fun w => eS_yes y w hl)
  obtain ⟨z, hz⟩ : ∃ z, z = y / 4 := ⟨_, rfl⟩
  obtain ⟨b1, hb1⟩ : ∃ b1, b1 = decide (x % 4 = 3) := ⟨_, rfl⟩
  obtain ⟨b2, hb2⟩ : ∃ b2, b2 = decide (y % 4 = 3) := ⟨_, rfl⟩
  rw [← hz, ← hb2] at HC2
  rw [← hb1] at HC
  rw [← hz, ← hb1, ← hb2]
  have hi4 : (i : Int) < 4 := by omega
  have hj4 : (j : Int) < 4 := by omega
  have hf12' : (f : Int) < 12 := by omega
  clear hxe hxx hyy hye ht hl h hbd hbd2 hf hf12 hz hb1 hb2
  obtain ⟨R, HRR⟩ : ∃ R : Ending → World → Prop, Hid (R = WalkRes w ⟨z, a % 4, b1 && b2, 0⟩) := ⟨_, Lib.hid rfl⟩
  rw [← HRR.out]
  have hca := fun ob => (World.cell?_alloc_lt w ob ⟨b, o + r, none⟩ (cell_lt hc)).trans hc
  have hxa := fun ob => (World.cell?_alloc_lt w ob ⟨g, p + i, none⟩ (cell_lt hx)).trans hx
  have hcb := fun ob => (World.cell?_alloc_lt w ob ⟨b, o + f, none⟩ (cell_lt hc2)).trans hc2
  have hyb := fun ob => (World.cell?_alloc_lt w ob ⟨g2, p2 + j, none⟩ (cell_lt hy)).trans hy
  clear hc hx hc2 hy
  cases b1 <;> cases b2 <;> skip
  all_goals
    go_enter Tryz.func91, Tryz.ntmps91
    go_wp2_with fail
    refine (HC.out _).mono ?_
    rintro e w' ⟨rfl, rfl⟩
    go_wp2_with fail
    refine (HC2.out _).mono ?_
    rintro e w' ⟨rfl, rfl⟩
    go_wp2_with fail
    refine bodyPost_ret (results_cell_mid rfl _ _ w.heap.size 0 [.int .i64 z, .int .i64 (a % 4), .bool _] _ rfl (range_row (heap_alloc_new w _)) Tryz.underlying50 rfl (by kernel_rfl)) rfl ?_
    rw [HRR.out]
    exact ⟨rfl, (Below.refl _ _).alloc (Nat.le_refl _) _⟩
end Go.Proofs.YtcmmlgdfhkcmoaaGreat
namespace Go.Proofs.YtcmmlgdfhkcmoaaGreat
set_option linter.unusedVariables false
set_option maxRecDepth 100000
abbrev Bs := List UInt8
def lok (b : UInt8) : Bool := decide (97 ≤ b.toNat) && decide (b.toNat ≤ 99)
def rv (s : Bs) : Bool := s.all lok && decide (s.length ≤ 4)
def cov (a b : Bs) : Bool := decide (a.length ≤ b.length) && (b.take a.length == a)
def bl (a b : Bs) : Bool := Op.bytesLess a b
theorem bl_nil (a : Bs) : bl a [] = false := by cases a <;> rfl
theorem bl_cons (a b : UInt8) (x y : Bs) : bl (a :: x) (b :: y) = (decide (a < b) || (a == b && bl x y)) := rfl
theorem bl_cons_iff {a b : UInt8} {x y : Bs} : bl (a :: x) (b :: y) = true ↔ a.toNat < b.toNat ∨ (a = b ∧ bl x y = true) := by
  rw [bl_cons]
  simp only [Bool.or_eq_true, decide_eq_true_eq, Bool.and_eq_true, beq_iff_eq, UInt8.lt_iff_toNat_lt]
theorem bl_irrefl : ∀ a : Bs, bl a a = false
  | [] => rfl
  | a :: x => by
    rw [Bool.eq_false_iff]
    intro h
    rcases bl_cons_iff.1 h with h | ⟨_, h⟩
    · omega
    · rw [bl_irrefl x] at h; cases h
theorem bl_trans : ∀ {a b c : Bs}, bl a b = true → bl b c = true → bl a c = true
  | _, [], _, h, _ => by rw [bl_nil] at h; cases h
  | _, _ :: _, [], _, h => by rw [bl_nil] at h; cases h
  | [], _ :: _, _ :: _, _, _ => rfl
  | a :: x, b :: y, c :: z, h1, h2 => by
    rw [bl_cons_iff] at h1 h2 ⊢
    rcases h1 with h1 | ⟨e1, h1⟩
    · rcases h2 with h2 | ⟨e2, h2⟩
      · left; omega
      · left; rw [← e2]; exact h1
    · rcases h2 with h2 | ⟨e2, h2⟩
      · left; rw [e1]; exact h2
      · right; exact ⟨e1.trans e2, bl_trans h1 h2⟩
theorem bl_ne {a b : Bs} (h : bl a b = true) : a ≠ b := fun e => by rw [e, bl_irrefl] at h; cases h
def Asc (xs : List Bs) : Prop := xs.Pairwise (fun a b => bl a b = true)
def rok (xs : List Bs) : Bool := decide (∀ j, j < xs.length → rv (xs.getD j []) = true ∧ (0 < j → bl (xs.getD (j - 1) []) (xs.getD j []) = true))
def rvs (xs : List Bs) : Bool := rok xs && decide (xs.length ≤ 6)
def may0 (xs : List Bs) (g : Bs) : Bool := xs.any (fun x => cov x g)
theorem rok_iff {xs : List Bs} : rok xs = true ↔ ∀ j, j < xs.length → rv (xs.getD j []) = true ∧ (0 < j → bl (xs.getD (j - 1) []) (xs.getD j []) = true) := by
  simp only [rok, decide_eq_true_eq]
theorem rok_asc {xs : List Bs} (h : rok xs = true) : Asc xs := by
  rw [rok_iff] at h
  have key : ∀ d i, i + d + 1 < xs.length → bl (xs.getD i []) (xs.getD (i + d + 1) []) = true := by
    intro d
    induction d with
    | zero => intro i hi; exact (h (i + 1) hi).2 (by omega)
    | succ d ih =>
      intro i hi
      exact bl_trans (ih i (by omega)) ((h (i + d + 1 + 1) (by omega)).2 (by omega))
  unfold Asc
  rw [List.pairwise_iff_getElem]
  intro i j hi hj hij
  have := key (j - i - 1) i (by omega)
  rw [show i + (j - i - 1) + 1 = j by omega, getD_lt hi, getD_lt hj] at this
  exact this
theorem rok_all {xs : List Bs} (h : rok xs = true) : ∀ x ∈ xs, rv x = true := by
  rw [rok_iff] at h
  intro x hx
  obtain ⟨i, hi, rfl⟩ := List.getElem_of_mem hx
  have := (h i hi).1
  rwa [getD_lt hi] at this
theorem rok_of {xs : List Bs} (h1 : Asc xs) (h2 : ∀ x ∈ xs, rv x = true) : rok xs = true := by
  rw [rok_iff]
  intro j hj
  refine ⟨h2 _ (by rw [getD_lt hj]; exact List.getElem_mem hj), fun h0 => ?_⟩
  rw [getD_lt hj, getD_lt (show j - 1 < xs.length by omega)]
  exact (List.pairwise_iff_getElem.1 h1) (j - 1) j (by omega) hj (by omega)
theorem rok_cases {xs : List Bs} : rok xs = true ↔ Asc xs ∧ ∀ x ∈ xs, rv x = true :=
  ⟨fun h => ⟨rok_asc h, rok_all h⟩, fun h => rok_of h.1 h.2⟩
theorem rvs_iff {xs : List Bs} : rvs xs = true ↔ (Asc xs ∧ ∀ x ∈ xs, rv x = true) ∧ xs.length ≤ 6 := by
  rw [rvs, Bool.and_eq_true, rok_cases, decide_eq_true_eq]
theorem rvs_len {xs : List Bs} (h : rvs xs = true) : xs.length ≤ 6 := (rvs_iff.1 h).2
theorem rv_iff {s : Bs} : rv s = true ↔ (∀ b ∈ s, lok b = true) ∧ s.length ≤ 4 := by
  rw [rv, Bool.and_eq_true, List.all_eq_true, decide_eq_true_eq]
theorem rv_len {s : Bs} (h : rv s = true) : s.length ≤ 4 := (rv_iff.1 h).2
theorem asc_nodup {xs : List Bs} (h : Asc xs) : xs.Nodup := h.imp (fun hab => bl_ne hab)
theorem cov_iff {a b : Bs} : cov a b = true ↔ a.length ≤ b.length ∧ b.take a.length = a := by
  rw [cov, Bool.and_eq_true, decide_eq_true_eq, beq_iff_eq]
end Go.Proofs.YtcmmlgdfhkcmoaaGreat
namespace Go.Proofs.YtcmmlgdfhkcmoaaGreat
open Go.ChangeShapes Go.WideShapes Go.ChangeAt Go.RowKit
set_option linter.unusedVariables false
set_option maxRecDepth 100000
def Strs (w : World) (v : Value) (xs : List Bs) : Prop :=
  ∃ (a : Option Addr) (cap : Nat), v = .slice a xs.length cap ∧ xs.length ≤ cap ∧ cap ≤ maxLen ∧
    ∀ i, i < xs.length → ∃ b o, a = some ⟨b, o, none⟩ ∧ w.cell? ⟨b, o + i, none⟩ = some (.string ⟨(xs.getD i []).toArray⟩)
theorem Strs.below {w w' : World} {v : Value} {xs : List Bs} (h : Strs w v xs) (hb : Below w.heap.size w w') : Strs w' v xs := by
  obtain ⟨a, cap, rfl, h1, h2, h3⟩ := h
  refine ⟨a, cap, rfl, h1, h2, fun i hi => ?_⟩
  obtain ⟨b, o, rfl, hc⟩ := h3 i hi
  exact ⟨b, o, rfl, (hb.cell (p := ⟨b, o + i, none⟩) (cell_lt hc)).trans hc⟩
theorem Strs.drewN {w : World} {v : Value} {xs : List Bs} (h : Strs w v xs) (n : Nat) : Strs (w.drewN n) v xs := h
def StrsW (w : World) (B0 B1 : Nat) (v : Value) (xs : List Bs) : Prop :=
  ∃ (a : Option Addr) (cap : Nat), v = .slice a xs.length cap ∧ xs.length ≤ cap ∧ cap ≤ maxLen ∧
    ∀ i, i < xs.length → ∃ g p, a = some ⟨g, p, none⟩ ∧ B0 ≤ g ∧ g < B1 ∧ w.cell? ⟨g, p + i, none⟩ = some (.string ⟨(xs.getD i []).toArray⟩) ∧ w.frozen? ⟨g, p + i, none⟩ = false
theorem StrsW.chg {lo hi B0 B1 : Nat} {w w' : World} {v : Value} {xs : List Bs} (h : StrsW w B0 B1 v xs) (c : Chg lo hi w w') (hB : B1 ≤ w.heap.size) (hh : B1 ≤ lo ∨ hi ≤ B0) : StrsW w' B0 B1 v xs := by
  obtain ⟨a, cap, rfl, h1, h2, h3⟩ := h
  refine ⟨a, cap, rfl, h1, h2, fun i hi => ?_⟩
  obtain ⟨g, p, e, hg0, hg1, hc, hf⟩ := h3 i hi
  have hb := c.block g (by omega) (by omega)
  exact ⟨g, p, e, hg0, hg1, (World.cell?_of_block hb).trans hc, (World.frozen?_of_block hb).trans hf⟩
theorem StrsW.below {B0 B1 : Nat} {w w' : World} {v : Value} {xs : List Bs} (h : StrsW w B0 B1 v xs) (c : Below w.heap.size w w') (hB : B1 ≤ w.heap.size) : StrsW w' B0 B1 v xs :=
  h.chg (Chg.of_below c) hB (.inr (Nat.zero_le _))
theorem StrsW.wide {B0 B1 C0 C1 : Nat} {w : World} {v : Value} {xs : List Bs} (h : StrsW w B0 B1 v xs) (h0 : C0 ≤ B0) (h1 : B1 ≤ C1) : StrsW w C0 C1 v xs := by
  obtain ⟨a, cap, e, h2, h3, h4⟩ := h
  refine ⟨a, cap, e, h2, h3, fun i hi => ?_⟩
  obtain ⟨g, p, e, hg0, hg1, r⟩ := h4 i hi
  exact ⟨g, p, e, by omega, by omega, r⟩
theorem StrsW.drewN {B0 B1 : Nat} {w : World} {v : Value} {xs : List Bs} (h : StrsW w B0 B1 v xs) (n : Nat) : StrsW (w.drewN n) B0 B1 v xs := h
theorem StrsW.put {B0 B1 : Nat} {w : World} {a : Option Addr} {n cap : Nat} {xs : List Bs} (h : StrsW w B0 B1 (.slice a n cap) xs) {g p k : Nat} (ha : a = some ⟨g, p, none⟩) (hk : k < n) (t : Bs) :
    StrsW (w.setCell ⟨g, p + k, none⟩ (.string ⟨t.toArray⟩)) B0 B1 (.slice a n cap) (xs.set k t) := by
  obtain ⟨a', cap', e, h1, h2, h3⟩ := h
  injection e with e1 e2 e3
  subst e1
  subst e3
  subst e2
  subst ha
  refine ⟨_, cap, by rw [List.length_set], by rw [List.length_set]; exact h1, h2, fun i hi => ?_⟩
  rw [List.length_set] at hi
  obtain ⟨g', p', e, hg0, hg1, hc, hf⟩ := h3 i hi
  cases e
  refine ⟨g, p, rfl, hg0, hg1, ?_, (frozen_set _).trans hf⟩
  by_cases hik : i = k
  · subst hik
    rw [cell_set_same hc, getD_lt (by rw [List.length_set]; exact hi), List.getElem_set_self]
  · rw [cell_set_other (.inr (by omega)), hc, getD_lt hi, getD_lt (by rw [List.length_set]; exact hi), List.getElem_set_ne (by omega)]
theorem chg_set {lo hi : Nat} {w w' : World} (h : Chg lo hi w w') {g p : Nat} {v : Value} (h0 : lo ≤ g) (h1 : g < hi) : Chg lo hi w (w'.setCell ⟨g, p, none⟩ v) :=
  ⟨h.os, h.tape, h.output, by have := h.size; simpa [World.setCell] using this, fun b hb hh => (Below.heap_setCell w' ⟨g, p, none⟩ v b (by show b ≠ g; omega)).trans (h.block b hb hh)⟩
theorem chg_below {lo hi : Nat} {w w1 w2 : World} (h : Chg lo hi w w1) (hb : Below w1.heap.size w1 w2) : Chg lo hi w w2 :=
  ⟨hb.os.trans h.os, hb.tape.trans h.tape, hb.output.trans h.output, Nat.le_trans h.size hb.size, fun b hb' hh => (hb.block b (Nat.lt_of_lt_of_le hb' h.size)).trans (h.block b hb' hh)⟩
theorem chg_trans {lo hi : Nat} {w w1 w2 : World} (h : Chg lo hi w w1) (k : Chg lo hi w1 w2) : Chg lo hi w w2 :=
  ⟨k.os.trans h.os, k.tape.trans h.tape, k.output.trans h.output, Nat.le_trans h.size k.size, fun b hb hh => (k.block b (Nat.lt_of_lt_of_le hb h.size) hh).trans (h.block b hb hh)⟩
end Go.Proofs.YtcmmlgdfhkcmoaaGreat
namespace Go.Proofs.YtcmmlgdfhkcmoaaGreat
open Go.ChangeShapes Go.WideShapes Go.ChangeAt Go.RowKit
set_option linter.unusedVariables false
set_option maxRecDepth 100000
structure IV where
  k : Int
  g : Bs
  r : Int
deriving DecidableEq
instance : Inhabited IV := ⟨⟨0, [], 0⟩⟩
def iz : IV := ⟨0, [], 0⟩
def ivC (x : IV) : List Value := [.int .i64 x.k, .string ⟨x.g.toArray⟩, .int .i64 x.r]
abbrev ivV (x : IV) : Value := .agg #[.int .i64 x.k, .string ⟨x.g.toArray⟩, .int .i64 x.r]
theorem iv_ext {x y : IV} : x = y ↔ x.k = y.k ∧ x.g = y.g ∧ x.r = y.r := by cases x; cases y; simp
structure Tri (w : World) (b o : Nat) (x : IV) : Prop where
  c0 : w.cell? ⟨b, o, none⟩ = some (.int .i64 x.k)
  c1 : w.cell? ⟨b, o + 1, none⟩ = some (.string ⟨x.g.toArray⟩)
  c2 : w.cell? ⟨b, o + 2, none⟩ = some (.int .i64 x.r)
theorem Tri.block {w w' : World} {b o : Nat} {x : IV} (h : Tri w b o x) (e : w'.heap[b]? = w.heap[b]?) : Tri w' b o x :=
  ⟨(World.cell?_of_block e).trans h.c0, (World.cell?_of_block e).trans h.c1, (World.cell?_of_block e).trans h.c2⟩
theorem Tri.below {w w' : World} {B b o : Nat} {x : IV} (h : Tri w b o x) (hb : Below B w w') (hB : b < B) : Tri w' b o x := h.block (hb.block b hB)
theorem Tri.lt {w : World} {b o : Nat} {x : IV} (h : Tri w b o x) : b < w.heap.size := block_lt_of_cell h.c0
theorem Tri.drewN {w : World} {b o : Nat} {x : IV} (h : Tri w b o x) (n : Nat) : Tri (w.drewN n) b o x := ⟨h.c0, h.c1, h.c2⟩
theorem tri_new (w : World) (x : IV) (t : TypeId) : Tri (w.alloc (.cells #[.int .i64 x.k, .string ⟨x.g.toArray⟩, .int .i64 x.r] t)) w.heap.size 0 x := by
  have e := fun j => cell_of_row (w.alloc (.cells #[.int .i64 x.k, .string ⟨x.g.toArray⟩, .int .i64 x.r] t)) w.heap.size j _ _ (0, 0) (heap_alloc_new w _)
  exact ⟨(e 0).trans rfl, (e 1).trans rfl, (e 2).trans rfl⟩
def Is (w : World) (v : Value) (xs : List IV) : Prop :=
  ∃ (a : Option Addr) (cap : Nat), v = .slice a xs.length cap ∧ xs.length ≤ cap ∧ cap ≤ maxLen ∧
    ∀ i, i < xs.length → ∃ b o, a = some ⟨b, o, none⟩ ∧ Tri w b (o + i * 3) (xs.getD i iz)
theorem Is.below {w w' : World} {v : Value} {xs : List IV} (h : Is w v xs) (hb : Below w.heap.size w w') : Is w' v xs := by
  obtain ⟨a, cap, rfl, h1, h2, h3⟩ := h
  refine ⟨a, cap, rfl, h1, h2, fun i hi => ?_⟩
  obtain ⟨b, o, e, hc⟩ := h3 i hi
  exact ⟨b, o, e, hc.below hb hc.lt⟩
theorem Is.drewN {w : World} {v : Value} {xs : List IV} (h : Is w v xs) (n : Nat) : Is (w.drewN n) v xs := by
  obtain ⟨a, cap, e, h1, h2, h3⟩ := h
  refine ⟨a, cap, e, h1, h2, fun i hi => ?_⟩
  obtain ⟨b, o, e2, h4⟩ := h3 i hi
  exact ⟨b, o, e2, h4.drewN n⟩
structure TriW (w : World) (b o : Nat) (x : IV) : Prop where
  at3 : Tri w b o x
  fr : ∀ j, j < 3 → w.frozen? ⟨b, o + j, none⟩ = false
theorem TriW.block {w w' : World} {b o : Nat} {x : IV} (h : TriW w b o x) (e : w'.heap[b]? = w.heap[b]?) : TriW w' b o x :=
  ⟨h.at3.block e, fun j hj => (World.frozen?_of_block e).trans (h.fr j hj)⟩
theorem TriW.there {w : World} {b o : Nat} {x : IV} (h : TriW w b o x) : w.there b o 3 := fun j hj => by
  refine ⟨?_, h.fr j hj⟩
  obtain rfl | rfl | rfl : j = 0 ∨ j = 1 ∨ j = 2 := by omega
  · rw [Nat.add_zero, h.at3.c0]; rfl
  · rw [h.at3.c1]; rfl
  · rw [h.at3.c2]; rfl
theorem TriW.stored {w : World} {b o : Nat} {x : IV} (h : w.there b o 3) : TriW (w.setCells b o (ivC x)) b o x := by
  have hr := World.rangeAt_setCells_same w b o (ivC x) h
  exact ⟨⟨hr 0 _ rfl, hr 1 _ rfl, hr 2 _ rfl⟩, fun j hj => by rw [World.frozen?_setCells]; exact (h j hj).2⟩
theorem TriW.apart {w : World} {b b' o o' : Nat} {x : IV} {vs : List Value} (h : TriW w b' o' x) (ha : b' ≠ b ∨ o' + 3 ≤ o ∨ o + vs.length ≤ o') : TriW (w.setCells b o vs) b' o' x := by
  have hr : w.rangeAt b' o' (ivC x) := fun j v hv => by
    have hj : j < 3 := (List.getElem?_eq_some_iff.1 hv).1
    obtain rfl | rfl | rfl : j = 0 ∨ j = 1 ∨ j = 2 := by omega
    · cases hv; exact h.at3.c0
    · cases hv; exact h.at3.c1
    · cases hv; exact h.at3.c2
  have h2 := World.rangeAt_setCells_apart hr b o vs ha
  exact ⟨⟨h2 0 _ rfl, h2 1 _ rfl, h2 2 _ rfl⟩, fun j hj => by rw [World.frozen?_setCells]; exact h.fr j hj⟩
theorem TriW.off {w : World} {b o c p : Nat} {x : IV} (h : TriW w b o x) (hp : c ≠ b ∨ p < o ∨ o + 3 ≤ p) (u : Value) : TriW (w.setCell ⟨c, p, none⟩ u) b o x := by
  have ht : ∀ j, j < 3 → b ≠ c ∨ o + j ≠ p := fun j hj => by omega
  exact ⟨⟨(cell_set_other (ht 0 (by omega))).trans h.at3.c0, (cell_set_other (ht 1 (by omega))).trans h.at3.c1, (cell_set_other (ht 2 (by omega))).trans h.at3.c2⟩, fun j hj => (frozen_set _).trans (h.fr j hj)⟩
def IsW (w : World) (B0 B1 : Nat) (v : Value) (xs : List IV) : Prop :=
  ∃ (a : Option Addr) (cap : Nat), v = .slice a xs.length cap ∧ xs.length ≤ cap ∧ cap ≤ maxLen ∧
    ∀ i, i < xs.length → ∃ g p, a = some ⟨g, p, none⟩ ∧ B0 ≤ g ∧ g < B1 ∧ TriW w g (p + i * 3) (xs.getD i iz)
theorem IsW.is {w : World} {B0 B1 : Nat} {v : Value} {xs : List IV} (h : IsW w B0 B1 v xs) : Is w v xs := by
  obtain ⟨a, cap, rfl, h1, h2, h3⟩ := h
  refine ⟨a, cap, rfl, h1, h2, fun i hi => ?_⟩
  obtain ⟨g, p, e, _, _, hf⟩ := h3 i hi
  exact ⟨g, p, e, hf.at3⟩
theorem IsW.chg {lo hi B0 B1 : Nat} {w w' : World} {v : Value} {xs : List IV} (h : IsW w B0 B1 v xs) (c : Chg lo hi w w') (hB : B1 ≤ w.heap.size) (hh : B1 ≤ lo ∨ hi ≤ B0) : IsW w' B0 B1 v xs := by
  obtain ⟨a, cap, rfl, h1, h2, h3⟩ := h
  refine ⟨a, cap, rfl, h1, h2, fun i hi => ?_⟩
  obtain ⟨g, p, e, hg0, hg1, hf⟩ := h3 i hi
  exact ⟨g, p, e, hg0, hg1, hf.block (c.block g (by omega) (by omega))⟩
theorem IsW.below {B0 B1 : Nat} {w w' : World} {v : Value} {xs : List IV} (h : IsW w B0 B1 v xs) (c : Below w.heap.size w w') (hB : B1 ≤ w.heap.size) : IsW w' B0 B1 v xs :=
  h.chg (Chg.of_below c) hB (.inr (Nat.zero_le _))
theorem IsW.wide {B0 B1 C0 C1 : Nat} {w : World} {v : Value} {xs : List IV} (h : IsW w B0 B1 v xs) (h0 : C0 ≤ B0) (h1 : B1 ≤ C1) : IsW w C0 C1 v xs := by
  obtain ⟨a, cap, e, h2, h3, h4⟩ := h
  refine ⟨a, cap, e, h2, h3, fun i hi => ?_⟩
  obtain ⟨g, p, e, hg0, hg1, r⟩ := h4 i hi
  exact ⟨g, p, e, by omega, by omega, r⟩
theorem IsW.upd {B0 B1 : Nat} {w w' : World} {a : Option Addr} {n cap : Nat} {xs : List IV} (h : IsW w B0 B1 (.slice a n cap) xs) {g p k : Nat} (ha : a = some ⟨g, p, none⟩) (hk : k < n) {x : IV}
    (hx : TriW w' g (p + k * 3) x) (ho : ∀ i y, i ≠ k → TriW w g (p + i * 3) y → TriW w' g (p + i * 3) y) : IsW w' B0 B1 (.slice a n cap) (xs.set k x) := by
  obtain ⟨a', cap', e, h1, h2, h3⟩ := h
  injection e with e1 e2 e3
  subst e1
  subst e3
  subst e2
  subst ha
  refine ⟨_, cap, by rw [List.length_set], by rw [List.length_set]; exact h1, h2, fun i hi => ?_⟩
  rw [List.length_set] at hi
  obtain ⟨g', p', e, hg0, hg1, hf⟩ := h3 i hi
  cases e
  refine ⟨g, p, rfl, hg0, hg1, ?_⟩
  by_cases hik : i = k
  · subst hik
    rw [getD_lt (by rw [List.length_set]; exact hi), List.getElem_set_self]
    exact hx
  · have := ho i _ hik hf
    rwa [getD_lt (by rw [List.length_set]; exact hi), List.getElem_set_ne (by omega), ← getD_lt (d := iz) hi]
end Go.Proofs.YtcmmlgdfhkcmoaaGreat
namespace Go.Proofs.YtcmmlgdfhkcmoaaGreat
set_option linter.unusedVariables false
set_option maxRecDepth 100000
def inR (x lo hi : Int) : Bool := decide (lo ≤ x ∧ x ≤ hi)
def iok (x : IV) : Bool := if x.k = 0 then decide (x = iz) else inR x.k 1 3 && (rv x.g && inR x.r 0 50)
def isok (xs : List IV) : Bool := decide (∀ i, i < xs.length → iok (xs.getD i iz) = true) && decide (xs.length = 12)
theorem inR_iff {x lo hi : Int} : inR x lo hi = true ↔ lo ≤ x ∧ x ≤ hi := by unfold inR; rw [decide_eq_true_eq]
theorem isok_iff {xs : List IV} : isok xs = true ↔ (∀ i, i < xs.length → iok (xs.getD i iz) = true) ∧ xs.length = 12 := by
  unfold isok
  rw [Bool.and_eq_true, decide_eq_true_eq, decide_eq_true_eq]
theorem isok_len {xs : List IV} (h : isok xs = true) : xs.length = 12 := (isok_iff.1 h).2
theorem isok_at {xs : List IV} (h : isok xs = true) {i : Nat} (hi : i < xs.length) : iok (xs.getD i iz) = true := (isok_iff.1 h).1 i hi
theorem iok_free {x : IV} (h : iok x = true) (hk : x.k = 0) : x = iz := by
  unfold iok at h
  rw [if_pos hk] at h
  exact of_decide_eq_true h
theorem iok_used {x : IV} (h : iok x = true) (hk : x.k ≠ 0) : (1 ≤ x.k ∧ x.k ≤ 3) ∧ rv x.g = true ∧ 0 ≤ x.r ∧ x.r ≤ 50 := by
  unfold iok at h
  rw [if_neg hk, Bool.and_eq_true, Bool.and_eq_true, inR_iff, inR_iff] at h
  exact h
end Go.Proofs.YtcmmlgdfhkcmoaaGreat
namespace Go.Proofs.YtcmmlgdfhkcmoaaGreat
open Go.ChangeShapes Go.WideShapes Go.ChangeAt Go.RowKit
set_option linter.unusedVariables false
set_option maxRecDepth 100000
structure OwnI (w : World) (v : Value) (ys : List Int) (w' : World) : Prop where
  own : w'.ownsRow w.heap.size 3 1 v ys.length (ys.map (.int .i64))
  bel : Below w.heap.size w w'
  nn : v ≠ .slice none 0 0
def NewI (ys : List Int) (w : World) (e : Ending) (w' : World) : Prop := ∃ v, e = .returned v ∧ OwnI w v ys w'
theorem ints_of_own {w : World} {B : Nat} {v : Value} {ys : List Int} (h : w.ownsRow B 3 1 v ys.length (ys.map (.int .i64))) : Ints w v ys := by
  rcases h.2 with ⟨rfl, hz⟩ | ⟨g, cap, cur, rfl, hb, hbl, hnc, hcm, hcs, htk⟩
  · exact ⟨none, 0, by rw [hz], by omega, Nat.zero_le _, fun i hi => by omega⟩
  · refine ⟨some ⟨g, 0, none⟩, cap, rfl, hnc, hcm, fun i hi => ⟨g, 0, rfl, ?_⟩⟩
    have := h.cells (g := g) rfl i (.int .i64 (ys.getD i 0)) (by rw [getD_lt hi]; simp)
    rw [add0] at this
    rw [Nat.zero_add]; exact this
theorem OwnI.ints {w w' : World} {v : Value} {ys : List Int} (h : OwnI w v ys w') : Ints w' v ys := ints_of_own h.own
theorem own_lower {w : World} {B B' : Nat} {e : TypeId} {v : Value} {n : Nat} {x : List Value} (h : w.ownsRow B e 1 v n x) (hB : B' ≤ B) : w.ownsRow B' e 1 v n x := by
  refine ⟨h.1, ?_⟩
  rcases h.2 with hn | ⟨g, cap, cur, e, hb, rest⟩
  · exact .inl hn
  · exact .inr ⟨g, cap, cur, e, by omega, rest⟩
theorem OwnI.from {w w1 w2 : World} {v : Value} {ys : List Int} (h : OwnI w1 v ys w2) (hb : Below w.heap.size w w1) : OwnI w v ys w2 :=
  ⟨own_lower h.own hb.size, hb.trans (h.bel.mono hb.size), h.nn⟩
theorem OwnI.start (w : World) : OwnI w (.slice (some ⟨w.heap.size, 0, none⟩) 0 0) [] (w.alloc (.cells #[] 3)) :=
  ⟨World.ownsRow_made w #[] 0 (Nat.le_refl _) (Nat.zero_le _) rfl, (Below.refl _ _).alloc (Nat.le_refl _) _, fun h => by cases h⟩
theorem OwnI.grow {w wr w2 : World} {v v2 : Value} {ys zs : List Int} {o : Obj} {n : Nat} (h : OwnI w v ys wr) (hn : n = ys.length + zs.length) (h2 : w2.ownsRow w.heap.size 3 1 v2 n (ys.map (.int .i64) ++ zs.map (.int .i64))) (hg : (wr.alloc o).grownBy w2 v.ownBlock) (hnn : v2 = .slice none 0 0 → v = .slice none 0 0) :
    OwnI w v2 (ys ++ zs) w2 := by
  subst hn
  refine ⟨by rw [List.length_append, List.map_append]; exact h2, (h.bel.alloc h.bel.size o).grown hg (by have := h.bel.size; simp; omega) (fun b hb => (h.own.lt b hb).1), fun e => h.nn (hnn e)⟩
theorem l3Has_any (w : World) (v : Value) (xs : List Int) (n : Int) (h : Ints w v xs) :
    Calls Tryz.prog 197 #[v, .int .i64 n] w fun e w' => e = .returned (.bool (decide (n ∈ xs))) ∧ w = w' := by
  obtain ⟨a, ca, rfl, hla, hma, hxa⟩ := h
  unfold maxLen at hma
  obtain ⟨m, hm⟩ : ∃ m, m = xs.length := ⟨_, rfl⟩
  rw [← hm] at hla hxa ⊢
  have HM := Lib.hid hm
  clear hm
  go_enter Tryz.func197, Tryz.ntmps197
  go_wp2
  go_loop [5] (fun i => ∃ k : Nat, k ≤ m ∧ i = .int .i64 k ∧ Hid (∀ j, j < k → xs.getD j 0 ≠ n)) (fun i => m - (intOf i).toNat)
  case atStart => exact ⟨0, Nat.zero_le _, rfl, Lib.hid (fun j hj => by omega)⟩
  case round =>
    obtain ⟨k, hk, rfl, HB⟩ := hrel
    by_cases hlt : k < m
    · obtain ⟨ba, oa, rfl, hca⟩ := hxa k hlt
      obtain ⟨x, hx⟩ : ∃ x, x = xs.getD k 0 := ⟨_, rfl⟩
      rw [← hx] at hca
      have HX := Lib.hid hx
      clear hx hxa
      have hlt' : (k : Int) < (m : Int) := by omega
      by_cases he : x = n
      · have HE : Hid (decide (n ∈ xs) = true) := Lib.hid (decide_eq_true (by
          rw [← he, HX.out, getD_lt (by have := HM.out; omega)]
          exact List.getElem_mem _))
        have he' : (x == n) = true := by simpa using he
        clear he
        go_wp2
        go_ret
        exact ret_bool HE.out.symm
      · have he' : (x == n) = false := by simpa using he
        have HE := Lib.hid he
        clear he
        go_wp2
        go_round
        case rel => exact ⟨k + 1, by omega, by go_num, Lib.hid (fun j hj => by
          by_cases hjk : j = k
          · rw [hjk, ← HX.out]; exact HE.out
          · exact HB.out j (by omega))⟩
        case measure => simp [intOf]; omega
    · have HE : Hid (decide (n ∈ xs) = false) := Lib.hid (decide_eq_false (fun hh => by
        obtain ⟨j, hj, e⟩ := List.getElem_of_mem hh
        have := HB.out j (by have := HM.out; omega)
        rw [getD_lt hj] at this
        exact this e))
      go_wp2
      go_ret
      exact ret_bool HE.out.symm
def named (xs : List Int) : List Int := (xs.filter (fun x => decide (goodB x))).map (fun x => x / 4)
theorem named_snoc (xs : List Int) (k : Nat) (hk : k < xs.length) : named (xs.take (k + 1)) = named (xs.take k) ++ (if goodB (xs.getD k 0) then [xs.getD k 0 / 4] else []) := by
  rw [take_snoc_getD xs k 0 hk]
  unfold named
  by_cases h : goodB (xs.getD k 0)
  · rw [if_pos h]
    simp only [List.filter_append, List.map_append, List.filter_cons, h, decide_true, if_true, List.filter_nil, List.map_cons, List.map_nil]
  · rw [if_neg h]
    simp only [List.filter_append, List.map_append, List.filter_cons, h, decide_false, List.filter_nil]
    simp
theorem named_len (xs : List Int) : (named xs).length ≤ xs.length := by
  unfold named
  rw [List.length_map]
  exact List.length_filter_le _ _
theorem l3Named_any (w : World) (v : Value) (xs : List Int) (h : Ints w v xs) (hn : xs.length ≤ 1000) (hb : ∀ i, i < xs.length → 0 ≤ xs.getD i 0 ∧ xs.getD i 0 ≤ 9999) :
    Calls Tryz.prog 191 #[v] w (NewI (named xs) w) := by
  obtain ⟨a, ca, rfl, hla, hma, hxa⟩ := h
  unfold maxLen at hma
  obtain ⟨m, hm⟩ : ∃ m, m = xs.length := ⟨_, rfl⟩
  rw [← hm] at hla hxa hn hb ⊢
  have HM := Lib.hid hm
  have HB := Lib.hid hb
  clear hm hb
  obtain ⟨i0, hi, hz0, hz1, hz2⟩ := info_parts intInfo
  have HI := Lib.hid hi
  have HZ0 := Lib.hid hz0
  have HZ1 := Lib.hid hz1
  have HZ2 := Lib.hid hz2
  clear hi hz0 hz1 hz2
  go_enter Tryz.func191, Tryz.ntmps191
  go_wp2
  go_loopw [3, 4] (fun u i wr => ∃ k : Nat, k ≤ m ∧ i = .int .i64 k ∧ OwnI w u (named (xs.take k)) wr) (fun _ i _ => m - (intOf i).toNat)
  case atStart => exact ⟨0, Nat.zero_le _, rfl, OwnI.start w⟩
  case round =>
    obtain ⟨k, hk, rfl, hrel⟩ := hrel
    by_cases hlt : k < m
    · obtain ⟨ba, oa, rfl, hca⟩ := hxa k hlt
      obtain ⟨x, hx⟩ : ∃ x, x = xs.getD k 0 := ⟨_, rfl⟩
      have hxb := HB.out k hlt
      have hsn := named_snoc xs k (by have := HM.out; omega)
      have hnl := named_len (xs.take k)
      rw [← hx] at hca hsn hxb
      have hcr := (hrel.bel.cell (p := ⟨ba, oa + k, none⟩) (cell_lt hca)).trans hca
      have hlt' : (k : Int) < (m : Int) := by omega
      have HSN := Lib.hid hsn
      have hnl' : (named (xs.take k)).length ≤ 1000 := by rw [List.length_take] at hnl; omega
      have HNL := Lib.hid hnl'
      clear hsn hnl hnl' hx hxa hca
      by_cases hg : goodB x
      · rw [if_pos hg] at HSN
        have HC := Lib.hid (fun w => eS_yes x w hg)
        obtain ⟨z, hz⟩ : ∃ z, z = x / 4 := ⟨_, rfl⟩
        rw [← hz] at HC HSN
        obtain ⟨b2, hb2⟩ : ∃ b2, b2 = decide (x % 4 = 3) := ⟨_, rfl⟩
        rw [← hb2] at HC
        clear hz hb2 hg
        have HREL := Lib.hid hrel
        clear hrel
        go_wp2_with fail
        refine (HC.out _).mono ?_
        rintro e w' ⟨rfl, rfl⟩
        go_wp2_with (at_builtin; refine wpList_append_own _ rfl (.tmp 25) (.tmp 27) 42 rfl w.heap.size 3 i0 (.int .i64 0) 1 8 Tryz.underlying42 HI.out HZ0.out HZ1.out HZ2.out rfl (by decide) _ _ _ rfl (HREL.out.own.alloc _) ⟨wr.heap.size, 0, none⟩ 1 1 [.int .i64 z] rfl rfl (cell_one_new _ _ _) (by intro u hu; simp at hu; subst hu; rfl) (by have := HNL.out; unfold maxLen; omega) (by have := HNL.out; omega) (by have := HREL.out.bel.size; simp; omega) ?_; intro v2 w2 hown2 hgrow2 hnn2)
        have HR2 : Hid (OwnI w v2 (named (xs.take (k + 1))) w2) := Lib.hid (by
          rw [HSN.out]
          exact HREL.out.grow (zs := [z]) rfl hown2 hgrow2 (fun e => (hnn2.1 e).1))
        clear hown2 hgrow2 hnn2
        go_wp2
        go_roundw
        case rel => exact ⟨k + 1, by omega, by go_num, HR2.out⟩
        case measure => simp [intOf]; omega
      · rw [if_neg hg, List.append_nil] at HSN
        have HC := Lib.hid (fun w => eS_no x w hg (by omega) (by omega))
        have HR2 : Hid (OwnI w u3 (named (xs.take (k + 1))) wr) := Lib.hid (by rw [HSN.out]; exact hrel)
        clear hg hrel
        go_wp2_with fail
        refine (HC.out _).mono ?_
        rintro e w' ⟨rfl, rfl⟩
        go_wp2_with fail
        go_roundw
        case rel => exact ⟨k + 1, by omega, by go_num, HR2.out⟩
        case measure => simp [intOf]; omega
    · have e : k = m := by omega
      subst e
      rw [take_all HM.out] at hrel
      have HREL := Lib.hid hrel
      clear hrel
      go_wp2
      go_ret
      exact ⟨_, rfl, HREL.out⟩
end Go.Proofs.YtcmmlgdfhkcmoaaGreat
namespace Go.Proofs.YtcmmlgdfhkcmoaaGreat
set_option linter.unusedVariables false
set_option maxRecDepth 100000
def isTab (k : Int) : Bool := decide (k = 2 ∨ k = 3)
def tneeds (k : Int) : Int := if isTab k = true then k - 1 else 0
def fr (w : Int) : Nat := (w / 4).toNat
def tent (ys : List IV) (f w k : Int) (rs : List Bs) : Bool :=
  if goodB w then !decide (w / 4 = f) && (decide ((ys.getD (fr w) iz).k = k - 1) && may0 rs (ys.getD (fr w) iz).g) else decide (w = 0)
def tgood (xss : List (List Int)) (ys : List IV) (f k : Int) (rs : List Bs) : Bool := (List.range 4).all (fun i => tent ys f (wd xss f.toNat i) k rs)
def cnt1 (xs : List Int) (f : Nat) : Nat := (named xs).count (f : Int)
def cntN (xss : List (List Int)) (ys : List IV) (f : Nat) : Nat → Nat
  | 0 => 0
  | n + 1 => cntN xss ys f n + (if isTab (ys.getD n iz).k = true then cnt1 (xss.getD n []) f else 0)
theorem tgood_iff {xss : List (List Int)} {ys : List IV} {f k : Int} {rs : List Bs} : tgood xss ys f k rs = true ↔ ∀ i, i < 4 → tent ys f (wd xss f.toNat i) k rs = true := by
  unfold tgood
  rw [List.all_eq_true]
  exact ⟨fun h i hi => h i (List.mem_range.2 hi), fun h i hi => h i (List.mem_range.1 hi)⟩
theorem isTab_iff {k : Int} : isTab k = true ↔ k = 2 ∨ k = 3 := by unfold isTab; rw [decide_eq_true_eq]
theorem named_mem {xs : List Int} {f : Int} (h : f ∈ named xs) : ∃ x ∈ xs, goodB x ∧ x / 4 = f := by
  unfold named at h
  obtain ⟨x, hx, e⟩ := List.mem_map.1 h
  obtain ⟨h1, h2⟩ := List.mem_filter.1 hx
  exact ⟨x, h1, of_decide_eq_true h2, e⟩
theorem named_in {xs : List Int} {f : Int} (h : f ∈ named xs) : 0 ≤ f ∧ f < 12 := by
  obtain ⟨x, _, hx, rfl⟩ := named_mem h
  exact good_frame hx
theorem tent_good {ys : List IV} {f w k : Int} {rs : List Bs} (h : tent ys f w k rs = true) (hg : goodB w) : w / 4 ≠ f ∧ (ys.getD (fr w) iz).k = k - 1 ∧ may0 rs (ys.getD (fr w) iz).g = true := by
  unfold tent at h
  rw [if_pos hg, Bool.and_eq_true, Bool.and_eq_true, decide_eq_true_eq, Bool.not_eq_true', decide_eq_false_iff_not] at h
  exact h
theorem rvs_nil : rvs [[]] = true := by decide
end Go.Proofs.YtcmmlgdfhkcmoaaGreat
namespace Go.Proofs.YtcmmlgdfhkcmoaaGreat
open Go.ChangeShapes Go.WideShapes Go.ChangeAt Go.RowKit
set_option linter.unusedVariables false
set_option maxRecDepth 100000
def srt (l : List Int) (k : Nat) : List Int := ((List.range k).filter (fun f : Nat => decide ((f : Int) ∈ l))).map (fun f : Nat => (f : Int))
theorem srt_succ (l : List Int) (k : Nat) : srt l (k + 1) = srt l k ++ (if (k : Int) ∈ l then [(k : Int)] else []) := by
  unfold srt
  rw [List.range_succ]
  by_cases h : (k : Int) ∈ l
  · rw [if_pos h]
    simp only [List.filter_append, List.map_append, List.filter_cons, h, decide_true, if_true, List.filter_nil, List.map_cons, List.map_nil]
  · rw [if_neg h]
    simp only [List.filter_append, List.map_append, List.filter_cons, h, decide_false, List.filter_nil]
    simp
theorem srt_len (l : List Int) (k : Nat) : (srt l k).length ≤ k := by
  unfold srt
  rw [List.length_map]
  have := List.length_filter_le (fun f : Nat => decide ((f : Int) ∈ l)) (List.range k)
  simpa using this
theorem srt_mem {l : List Int} {x : Int} (h : x ∈ srt l 12) : 0 ≤ x ∧ x < 12 ∧ x ∈ l := by
  unfold srt at h
  obtain ⟨f, hf, rfl⟩ := List.mem_map.1 h
  rw [List.mem_filter] at hf
  have h1 := List.mem_range.1 hf.1
  exact ⟨by omega, by omega, of_decide_eq_true hf.2⟩
theorem mem_srt {l : List Int} {x : Int} (h0 : 0 ≤ x) (h1 : x < 12) (h : x ∈ l) : x ∈ srt l 12 := by
  unfold srt
  obtain ⟨n, rfl⟩ := Int.eq_ofNat_of_zero_le h0
  exact List.mem_map.2 ⟨n, List.mem_filter.2 ⟨List.mem_range.2 (show n < 12 by omega), decide_eq_true h⟩, rfl⟩
theorem l3Sorted_any (w : World) (v : Value) (xs : List Int) (h : Ints w v xs) :
    Calls Tryz.prog 143 #[v] w (NewI (srt xs 12) w) := by
  obtain ⟨i0, hi, hz0, hz1, hz2⟩ := info_parts intInfo
  have HI := Lib.hid hi
  have HZ0 := Lib.hid hz0
  have HZ1 := Lib.hid hz1
  have HZ2 := Lib.hid hz2
  clear hi hz0 hz1 hz2
  have H := Lib.hid h
  clear h
  go_enter Tryz.func143, Tryz.ntmps143
  go_wp2
  go_loopw [3, 4] (fun u i wr => ∃ k : Nat, k ≤ 12 ∧ i = .int .i64 k ∧ OwnI w u (srt xs k) wr) (fun _ i _ => 12 - (intOf i).toNat)
  case atStart => exact ⟨0, Nat.zero_le _, rfl, OwnI.start w⟩
  case round =>
    obtain ⟨k, hk, rfl, hrel⟩ := hrel
    by_cases hlt : k < 12
    · have hlt' : (k : Int) < 12 := by omega
      have hsn := srt_succ xs k
      have HNL := Lib.hid (srt_len xs k)
      have HC := Lib.hid (l3Has_any wr v xs k (Ints.below (B := 0) H.out hrel.bel))
      have HSN := Lib.hid hsn
      have HREL := Lib.hid hrel
      clear hsn hrel
      by_cases hg : (k : Int) ∈ xs
      · rw [if_pos hg] at HSN
        rw [decide_eq_true hg] at HC
        clear hg
        go_wp2_with fail
        refine HC.out.mono ?_
        rintro e w' ⟨rfl, rfl⟩
        go_wp2_with (at_builtin; refine wpList_append_own _ rfl (.tmp 13) (.tmp 15) 42 rfl w.heap.size 3 i0 (.int .i64 0) 1 8 Tryz.underlying42 HI.out HZ0.out HZ1.out HZ2.out rfl (by decide) _ _ _ rfl (HREL.out.own.alloc _) ⟨wr.heap.size, 0, none⟩ 1 1 [.int .i64 k] rfl rfl (cell_one_new _ _ _) (by intro u hu; simp at hu; subst hu; rfl) (by have := HNL.out; unfold maxLen; omega) (by have := HNL.out; omega) (by have := HREL.out.bel.size; simp; omega) ?_; intro v2 w2 hown2 hgrow2 hnn2)
        have HR2 : Hid (OwnI w v2 (srt xs (k + 1)) w2) := Lib.hid (by
          rw [HSN.out]
          exact HREL.out.grow (zs := [(k : Int)]) rfl hown2 hgrow2 (fun e => (hnn2.1 e).1))
        clear hown2 hgrow2 hnn2
        go_wp2
        go_roundw
        case rel => exact ⟨k + 1, by omega, by go_num, HR2.out⟩
        case measure => simp [intOf]; omega
      · rw [if_neg hg, List.append_nil] at HSN
        rw [decide_eq_false hg] at HC
        have HR2 : Hid (OwnI w u3 (srt xs (k + 1)) wr) := Lib.hid (by rw [HSN.out]; exact HREL.out)
        clear hg
        go_wp2_with fail
        refine HC.out.mono ?_
        rintro e w' ⟨rfl, rfl⟩
        go_wp2_with fail
        go_roundw
        case rel => exact ⟨k + 1, by omega, by go_num, HR2.out⟩
        case measure => simp [intOf]; omega
    · have hge : decide ((k : Int) < 12) = false := by simp; omega
      have e : k = 12 := by omega
      subst e
      have HREL := Lib.hid hrel
      clear hrel
      go_wp2
      go_ret
      exact ⟨_, rfl, HREL.out⟩
def rw4 (xss : List (List Int)) (r : Int) : List Int := xss.getD r.toNat []
def tabs (xss : List (List Int)) (r : Int) : List Int := srt (named (rw4 xss r)) 12
theorem Rows2.row {w : World} {v : Value} {xss : List (List Int)} (h : Rows2 w v xss) (hm : memOk xss = true) {i : Nat} (hi : i < 12) :
    ∃ b o c u, v = .slice (some ⟨b, o, none⟩) 12 c ∧ w.cell? ⟨b, o + i, none⟩ = some u ∧ Ints w u (xss.getD i []) := by
  obtain ⟨a, c, rfl, h1, h2, h3⟩ := h
  have hl := mem_len hm
  obtain ⟨b, o, u, rfl, hc, hu⟩ := h3 i (by omega)
  exact ⟨b, o, c, u, by rw [hl], hc, hu⟩
theorem row_named (w : World) (u : Value) (xss : List (List Int)) (i : Nat) (hm : memOk xss = true) (hi : i < 12) (h : Ints w u (xss.getD i [])) :
    Calls Tryz.prog 191 #[u] w (NewI (named (xss.getD i [])) w) :=
  l3Named_any w u _ h (by rw [mem_row hm hi]; omega) (fun j hj => mem_word hm hi (by rw [mem_row hm hi] at hj; exact hj))
theorem l3Tables_any (w : World) (v : Value) (xss : List (List Int)) (r : Int) (h : Rows2 w v xss) (hm : memOk xss = true) (hr : 0 ≤ r ∧ r < 12) :
    Calls Tryz.prog 142 #[v, .int .i64 r] w (NewI (tabs xss r) w) := by
  obtain ⟨hr0, hr1⟩ := hr
  obtain ⟨r, rfl⟩ := Int.eq_ofNat_of_zero_le hr0
  obtain ⟨b, o, c, ur, rfl, hc, hu⟩ := h.row hm (i := r) (by omega)
  have HC := Lib.hid (row_named w ur xss r hm (by omega) hu)
  have HE : Hid (tabs xss r = srt (named (xss.getD r [])) 12) := Lib.hid (by unfold tabs rw4; simp)
  rw [HE.out]
  obtain ⟨ns, hns⟩ : ∃ ns, ns = named (xss.getD r []) := ⟨_, rfl⟩
  rw [← hns] at HC ⊢
  clear hns HE hu h hm
  obtain ⟨ss, hss⟩ : ∃ ss, ss = srt ns 12 := ⟨_, rfl⟩
  have HSS := Lib.hid hss
  rw [← hss]
  clear hss
  go_enter Tryz.func142, Tryz.ntmps142
  go_wp2_with fail
  refine HC.out.mono ?_
  rintro e w1 ⟨v1, rfl, h1⟩
  have HS := Lib.hid (l3Sorted_any w1 v1 ns h1.ints)
  rw [← HSS.out] at HS
  have H1 := Lib.hid h1.bel
  clear h1 hc
  go_wp2_with fail
  refine HS.out.mono ?_
  rintro e w2 ⟨v2, rfl, h2⟩
  have H2 := Lib.hid (h2.from H1.out)
  clear h2
  go_wp2_with fail
  go_ret
  exact ⟨_, rfl, H2.out⟩
end Go.Proofs.YtcmmlgdfhkcmoaaGreat
namespace Go.Proofs.YtcmmlgdfhkcmoaaGreat
open Go.ChangeShapes Go.WideShapes Go.ChangeAt Go.RowKit
set_option linter.unusedVariables false
set_option maxRecDepth 100000
theorem OwnI.form {w w' : World} {v : Value} {ys : List Int} (h : OwnI w v ys w') : ∃ g c, v = .slice (some ⟨g, 0, none⟩) ys.length c ∧ w.heap.size ≤ g ∧ g < w'.heap.size := by
  rcases h.own.2 with ⟨e, _⟩ | ⟨g, c, _, e, hb, hbl, _⟩
  · exact absurd e h.nn
  · exact ⟨g, c, e, hb, (Array.getElem?_eq_some_iff.1 hbl).1⟩
theorem own_below {w w' : World} {B : Nat} {e : TypeId} {v : Value} {n : Nat} {x : List Value} (h : w.ownsRow B e 1 v n x) (hb : Below w.heap.size w w') : w'.ownsRow B e 1 v n x := by
  refine ⟨h.1, ?_⟩
  rcases h.2 with hn | ⟨g, cap, cur, e, hg, hbl, rest⟩
  · exact .inl hn
  · exact .inr ⟨g, cap, cur, e, hg, (hb.block g (Array.getElem?_eq_some_iff.1 hbl).1).trans hbl, rest⟩
theorem OwnI.go {w w1 w2 : World} {v : Value} {ys : List Int} (h : OwnI w v ys w1) (hb : Below w1.heap.size w1 w2) : OwnI w v ys w2 :=
  ⟨own_below h.own hb, h.bel.trans (hb.mono h.bel.size), h.nn⟩
theorem OwnI.grow0 {w w1 w2 : World} {v v2 : Value} {ys zs : List Int} {n : Nat} (h : OwnI w v ys w1) (hn : n = ys.length + zs.length) (h2 : w2.ownsRow w.heap.size 3 1 v2 n (ys.map (.int .i64) ++ zs.map (.int .i64))) (hg : w1.grownBy w2 v.ownBlock) (hnn : v2 = .slice none 0 0 → v = .slice none 0 0) :
    OwnI w v2 (ys ++ zs) w2 := by
  subst hn
  refine ⟨by rw [List.length_append, List.map_append]; exact h2, h.bel.grown hg h.bel.size (fun b hb => (h.own.lt b hb).1), fun e => h.nn (hnn e)⟩
theorem ints_grown {w w' : World} {v : Value} {xs : List Int} {row : Option Nat} (h : Ints w v xs) (hg : w.grownBy w' row) (hr : ∀ b, v.ownBlock = some b → row ≠ some b) : Ints w' v xs := by
  obtain ⟨a, cap, rfl, h1, h2, h3⟩ := h
  refine ⟨a, cap, rfl, h1, h2, fun i hi => ?_⟩
  obtain ⟨b, o, rfl, hc⟩ := h3 i hi
  exact ⟨b, o, rfl, (World.cell?_of_block (w := w) (hg.block b (cell_lt hc) (fun e => hr b rfl e.symm))).trans hc⟩
def flat (xss : List (List Int)) (ts : List Int) : List Int := ts.flatMap (fun t => named (rw4 xss t))
theorem flat_snoc3 (xss : List (List Int)) (ts : List Int) (k : Nat) (hk : k < ts.length) : flat xss (ts.take (k + 1)) = flat xss (ts.take k) ++ named (rw4 xss (ts.getD k 0)) := by
  rw [take_snoc_getD ts k 0 hk]
  simp [flat]
theorem flat_len3 (xss : List (List Int)) (hm : memOk xss = true) (ts : List Int) (ht : ∀ t ∈ ts, 0 ≤ t ∧ t < 12) : (flat xss ts).length ≤ 4 * ts.length := by
  induction ts with
  | nil => simp [flat]
  | cons t ts ih =>
    have h1 := ih (fun x hx => ht x (List.mem_cons_of_mem _ hx))
    have ht0 := ht t (List.mem_cons_self ..)
    have h2 : (named (rw4 xss t)).length ≤ 4 := by
      have h3 := named_len (rw4 xss t)
      have h4 : (rw4 xss t).length = 4 := mem_row hm (by omega)
      omega
    unfold flat at h1 ⊢
    rw [List.flatMap_cons, List.length_append, List.length_cons]
    omega
def frs (xss : List (List Int)) (r : Int) : List Int := srt (flat xss (tabs xss r)) 12
theorem l3Frames_any (w : World) (v : Value) (xss : List (List Int)) (r : Int) (h : Rows2 w v xss) (hm : memOk xss = true) (hr : 0 ≤ r ∧ r < 12) :
    Calls Tryz.prog 144 #[v, .int .i64 r] w (NewI (frs xss r) w) := by
  obtain ⟨i0, hi, hz0, hz1, hz2⟩ := info_parts intInfo
  have HI := Lib.hid hi
  have HZ0 := Lib.hid hz0
  have HZ1 := Lib.hid hz1
  have HZ2 := Lib.hid hz2
  clear hi hz0 hz1 hz2
  have H := Lib.hid h
  have HM := Lib.hid hm
  have HT := Lib.hid (fun ob => l3Tables_any (w.alloc ob) v xss r (Rows2.below h ((Below.refl _ _).alloc (Nat.le_refl _) ob)) hm hr)
  have HTB : Hid (∀ t ∈ tabs xss r, 0 ≤ t ∧ t < 12) := Lib.hid (fun t ht => ⟨(srt_mem ht).1, (srt_mem ht).2.1⟩)
  have HTL : Hid ((tabs xss r).length ≤ 12) := Lib.hid (srt_len _ _)
  have HE : Hid (frs xss r = srt (flat xss (tabs xss r)) 12) := Lib.hid rfl
  rw [HE.out]
  obtain ⟨ts, hts⟩ : ∃ ts, ts = tabs xss r := ⟨_, rfl⟩
  rw [← hts] at HT HTB HTL ⊢
  clear hts HE h hm
  obtain ⟨m, hmm⟩ : ∃ m, m = ts.length := ⟨_, rfl⟩
  have HMM := Lib.hid hmm
  clear hmm
  have hm12 : m ≤ 12 := by have := HMM.out; have := HTL.out; omega
  obtain ⟨b, o, c, u0, rfl, _, _⟩ := H.out.row HM.out (i := 0) (by omega)
  go_enter Tryz.func144, Tryz.ntmps144
  go_wp2_with fail
  refine (HT.out _).mono ?_
  rintro e w1 ⟨vt, rfl, ht⟩
  obtain ⟨gt, ct, rfl, hg0, hg1⟩ := ht.form
  rw [← HMM.out]
  have hst : OwnI w (.slice (some ⟨w.heap.size, 0, none⟩) 0 0) (flat xss (ts.take 0)) w1 := by
    rw [List.take_zero]
    exact (OwnI.start w).go ht.bel
  have HTI := Lib.hid ht.ints
  rw [← HMM.out] at HTI
  have HST := Lib.hid hst
  simp only [World.alloc, Array.size_push] at hg0
  clear ht hst HT
  go_wp2_with fail
  go_loopw [5, 7] (fun u i wr => ∃ k : Nat, k ≤ m ∧ i = .int .i64 k ∧ OwnI w u (flat xss (ts.take k)) wr ∧ Ints wr (.slice (some ⟨gt, 0, none⟩) m ct) ts ∧ u.ownBlock ≠ some gt ∧ gt < wr.heap.size) (fun _ i _ => m - (intOf i).toNat)
  case atStart => exact ⟨0, Nat.zero_le _, rfl, HST.out, HTI.out, fun e => by simp [Value.ownBlock] at e; omega, hg1⟩
  case round =>
    obtain ⟨k, hk, rfl, hrel, hti, hap, hgl⟩ := hrel
    by_cases hlt : k < m
    · have hlt' : (k : Int) < (m : Int) := by omega
      obtain ⟨_, _, e0, hct⟩ : ∃ b o, (some (⟨gt, 0, none⟩ : Addr)) = some ⟨b, o, none⟩ ∧ wr.cell? ⟨b, o + k, none⟩ = some (.int .i64 (ts.getD k 0)) := by
        obtain ⟨a', c', e', _, _, h3⟩ := hti
        injection e' with e1 e2 e3
        obtain ⟨b', o', e4, h5⟩ := h3 k (by have := HMM.out; omega)
        exact ⟨b', o', by rw [e1, e4], h5⟩
      cases e0
      rw [Nat.zero_add] at hct
      have htk := HTB.out (ts.getD k 0) (by rw [getD_lt (by have := HMM.out; omega)]; exact List.getElem_mem _)
      have hsn := flat_snoc3 xss ts k (by have := HMM.out; omega)
      obtain ⟨t, htt⟩ : ∃ t, t = ts.getD k 0 := ⟨_, rfl⟩
      rw [← htt] at hct htk hsn
      clear htt
      obtain ⟨ht0, ht1⟩ := htk
      obtain ⟨tn, rfl⟩ := Int.eq_ofNat_of_zero_le ht0
      have hR := Rows2.below H.out hrel.bel
      obtain ⟨b', o', c', ur, e0, hc, hu⟩ := hR.row HM.out (i := tn) (by omega)
      injection e0 with e0 _ e3
      injection e0 with e0
      injection e0 with e1 e2
      subst e1
      subst e2
      subst e3
      have HC := Lib.hid (row_named wr ur xss tn HM.out (by omega) hu)
      have hnl : (flat xss (ts.take k)).length ≤ 48 := by
        have h1 := flat_len3 xss HM.out (ts.take k) (fun x hx => HTB.out x (List.mem_of_mem_take hx))
        rw [List.length_take] at h1
        omega
      have hn4 : (named (xss.getD tn [])).length ≤ 4 := by
        have h3 := named_len (xss.getD tn [])
        have h4 := mem_row HM.out (i := tn) (by omega)
        omega
      rw [show rw4 xss (tn : Int) = xss.getD tn [] from by unfold rw4; simp] at hsn
      obtain ⟨ns, hns⟩ : ∃ ns, ns = named (xss.getD tn []) := ⟨_, rfl⟩
      rw [← hns] at HC hsn hn4
      have HSN := Lib.hid hsn
      have HNL := Lib.hid hnl
      have HN4 := Lib.hid hn4
      have HREL := Lib.hid hrel
      have HTI2 := Lib.hid hti
      have HAP := Lib.hid hap
      clear hns hsn hnl hn4 hrel hti hR hu hap
      go_wp2_with fail
      refine HC.out.mono ?_
      rintro e w3 ⟨v1, rfl, h1⟩
      obtain ⟨g1, c1, rfl, hg10, hg11⟩ := h1.form
      have HU := Lib.hid (HREL.out.go h1.bel)
      have HT3 := Lib.hid (Ints.below (B := 0) HTI2.out h1.bel)
      have hsz3 := h1.bel.size
      have HNEWS : Hid (∀ j y, (ns.map (Value.int .i64))[j]? = some y → w3.cell? ((⟨g1, 0, none⟩ : Addr).add j) = some y) := Lib.hid (fun j y hy => h1.own.cells (g := g1) rfl j y hy)
      clear h1 hc hct
      go_wp2_with (at_builtin; refine wpList_append_own_at _ rfl (.tmp 18) (.tmp 26) 42 rfl w.heap.size 3 i0 (.int .i64 0) 1 8 Tryz.underlying42 HI.out HZ0.out HZ1.out HZ2.out rfl (by decide) _ _ _ rfl HU.out.own ⟨g1, 0, none⟩ ns.length c1 (ns.map (.int .i64)) rfl (by simp) HNEWS.out (ints_one ns) (by have := HNL.out; have := HN4.out; unfold maxLen; omega) (by have := HNL.out; have := HN4.out; omega) HU.out.bel.size ?_; intro v2 w2 hown2 hgrow2 hnn2 hblk2)
      have HR2 : Hid (OwnI w v2 (flat xss (ts.take (k + 1))) w2) := Lib.hid (by
        rw [HSN.out]
        exact HU.out.grow0 (zs := ns) rfl hown2 hgrow2 (fun e => (hnn2.1 e).1))
      have HI2 : Hid (Ints w2 (.slice (some ⟨gt, 0, none⟩) m ct) ts) := Lib.hid (ints_grown HT3.out hgrow2 (fun b hb e => by
        simp [Value.ownBlock] at hb
        subst hb
        exact HAP.out e))
      have HB2 : Hid (v2.ownBlock ≠ some gt) := Lib.hid (fun e => by
        rcases hblk2 with h | h
        · exact HAP.out (h.symm.trans e)
        · rw [h] at e
          injection e with e
          omega)
      have HL2 : Hid (gt < w2.heap.size) := Lib.hid (by have := hgrow2.size; omega)
      clear hown2 hgrow2 hnn2 hblk2
      go_wp2
      go_roundw
      case rel => exact ⟨k + 1, by omega, by go_num, HR2.out, HI2.out, HB2.out, HL2.out⟩
      case measure => simp [intOf]; omega
    · have e : k = m := by omega
      subst e
      rw [take_all HMM.out] at hrel
      have HREL := Lib.hid hrel
      have HS := Lib.hid (l3Sorted_any wr u5 (flat xss ts) hrel.ints)
      clear hrel hti hap
      go_wp2_with fail
      refine HS.out.mono ?_
      rintro e w4 ⟨v4, rfl, h4⟩
      have H4 := Lib.hid (h4.from HREL.out.bel)
      clear h4
      go_wp2_with fail
      go_ret
      exact ⟨_, rfl, H4.out⟩
end Go.Proofs.YtcmmlgdfhkcmoaaGreat
namespace Go.Proofs.YtcmmlgdfhkcmoaaGreat
open Go.ChangeShapes Go.WideShapes Go.ChangeAt Go.RowKit
set_option linter.unusedVariables false
set_option maxRecDepth 100000
theorem strInfo : (Tryz.prog.info? 9).map (fun i => (i.zero, i.size, i.bytes)) = some (some (.string ⟨#[]⟩), 1, 16) := by kernel_rfl
def contS (xs : List Bs) (k : Nat) (j : Nat) : Value := if j < k then .string ⟨(xs.getD j []).toArray⟩ else .string ⟨#[]⟩
theorem contS_step {xs : List Bs} {k : Nat} (j : Nat) : (if j = k then Value.string ⟨(xs.getD k []).toArray⟩ else contS xs k j) = contS xs (k + 1) j := by
  unfold contS
  by_cases h : j = k
  · subst h; simp
  · by_cases h2 : j < k
    · rw [if_neg h, if_pos h2, if_pos (by omega)]
    · rw [if_neg h, if_neg h2, if_neg (by omega)]
theorem strs_own {w : World} {g n : Nat} {xs : List Bs} (hN : n = xs.length) (hn : n ≤ 1048576) (hr : w.rowIs g 9 n (contS xs n)) : StrsW w g (g + 1) (.slice (some ⟨g, 0, none⟩) n n) xs := by
  subst hN
  refine ⟨_, _, rfl, Nat.le_refl _, by unfold maxLen; omega, fun i hi => ⟨g, 0, rfl, Nat.le_refl _, Nat.lt_succ_self _, ?_, ?_⟩⟩
  · have := hr.cell hi
    rw [Nat.zero_add, this]
    simp [contS, hi]
  · exact hr.frozen (0 + i)
def ToStrs (xs : List Bs) (w : World) (e : Ending) (w' : World) : Prop :=
  ∃ v, e = .returned v ∧ StrsW w' w.heap.size (w.heap.size + 1) v xs ∧ Below w.heap.size w w' ∧ w'.heap.size = w.heap.size + 1 ∧ v = .slice (some ⟨w.heap.size, 0, none⟩) xs.length xs.length
theorem toStringS_any (w : World) (v : Value) (xs : List Bs) (h : Strs w v xs) (hn : xs.length ≤ 1048576) :
    Calls Tryz.prog 202 #[v] w (ToStrs xs w) := by
  obtain ⟨a, ca, rfl, hla, hma, hxa⟩ := h
  unfold maxLen at hma
  obtain ⟨n, hN⟩ : ∃ n, n = xs.length := ⟨_, rfl⟩
  rw [← hN] at hla hxa hn ⊢
  have HN := Lib.hid hN
  clear hN
  have hmk := run_make_row' (P := Tryz.prog) 35 9 (.string ⟨#[]⟩) 16 Tryz.underlying35 strInfo rfl .i64 .i64 n (by omega) (by omega)
  go_enter Tryz.func202, Tryz.ntmps202
  go_wp2
  clear hmk
  go_loopw [4] (fun i wr => ∃ k : Nat, k ≤ n ∧ i = .int .i64 k ∧ Below w.heap.size w wr ∧ wr.rowIs w.heap.size 9 n (contS xs k) ∧ Hid (wr.heap.size = w.heap.size + 1)) (fun i _ => n - (intOf i).toNat)
  case atStart => exact ⟨0, Nat.zero_le _, rfl, (Below.refl _ _).alloc (Nat.le_refl _) _, (World.rowIs_made w (.string ⟨#[]⟩) n 9).congr (fun j _ => by simp [contS]), Lib.hid (by simp)⟩
  case round =>
    obtain ⟨k, hk, rfl, hbel, hrow, HS⟩ := hrel
    by_cases hlt : k < n
    · obtain ⟨b, o, rfl, hc⟩ := hxa k hlt
      have hb := cell_lt hc
      have hcr := (hbel.cell (p := ⟨b, o + k, none⟩) hb).trans hc
      have hdst := hrow.cell hlt
      have hfr := hrow.frozen k
      generalize hx : xs.getD k [] = x at hcr
      have HX := Lib.hid hx
      clear hx hc hxa
      have hlt' : (k : Int) < (n : Int) := by omega
      go_wp2
      go_roundw
      case rel => exact ⟨k + 1, by omega, by go_num, hbel.setCell (p := ⟨w.heap.size, k, none⟩) (Nat.le_refl _) _, (hrow.set k _).congr (fun j _ => by rw [← HX.out]; exact contS_step j), Lib.hid (by have := HS.out; simpa [World.setCell] using this)⟩
      case measure => simp [intOf]; omega
    · go_wp2
      go_ret
      have e : k = n := by omega
      subst e
      exact ⟨_, rfl, strs_own HN.out hn hrow, hbel, HS.out, congrArg (fun q => Value.slice (some ⟨w.heap.size, 0, none⟩) q q) HN.out⟩
theorem eqStringS_any (w : World) (va vb : Value) (xs ys : List Bs) (ha : Strs w va xs) (hb : Strs w vb ys) :
    Calls Tryz.prog 203 #[va, vb] w (Reads (.bool (decide (xs = ys))) w) := by
  obtain ⟨a, ca, rfl, hla, hma, hxa⟩ := ha
  obtain ⟨b, cb, rfl, hlb, hmb, hxb⟩ := hb
  unfold maxLen at hma hmb
  by_cases hl : xs.length = ys.length
  · obtain ⟨n, hn⟩ : ∃ n, n = xs.length := ⟨_, rfl⟩
    have hn2 : ys.length = n := by omega
    rw [← hn] at hla hxa ⊢
    rw [hn2] at hlb hxb ⊢
    have HN := Lib.hid hn
    have HN2 := Lib.hid hn2
    clear hn hn2 hl
    go_enter Tryz.func203, Tryz.ntmps203
    go_wp2
    go_loopw [5] (fun i wr => ∃ k d : Nat, k ≤ n ∧ i = .int .i64 k ∧ Hid (xs.take k = ys.take k) ∧ wr = w.drewN d) (fun i _ => n - (intOf i).toNat)
    case atStart => exact ⟨0, 0, Nat.zero_le _, rfl, Lib.hid rfl, rfl⟩
    case round =>
      obtain ⟨k, d, hk, rfl, HT, rfl⟩ := hrel
      by_cases hlt : k < n
      · obtain ⟨ba, oa, rfl, hca⟩ := hxa k hlt
        obtain ⟨bb, ob, rfl, hcb⟩ := hxb k hlt
        generalize hx : xs.getD k [] = x at hca
        generalize hy : ys.getD k [] = y at hcb
        have HX := Lib.hid hx
        have HY := Lib.hid hy
        clear hx hy hxa hxb
        have hlt' : (k : Int) < (n : Int) := by omega
        by_cases he : x = y
        · subst he
          go_wp2_with fail
          go_quiet (fail)
          go_wp2
          go_roundw
          case rel => exact ⟨k + 1, _, by omega, by go_num, Lib.hid (take_eq_succ (d := []) (HN.out.symm.trans HN2.out.symm) (by have := HN.out; omega) HT.out (HX.out.trans HY.out.symm)), rfl⟩
          case measure => simp [intOf]; omega
        · have hne : (x == y) = false := by simpa using he
          have HE : Hid (¬ x = y) := Lib.hid he
          clear he
          go_wp2_with fail
          go_quiet (fail)
          go_wp2
          go_ret
          exact reads_mk2 (by symm; exact decide_eq_false (ne_of_getD (d := []) (k := k) (fun h => HE.out (HX.out.symm.trans (h.trans HY.out)))))
      · go_wp2
        go_ret
        exact reads_mk (by symm; exact decide_eq_true (eq_of_take (HN.out.symm.trans HN2.out.symm) (by have := HN.out; omega) HT.out))
  · have hne : ((xs.length : Int) != (ys.length : Int)) = true := by simp; omega
    have HL := Lib.hid hl
    clear hl
    go_enter Tryz.func203, Tryz.ntmps203
    go_wp2
    go_ret
    exact reads_mk0 (by symm; exact decide_eq_false (fun h => HL.out (by rw [h])))
end Go.Proofs.YtcmmlgdfhkcmoaaGreat
namespace Go.Proofs.YtcmmlgdfhkcmoaaGreat
open Go.ChangeShapes Go.WideShapes Go.ChangeAt Go.RowKit
set_option linter.unusedVariables false
set_option maxRecDepth 100000
def Fit (xs : List Bs) : Prop := ∀ x ∈ xs, x.length ≤ maxLen
theorem Fit.at {xs : List Bs} (h : Fit xs) (i : Nat) : (xs.getD i []).length ≤ maxLen := by
  by_cases hi : i < xs.length
  · rw [getD_lt hi]; exact h _ (List.getElem_mem hi)
  · rw [List.getD, List.getElem?_eq_none (Nat.le_of_not_lt hi)]; exact Nat.zero_le _
def totalS (xs : List Bs) : Nat := (xs.map List.length).sum
theorem totalS_snoc (xs : List Bs) (k : Nat) (h : k < xs.length) : totalS (xs.take (k + 1)) = totalS (xs.take k) + (xs.getD k []).length := by
  rw [take_snoc_getD xs k [] h]; simp [totalS]
theorem totalS_mem {xs : List Bs} {x : Bs} (h : x ∈ xs) : x.length ≤ totalS xs := by
  induction xs with
  | nil => cases h
  | cons y ys ih =>
    simp only [totalS, List.map_cons, List.sum_cons] at ih ⊢
    rcases List.mem_cons.1 h with e | h
    · subst e; omega
    · have := ih h; omega
def LeftS (xs : List Bs) (left : Int) (w : World) (e : Ending) (w' : World) : Prop :=
  ∃ r : Int, (r < 0 ∨ (0 ≤ r ∧ r + xs.length + totalS xs = left)) ∧ e = .returned (.int .i64 r) ∧ w = w'
theorem leftS_neg {xs : List Bs} {left : Int} {w : World} : LeftS xs left w (.returned (.int .i64 (-1))) w := ⟨-1, .inl (by omega), rfl, rfl⟩
theorem szStringS_any (w : World) (v : Value) (xs : List Bs) (left : Int) (h : Strs w v xs) (hf : Fit xs) (h0 : 0 ≤ left) (h1 : left ≤ 1048576) :
    Calls Tryz.prog 201 #[v, .int .i64 left] w (LeftS xs left w) := by
  obtain ⟨a, ca, rfl, hla, hma, hxa⟩ := h
  unfold maxLen at hma
  obtain ⟨n, hN⟩ : ∃ n, n = xs.length := ⟨_, rfl⟩
  rw [← hN] at hla hxa ⊢
  have HN := Lib.hid hN
  have HF := Lib.hid hf
  clear hN hf
  by_cases hneg : left < (n : Int)
  · have hneg' : left - (n : Int) < 0 := by omega
    go_enter Tryz.func201, Tryz.ntmps201
    go_wp2
    go_ret
    exact leftS_neg
  · have hpos : ¬ left - (n : Int) < 0 := by omega
    go_enter Tryz.func201, Tryz.ntmps201
    go_wp2
    go_loop [1, 5] (fun l i => ∃ (k : Nat) (r : Int), k ≤ n ∧ i = .int .i64 k ∧ l = .int .i64 r ∧ 0 ≤ r ∧ r ≤ 1048576 ∧ Hid (r + n + totalS (xs.take k) = left)) (fun _ i => n - (intOf i).toNat)
    case atStart => exact ⟨0, left - n, Nat.zero_le _, rfl, rfl, by omega, by omega, Lib.hid (by simp [totalS])⟩
    case round =>
      obtain ⟨k, r, hk, rfl, rfl, hr0, hr1, HT⟩ := hrel
      by_cases hlt : k < n
      · obtain ⟨b, o, rfl, hc⟩ := hxa k hlt
        have hx0 := HF.out.at k
        unfold maxLen at hx0
        generalize hx : xs.getD k [] = x at hc hx0
        have HX := Lib.hid hx
        clear hx hxa
        have hlt' : (k : Int) < (n : Int) := by omega
        by_cases hng : r < (x.length : Int)
        · have hng' : r - (x.length : Int) < 0 := by omega
          go_wp2
          go_ret
          exact leftS_neg
        · have hng' : ¬ r - (x.length : Int) < 0 := by omega
          go_wp2
          go_round
          case rel => exact ⟨k + 1, r - x.length, by omega, by go_num, rfl, by omega, by omega, Lib.hid (by have h1 := HT.out; have h2 := totalS_snoc xs k (by have := HN.out; omega); rw [HX.out] at h2; rw [h2]; omega)⟩
          case measure => simp [intOf]; omega
      · go_wp2
        go_ret
        have e : k = n := by omega
        subst e
        exact ⟨r, .inr ⟨hr0, by have h1 := HT.out; rw [take_all HN.out] at h1; rw [← HN.out]; exact h1⟩, rfl, rfl⟩
end Go.Proofs.YtcmmlgdfhkcmoaaGreat
namespace Go.Proofs.YtcmmlgdfhkcmoaaGreat
open Go.ChangeShapes Go.WideShapes Go.ChangeAt Go.RowKit
set_option linter.unusedVariables false
set_option maxRecDepth 100000
theorem new_cell {w : World} {cs : Array Value} {t : TypeId} {j : Nat} {v : Value} (h : cs[j]? = some v) : (w.alloc (.cells cs t)).cell? ⟨w.heap.size, j, none⟩ = some v := by
  have e : (w.alloc (.cells cs t)).heap[w.heap.size]? = some (.cells cs t) := by
    show (w.heap.push _)[w.heap.size]? = _
    simp
  unfold World.cell?
  rw [e]
  exact h
end Go.Proofs.YtcmmlgdfhkcmoaaGreat
namespace Go.Proofs.YtcmmlgdfhkcmoaaGreat
open Go.ChangeShapes Go.WideShapes Go.ChangeAt Go.RowKit
set_option linter.unusedVariables false
set_option maxRecDepth 100000
theorem anyH_gen {P : Program} {md : Region.Mode} {ops : Array Oper} {Q : Exit → Act → World → Prop} {S : World → Prop} {fuel : Nat} {listed : Array Bool} {a : Act} (w : World) (h : ∀ w', w' = w → wpAnyH P md ops Q S fuel listed a w') : wpAnyH P md ops Q S fuel listed a w := h w rfl
end Go.Proofs.YtcmmlgdfhkcmoaaGreat
namespace Go.Proofs.YtcmmlgdfhkcmoaaGreat
open Go.ChangeShapes Go.WideShapes Go.ChangeAt Go.RowKit
set_option linter.unusedVariables false
set_option maxRecDepth 100000
structure CV where
  e : Int
  p : Int
  f : Int
  b : Bool
deriving DecidableEq
instance : Inhabited CV := ⟨⟨0, 0, 0, false⟩⟩
def c0 : CV := ⟨0, 0, 0, false⟩
def cvC (x : CV) : List Value := [.int .i64 x.e, .int .i64 x.p, .int .i64 x.f, .bool x.b]
abbrev cvV (x : CV) : Value := .agg #[.int .i64 x.e, .int .i64 x.p, .int .i64 x.f, .bool x.b]
structure Four (w : World) (b o : Nat) (x : CV) : Prop where
  c0 : w.cell? ⟨b, o, none⟩ = some (.int .i64 x.e)
  c1 : w.cell? ⟨b, o + 1, none⟩ = some (.int .i64 x.p)
  c2 : w.cell? ⟨b, o + 2, none⟩ = some (.int .i64 x.f)
  c3 : w.cell? ⟨b, o + 3, none⟩ = some (.bool x.b)
def Cs (w : World) (v : Value) (xs : List CV) : Prop :=
  ∃ (a : Option Addr) (cap : Nat), v = .slice a xs.length cap ∧ xs.length ≤ cap ∧ cap ≤ maxLen ∧
    ∀ i, i < xs.length → ∃ b o, a = some ⟨b, o, none⟩ ∧ Four w b (o + i * 4) (xs.getD i c0)
theorem Cs.drewN {w : World} {v : Value} {xs : List CV} (h : Cs w v xs) (n : Nat) : Cs (w.drewN n) v xs := by
  obtain ⟨a, c, e, h1, h2, h3⟩ := h
  refine ⟨a, c, e, h1, h2, fun i hi => ?_⟩
  obtain ⟨b, o, e2, h4⟩ := h3 i hi
  exact ⟨b, o, e2, ⟨h4.c0, h4.c1, h4.c2, h4.c3⟩⟩
theorem Four.below {w w' : World} {B b o : Nat} {x : CV} (h : Four w b o x) (hb : Below B w w') (hB : b < B) : Four w' b o x :=
  ⟨(hb.cell (p := ⟨b, _, none⟩) hB).trans h.c0, (hb.cell (p := ⟨b, _, none⟩) hB).trans h.c1, (hb.cell (p := ⟨b, _, none⟩) hB).trans h.c2, (hb.cell (p := ⟨b, _, none⟩) hB).trans h.c3⟩
theorem Cs.below {w w' : World} {v : Value} {xs : List CV} (h : Cs w v xs) (hb : Below w.heap.size w w') : Cs w' v xs := by
  obtain ⟨a, c, e, h1, h2, h3⟩ := h
  refine ⟨a, c, e, h1, h2, fun i hi => ?_⟩
  obtain ⟨b, o, e2, h4⟩ := h3 i hi
  exact ⟨b, o, e2, h4.below hb (block_lt_of_cell h4.c0)⟩
def same (x : CV) (e p : Int) : Bool := decide (x.e = e ∧ x.p = p)
def fnd (xs : List CV) (e p : Int) : Int := (xs.findIdx? (fun x => same x e p)).elim (-1) (fun i : Nat => (i : Int))
theorem fnd_no {xs : List CV} {e p : Int} (h : ∀ i, i < xs.length → same (xs.getD i c0) e p = false) : fnd xs e p = -1 := by
  unfold fnd
  have : xs.findIdx? (fun x => same x e p) = none := by
    rw [List.findIdx?_eq_none_iff]
    intro x hx
    obtain ⟨i, hi, rfl⟩ := List.getElem_of_mem hx
    have := h i hi
    rwa [getD_lt hi] at this
  rw [this]
  rfl
theorem fnd_yes {xs : List CV} {e p : Int} {k : Nat} (hk : k < xs.length) (hy : same (xs.getD k c0) e p = true) (h : ∀ i, i < k → same (xs.getD i c0) e p = false) : fnd xs e p = k := by
  unfold fnd
  have : xs.findIdx? (fun x => same x e p) = some k := by
    rw [List.findIdx?_eq_some_iff_getElem]
    refine ⟨hk, by rwa [getD_lt hk] at hy, fun j hj => ?_⟩
    have := h j hj
    rw [getD_lt (by omega)] at this
    simpa using this
  rw [this]
  rfl
theorem Cs.at {w : World} {a : Option Addr} {n cap : Nat} {xs : List CV} (h : ∀ i, i < xs.length → ∃ b o, a = some ⟨b, o, none⟩ ∧ Four w b (o + i * 4) (xs.getD i c0)) {k : Nat} (hk : k < xs.length) :
    ∃ b o, a = some ⟨b, o, none⟩ ∧ Four w b (o + k * 4) (xs.getD k c0) := h k hk
set_option maxRecDepth 100000 in
theorem l4Find_any (w : World) (v : Value) (xs : List CV) (e p : Int) (h : Cs w v xs) :
    Calls Tryz.prog 126 #[v, .int .i64 e, .int .i64 p] w fun en w' => en = .returned (.int .i64 (fnd xs e p)) ∧ w = w' := by
  obtain ⟨a, cap, rfl, h1, h2, h3⟩ := h
  unfold maxLen at h2
  obtain ⟨R, HRR⟩ : ∃ R : Int, Hid (R = fnd xs e p) := ⟨_, Lib.hid rfl⟩
  rw [← HRR.out]
  have H3 := Lib.hid h3
  clear h3
  obtain ⟨m, hm⟩ : ∃ m, m = xs.length := ⟨_, rfl⟩
  have HM := Lib.hid hm
  rw [← hm] at h1 ⊢
  clear hm
  go_enter Tryz.func126, Tryz.ntmps126
  go_wp2
  go_loopw [7] (fun i wr => ∃ k : Nat, k ≤ m ∧ i = .int .i64 k ∧ wr = w ∧ Hid (∀ j, j < k → same (xs.getD j c0) e p = false)) (fun i _ => m - (intOf i).toNat)
  case atStart => exact ⟨0, Nat.zero_le _, rfl, rfl, Lib.hid (fun j hj => by omega)⟩
  case round =>
    obtain ⟨k, hk, rfl, rfl, HNO⟩ := hrel
    by_cases hlt : k < m
    · obtain ⟨b, o, rfl, hf⟩ := H3.out k (by have := HM.out; omega)
      obtain ⟨x, hx⟩ : ∃ x, x = xs.getD k c0 := ⟨_, rfl⟩
      rw [← hx] at hf
      have HX := Lib.hid hx
      clear hx
      obtain ⟨h0, h1', h2', h3'⟩ := hf
      by_cases he : x.e = e
      · have e1 : (x.e == e) = true := by simpa using he
        by_cases hp : x.p = p
        · have e2 : (x.p == p) = true := by simpa using hp
          have HR : Hid (R = (k : Int)) := Lib.hid (by
            rw [HRR.out]
            exact fnd_yes (by have := HM.out; omega) (by rw [← HX.out]; exact decide_eq_true ⟨he, hp⟩) HNO.out)
          clear he hp
          go_wp2
          go_ret
          exact ⟨by rw [HR.out]; rfl, rfl⟩
        · have e2 : (x.p == p) = false := by simpa using hp
          have HN2 : Hid (∀ j, j < k + 1 → same (xs.getD j c0) e p = false) := Lib.hid (fun j hj => by
            by_cases hjk : j < k
            · exact HNO.out j hjk
            · obtain rfl : j = k := by omega
              rw [← HX.out]; exact decide_eq_false (fun hh => hp hh.2))
          clear he hp
          go_wp2
          go_roundw
          case rel => exact ⟨k + 1, by omega, by go_num, trivial, HN2⟩
          case measure => simp [intOf]; omega
      · have e1 : (x.e == e) = false := by simpa using he
        have HN2 : Hid (∀ j, j < k + 1 → same (xs.getD j c0) e p = false) := Lib.hid (fun j hj => by
          by_cases hjk : j < k
          · exact HNO.out j hjk
          · obtain rfl : j = k := by omega
            rw [← HX.out]; exact decide_eq_false (fun hh => he hh.1))
        clear he
        go_wp2
        go_roundw
        case rel => exact ⟨k + 1, by omega, by go_num, trivial, HN2⟩
        case measure => simp [intOf]; omega
    · have ek : k = m := by omega
      subst ek
      have HR : Hid (R = -1) := Lib.hid (by
        rw [HRR.out]
        exact fnd_no (fun i hi => HNO.out i (by have := HM.out; omega)))
      go_wp2
      go_ret
      exact ⟨by rw [HR.out]; rfl, rfl⟩
end Go.Proofs.YtcmmlgdfhkcmoaaGreat
namespace Go.Proofs.YtcmmlgdfhkcmoaaGreat
open Go.ChangeShapes Go.WideShapes Go.ChangeAt Go.RowKit
set_option linter.unusedVariables false
set_option maxRecDepth 100000
theorem l6In_anyC (w : World) (x lo hi : Int) : Calls Tryz.prog 127 #[.int .i64 x, .int .i64 lo, .int .i64 hi] w fun e w' => e = .returned (.bool (inR x lo hi)) ∧ w = w' := by
  unfold inR
  by_cases h : lo ≤ x ∧ x ≤ hi
  · rw [decide_eq_true h]
    obtain ⟨h1, h2⟩ := h
    go_enter Tryz.func127, Tryz.ntmps127
    go_wp2
    go_ret
    exact ⟨rfl, rfl⟩
  · rw [decide_eq_false h]
    by_cases h1 : lo ≤ x
    · have h2 : decide (x ≤ hi) = false := by simp; omega
      clear h
      go_enter Tryz.func127, Tryz.ntmps127
      go_wp2
      go_ret
      exact ⟨rfl, rfl⟩
    · have h2 : decide (lo ≤ x) = false := by simpa using h1
      clear h
      go_enter Tryz.func127, Tryz.ntmps127
      go_wp2
      go_ret
      exact ⟨rfl, rfl⟩
theorem l4Env_any (w : World) (x : Int) : Calls Tryz.prog 83 #[.int .i64 x] w fun e w' => e = .returned (.bool (inR x 0 2)) ∧ w = w' := by
  go_enter Tryz.func83, Tryz.ntmps83
  go_wp2_with (go_at_call 127; refine (l6In_anyC _ _ _ _).mono ?_; rintro e w' ⟨rfl, rfl⟩)
  go_ret
  exact ⟨rfl, rfl⟩
theorem l1Frame_any4 (w : World) (x : Int) : Calls Tryz.prog 188 #[.int .i64 x] w fun e w' => e = .returned (.bool (inR x 0 11)) ∧ w = w' := by
  go_enter Tryz.func188, Tryz.ntmps188
  go_wp2_with (go_at_call 127; refine (l6In_anyC _ _ _ _).mono ?_; rintro e w' ⟨rfl, rfl⟩)
  go_ret
  exact ⟨rfl, rfl⟩
def cvOk (x : CV) : Bool := inR x.e 0 2 && inR x.p 0 15 && inR x.f 0 11
def BoolResC (w : World) (b : Bool) (e : Ending) (w' : World) : Prop := e = .returned (.bool b) ∧ Below w.heap.size w w'
set_option maxRecDepth 100000 in
theorem l4Cached_any (w : World) (x : CV) : Calls Tryz.prog 125 #[cvV x] w (BoolResC w (cvOk x)) := by
  obtain ⟨xe, xp, xf, xb⟩ := x
  unfold cvOk
  have hB : Below w.heap.size w (w.alloc (.cells #[.int .i64 xe, .int .i64 xp, .int .i64 xf, .bool xb] 55)) := (Below.refl _ _).alloc (Nat.le_refl _) _
  have H1 := fun w => l4Env_any w xe
  have H2 := fun w => l6In_anyC w xp 0 15
  have H3 := fun w => l1Frame_any4 w xf
  have HB := Lib.hid hB
  clear hB
  cases h1 : inR xe 0 2
  · rw [h1] at H1
    clear h1
    go_enter Tryz.func125, Tryz.ntmps125
    go_wp2_with fail
    refine (H1 _).mono ?_
    rintro e w' ⟨rfl, rfl⟩
    go_wp2
    go_ret
    exact ⟨rfl, HB.out⟩
  · rw [h1] at H1
    clear h1
    cases h2 : inR xp 0 15
    · rw [h2] at H2
      clear h2
      go_enter Tryz.func125, Tryz.ntmps125
      go_wp2_with fail
      refine (H1 _).mono ?_
      rintro e w' ⟨rfl, rfl⟩
      go_wp2_with fail
      refine (H2 _).mono ?_
      rintro e w' ⟨rfl, rfl⟩
      go_wp2
      go_ret
      exact ⟨rfl, HB.out⟩
    · rw [h2] at H2
      clear h2
      go_enter Tryz.func125, Tryz.ntmps125
      go_wp2_with fail
      refine (H1 _).mono ?_
      rintro e w' ⟨rfl, rfl⟩
      go_wp2_with fail
      refine (H2 _).mono ?_
      rintro e w' ⟨rfl, rfl⟩
      go_wp2_with fail
      refine (H3 _).mono ?_
      rintro e w' ⟨rfl, rfl⟩
      go_wp2
      go_ret
      exact ⟨rfl, HB.out⟩
def cOk (xs : List CV) : Bool := decide ((∀ i, i < xs.length → cvOk (xs.getD i c0) = true ∧ (i : Int) ≤ fnd xs (xs.getD i c0).e (xs.getD i c0).p) ∧ xs.length ≤ 4)
set_option maxRecDepth 100000 in
theorem cValid_any (w : World) (v : Value) (xs : List CV) (h : Cs w v xs) :
    Calls Tryz.prog 66 #[v] w (BoolResC w (cOk xs)) := by
  have hcs := h
  obtain ⟨a, cap, rfl, h1, h2, h3⟩ := h
  unfold maxLen at h2
  obtain ⟨R, HRR⟩ : ∃ R : Bool, Hid (R = cOk xs) := ⟨_, Lib.hid rfl⟩
  rw [← HRR.out]
  have H3 := Lib.hid h3
  have HCS := Lib.hid hcs
  clear h3 hcs
  obtain ⟨m, hm⟩ : ∃ m, m = xs.length := ⟨_, rfl⟩
  have HM := Lib.hid hm
  rw [← hm] at h1 HCS ⊢
  clear hm
  go_enter Tryz.func66, Tryz.ntmps66
  go_wp2
  go_loopw [3] (fun i wr => ∃ k : Nat, k ≤ m ∧ i = .int .i64 k ∧ Hid (Below w.heap.size w wr) ∧ Hid (∀ j, j < k → cvOk (xs.getD j c0) = true ∧ (j : Int) ≤ fnd xs (xs.getD j c0).e (xs.getD j c0).p)) (fun i _ => m - (intOf i).toNat)
  case atStart => exact ⟨0, Nat.zero_le _, rfl, Lib.hid (Below.refl _ _), Lib.hid (fun j hj => by omega)⟩
  case round =>
    obtain ⟨k, hk, rfl, HBW, HYES⟩ := hrel
    by_cases hlt : k < m
    · obtain ⟨b, o, rfl, hf0⟩ := H3.out k (by have := HM.out; omega)
      obtain ⟨x, hx⟩ : ∃ x, x = xs.getD k c0 := ⟨_, rfl⟩
      rw [← hx] at hf0
      have HX := Lib.hid hx
      clear hx
      have hbl := block_lt_of_cell hf0.c0
      have hf := hf0.below HBW.out hbl
      have HF0 := Lib.hid hf0
      clear hf0
      obtain ⟨g0, g1, g2, g3⟩ := hf
      have HC1 := Lib.hid (l4Cached_any wr.drew x)
      have HKM := Lib.hid hk
      cases hok : cvOk x
      · rw [hok] at HC1
        have HR : Hid (R = false) := Lib.hid (by
          rw [HRR.out]
          refine decide_eq_false (fun hh => ?_)
          have := (hh.1 k (by have := HM.out; omega)).1
          rw [← HX.out, hok] at this
          cases this)
        clear hok hk
        go_wp2_with fail
        refine wp_region_held_drew (S := fun w' => Four w' b (o + k * 4) x) (by kernel_rfl) ⟨g0, g1, g2, g3⟩ (fun hHeld => ?_)
        refine wpAnyH_take (i := 0) (oi := { dst := some 10, op := .move (.tmp 0), type := _, pos := _, after := _, guard := none }) (v := .slice (some ⟨b, o, none⟩) m cap) rfl (by kernel_rfl) (by kernel_rfl) (by kernel_rfl) (fun _ _ _ h => h) (Or.inl ⟨by rfl, fun wh hSw => ?_⟩) hHeld ?_
        · (obtain ⟨s0, s1, s2, s3⟩ := hSw; go_simp)
        try simp only [Act.put, List.setIfInBounds_toArray, List.set_cons_zero, List.set_cons_succ]
        refine wpAnyH_take (i := 1) (oi := { dst := some 11, op := .move (.tmp 3), type := _, pos := _, after := _, guard := none }) (v := .int .i64 (k : Int)) rfl (by kernel_rfl) (by kernel_rfl) (by kernel_rfl) (fun _ _ _ h => h) (Or.inl ⟨by rfl, fun wh hSw => ?_⟩) hHeld ?_
        · (obtain ⟨s0, s1, s2, s3⟩ := hSw; go_simp)
        try simp only [Act.put, List.setIfInBounds_toArray, List.set_cons_zero, List.set_cons_succ]
        refine wpAnyH_take (i := 2) (oi := { dst := some 12, op := .indexAddr 28 (.tmp 10) (.tmp 11), type := _, pos := _, after := _, guard := none }) (v := .pointer (some ⟨b, o + k * 4, none⟩)) rfl (by kernel_rfl) (by kernel_rfl) (by kernel_rfl) (fun _ _ _ h => h) (Or.inl ⟨by rfl, fun wh hSw => ?_⟩) hHeld ?_
        · (obtain ⟨s0, s1, s2, s3⟩ := hSw; go_simp)
        try simp only [Act.put, List.setIfInBounds_toArray, List.set_cons_zero, List.set_cons_succ]
        refine wpAnyH_take (i := 3) (oi := { dst := some 13, op := .load 55 (.tmp 12), type := _, pos := _, after := _, guard := none }) (v := cvV x) rfl (by kernel_rfl) (by kernel_rfl) (by kernel_rfl) (fun _ _ _ h => h) (Or.inl ⟨by rfl, fun wh hSw => ?_⟩) hHeld ?_
        · (obtain ⟨s0, s1, s2, s3⟩ := hSw; go_simp)
        try simp only [Act.put, List.setIfInBounds_toArray, List.set_cons_zero, List.set_cons_succ]
        refine wpAnyH_ready (rs := [4]) (by kernel_rfl) (by simp) ?_
        refine AllReadyH.cons (o := { dst := some 14, op := .call { callee := .value (.func 125), args := #[.tmp 13], argTypes := #[55] }, type := _, pos := _, after := _, guard := none }) rfl (fun K hK => ?_) AllReadyH.nil
        go_simp
        refine HC1.out.mono ?_
        rintro e w1 ⟨rfl, hb1⟩
        have HB1 := Lib.hid ((HBW.out.drew).trans (hb1.mono HBW.out.size))
        clear hb1
        try go_simp
        refine hK.out _ _ ?_ (fun hHeld => ?_)
        · exact HF0.out.below HB1.out hbl
        clear hK K
        try simp only [Act.put, List.setIfInBounds_toArray, List.set_cons_zero, List.set_cons_succ]
        refine wpAnyH_take (i := 5) (oi := { dst := some 15, op := .unOp .not 4 (.tmp 14), type := _, pos := _, after := _, guard := none }) (v := .bool true) rfl (by kernel_rfl) (by kernel_rfl) (by kernel_rfl) (fun _ _ _ h => h) (Or.inl ⟨by rfl, fun wh hSw => ?_⟩) hHeld ?_
        · (obtain ⟨s0, s1, s2, s3⟩ := hSw; go_simp)
        try simp only [Act.put, List.setIfInBounds_toArray, List.set_cons_zero, List.set_cons_succ]
        refine wpAnyH_take (i := 6) (oi := { dst := some 16, op := .move (.tmp 15), type := _, pos := _, after := _, guard := none }) (v := .bool true) rfl (by kernel_rfl) (by kernel_rfl) (by kernel_rfl) (fun _ _ _ h => h) (Or.inl ⟨by rfl, fun wh hSw => ?_⟩) hHeld ?_
        · (obtain ⟨s0, s1, s2, s3⟩ := hSw; go_simp)
        try simp only [Act.put, List.setIfInBounds_toArray, List.set_cons_zero, List.set_cons_succ]
        refine wpAnyH_take (i := 7) (oi := { dst := some 17, op := .move (.tmp 0), type := _, pos := _, after := _, guard := some (6, false) }) (v := undef) rfl (by kernel_rfl) (by kernel_rfl) (by kernel_rfl) (fun _ _ _ h => h) (Or.inr ⟨by rfl, rfl⟩) hHeld ?_
        try simp only [Act.put, List.setIfInBounds_toArray, List.set_cons_zero, List.set_cons_succ]
        refine wpAnyH_take (i := 8) (oi := { dst := some 18, op := .move (.tmp 0), type := _, pos := _, after := _, guard := some (6, false) }) (v := undef) rfl (by kernel_rfl) (by kernel_rfl) (by kernel_rfl) (fun _ _ _ h => h) (Or.inr ⟨by rfl, rfl⟩) hHeld ?_
        try simp only [Act.put, List.setIfInBounds_toArray, List.set_cons_zero, List.set_cons_succ]
        refine wpAnyH_take (i := 9) (oi := { dst := some 19, op := .move (.tmp 3), type := _, pos := _, after := _, guard := some (6, false) }) (v := undef) rfl (by kernel_rfl) (by kernel_rfl) (by kernel_rfl) (fun _ _ _ h => h) (Or.inr ⟨by rfl, rfl⟩) hHeld ?_
        try simp only [Act.put, List.setIfInBounds_toArray, List.set_cons_zero, List.set_cons_succ]
        refine wpAnyH_take (i := 10) (oi := { dst := some 20, op := .indexAddr 28 (.tmp 18) (.tmp 19), type := _, pos := _, after := _, guard := some (6, false) }) (v := undef) rfl (by kernel_rfl) (by kernel_rfl) (by kernel_rfl) (fun _ _ _ h => h) (Or.inr ⟨by rfl, rfl⟩) hHeld ?_
        try simp only [Act.put, List.setIfInBounds_toArray, List.set_cons_zero, List.set_cons_succ]
        refine wpAnyH_take (i := 11) (oi := { dst := some 21, op := .fieldAddr 55 (.tmp 20) 0, type := _, pos := _, after := _, guard := some (6, false) }) (v := undef) rfl (by kernel_rfl) (by kernel_rfl) (by kernel_rfl) (fun _ _ _ h => h) (Or.inr ⟨by rfl, rfl⟩) hHeld ?_
        try simp only [Act.put, List.setIfInBounds_toArray, List.set_cons_zero, List.set_cons_succ]
        refine wpAnyH_take (i := 12) (oi := { dst := some 22, op := .load 3 (.tmp 21), type := _, pos := _, after := _, guard := some (6, false) }) (v := undef) rfl (by kernel_rfl) (by kernel_rfl) (by kernel_rfl) (fun _ _ _ h => h) (Or.inr ⟨by rfl, rfl⟩) hHeld ?_
        try simp only [Act.put, List.setIfInBounds_toArray, List.set_cons_zero, List.set_cons_succ]
        refine wpAnyH_take (i := 13) (oi := { dst := some 23, op := .move (.tmp 0), type := _, pos := _, after := _, guard := some (6, false) }) (v := undef) rfl (by kernel_rfl) (by kernel_rfl) (by kernel_rfl) (fun _ _ _ h => h) (Or.inr ⟨by rfl, rfl⟩) hHeld ?_
        try simp only [Act.put, List.setIfInBounds_toArray, List.set_cons_zero, List.set_cons_succ]
        refine wpAnyH_take (i := 14) (oi := { dst := some 24, op := .move (.tmp 3), type := _, pos := _, after := _, guard := some (6, false) }) (v := undef) rfl (by kernel_rfl) (by kernel_rfl) (by kernel_rfl) (fun _ _ _ h => h) (Or.inr ⟨by rfl, rfl⟩) hHeld ?_
        try simp only [Act.put, List.setIfInBounds_toArray, List.set_cons_zero, List.set_cons_succ]
        refine wpAnyH_take (i := 15) (oi := { dst := some 25, op := .indexAddr 28 (.tmp 23) (.tmp 24), type := _, pos := _, after := _, guard := some (6, false) }) (v := undef) rfl (by kernel_rfl) (by kernel_rfl) (by kernel_rfl) (fun _ _ _ h => h) (Or.inr ⟨by rfl, rfl⟩) hHeld ?_
        try simp only [Act.put, List.setIfInBounds_toArray, List.set_cons_zero, List.set_cons_succ]
        refine wpAnyH_take (i := 16) (oi := { dst := some 26, op := .fieldAddr 55 (.tmp 25) 1, type := _, pos := _, after := _, guard := some (6, false) }) (v := undef) rfl (by kernel_rfl) (by kernel_rfl) (by kernel_rfl) (fun _ _ _ h => h) (Or.inr ⟨by rfl, rfl⟩) hHeld ?_
        try simp only [Act.put, List.setIfInBounds_toArray, List.set_cons_zero, List.set_cons_succ]
        refine wpAnyH_take (i := 17) (oi := { dst := some 27, op := .load 3 (.tmp 26), type := _, pos := _, after := _, guard := some (6, false) }) (v := undef) rfl (by kernel_rfl) (by kernel_rfl) (by kernel_rfl) (fun _ _ _ h => h) (Or.inr ⟨by rfl, rfl⟩) hHeld ?_
        try simp only [Act.put, List.setIfInBounds_toArray, List.set_cons_zero, List.set_cons_succ]
        refine wpAnyH_take (i := 18) (oi := { dst := some 28, op := .call { callee := .value (.func 126), args := #[.tmp 17, .tmp 22, .tmp 27], argTypes := #[28, 3, 3] }, type := _, pos := _, after := _, guard := some (6, false) }) (v := undef) rfl (by kernel_rfl) (by kernel_rfl) (by kernel_rfl) (fun _ _ _ h => h) (Or.inr ⟨by rfl, rfl⟩) hHeld ?_
        try simp only [Act.put, List.setIfInBounds_toArray, List.set_cons_zero, List.set_cons_succ]
        refine wpAnyH_take (i := 19) (oi := { dst := some 29, op := .move (.tmp 3), type := _, pos := _, after := _, guard := some (6, false) }) (v := undef) rfl (by kernel_rfl) (by kernel_rfl) (by kernel_rfl) (fun _ _ _ h => h) (Or.inr ⟨by rfl, rfl⟩) hHeld ?_
        try simp only [Act.put, List.setIfInBounds_toArray, List.set_cons_zero, List.set_cons_succ]
        refine wpAnyH_take (i := 20) (oi := { dst := some 30, op := .binOp .lss 3 (.tmp 28) (.tmp 29) 3, type := _, pos := _, after := _, guard := some (6, false) }) (v := undef) rfl (by kernel_rfl) (by kernel_rfl) (by kernel_rfl) (fun _ _ _ h => h) (Or.inr ⟨by rfl, rfl⟩) hHeld ?_
        try simp only [Act.put, List.setIfInBounds_toArray, List.set_cons_zero, List.set_cons_succ]
        refine wpAnyH_take (i := 21) (oi := { dst := some 31, op := .pick (.tmp 16) (.const (.bool true)) (.tmp 30), type := _, pos := _, after := _, guard := none }) (v := .bool true) rfl (by kernel_rfl) (by kernel_rfl) (by kernel_rfl) (fun _ _ _ h => h) (Or.inl ⟨by rfl, fun wh hSw => ?_⟩) hHeld ?_
        · (obtain ⟨s0, s1, s2, s3⟩ := hSw; go_simp)
        try simp only [Act.put, List.setIfInBounds_toArray, List.set_cons_zero, List.set_cons_succ]
        refine wpAnyH_done (by kernel_rfl) ?_ _
        go_wp2
        go_ret
        exact ⟨by rw [HR.out]; rfl, HB1.out⟩
      · rw [hok] at HC1
        have HOK := Lib.hid hok
        clear hok hk
        obtain ⟨fk, hfk⟩ : ∃ fk, fk = fnd xs x.e x.p := ⟨_, rfl⟩
        have HFK := Lib.hid hfk
        clear hfk
        by_cases hcmp : fk < (k : Int)
        · have HR : Hid (R = false) := Lib.hid (by
            rw [HRR.out]
            refine decide_eq_false (fun hh => ?_)
            have := (hh.1 k (by have := HM.out; omega)).2
            rw [← HX.out, ← HFK.out] at this
            omega)
          go_wp2_with fail
          refine wp_region_held_drew (S := fun w' => Four w' b (o + k * 4) x) (by kernel_rfl) ⟨g0, g1, g2, g3⟩ (fun hHeld => ?_)
          refine wpAnyH_take (i := 0) (oi := { dst := some 10, op := .move (.tmp 0), type := _, pos := _, after := _, guard := none }) (v := .slice (some ⟨b, o, none⟩) m cap) rfl (by kernel_rfl) (by kernel_rfl) (by kernel_rfl) (fun _ _ _ h => h) (Or.inl ⟨by rfl, fun wh hSw => ?_⟩) hHeld ?_
          · (obtain ⟨s0, s1, s2, s3⟩ := hSw; go_simp)
          try simp only [Act.put, List.setIfInBounds_toArray, List.set_cons_zero, List.set_cons_succ]
          refine wpAnyH_take (i := 1) (oi := { dst := some 11, op := .move (.tmp 3), type := _, pos := _, after := _, guard := none }) (v := .int .i64 (k : Int)) rfl (by kernel_rfl) (by kernel_rfl) (by kernel_rfl) (fun _ _ _ h => h) (Or.inl ⟨by rfl, fun wh hSw => ?_⟩) hHeld ?_
          · (obtain ⟨s0, s1, s2, s3⟩ := hSw; go_simp)
          try simp only [Act.put, List.setIfInBounds_toArray, List.set_cons_zero, List.set_cons_succ]
          refine wpAnyH_take (i := 2) (oi := { dst := some 12, op := .indexAddr 28 (.tmp 10) (.tmp 11), type := _, pos := _, after := _, guard := none }) (v := .pointer (some ⟨b, o + k * 4, none⟩)) rfl (by kernel_rfl) (by kernel_rfl) (by kernel_rfl) (fun _ _ _ h => h) (Or.inl ⟨by rfl, fun wh hSw => ?_⟩) hHeld ?_
          · (obtain ⟨s0, s1, s2, s3⟩ := hSw; go_simp)
          try simp only [Act.put, List.setIfInBounds_toArray, List.set_cons_zero, List.set_cons_succ]
          refine wpAnyH_take (i := 3) (oi := { dst := some 13, op := .load 55 (.tmp 12), type := _, pos := _, after := _, guard := none }) (v := cvV x) rfl (by kernel_rfl) (by kernel_rfl) (by kernel_rfl) (fun _ _ _ h => h) (Or.inl ⟨by rfl, fun wh hSw => ?_⟩) hHeld ?_
          · (obtain ⟨s0, s1, s2, s3⟩ := hSw; go_simp)
          try simp only [Act.put, List.setIfInBounds_toArray, List.set_cons_zero, List.set_cons_succ]
          refine wpAnyH_ready (rs := [4]) (by kernel_rfl) (by simp) ?_
          refine AllReadyH.cons (o := { dst := some 14, op := .call { callee := .value (.func 125), args := #[.tmp 13], argTypes := #[55] }, type := _, pos := _, after := _, guard := none }) rfl (fun K hK => ?_) AllReadyH.nil
          go_simp
          refine HC1.out.mono ?_
          rintro e w1 ⟨rfl, hb1⟩
          have HB1 := Lib.hid ((HBW.out.drew).trans (hb1.mono HBW.out.size))
          clear hb1
          have HC2 := Lib.hid (l4Find_any w1 _ xs x.e x.p (HCS.out.below HB1.out))
          rw [← HFK.out] at HC2
          try go_simp
          refine hK.out _ _ ?_ (fun hHeld => ?_)
          · exact HF0.out.below HB1.out hbl
          clear hK K
          try simp only [Act.put, List.setIfInBounds_toArray, List.set_cons_zero, List.set_cons_succ]
          refine wpAnyH_take (i := 5) (oi := { dst := some 15, op := .unOp .not 4 (.tmp 14), type := _, pos := _, after := _, guard := none }) (v := .bool false) rfl (by kernel_rfl) (by kernel_rfl) (by kernel_rfl) (fun _ _ _ h => h) (Or.inl ⟨by rfl, fun wh hSw => ?_⟩) hHeld ?_
          · (obtain ⟨s0, s1, s2, s3⟩ := hSw; go_simp)
          try simp only [Act.put, List.setIfInBounds_toArray, List.set_cons_zero, List.set_cons_succ]
          refine wpAnyH_take (i := 6) (oi := { dst := some 16, op := .move (.tmp 15), type := _, pos := _, after := _, guard := none }) (v := .bool false) rfl (by kernel_rfl) (by kernel_rfl) (by kernel_rfl) (fun _ _ _ h => h) (Or.inl ⟨by rfl, fun wh hSw => ?_⟩) hHeld ?_
          · (obtain ⟨s0, s1, s2, s3⟩ := hSw; go_simp)
          try simp only [Act.put, List.setIfInBounds_toArray, List.set_cons_zero, List.set_cons_succ]
          refine wpAnyH_take (i := 7) (oi := { dst := some 17, op := .move (.tmp 0), type := _, pos := _, after := _, guard := some (6, false) }) (v := .slice (some ⟨b, o, none⟩) m cap) rfl (by kernel_rfl) (by kernel_rfl) (by kernel_rfl) (fun _ _ _ h => h) (Or.inl ⟨by rfl, fun wh hSw => ?_⟩) hHeld ?_
          · (obtain ⟨s0, s1, s2, s3⟩ := hSw; go_simp)
          try simp only [Act.put, List.setIfInBounds_toArray, List.set_cons_zero, List.set_cons_succ]
          refine wpAnyH_take (i := 8) (oi := { dst := some 18, op := .move (.tmp 0), type := _, pos := _, after := _, guard := some (6, false) }) (v := .slice (some ⟨b, o, none⟩) m cap) rfl (by kernel_rfl) (by kernel_rfl) (by kernel_rfl) (fun _ _ _ h => h) (Or.inl ⟨by rfl, fun wh hSw => ?_⟩) hHeld ?_
          · (obtain ⟨s0, s1, s2, s3⟩ := hSw; go_simp)
          try simp only [Act.put, List.setIfInBounds_toArray, List.set_cons_zero, List.set_cons_succ]
          refine wpAnyH_take (i := 9) (oi := { dst := some 19, op := .move (.tmp 3), type := _, pos := _, after := _, guard := some (6, false) }) (v := .int .i64 (k : Int)) rfl (by kernel_rfl) (by kernel_rfl) (by kernel_rfl) (fun _ _ _ h => h) (Or.inl ⟨by rfl, fun wh hSw => ?_⟩) hHeld ?_
          · (obtain ⟨s0, s1, s2, s3⟩ := hSw; go_simp)
          try simp only [Act.put, List.setIfInBounds_toArray, List.set_cons_zero, List.set_cons_succ]
          refine wpAnyH_take (i := 10) (oi := { dst := some 20, op := .indexAddr 28 (.tmp 18) (.tmp 19), type := _, pos := _, after := _, guard := some (6, false) }) (v := .pointer (some ⟨b, o + k * 4, none⟩)) rfl (by kernel_rfl) (by kernel_rfl) (by kernel_rfl) (fun _ _ _ h => h) (Or.inl ⟨by rfl, fun wh hSw => ?_⟩) hHeld ?_
          · (obtain ⟨s0, s1, s2, s3⟩ := hSw; go_simp)
          try simp only [Act.put, List.setIfInBounds_toArray, List.set_cons_zero, List.set_cons_succ]
          refine wpAnyH_take (i := 11) (oi := { dst := some 21, op := .fieldAddr 55 (.tmp 20) 0, type := _, pos := _, after := _, guard := some (6, false) }) (v := .pointer (some ⟨b, o + k * 4, none⟩)) rfl (by kernel_rfl) (by kernel_rfl) (by kernel_rfl) (fun _ _ _ h => h) (Or.inl ⟨by rfl, fun wh hSw => ?_⟩) hHeld ?_
          · (obtain ⟨s0, s1, s2, s3⟩ := hSw; go_simp)
          try simp only [Act.put, List.setIfInBounds_toArray, List.set_cons_zero, List.set_cons_succ]
          refine wpAnyH_take (i := 12) (oi := { dst := some 22, op := .load 3 (.tmp 21), type := _, pos := _, after := _, guard := some (6, false) }) (v := .int .i64 x.e) rfl (by kernel_rfl) (by kernel_rfl) (by kernel_rfl) (fun _ _ _ h => h) (Or.inl ⟨by rfl, fun wh hSw => ?_⟩) hHeld ?_
          · (obtain ⟨s0, s1, s2, s3⟩ := hSw; go_simp)
          try simp only [Act.put, List.setIfInBounds_toArray, List.set_cons_zero, List.set_cons_succ]
          refine wpAnyH_take (i := 13) (oi := { dst := some 23, op := .move (.tmp 0), type := _, pos := _, after := _, guard := some (6, false) }) (v := .slice (some ⟨b, o, none⟩) m cap) rfl (by kernel_rfl) (by kernel_rfl) (by kernel_rfl) (fun _ _ _ h => h) (Or.inl ⟨by rfl, fun wh hSw => ?_⟩) hHeld ?_
          · (obtain ⟨s0, s1, s2, s3⟩ := hSw; go_simp)
          try simp only [Act.put, List.setIfInBounds_toArray, List.set_cons_zero, List.set_cons_succ]
          refine wpAnyH_take (i := 14) (oi := { dst := some 24, op := .move (.tmp 3), type := _, pos := _, after := _, guard := some (6, false) }) (v := .int .i64 (k : Int)) rfl (by kernel_rfl) (by kernel_rfl) (by kernel_rfl) (fun _ _ _ h => h) (Or.inl ⟨by rfl, fun wh hSw => ?_⟩) hHeld ?_
          · (obtain ⟨s0, s1, s2, s3⟩ := hSw; go_simp)
          try simp only [Act.put, List.setIfInBounds_toArray, List.set_cons_zero, List.set_cons_succ]
          refine wpAnyH_take (i := 15) (oi := { dst := some 25, op := .indexAddr 28 (.tmp 23) (.tmp 24), type := _, pos := _, after := _, guard := some (6, false) }) (v := .pointer (some ⟨b, o + k * 4, none⟩)) rfl (by kernel_rfl) (by kernel_rfl) (by kernel_rfl) (fun _ _ _ h => h) (Or.inl ⟨by rfl, fun wh hSw => ?_⟩) hHeld ?_
          · (obtain ⟨s0, s1, s2, s3⟩ := hSw; go_simp)
          try simp only [Act.put, List.setIfInBounds_toArray, List.set_cons_zero, List.set_cons_succ]
          refine wpAnyH_take (i := 16) (oi := { dst := some 26, op := .fieldAddr 55 (.tmp 25) 1, type := _, pos := _, after := _, guard := some (6, false) }) (v := .pointer (some ⟨b, o + k * 4 + 1, none⟩)) rfl (by kernel_rfl) (by kernel_rfl) (by kernel_rfl) (fun _ _ _ h => h) (Or.inl ⟨by rfl, fun wh hSw => ?_⟩) hHeld ?_
          · (obtain ⟨s0, s1, s2, s3⟩ := hSw; go_simp)
          try simp only [Act.put, List.setIfInBounds_toArray, List.set_cons_zero, List.set_cons_succ]
          refine wpAnyH_take (i := 17) (oi := { dst := some 27, op := .load 3 (.tmp 26), type := _, pos := _, after := _, guard := some (6, false) }) (v := .int .i64 x.p) rfl (by kernel_rfl) (by kernel_rfl) (by kernel_rfl) (fun _ _ _ h => h) (Or.inl ⟨by rfl, fun wh hSw => ?_⟩) hHeld ?_
          · (obtain ⟨s0, s1, s2, s3⟩ := hSw; go_simp)
          try simp only [Act.put, List.setIfInBounds_toArray, List.set_cons_zero, List.set_cons_succ]
          refine wpAnyH_take (i := 19) (oi := { dst := some 29, op := .move (.tmp 3), type := _, pos := _, after := _, guard := some (6, false) }) (v := .int .i64 (k : Int)) rfl (by kernel_rfl) (by kernel_rfl) (by kernel_rfl) (fun _ _ _ h => h) (Or.inl ⟨by rfl, fun wh hSw => ?_⟩) hHeld ?_
          · (obtain ⟨s0, s1, s2, s3⟩ := hSw; go_simp)
          try simp only [Act.put, List.setIfInBounds_toArray, List.set_cons_zero, List.set_cons_succ]
          refine wpAnyH_ready (rs := [18]) (by kernel_rfl) (by simp) ?_
          refine AllReadyH.cons (o := { dst := some 28, op := .call { callee := .value (.func 126), args := #[.tmp 17, .tmp 22, .tmp 27], argTypes := #[28, 3, 3] }, type := _, pos := _, after := _, guard := some (6, false) }) rfl (fun K hK => ?_) AllReadyH.nil
          go_simp
          refine HC2.out.mono ?_
          rintro e w2 ⟨rfl, hw2⟩
          subst hw2
          try go_simp
          refine hK.out _ _ ?_ (fun hHeld => ?_)
          · exact HF0.out.below HB1.out hbl
          clear hK K
          try simp only [Act.put, List.setIfInBounds_toArray, List.set_cons_zero, List.set_cons_succ]
          refine wpAnyH_take (i := 20) (oi := { dst := some 30, op := .binOp .lss 3 (.tmp 28) (.tmp 29) 3, type := _, pos := _, after := _, guard := some (6, false) }) (v := .bool true) rfl (by kernel_rfl) (by kernel_rfl) (by kernel_rfl) (fun _ _ _ h => h) (Or.inl ⟨by rfl, fun wh hSw => ?_⟩) hHeld ?_
          · (obtain ⟨s0, s1, s2, s3⟩ := hSw; go_simp)
          try simp only [Act.put, List.setIfInBounds_toArray, List.set_cons_zero, List.set_cons_succ]
          refine wpAnyH_take (i := 21) (oi := { dst := some 31, op := .pick (.tmp 16) (.const (.bool true)) (.tmp 30), type := _, pos := _, after := _, guard := none }) (v := .bool true) rfl (by kernel_rfl) (by kernel_rfl) (by kernel_rfl) (fun _ _ _ h => h) (Or.inl ⟨by rfl, fun wh hSw => ?_⟩) hHeld ?_
          · (obtain ⟨s0, s1, s2, s3⟩ := hSw; go_simp)
          try simp only [Act.put, List.setIfInBounds_toArray, List.set_cons_zero, List.set_cons_succ]
          refine wpAnyH_done (by kernel_rfl) ?_ _
          go_wp2
          go_ret
          exact ⟨by rw [HR.out]; rfl, HB1.out⟩
        · have hcmp' : decide (fk < (k : Int)) = false := decide_eq_false hcmp
          have HY2 : Hid (∀ j, j < k + 1 → cvOk (xs.getD j c0) = true ∧ (j : Int) ≤ fnd xs (xs.getD j c0).e (xs.getD j c0).p) := Lib.hid (fun j hj => by
            by_cases hjk : j < k
            · exact HYES.out j hjk
            · obtain rfl : j = k := by omega
              rw [← HX.out, ← HFK.out]
              exact ⟨HOK.out, by omega⟩)
          clear hcmp
          go_wp2_with fail
          refine wp_region_held_drew (S := fun w' => Four w' b (o + k * 4) x) (by kernel_rfl) ⟨g0, g1, g2, g3⟩ (fun hHeld => ?_)
          refine wpAnyH_take (i := 0) (oi := { dst := some 10, op := .move (.tmp 0), type := _, pos := _, after := _, guard := none }) (v := .slice (some ⟨b, o, none⟩) m cap) rfl (by kernel_rfl) (by kernel_rfl) (by kernel_rfl) (fun _ _ _ h => h) (Or.inl ⟨by rfl, fun wh hSw => ?_⟩) hHeld ?_
          · (obtain ⟨s0, s1, s2, s3⟩ := hSw; go_simp)
          try simp only [Act.put, List.setIfInBounds_toArray, List.set_cons_zero, List.set_cons_succ]
          refine wpAnyH_take (i := 1) (oi := { dst := some 11, op := .move (.tmp 3), type := _, pos := _, after := _, guard := none }) (v := .int .i64 (k : Int)) rfl (by kernel_rfl) (by kernel_rfl) (by kernel_rfl) (fun _ _ _ h => h) (Or.inl ⟨by rfl, fun wh hSw => ?_⟩) hHeld ?_
          · (obtain ⟨s0, s1, s2, s3⟩ := hSw; go_simp)
          try simp only [Act.put, List.setIfInBounds_toArray, List.set_cons_zero, List.set_cons_succ]
          refine wpAnyH_take (i := 2) (oi := { dst := some 12, op := .indexAddr 28 (.tmp 10) (.tmp 11), type := _, pos := _, after := _, guard := none }) (v := .pointer (some ⟨b, o + k * 4, none⟩)) rfl (by kernel_rfl) (by kernel_rfl) (by kernel_rfl) (fun _ _ _ h => h) (Or.inl ⟨by rfl, fun wh hSw => ?_⟩) hHeld ?_
          · (obtain ⟨s0, s1, s2, s3⟩ := hSw; go_simp)
          try simp only [Act.put, List.setIfInBounds_toArray, List.set_cons_zero, List.set_cons_succ]
          refine wpAnyH_take (i := 3) (oi := { dst := some 13, op := .load 55 (.tmp 12), type := _, pos := _, after := _, guard := none }) (v := cvV x) rfl (by kernel_rfl) (by kernel_rfl) (by kernel_rfl) (fun _ _ _ h => h) (Or.inl ⟨by rfl, fun wh hSw => ?_⟩) hHeld ?_
          · (obtain ⟨s0, s1, s2, s3⟩ := hSw; go_simp)
          try simp only [Act.put, List.setIfInBounds_toArray, List.set_cons_zero, List.set_cons_succ]
          refine wpAnyH_ready (rs := [4]) (by kernel_rfl) (by simp) ?_
          refine AllReadyH.cons (o := { dst := some 14, op := .call { callee := .value (.func 125), args := #[.tmp 13], argTypes := #[55] }, type := _, pos := _, after := _, guard := none }) rfl (fun K hK => ?_) AllReadyH.nil
          go_simp
          refine HC1.out.mono ?_
          rintro e w1 ⟨rfl, hb1⟩
          have HB1 := Lib.hid ((HBW.out.drew).trans (hb1.mono HBW.out.size))
          clear hb1
          have HC2 := Lib.hid (l4Find_any w1 _ xs x.e x.p (HCS.out.below HB1.out))
          rw [← HFK.out] at HC2
          try go_simp
          refine hK.out _ _ ?_ (fun hHeld => ?_)
          · exact HF0.out.below HB1.out hbl
          clear hK K
          try simp only [Act.put, List.setIfInBounds_toArray, List.set_cons_zero, List.set_cons_succ]
          refine wpAnyH_take (i := 5) (oi := { dst := some 15, op := .unOp .not 4 (.tmp 14), type := _, pos := _, after := _, guard := none }) (v := .bool false) rfl (by kernel_rfl) (by kernel_rfl) (by kernel_rfl) (fun _ _ _ h => h) (Or.inl ⟨by rfl, fun wh hSw => ?_⟩) hHeld ?_
          · (obtain ⟨s0, s1, s2, s3⟩ := hSw; go_simp)
          try simp only [Act.put, List.setIfInBounds_toArray, List.set_cons_zero, List.set_cons_succ]
          refine wpAnyH_take (i := 6) (oi := { dst := some 16, op := .move (.tmp 15), type := _, pos := _, after := _, guard := none }) (v := .bool false) rfl (by kernel_rfl) (by kernel_rfl) (by kernel_rfl) (fun _ _ _ h => h) (Or.inl ⟨by rfl, fun wh hSw => ?_⟩) hHeld ?_
          · (obtain ⟨s0, s1, s2, s3⟩ := hSw; go_simp)
          try simp only [Act.put, List.setIfInBounds_toArray, List.set_cons_zero, List.set_cons_succ]
          refine wpAnyH_take (i := 7) (oi := { dst := some 17, op := .move (.tmp 0), type := _, pos := _, after := _, guard := some (6, false) }) (v := .slice (some ⟨b, o, none⟩) m cap) rfl (by kernel_rfl) (by kernel_rfl) (by kernel_rfl) (fun _ _ _ h => h) (Or.inl ⟨by rfl, fun wh hSw => ?_⟩) hHeld ?_
          · (obtain ⟨s0, s1, s2, s3⟩ := hSw; go_simp)
          try simp only [Act.put, List.setIfInBounds_toArray, List.set_cons_zero, List.set_cons_succ]
          refine wpAnyH_take (i := 8) (oi := { dst := some 18, op := .move (.tmp 0), type := _, pos := _, after := _, guard := some (6, false) }) (v := .slice (some ⟨b, o, none⟩) m cap) rfl (by kernel_rfl) (by kernel_rfl) (by kernel_rfl) (fun _ _ _ h => h) (Or.inl ⟨by rfl, fun wh hSw => ?_⟩) hHeld ?_
          · (obtain ⟨s0, s1, s2, s3⟩ := hSw; go_simp)
          try simp only [Act.put, List.setIfInBounds_toArray, List.set_cons_zero, List.set_cons_succ]
          refine wpAnyH_take (i := 9) (oi := { dst := some 19, op := .move (.tmp 3), type := _, pos := _, after := _, guard := some (6, false) }) (v := .int .i64 (k : Int)) rfl (by kernel_rfl) (by kernel_rfl) (by kernel_rfl) (fun _ _ _ h => h) (Or.inl ⟨by rfl, fun wh hSw => ?_⟩) hHeld ?_
          · (obtain ⟨s0, s1, s2, s3⟩ := hSw; go_simp)
          try simp only [Act.put, List.setIfInBounds_toArray, List.set_cons_zero, List.set_cons_succ]
          refine wpAnyH_take (i := 10) (oi := { dst := some 20, op := .indexAddr 28 (.tmp 18) (.tmp 19), type := _, pos := _, after := _, guard := some (6, false) }) (v := .pointer (some ⟨b, o + k * 4, none⟩)) rfl (by kernel_rfl) (by kernel_rfl) (by kernel_rfl) (fun _ _ _ h => h) (Or.inl ⟨by rfl, fun wh hSw => ?_⟩) hHeld ?_
          · (obtain ⟨s0, s1, s2, s3⟩ := hSw; go_simp)
          try simp only [Act.put, List.setIfInBounds_toArray, List.set_cons_zero, List.set_cons_succ]
          refine wpAnyH_take (i := 11) (oi := { dst := some 21, op := .fieldAddr 55 (.tmp 20) 0, type := _, pos := _, after := _, guard := some (6, false) }) (v := .pointer (some ⟨b, o + k * 4, none⟩)) rfl (by kernel_rfl) (by kernel_rfl) (by kernel_rfl) (fun _ _ _ h => h) (Or.inl ⟨by rfl, fun wh hSw => ?_⟩) hHeld ?_
          · (obtain ⟨s0, s1, s2, s3⟩ := hSw; go_simp)
          try simp only [Act.put, List.setIfInBounds_toArray, List.set_cons_zero, List.set_cons_succ]
          refine wpAnyH_take (i := 12) (oi := { dst := some 22, op := .load 3 (.tmp 21), type := _, pos := _, after := _, guard := some (6, false) }) (v := .int .i64 x.e) rfl (by kernel_rfl) (by kernel_rfl) (by kernel_rfl) (fun _ _ _ h => h) (Or.inl ⟨by rfl, fun wh hSw => ?_⟩) hHeld ?_
          · (obtain ⟨s0, s1, s2, s3⟩ := hSw; go_simp)
          try simp only [Act.put, List.setIfInBounds_toArray, List.set_cons_zero, List.set_cons_succ]
          refine wpAnyH_take (i := 13) (oi := { dst := some 23, op := .move (.tmp 0), type := _, pos := _, after := _, guard := some (6, false) }) (v := .slice (some ⟨b, o, none⟩) m cap) rfl (by kernel_rfl) (by kernel_rfl) (by kernel_rfl) (fun _ _ _ h => h) (Or.inl ⟨by rfl, fun wh hSw => ?_⟩) hHeld ?_
          · (obtain ⟨s0, s1, s2, s3⟩ := hSw; go_simp)
          try simp only [Act.put, List.setIfInBounds_toArray, List.set_cons_zero, List.set_cons_succ]
          refine wpAnyH_take (i := 14) (oi := { dst := some 24, op := .move (.tmp 3), type := _, pos := _, after := _, guard := some (6, false) }) (v := .int .i64 (k : Int)) rfl (by kernel_rfl) (by kernel_rfl) (by kernel_rfl) (fun _ _ _ h => h) (Or.inl ⟨by rfl, fun wh hSw => ?_⟩) hHeld ?_
          · (obtain ⟨s0, s1, s2, s3⟩ := hSw; go_simp)
          try simp only [Act.put, List.setIfInBounds_toArray, List.set_cons_zero, List.set_cons_succ]
          refine wpAnyH_take (i := 15) (oi := { dst := some 25, op := .indexAddr 28 (.tmp 23) (.tmp 24), type := _, pos := _, after := _, guard := some (6, false) }) (v := .pointer (some ⟨b, o + k * 4, none⟩)) rfl (by kernel_rfl) (by kernel_rfl) (by kernel_rfl) (fun _ _ _ h => h) (Or.inl ⟨by rfl, fun wh hSw => ?_⟩) hHeld ?_
          · (obtain ⟨s0, s1, s2, s3⟩ := hSw; go_simp)
          try simp only [Act.put, List.setIfInBounds_toArray, List.set_cons_zero, List.set_cons_succ]
          refine wpAnyH_take (i := 16) (oi := { dst := some 26, op := .fieldAddr 55 (.tmp 25) 1, type := _, pos := _, after := _, guard := some (6, false) }) (v := .pointer (some ⟨b, o + k * 4 + 1, none⟩)) rfl (by kernel_rfl) (by kernel_rfl) (by kernel_rfl) (fun _ _ _ h => h) (Or.inl ⟨by rfl, fun wh hSw => ?_⟩) hHeld ?_
          · (obtain ⟨s0, s1, s2, s3⟩ := hSw; go_simp)
          try simp only [Act.put, List.setIfInBounds_toArray, List.set_cons_zero, List.set_cons_succ]
          refine wpAnyH_take (i := 17) (oi := { dst := some 27, op := .load 3 (.tmp 26), type := _, pos := _, after := _, guard := some (6, false) }) (v := .int .i64 x.p) rfl (by kernel_rfl) (by kernel_rfl) (by kernel_rfl) (fun _ _ _ h => h) (Or.inl ⟨by rfl, fun wh hSw => ?_⟩) hHeld ?_
          · (obtain ⟨s0, s1, s2, s3⟩ := hSw; go_simp)
          try simp only [Act.put, List.setIfInBounds_toArray, List.set_cons_zero, List.set_cons_succ]
          refine wpAnyH_take (i := 19) (oi := { dst := some 29, op := .move (.tmp 3), type := _, pos := _, after := _, guard := some (6, false) }) (v := .int .i64 (k : Int)) rfl (by kernel_rfl) (by kernel_rfl) (by kernel_rfl) (fun _ _ _ h => h) (Or.inl ⟨by rfl, fun wh hSw => ?_⟩) hHeld ?_
          · (obtain ⟨s0, s1, s2, s3⟩ := hSw; go_simp)
          try simp only [Act.put, List.setIfInBounds_toArray, List.set_cons_zero, List.set_cons_succ]
          refine wpAnyH_ready (rs := [18]) (by kernel_rfl) (by simp) ?_
          refine AllReadyH.cons (o := { dst := some 28, op := .call { callee := .value (.func 126), args := #[.tmp 17, .tmp 22, .tmp 27], argTypes := #[28, 3, 3] }, type := _, pos := _, after := _, guard := some (6, false) }) rfl (fun K hK => ?_) AllReadyH.nil
          go_simp
          refine HC2.out.mono ?_
          rintro e w2 ⟨rfl, hw2⟩
          subst hw2
          try go_simp
          refine hK.out _ _ ?_ (fun hHeld => ?_)
          · exact HF0.out.below HB1.out hbl
          clear hK K
          try simp only [Act.put, List.setIfInBounds_toArray, List.set_cons_zero, List.set_cons_succ]
          refine wpAnyH_take (i := 20) (oi := { dst := some 30, op := .binOp .lss 3 (.tmp 28) (.tmp 29) 3, type := _, pos := _, after := _, guard := some (6, false) }) (v := .bool false) rfl (by kernel_rfl) (by kernel_rfl) (by kernel_rfl) (fun _ _ _ h => h) (Or.inl ⟨by rfl, fun wh hSw => ?_⟩) hHeld ?_
          · (obtain ⟨s0, s1, s2, s3⟩ := hSw; go_simp)
          try simp only [Act.put, List.setIfInBounds_toArray, List.set_cons_zero, List.set_cons_succ]
          refine wpAnyH_take (i := 21) (oi := { dst := some 31, op := .pick (.tmp 16) (.const (.bool true)) (.tmp 30), type := _, pos := _, after := _, guard := none }) (v := .bool false) rfl (by kernel_rfl) (by kernel_rfl) (by kernel_rfl) (fun _ _ _ h => h) (Or.inl ⟨by rfl, fun wh hSw => ?_⟩) hHeld ?_
          · (obtain ⟨s0, s1, s2, s3⟩ := hSw; go_simp)
          try simp only [Act.put, List.setIfInBounds_toArray, List.set_cons_zero, List.set_cons_succ]
          refine wpAnyH_done (by kernel_rfl) ?_ _
          go_wp2
          go_roundw
          case rel => exact ⟨k + 1, by omega, by go_num, HB1, HY2⟩
          case measure => simp [intOf]; omega
    · have ek : k = m := by omega
      subst ek
      have HR : Hid (R = decide ((k : Int) ≤ 4)) := Lib.hid (by
        rw [HRR.out]
        unfold cOk
        rw [Bool.eq_iff_iff, decide_eq_true_iff, decide_eq_true_iff]
        constructor
        · rintro ⟨_, h4⟩
          have := HM.out
          omega
        · intro h4
          exact ⟨fun i hi => HYES.out i (by have := HM.out; omega), by have := HM.out; omega⟩)
      go_wp2
      go_ret
      exact ⟨by rw [HR.out]; rfl, HBW.out⟩
end Go.Proofs.YtcmmlgdfhkcmoaaGreat
namespace Go.Proofs.YtcmmlgdfhkcmoaaGreat
open Go.ChangeShapes Go.WideShapes Go.ChangeAt Go.RowKit
set_option linter.unusedVariables false
set_option maxRecDepth 100000
structure FV where
  x : CV
  b : Bool
def FindRes (w : World) (r : FV) (e : Ending) (w' : World) : Prop := e = .returned (.tuple #[cvV r.x, .bool r.b]) ∧ Below w.heap.size w w'
end Go.Proofs.YtcmmlgdfhkcmoaaGreat
namespace Go.Proofs.YtcmmlgdfhkcmoaaGreat
open Go.ChangeShapes Go.WideShapes Go.ChangeAt Go.RowKit
set_option linter.unusedVariables false
set_option maxRecDepth 100000
theorem cvInfo : (Tryz.prog.info? 55).map (fun i => (i.zero, i.size, i.bytes)) = some (some (.agg #[.int .i64 0, .int .i64 0, .int .i64 0, .bool false]), 4, 32) := by kernel_rfl
def csC (xs : List CV) : List Value := xs.flatMap cvC
theorem csC_len (xs : List CV) : (csC xs).length = xs.length * 4 := by
  induction xs with
  | nil => rfl
  | cons x xs ih => simp only [csC, List.flatMap_cons, List.length_append] at ih ⊢; rw [ih]; simp [cvC]; omega
theorem csC_get (xs : List CV) {i j : Nat} (hi : i < xs.length) (hj : j < 4) : (csC xs)[i * 4 + j]? = (cvC (xs.getD i c0))[j]? := by
  have e : xs = xs.take i ++ ([xs.getD i c0] ++ xs.drop (i + 1)) := by
    rw [← List.append_assoc, ← take_snoc_getD xs i c0 hi, List.take_append_drop]
  have h1 : (csC (xs.take i)).length = i * 4 := by rw [csC_len, List.length_take]; omega
  have h2 : csC xs = csC (xs.take i) ++ (cvC (xs.getD i c0) ++ csC (xs.drop (i + 1))) := by
    conv => lhs; rw [e]
    simp [csC]
  rw [h2, List.getElem?_append_right (by omega), h1, Nat.add_sub_cancel_left, List.getElem?_append_left (by simp [cvC]; omega)]
structure OwnC (w : World) (v : Value) (ys : List CV) (w' : World) : Prop where
  own : w'.ownsRow w.heap.size 55 4 v ys.length (csC ys)
  bel : Below w.heap.size w w'
  nn : v ≠ .slice none 0 0
def NewC (ys : List CV) (w : World) (e : Ending) (w' : World) : Prop := ∃ v, e = .returned v ∧ OwnC w v ys w'
theorem cs_of_own {w : World} {B : Nat} {v : Value} {ys : List CV} (h : w.ownsRow B 55 4 v ys.length (csC ys)) : Cs w v ys := by
  rcases h.2 with ⟨rfl, hz⟩ | ⟨g, cap, cur, rfl, hb, hbl, hnc, hcm, hcs, htk⟩
  · exact ⟨none, 0, by rw [hz], by omega, Nat.zero_le _, fun i hi => by omega⟩
  · refine ⟨some ⟨g, 0, none⟩, cap, rfl, hnc, hcm, fun i hi => ⟨g, 0, rfl, ?_⟩⟩
    have hc : ∀ j v, j < 4 → (cvC (ys.getD i c0))[j]? = some v → w.cell? ⟨g, 0 + i * 4 + j, none⟩ = some v := fun j v hj hv => by
      have := h.cells (g := g) rfl (i * 4 + j) v (by rw [csC_get ys hi hj]; exact hv)
      rw [add0] at this
      rwa [Nat.zero_add]
    exact ⟨hc 0 _ (by omega) rfl, hc 1 _ (by omega) rfl, hc 2 _ (by omega) rfl, hc 3 _ (by omega) rfl⟩
theorem OwnC.form {w w' : World} {v : Value} {ys : List CV} (h : OwnC w v ys w') : ∃ g cap, v = .slice (some ⟨g, 0, none⟩) ys.length cap ∧ ys.length ≤ cap ∧ cap ≤ maxLen ∧ w.heap.size ≤ g := by
  rcases h.own.2 with ⟨e, _⟩ | ⟨g, cap, cur, e, hb, _, hnc, hcm, _⟩
  · exact absurd e h.nn
  · exact ⟨g, cap, e, hnc, hcm, hb⟩
theorem OwnC.drew {w w' : World} {v : Value} {ys : List CV} (h : OwnC w v ys w') : OwnC w v ys w'.drew := ⟨h.own, h.bel.drew, h.nn⟩
theorem OwnC.cs {w w' : World} {v : Value} {ys : List CV} (h : OwnC w v ys w') : Cs w' v ys := cs_of_own h.own
theorem own_lowerC {w : World} {B B' : Nat} {e : TypeId} {s : Nat} {v : Value} {n : Nat} {x : List Value} (h : w.ownsRow B e s v n x) (hB : B' ≤ B) : w.ownsRow B' e s v n x := by
  refine ⟨h.1, ?_⟩
  rcases h.2 with hn | ⟨g, cap, cur, e, hb, rest⟩
  · exact .inl hn
  · exact .inr ⟨g, cap, cur, e, by omega, rest⟩
theorem OwnC.from {w w1 w2 : World} {v : Value} {ys : List CV} (h : OwnC w1 v ys w2) (hb : Below w.heap.size w w1) : OwnC w v ys w2 :=
  ⟨own_lowerC h.own hb.size, hb.trans (h.bel.mono hb.size), h.nn⟩
theorem OwnC.start (w : World) : OwnC w (.slice (some ⟨w.heap.size, 0, none⟩) 0 0) [] (w.alloc (.cells #[] 55)) :=
  ⟨World.ownsRow_made w #[] 0 (Nat.le_refl _) (Nat.zero_le _) rfl, (Below.refl _ _).alloc (Nat.le_refl _) _, fun h => by cases h⟩
theorem OwnC.grow {w wr w2 : World} {v v2 : Value} {ys zs : List CV} {o : Obj} {n : Nat} (h : OwnC w v ys wr) (hn : n = ys.length + zs.length) (h2 : w2.ownsRow w.heap.size 55 4 v2 n (csC ys ++ csC zs)) (hg : (wr.alloc o).grownBy w2 v.ownBlock) (hnn : v2 = .slice none 0 0 → v = .slice none 0 0) :
    OwnC w v2 (ys ++ zs) w2 := by
  subst hn
  refine ⟨by rw [List.length_append, show csC (ys ++ zs) = csC ys ++ csC zs from by simp [csC]]; exact h2, (h.bel.alloc h.bel.size o).grown hg (by have := h.bel.size; simp; omega) (fun b hb => (h.own.lt b hb).1), fun e => h.nn (hnn e)⟩
theorem cell_four_new (w : World) (x : CV) (t : TypeId) : ∀ j u, (cvC x)[j]? = some u → (w.alloc (.cells #[.int .i64 x.e, .int .i64 x.p, .int .i64 x.f, .bool x.b] t)).cell? ((⟨w.heap.size, 0, none⟩ : Addr).add j) = some u := by
  intro j u hj
  rw [add0]
  have := cell_of_row (w.alloc (.cells #[.int .i64 x.e, .int .i64 x.p, .int .i64 x.f, .bool x.b] t)) w.heap.size j _ t (0, 0) (heap_alloc_new w _)
  rw [this]
  simpa [cvC] using hj
end Go.Proofs.YtcmmlgdfhkcmoaaGreat
namespace Go.Proofs.YtcmmlgdfhkcmoaaGreat
open Go.ChangeShapes Go.WideShapes Go.ChangeAt Go.RowKit
set_option linter.unusedVariables false
set_option maxRecDepth 100000
theorem cOk_len {xs : List CV} (h : cOk xs = true) : xs.length ≤ 4 := (of_decide_eq_true h).2
end Go.Proofs.YtcmmlgdfhkcmoaaGreat
namespace Go.Proofs.YtcmmlgdfhkcmoaaGreat
open Go.ChangeShapes Go.WideShapes Go.ChangeAt Go.RowKit
set_option linter.unusedVariables false
set_option maxRecDepth 100000
def Dst (xs : List CV) : Prop := xs.Pairwise (fun a b => ¬ (a.e = b.e ∧ a.p = b.p))
theorem fnd_spec (xs : List CV) (e p : Int) : (fnd xs e p = -1 ∧ ∀ x ∈ xs, same x e p = false) ∨ ∃ k, k < xs.length ∧ fnd xs e p = (k : Int) ∧ same (xs.getD k c0) e p = true ∧ ∀ i, i < k → same (xs.getD i c0) e p = false := by
  unfold fnd
  cases h : xs.findIdx? (fun x => same x e p) with
  | none =>
    left
    refine ⟨rfl, fun x hx => ?_⟩
    have := List.findIdx?_eq_none_iff.1 h x hx
    exact this
  | some k =>
    right
    obtain ⟨hk, h1, h2⟩ := List.findIdx?_eq_some_iff_getElem.1 h
    refine ⟨k, hk, rfl, by rw [getD_lt hk]; exact h1, fun i hi => ?_⟩
    rw [getD_lt (by omega)]
    have := h2 i hi
    simpa using this
theorem same_iff {x : CV} {e p : Int} : same x e p = true ↔ x.e = e ∧ x.p = p := by unfold same; exact decide_eq_true_iff
theorem same_not {x : CV} {e p : Int} : same x e p = false ↔ ¬ (x.e = e ∧ x.p = p) := by unfold same; exact decide_eq_false_iff_not
theorem cOk_iff (xs : List CV) : cOk xs = true ↔ (∀ x ∈ xs, cvOk x = true) ∧ Dst xs ∧ xs.length ≤ 4 := by
  unfold cOk
  rw [decide_eq_true_iff]
  constructor
  · rintro ⟨h, hl⟩
    refine ⟨fun x hx => ?_, ?_, hl⟩
    · obtain ⟨i, hi, rfl⟩ := List.getElem_of_mem hx
      have := (h i hi).1
      rwa [getD_lt hi] at this
    · unfold Dst
      rw [List.pairwise_iff_getElem]
      intro i j hi hj hij hh
      have h2 := (h j hj).2
      rw [getD_lt hj] at h2
      rcases fnd_spec xs xs[j].e xs[j].p with ⟨h3, _⟩ | ⟨k, hk, h3, h4, h5⟩
      · omega
      · have := h5 i (by omega)
        rw [getD_lt hi, same_not] at this
        exact this hh
  · rintro ⟨h1, h2, hl⟩
    refine ⟨fun i hi => ⟨by rw [getD_lt hi]; exact h1 _ (List.getElem_mem _), ?_⟩, hl⟩
    rw [getD_lt hi]
    rcases fnd_spec xs xs[i].e xs[i].p with ⟨_, h4⟩ | ⟨k, hk, h3, h4, h5⟩
    · have := h4 xs[i] (List.getElem_mem _)
      rw [same_not] at this
      exact absurd ⟨rfl, rfl⟩ this
    · rw [h3]
      rcases Nat.lt_or_ge k i with hlt | hge
      · rw [getD_lt hk, same_iff] at h4
        exact absurd h4 (List.pairwise_iff_getElem.1 h2 k i hk hi hlt)
      · omega
end Go.Proofs.YtcmmlgdfhkcmoaaGreat
namespace Go.Proofs.YtcmmlgdfhkcmoaaGreat
open Go.ChangeShapes Go.WideShapes Go.ChangeAt Go.RowKit
set_option linter.unusedVariables false
structure EV where
  r : List Bs
  t : Int
deriving DecidableEq
def ez : EV := ⟨[], 0⟩
structure KV where
  m : List (List Int)
  i : List IV
  e : List EV
  c : List CV
def reach (xss : List (List Int)) (t : Int) : List Int := if t < 0 then [] else srt ((t :: tabs xss t) ++ frs xss t) 12
def alw (ys : List IV) (fs : List Int) (rs : List Bs) : Bool := fs.all (fun f => may0 rs (ys.getD f.toNat iz).g)
def envOk (xss : List (List Int)) (ys : List IV) (x : EV) : Bool :=
  rvs x.r && (inR x.t (-1) 11 && ((decide (x.t < 0) || decide ((ys.getD x.t.toNat iz).k = 3)) && alw ys (reach xss x.t) x.r))
def envsOk (xss : List (List Int)) (ys : List IV) (es : List EV) : Bool := es.all (envOk xss ys) && decide (es.length = 3)
def tabsOk (xss : List (List Int)) (ys : List IV) : Bool := (List.range 12).all (fun f => !isTab (ys.getD f iz).k || tgood xss ys (f : Int) (ys.getD f iz).k [[]])
def useN (xss : List (List Int)) (ys : List IV) (es : List EV) (f : Nat) : Nat := cntN xss ys f 12 + es.countP (fun x => decide (x.t = (f : Int)))
def refsOk (xss : List (List Int)) (ys : List IV) (es : List EV) : Bool := (List.range 12).all (fun f => decide ((ys.getD f iz).r = (useN xss ys es f : Int)))
def rootOf (es : List EV) (e : Int) : Int := (es.getD e.toNat ez).t
def cach1 (xss : List (List Int)) (es : List EV) (x : CV) : Bool :=
  decide (0 ≤ rootOf es x.e) && decide ((walkF xss (rootOf es x.e) (4 * x.p)).c = 0 ∧ (walkF xss (rootOf es x.e) (4 * x.p)).f = x.f ∧ (walkF xss (rootOf es x.e) (4 * x.p)).b = x.b)
def cacheOk (xss : List (List Int)) (es : List EV) (cs : List CV) : Bool := cs.all (cach1 xss es)
def kvalid (K : KV) : Bool := memOk K.m && (isok K.i && (cOk K.c && (envsOk K.m K.i K.e && (tabsOk K.m K.i && (refsOk K.m K.i K.e && cacheOk K.m K.e K.c)))))
structure KOk (K : KV) : Prop where
  m : memOk K.m = true
  i : isok K.i = true
  c : cOk K.c = true
  e : envsOk K.m K.i K.e = true
  t : tabsOk K.m K.i = true
  r : refsOk K.m K.i K.e = true
  k : cacheOk K.m K.e K.c = true
theorem kvalid_iff {K : KV} : kvalid K = true ↔ KOk K := by
  unfold kvalid
  simp only [Bool.and_eq_true]
  exact ⟨fun ⟨a, b, c, d, e, f, g⟩ => ⟨a, b, c, d, e, f, g⟩, fun h => ⟨h.m, h.i, h.c, h.e, h.t, h.r, h.k⟩⟩
theorem envsOk_iff {xss : List (List Int)} {ys : List IV} {es : List EV} : envsOk xss ys es = true ↔ (∀ x ∈ es, envOk xss ys x = true) ∧ es.length = 3 := by
  unfold envsOk
  rw [Bool.and_eq_true, List.all_eq_true, decide_eq_true_eq]
theorem envOk_iff {xss : List (List Int)} {ys : List IV} {x : EV} : envOk xss ys x = true ↔ rvs x.r = true ∧ (-1 ≤ x.t ∧ x.t ≤ 11) ∧ (0 ≤ x.t → (ys.getD x.t.toNat iz).k = 3) ∧ ∀ f ∈ reach xss x.t, may0 x.r (ys.getD f.toNat iz).g = true := by
  unfold envOk alw
  rw [Bool.and_eq_true, Bool.and_eq_true, Bool.and_eq_true, Bool.or_eq_true, decide_eq_true_eq, decide_eq_true_eq, inR_iff, List.all_eq_true]
  constructor
  · rintro ⟨a, b, c, d⟩
    refine ⟨a, b, fun h => ?_, d⟩
    rcases c with c | c
    · omega
    · exact c
  · rintro ⟨a, b, c, d⟩
    refine ⟨a, b, ?_, d⟩
    by_cases h : x.t < 0
    · exact .inl h
    · exact .inr (c (by omega))
theorem KOk.len {K : KV} (h : KOk K) : K.e.length = 3 := (envsOk_iff.1 h.e).2
theorem KOk.env {K : KV} (h : KOk K) {j : Nat} (hj : j < 3) : envOk K.m K.i (K.e.getD j ez) = true := by
  rw [getD_lt (by rw [h.len]; exact hj)]
  exact (envsOk_iff.1 h.e).1 _ (List.getElem_mem _)
theorem KOk.root {K : KV} (h : KOk K) {e : Int} (he : 0 ≤ e ∧ e ≤ 2) : (-1 ≤ rootOf K.e e ∧ rootOf K.e e ≤ 11) ∧ (0 ≤ rootOf K.e e → (K.i.getD (rootOf K.e e).toNat iz).k = 3) := by
  have := envOk_iff.1 (h.env (show e.toNat < 3 by omega))
  exact ⟨this.2.1, this.2.2.1⟩
theorem KOk.tab {K : KV} (h : KOk K) {f : Nat} (hf : f < 12) (hk : isTab (K.i.getD f iz).k = true) : tgood K.m K.i (f : Int) (K.i.getD f iz).k [[]] = true := by
  have := h.t
  unfold tabsOk at this
  have h1 := List.all_eq_true.1 this f (List.mem_range.2 hf)
  rw [hk] at h1
  simpa using h1
theorem isok_right {ys : List IV} (h : isok ys = true) (f : Nat) : rv (ys.getD f iz).g = true := by
  by_cases hf : f < ys.length
  · have h1 := isok_at h hf
    by_cases h0 : (ys.getD f iz).k = 0
    · rw [iok_free h1 h0]; decide
    · exact (iok_used h1 h0).2.1
  · rw [List.getD, List.getElem?_eq_none (Nat.le_of_not_lt hf)]; decide
theorem KOk.names {K : KV} (h : KOk K) {f i : Nat} (hf : f < 12) (hi : i < 4) (hk : isTab (K.i.getD f iz).k = true) (hg : goodB (wd K.m f i)) : (K.i.getD (wd K.m f i / 4).toNat iz).k = (K.i.getD f iz).k - 1 := by
  have h1 := tgood_iff.1 (h.tab hf hk) i hi
  rw [Int.toNat_natCast] at h1
  exact (tent_good h1 hg).2.1
theorem KOk.data {K : KV} (h : KOk K) {e a : Int} (he : 0 ≤ e ∧ e ≤ 2) (hr : 0 ≤ rootOf K.e e) (hw : (walkF K.m (rootOf K.e e) a).c = 0) : (K.i.getD (walkF K.m (rootOf K.e e) a).f.toNat iz).k = 1 := by
  obtain ⟨hb, hk⟩ := h.root he
  have hk := hk hr
  obtain ⟨r, hre⟩ : ∃ r, r = rootOf K.e e := ⟨_, rfl⟩
  rw [← hre] at hr hw hb hk ⊢
  unfold walkF at hw ⊢
  by_cases h0 : wOk K.m r a
  · rw [if_pos h0] at hw ⊢
    by_cases h1 : goodB (top K.m r a)
    · rw [if_pos h1] at hw ⊢
      by_cases h2 : goodB (low K.m r a)
      · rw [if_pos h2]
        obtain ⟨_, _, ha⟩ := h0
        have e1 := h.names (f := r.toNat) (i := (a / 16).toNat) (by omega) (by omega) (by rw [hk]; decide) h1
        have hf := good_frame h1
        rw [hk] at e1
        have e2 := h.names (f := (top K.m r a / 4).toNat) (i := (a / 4 % 4).toNat) (by omega) (by omega) (by unfold top; rw [e1]; decide) h2
        unfold top at e2
        rw [e1] at e2
        exact e2
      · rw [if_neg h2] at hw; exact absurd hw (by show ¬ (2 : Int) = 0; decide)
    · rw [if_neg h1] at hw; exact absurd hw (by show ¬ (1 : Int) = 0; decide)
  · rw [if_neg h0] at hw; exact absurd hw (by show ¬ (3 : Int) = 0; decide)
theorem reach_in {xss : List (List Int)} {t f : Int} (h : f ∈ reach xss t) : 0 ≤ f ∧ f < 12 := by
  unfold reach at h
  split at h
  · cases h
  · have := srt_mem h; exact ⟨this.1, this.2.1⟩
theorem reach_len (xss : List (List Int)) (t : Int) : (reach xss t).length ≤ 12 := by
  unfold reach
  split
  · exact Nat.zero_le _
  · exact srt_len _ _
theorem cOk_nil : cOk [] = true := by decide
end Go.Proofs.YtcmmlgdfhkcmoaaGreat
namespace Go.Proofs.YtcmmlgdfhkcmoaaGreat
open Go.ChangeShapes Go.WideShapes Go.ChangeAt Go.RowKit
set_option linter.unusedVariables false
set_option maxRecDepth 100000
theorem cv_ext {x y : CV} : x = y ↔ x.e = y.e ∧ x.p = y.p ∧ x.f = y.f ∧ x.b = y.b := by
  cases x; cases y; simp
set_option maxRecDepth 100000 in
theorem eqCached_any (w : World) (x y : CV) : Calls Tryz.prog 159 #[cvV x, cvV y] w (BoolResC w (decide (x = y))) := by
  obtain ⟨xe, xp, xf, xb⟩ := x
  obtain ⟨ye, yp, yf, yb⟩ := y
  have HB : Hid (Below w.heap.size w ((w.alloc (.cells #[.int .i64 xe, .int .i64 xp, .int .i64 xf, .bool xb] 55)).alloc (.cells #[.int .i64 ye, .int .i64 yp, .int .i64 yf, .bool yb] 55))) := Lib.hid (((Below.refl _ _).alloc (Nat.le_refl _) _).alloc (by simp) _)
  obtain ⟨r, hr⟩ : ∃ r, r = decide ((⟨xe, xp, xf, xb⟩ : CV) = ⟨ye, yp, yf, yb⟩) := ⟨_, rfl⟩
  rw [← hr]
  by_cases h0 : xe = ye
  · by_cases h1 : xp = yp
    · by_cases h2 : xf = yf
      · by_cases h3 : xb = yb
        · have HR : Hid (r = true) := Lib.hid (by rw [hr]; exact decide_eq_true (cv_ext.2 ⟨h0, h1, h2, h3⟩))
          have e0 : (xe != ye) = false := by simpa using h0
          have e1 : (xp != yp) = false := by simpa using h1
          have e2 : (xf != yf) = false := by simpa using h2
          have e3 : (!(xb == yb)) = false := by simpa using h3
          clear h0 h1 h2 h3 hr
          go_enter Tryz.func159, Tryz.ntmps159
          go_wp2
          go_ret
          exact ⟨by rw [HR.out]; rfl, HB.out⟩
        · have HR : Hid (r = false) := Lib.hid (by rw [hr]; exact decide_eq_false (fun hh => h3 (cv_ext.1 hh).2.2.2))
          have e0 : (xe != ye) = false := by simpa using h0
          have e1 : (xp != yp) = false := by simpa using h1
          have e2 : (xf != yf) = false := by simpa using h2
          have e3 : (!(xb == yb)) = true := by simpa using h3
          clear h0 h1 h2 h3 hr
          go_enter Tryz.func159, Tryz.ntmps159
          go_wp2
          go_ret
          exact ⟨by rw [HR.out]; rfl, HB.out⟩
      · have HR : Hid (r = false) := Lib.hid (by rw [hr]; exact decide_eq_false (fun hh => h2 (cv_ext.1 hh).2.2.1))
        have e0 : (xe != ye) = false := by simpa using h0
        have e1 : (xp != yp) = false := by simpa using h1
        have e2 : (xf != yf) = true := by simpa using h2
        clear h0 h1 h2 hr
        go_enter Tryz.func159, Tryz.ntmps159
        go_wp2
        go_ret
        exact ⟨by rw [HR.out]; rfl, HB.out⟩
    · have HR : Hid (r = false) := Lib.hid (by rw [hr]; exact decide_eq_false (fun hh => h1 (cv_ext.1 hh).2.1))
      have e0 : (xe != ye) = false := by simpa using h0
      have e1 : (xp != yp) = true := by simpa using h1
      clear h0 h1 hr
      go_enter Tryz.func159, Tryz.ntmps159
      go_wp2
      go_ret
      exact ⟨by rw [HR.out]; rfl, HB.out⟩
  · have HR : Hid (r = false) := Lib.hid (by rw [hr]; exact decide_eq_false (fun hh => h0 (cv_ext.1 hh).1))
    have e0 : (xe != ye) = true := by simpa using h0
    clear h0 hr
    go_enter Tryz.func159, Tryz.ntmps159
    go_wp2
    go_ret
    exact ⟨by rw [HR.out]; rfl, HB.out⟩
end Go.Proofs.YtcmmlgdfhkcmoaaGreat
