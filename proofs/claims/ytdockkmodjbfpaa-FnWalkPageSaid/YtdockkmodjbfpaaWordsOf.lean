/- What the program's wordsOf returns: the four words, where they are in range. -/
import Derived.Test.YtdockkmodjbfpaaArr
namespace Go.Proofs.Ytdockkmodjbfpaa
open Go.ChangeShapes Go.WideShapes Go.ChangeAt Go.RowKit
set_option linter.unusedVariables false

def blw (x n : Int) : Bool := decide (0 ≤ x ∧ x < n)
def isw (x : Int) : Bool := blw x 10000
theorem blw_yes {x n : Int} (h : 0 ≤ x ∧ x < n) : blw x n = true := decide_eq_true h
theorem blw_no {x n : Int} (h : ¬ (0 ≤ x ∧ x < n)) : blw x n = false := decide_eq_false h
theorem below_any (w : World) (x n : Int) : Calls Try.prog 45 #[.int .i64 x, .int .i64 n] w fun e w' => e = .returned (.bool (blw x n)) ∧ w = w' := by
  by_cases h : 0 ≤ x ∧ x < n
  · rw [blw_yes h]
    obtain ⟨h1, h2⟩ := h
    go_enter Try.func45, Try.ntmps45
    go_wp2
    go_ret
    exact ⟨rfl, rfl⟩
  · rw [blw_no h]
    by_cases h1 : 0 ≤ x
    · have h2 : decide (x < n) = false := by simp; omega
      clear h
      go_enter Try.func45, Try.ntmps45
      go_wp2
      go_ret
      exact ⟨rfl, rfl⟩
    · have h2 : decide (0 ≤ x) = false := by simpa using h1
      clear h
      go_enter Try.func45, Try.ntmps45
      go_wp2
      go_ret
      exact ⟨rfl, rfl⟩
theorem isWord_any (w : World) (x : Int) : Calls Try.prog 72 #[.int .i64 x] w fun e w' => e = .returned (.bool (isw x)) ∧ w = w' := by
  go_enter Try.func72, Try.ntmps72
  go_wp2_with (go_at_call 45; refine (below_any _ _ _).mono ?_; rintro e w' ⟨rfl, rfl⟩)
  go_ret
  exact ⟨rfl, rfl⟩

theorem arrayAt_words (W : World) (a : Option Addr) (cap : Nat) : (Instr.arrayAt 58 (.slice a 4 cap)).run Try.prog W = .ok (.pointer a) W := by
  unfold Instr.arrayAt
  rw [Sem.run_bind, run_underlying Try.underlying58]
  simp

/-- an array and whether it is one of words; nothing that was there changes -/
def ArrRes (w : World) (cs : Array Value) (b : Bool) (e : Ending) (w' : World) : Prop := e = .returned (.tuple #[.agg cs, .bool b]) ∧ Below w.heap.size w w'
theorem below2 {w : World} {o1 o2 : Obj} : Below w.heap.size w ((w.alloc o1).alloc o2) := ((Below.refl _ _).alloc (Nat.le_refl _) o1).alloc (by simp) o2
theorem words4 {w : World} {b o cap : Nat} {x0 x1 x2 x3 : Int} {r : Bool} (hc : 4 ≤ cap) (h0 : w.cell? ⟨b, o, none⟩ = some (.int .i64 x0)) (h1 : w.cell? ⟨b, o + 1, none⟩ = some (.int .i64 x1)) (h2 : w.cell? ⟨b, o + 2, none⟩ = some (.int .i64 x2)) (h3 : w.cell? ⟨b, o + 3, none⟩ = some (.int .i64 x3))
    (hr : (isw x0 && isw x1 && isw x2 && isw x3) = r) :
    Calls Try.prog 63 #[.slice (some ⟨b, o, none⟩) 4 cap] w (ArrRes w (bif r then #[.int .i64 x0, .int .i64 x1, .int .i64 x2, .int .i64 x3] else #[.int .i64 0, .int .i64 0, .int .i64 0, .int .i64 0]) r) := by
  have HA := fun W => arrayAt_words W (some ⟨b, o, none⟩) cap
  have g0 := fun ob => (World.cell?_alloc_lt w ob ⟨b, o, none⟩ (block_lt_of_cell h0)).trans h0
  have g1 := fun ob => (World.cell?_alloc_lt w ob ⟨b, o + 1, none⟩ (block_lt_of_cell h1)).trans h1
  have g2 := fun ob => (World.cell?_alloc_lt w ob ⟨b, o + 2, none⟩ (block_lt_of_cell h2)).trans h2
  have g3 := fun ob => (World.cell?_alloc_lt w ob ⟨b, o + 3, none⟩ (block_lt_of_cell h3)).trans h3
  clear h0 h1 h2 h3
  have i0 : ∀ W : World, (Instr.index 58 (.agg #[.int .i64 x0, .int .i64 x1, .int .i64 x2, .int .i64 x3]) (.int .i64 0)).run Try.prog W = .ok (.int .i64 x0) W := fun _ => by kernel_rfl
  have i1 : ∀ W : World, (Instr.index 58 (.agg #[.int .i64 x0, .int .i64 x1, .int .i64 x2, .int .i64 x3]) (.int .i64 1)).run Try.prog W = .ok (.int .i64 x1) W := fun _ => by kernel_rfl
  have i2 : ∀ W : World, (Instr.index 58 (.agg #[.int .i64 x0, .int .i64 x1, .int .i64 x2, .int .i64 x3]) (.int .i64 2)).run Try.prog W = .ok (.int .i64 x2) W := fun _ => by kernel_rfl
  have i3 : ∀ W : World, (Instr.index 58 (.agg #[.int .i64 x0, .int .i64 x1, .int .i64 x2, .int .i64 x3]) (.int .i64 3)).run Try.prog W = .ok (.int .i64 x3) W := fun _ => by kernel_rfl
  have HR := Lib.hid hr
  clear hr
  obtain ⟨R, HRR⟩ : ∃ R : Ending → World → Prop, Hid (R = ArrRes w (bif r then #[.int .i64 x0, .int .i64 x1, .int .i64 x2, .int .i64 x3] else #[.int .i64 0, .int .i64 0, .int .i64 0, .int .i64 0]) r) := ⟨_, Lib.hid rfl⟩
  rw [← HRR.out]
  go_enter Try.func63, Try.ntmps63
  go_wp2
  refine wp_loop_rounds 5 ?_
  rw [rounds_succ]
  by_cases e0 : isw x0 = true
  · go_wp2_with (go_at_call 72; refine (isWord_any _ _).mono ?_; rintro e w' ⟨rfl, rfl⟩)
    rw [rounds_succ]
    by_cases e1 : isw x1 = true
    · go_wp2_with (go_at_call 72; refine (isWord_any _ _).mono ?_; rintro e w' ⟨rfl, rfl⟩)
      rw [rounds_succ]
      by_cases e2 : isw x2 = true
      · go_wp2_with (go_at_call 72; refine (isWord_any _ _).mono ?_; rintro e w' ⟨rfl, rfl⟩)
        rw [rounds_succ]
        by_cases e3 : isw x3 = true
        · go_wp2_with (go_at_call 72; refine (isWord_any _ _).mono ?_; rintro e w' ⟨rfl, rfl⟩)
          rw [rounds_succ]
          go_wp2
          have er : r = true := by rw [← HR.out]; simp [e0, e1, e2, e3]
          refine bodyPost_ret (results_cell_mid rfl _ _ w.heap.size 0 #[.int .i64 x0, .int .i64 x1, .int .i64 x2, .int .i64 x3].toList _ rfl (range_row (heap_alloc2_old w _ _)) Try.underlying58 rfl (by kernel_rfl)) rfl ?_
          rw [HRR.out, er]
          exact ⟨rfl, below2⟩
        · replace e3 : isw x3 = false := by simpa using e3
          go_wp2_with (go_at_call 72; refine (isWord_any _ _).mono ?_; rintro e w' ⟨rfl, rfl⟩)
          have er : r = false := by rw [← HR.out]; simp [e3]
          refine bodyPost_ret (results_cell_mid rfl _ _ w.heap.size 0 #[.int .i64 0, .int .i64 0, .int .i64 0, .int .i64 0].toList _ rfl (range_row (heap_alloc2_old w _ _)) Try.underlying58 rfl (by kernel_rfl)) rfl ?_
          rw [HRR.out, er]
          exact ⟨rfl, below2⟩
      · replace e2 : isw x2 = false := by simpa using e2
        go_wp2_with (go_at_call 72; refine (isWord_any _ _).mono ?_; rintro e w' ⟨rfl, rfl⟩)
        have er : r = false := by rw [← HR.out]; simp [e2]
        refine bodyPost_ret (results_cell_mid rfl _ _ w.heap.size 0 #[.int .i64 0, .int .i64 0, .int .i64 0, .int .i64 0].toList _ rfl (range_row (heap_alloc2_old w _ _)) Try.underlying58 rfl (by kernel_rfl)) rfl ?_
        rw [HRR.out, er]
        exact ⟨rfl, below2⟩
    · replace e1 : isw x1 = false := by simpa using e1
      go_wp2_with (go_at_call 72; refine (isWord_any _ _).mono ?_; rintro e w' ⟨rfl, rfl⟩)
      have er : r = false := by rw [← HR.out]; simp [e1]
      refine bodyPost_ret (results_cell_mid rfl _ _ w.heap.size 0 #[.int .i64 0, .int .i64 0, .int .i64 0, .int .i64 0].toList _ rfl (range_row (heap_alloc2_old w _ _)) Try.underlying58 rfl (by kernel_rfl)) rfl ?_
      rw [HRR.out, er]
      exact ⟨rfl, below2⟩
  · replace e0 : isw x0 = false := by simpa using e0
    go_wp2_with (go_at_call 72; refine (isWord_any _ _).mono ?_; rintro e w' ⟨rfl, rfl⟩)
    have er : r = false := by rw [← HR.out]; simp [e0]
    refine bodyPost_ret (results_cell_mid rfl _ _ w.heap.size 0 #[.int .i64 0, .int .i64 0, .int .i64 0, .int .i64 0].toList _ rfl (range_row (heap_alloc2_old w _ _)) Try.underlying58 rfl (by kernel_rfl)) rfl ?_
    rw [HRR.out, er]
    exact ⟨rfl, below2⟩

theorem wordsOf_other {w : World} {v : Value} {xs : List Int} (h : Ints w v xs) (hl : xs.length ≠ 4) : Calls Try.prog 63 #[v] w (ArrRes w #[.int .i64 0, .int .i64 0, .int .i64 0, .int .i64 0] false) := by
  obtain ⟨a, ca, rfl, hla, hma, hxa⟩ := h
  have hl' : ((xs.length : Int) != 4) = true := by simp; omega
  obtain ⟨R, HRR⟩ : ∃ R : Ending → World → Prop, Hid (R = ArrRes w #[.int .i64 0, .int .i64 0, .int .i64 0, .int .i64 0] false) := ⟨_, Lib.hid rfl⟩
  rw [← HRR.out]
  go_enter Try.func63, Try.ntmps63
  go_wp2
  refine bodyPost_ret (results_cell_mid rfl _ _ w.heap.size 0 #[.int .i64 0, .int .i64 0, .int .i64 0, .int .i64 0].toList _ rfl (range_row (heap_alloc_new w _)) Try.underlying58 rfl (by kernel_rfl)) rfl ?_
  rw [HRR.out]
  exact ⟨rfl, (Below.refl _ _).alloc (Nat.le_refl _) _⟩

/-- the words of a row as an array's cells -/
def rowC (xs : List Int) : Array Value := (xs.map (Value.int .i64)).toArray
theorem words_isw {x0 x1 x2 x3 : Int} : wordsOk [x0, x1, x2, x3] = (isw x0 && isw x1 && isw x2 && isw x3) := by
  unfold wordsOk isw blw
  rw [Bool.eq_iff_iff]
  simp
  omega
theorem wordsOf_any {w : World} {v : Value} {xs : List Int} (h : Ints w v xs) : Calls Try.prog 63 #[v] w (ArrRes w (bif wordsOk xs then rowC xs else rowC [0, 0, 0, 0]) (wordsOk xs)) := by
  by_cases hl : xs.length = 4
  · obtain ⟨a, ca, rfl, hla, hma, hxa⟩ := h
    match xs, hl with
    | [x0, x1, x2, x3], _ =>
      obtain ⟨b, o, rfl, h0⟩ := hxa 0 (by simp)
      obtain ⟨_, _, e1, h1⟩ := hxa 1 (by simp)
      obtain ⟨_, _, e2, h2⟩ := hxa 2 (by simp)
      obtain ⟨_, _, e3, h3⟩ := hxa 3 (by simp)
      cases e1; cases e2; cases e3
      exact words4 hla h0 h1 h2 h3 words_isw.symm
  · have e : wordsOk xs = false := decide_eq_false (fun hh => hl hh.2)
    rw [e]
    exact wordsOf_other h hl
end Go.Proofs.Ytdockkmodjbfpaa
