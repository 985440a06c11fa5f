/- What the functions of entries and addresses return that later chapters use, for the program and for the reference. -/
import Derived.Test.YtdockkmodjbfpaaRows
import Derived.WalkKit
import Derived.ProofKit
import Derived.OpenShut
import Derived.Tactics
import Derived.Lib.Hide
namespace Go.Proofs.Ytdockkmodjbfpaa
open Go.ChangeShapes Go.WideShapes Go.ChangeAt Go.RowKit
set_option linter.unusedVariables false

theorem ret3e {k : IntKind} {x y : Int} {b c d : Bool} (h : x = y) (g : b = c) : Ending.returned (.tuple #[.int k x, .bool b, .bool d]) = .returned (.tuple #[.int k y, .bool c, .bool d]) := by rw [h, g]
theorem ret4e {k : IntKind} {x y z x' y' z' : Int} {d : Bool} (h : x = x') (g : y = y') (i : z = z') : Ending.returned (.tuple #[.int k x, .int k y, .int k z, .bool d]) = .returned (.tuple #[.int k x', .int k y', .int k z', .bool d]) := by rw [h, g, i]
theorem results_t4e {fn : Func} {t u v x : Tmp} (h : fn.results = #[.tmp t, .tmp u, .tmp v, .tmp x]) (tmps : Array Value) (P : Program) (w : World) :
    (results fn tmps).run P w = .ok (.tuple #[tmps.getD t undef, tmps.getD u undef, tmps.getD v undef, tmps.getD x undef]) w := by simp [results, h]
theorem tm_neg (n : Int) (h : n ≤ 0) : n.tmod 4 ≤ 0 := by
  obtain ⟨m, rfl⟩ : ∃ m : Int, n = -m := ⟨-n, by omega⟩
  rw [Int.neg_tmod]
  have := Int.tmod_nonneg (a := m) 4 (by omega)
  omega
theorem tm2_neg (n : Int) (h : n ≤ 0) : n.tmod 2 ≤ 0 := by
  obtain ⟨m, rfl⟩ : ∃ m : Int, n = -m := ⟨-n, by omega⟩
  rw [Int.neg_tmod]
  have := Int.tmod_nonneg (a := m) 2 (by omega)
  omega
def goodB (w : Int) : Prop := 0 < w ∧ w % 2 = 1 ∧ w < 48
theorem eI_yes (n : Int) (w : World) (h : goodB n) :
    Calls Try.prog 16 #[.int .i64 n] w fun e w' => e = .returned (.tuple #[.int .i64 (n / 4), .bool (decide (n % 4 = 3)), .bool true]) ∧ w = w' := by
  obtain ⟨h0, h1, h2⟩ := h
  have hc : n % 4 = 1 ∨ n % 4 = 3 := by omega
  have h3 : 0 ≤ n := by omega
  have h4 : n / 4 < 12 := by omega
  have hz : (n == 0) = false := by simp; omega
  have hk : (n % 2 == 1) = true := by simpa using h1
  clear h1
  rcases hc with hc | hc
  · have e1 : (n % 4 == 1) = true := by simpa using hc
    have e3 : (n % 4 == 3) = false := by simp; omega
    have HC := Lib.hid hc
    clear hc
    go_enter Try.func16, Try.ntmps16
    go_wp2
    go_ret3
    exact ⟨ret3e rfl (by have := HC.out; simp; omega), rfl⟩
  · have e1 : (n % 4 == 1) = false := by simp; omega
    have e3 : (n % 4 == 3) = true := by simpa using hc
    have HC := Lib.hid hc
    clear hc
    go_enter Try.func16, Try.ntmps16
    go_wp2
    go_ret3
    exact ⟨ret3e rfl (by have := HC.out; simp; omega), rfl⟩
theorem eI_no (n : Int) (w : World) (hn : ¬ goodB n) (hm : -9223372036854775808 ≤ n) (hM : n ≤ 9223372036854775807) :
    Calls Try.prog 16 #[.int .i64 n] w fun e w' => e = .returned (.tuple #[.int .i64 0, .bool false, .bool false]) ∧ w = w' := by
  unfold goodB at hn
  by_cases h0 : 0 < n
  · have h3 : 0 ≤ n := by omega
    have hz : (n == 0) = false := by simp; omega
    by_cases h1 : n % 2 = 1
    · have h2 : 48 ≤ n := by omega
      have h4 : decide (n / 4 < 12) = false := by simp; omega
      have h5 : decide (n < 48) = false := by simp; omega
      have hk : (n % 2 == 1) = true := by simpa using h1
      have hc : n % 4 = 1 ∨ n % 4 = 3 := by omega
      clear h1 hn
      rcases hc with hc | hc
      · have e1 : (n % 4 == 1) = true := by simpa using hc
        have e3 : (n % 4 == 3) = false := by simp; omega
        clear hc
        go_enter Try.func16, Try.ntmps16
        go_wp2
        go_ret3
        exact ⟨rfl, rfl⟩
      · have e1 : (n % 4 == 1) = false := by simp; omega
        have e3 : (n % 4 == 3) = true := by simpa using hc
        clear hc
        go_enter Try.func16, Try.ntmps16
        go_wp2
        go_ret3
        exact ⟨rfl, rfl⟩
    · have hk : (n % 2 == 1) = false := by simp; omega
      have e1 : (n % 4 == 1) = false := by simp; omega
      have e3 : (n % 4 == 3) = false := by simp; omega
      clear h1 hn
      go_enter Try.func16, Try.ntmps16
      go_wp2
      go_ret3
      exact ⟨rfl, rfl⟩
  · have hd : decide (0 < n) = false := by simpa using h0
    clear hn
    have ht := tm_neg n (by omega)
    have e1 : (n.tmod 4 == 1) = false := by simp; omega
    have e3 : (n.tmod 4 == 3) = false := by simp; omega
    have e5 : (n.tmod 2 == 1) = false := by have := tm2_neg n (by omega); simp; omega
    clear ht
    by_cases hz0 : n = 0
    · subst hz0
      go_enter Try.func16, Try.ntmps16
      go_wp2
      go_ret3
      exact ⟨rfl, rfl⟩
    · have hz : (n == 0) = false := by simpa using hz0
      have h6 : n < 0 := by omega
      go_enter Try.func16, Try.ntmps16
      go_wp2
      go_ret3
      exact ⟨rfl, rfl⟩
theorem eS_yes (n : Int) (w : World) (h : goodB n) :
    Calls Try.prog 64 #[.int .i64 n] w fun e w' => e = .returned (.tuple #[.int .i64 (n / 4), .bool (decide (n % 4 = 3)), .bool true]) ∧ w = w' := by
  obtain ⟨h0, h1, h2⟩ := h
  have hc : n % 4 = 1 ∨ n % 4 = 3 := by omega
  have h3 : 0 ≤ n := by omega
  have h4 : n / 4 < 12 := by omega
  have hz : (n == 0) = false := by simp; omega
  have hk : (n % 2 == 1) = true := by simpa using h1
  clear h1
  rcases hc with hc | hc
  · have e1 : (n % 4 == 1) = true := by simpa using hc
    have e3 : (n % 4 == 3) = false := by simp; omega
    have HC := Lib.hid hc
    clear hc
    go_enter Try.func64, Try.ntmps64
    go_wp2
    go_ret3
    exact ⟨ret3e rfl (by have := HC.out; simp; omega), rfl⟩
  · have e1 : (n % 4 == 1) = false := by simp; omega
    have e3 : (n % 4 == 3) = true := by simpa using hc
    have HC := Lib.hid hc
    clear hc
    go_enter Try.func64, Try.ntmps64
    go_wp2
    go_ret3
    exact ⟨ret3e rfl (by have := HC.out; simp; omega), rfl⟩
theorem eS_no (n : Int) (w : World) (hn : ¬ goodB n) (hm : -9223372036854775808 ≤ n) (hM : n ≤ 9223372036854775807) :
    Calls Try.prog 64 #[.int .i64 n] w fun e w' => e = .returned (.tuple #[.int .i64 0, .bool false, .bool false]) ∧ w = w' := by
  unfold goodB at hn
  by_cases h0 : 0 < n
  · have h3 : 0 ≤ n := by omega
    have hz : (n == 0) = false := by simp; omega
    by_cases h1 : n % 2 = 1
    · have h2 : 48 ≤ n := by omega
      have h4 : decide (n / 4 < 12) = false := by simp; omega
      have h5 : decide (n < 48) = false := by simp; omega
      have hk : (n % 2 == 1) = true := by simpa using h1
      have hc : n % 4 = 1 ∨ n % 4 = 3 := by omega
      clear h1 hn
      rcases hc with hc | hc
      · have e1 : (n % 4 == 1) = true := by simpa using hc
        have e3 : (n % 4 == 3) = false := by simp; omega
        clear hc
        go_enter Try.func64, Try.ntmps64
        go_wp2
        go_ret3
        exact ⟨rfl, rfl⟩
      · have e1 : (n % 4 == 1) = false := by simp; omega
        have e3 : (n % 4 == 3) = true := by simpa using hc
        clear hc
        go_enter Try.func64, Try.ntmps64
        go_wp2
        go_ret3
        exact ⟨rfl, rfl⟩
    · have hk : (n % 2 == 1) = false := by simp; omega
      have e1 : (n % 4 == 1) = false := by simp; omega
      have e3 : (n % 4 == 3) = false := by simp; omega
      clear h1 hn
      go_enter Try.func64, Try.ntmps64
      go_wp2
      go_ret3
      exact ⟨rfl, rfl⟩
  · have hd : decide (0 < n) = false := by simpa using h0
    clear hn
    have ht := tm_neg n (by omega)
    have e1 : (n.tmod 4 == 1) = false := by simp; omega
    have e3 : (n.tmod 4 == 3) = false := by simp; omega
    have e5 : (n.tmod 2 == 1) = false := by have := tm2_neg n (by omega); simp; omega
    clear ht
    by_cases hz0 : n = 0
    · subst hz0
      go_enter Try.func64, Try.ntmps64
      go_wp2
      go_ret3
      exact ⟨rfl, rfl⟩
    · have hz : (n == 0) = false := by simpa using hz0
      have h6 : n < 0 := by omega
      go_enter Try.func64, Try.ntmps64
      go_wp2
      go_ret3
      exact ⟨rfl, rfl⟩
theorem aI_yes (a : Int) (w : World) (h0 : 0 ≤ a) (h1 : a < 64) :
    Calls Try.prog 15 #[.int .i64 a] w fun e w' => e = .returned (.tuple #[.int .i64 (a / 16), .int .i64 (a / 4 % 4), .int .i64 (a % 4), .bool true]) ∧ w = w' := by
  have h2 : a < 64 := by omega
  have h3 : 0 ≤ a / 4 := by omega
  go_enter Try.func15, Try.ntmps15
  go_wp2
  refine bodyPost_ret (results_t4e rfl _ _ _) rfl ?_
  exact ⟨ret4e (by first | rfl | omega) (by first | rfl | omega) (by first | rfl | omega), rfl⟩
theorem aI_no (a : Int) (w : World) (h : a < 0 ∨ 64 ≤ a) :
    Calls Try.prog 15 #[.int .i64 a] w fun e w' => e = .returned (.tuple #[.int .i64 0, .int .i64 0, .int .i64 0, .bool false]) ∧ w = w' := by
  rcases h with h | h
  · have h2 : decide (0 ≤ a) = false := by simpa using h
    go_enter Try.func15, Try.ntmps15
    go_wp2
    refine bodyPost_ret (results_t4e rfl _ _ _) rfl ?_
    exact ⟨rfl, rfl⟩
  · have h0 : 0 ≤ a := by omega
    have h2 : decide (a < 64) = false := by simp; omega
    go_enter Try.func15, Try.ntmps15
    go_wp2
    refine bodyPost_ret (results_t4e rfl _ _ _) rfl ?_
    exact ⟨rfl, rfl⟩
end Go.Proofs.Ytdockkmodjbfpaa
