/- What the functions of entries and addresses return, for the program and for the reference: shared contracts, each under the condition that its name tells. -/
import Derived.Test.YtdacffhagnhcfaaRows
import Derived.WalkKit
import Derived.ProofKit
import Derived.OpenShut
import Derived.Tactics
import Derived.Lib.Hide
namespace Go.Proofs.Ytdacffhagnhcfaa
open Go.ChangeShapes Go.WideShapes Go.ChangeAt Go.RowKit
set_option linter.unusedVariables false

/-- the entry of a frame -/
def epV (f : Int) (b : Bool) : Int := match b with | true => 4 * f + 3 | false => 4 * f + 1
theorem ret2 {k : IntKind} {x y : Int} {b : Bool} (h : x = y) : Ending.returned (.tuple #[.int k x, .bool b]) = .returned (.tuple #[.int k y, .bool b]) := by rw [h]
theorem ret1 {k : IntKind} {x y : Int} (h : x = y) : Ending.returned (.int k x) = .returned (.int k y) := by rw [h]
theorem ret3 {k : IntKind} {x y : Int} {b c d : Bool} (h : x = y) (g : b = c) : Ending.returned (.tuple #[.int k x, .bool b, .bool d]) = .returned (.tuple #[.int k y, .bool c, .bool d]) := by rw [h, g]
theorem ret4 {k : IntKind} {x y z x' y' z' : Int} {d : Bool} (h : x = x') (g : y = y') (i : z = z') : Ending.returned (.tuple #[.int k x, .int k y, .int k z, .bool d]) = .returned (.tuple #[.int k x', .int k y', .int k z', .bool d]) := by rw [h, g, i]
theorem results_tmp4 {fn : Func} {t u v x : Tmp} (h : fn.results = #[.tmp t, .tmp u, .tmp v, .tmp x]) (tmps : Array Value) (P : Program) (w : World) :
    (results fn tmps).run P w = .ok (.tuple #[tmps.getD t undef, tmps.getD u undef, tmps.getD v undef, tmps.getD x undef]) w := by simp [results, h]

theorem iput_yes (f : Int) (b : Bool) (w : World) (h0 : 0 ≤ f) (h1 : f < 12) :
    Calls Try.prog 17 #[.int .i64 f, .bool b] w fun e w' => e = .returned (.tuple #[.int .i64 (epV f b), .bool true]) ∧ w = w' := by
  have h2 : f < 12 := by omega
  cases b
  all_goals
    go_enter Try.func17, Try.ntmps17
    go_wp2
    go_ret2
    exact ⟨ret2 (by simp [epV] <;> omega), rfl⟩
theorem iput_no (f : Int) (b : Bool) (w : World) (h : f < 0 ∨ 12 ≤ f) :
    Calls Try.prog 17 #[.int .i64 f, .bool b] w fun e w' => e = .returned (.tuple #[.int .i64 0, .bool false]) ∧ w = w' := by
  rcases h with h | h
  · have h2 : decide (0 ≤ f) = false := by simpa using h
    go_enter Try.func17, Try.ntmps17
    go_wp2
    go_ret2
    exact ⟨rfl, rfl⟩
  · have h0 : 0 ≤ f := by omega
    have h2 : decide (f < 12) = false := by simp; omega
    go_enter Try.func17, Try.ntmps17
    go_wp2
    go_ret2
    exact ⟨rfl, rfl⟩

theorem sput_yes (f : Int) (b : Bool) (w : World) (h0 : 0 ≤ f) (h1 : f < 12) :
    Calls Try.prog 18 #[.int .i64 f, .bool b] w fun e w' => e = .returned (.tuple #[.int .i64 (epV f b), .bool true]) ∧ w = w' := by
  have h2 : f ≤ 11 := by omega
  cases b
  all_goals
    go_enter Try.func18, Try.ntmps18
    go_wp2
    go_ret2
    exact ⟨ret2 (by simp [epV] <;> omega), rfl⟩
theorem sput_no (f : Int) (b : Bool) (w : World) (h : f < 0 ∨ 12 ≤ f) :
    Calls Try.prog 18 #[.int .i64 f, .bool b] w fun e w' => e = .returned (.tuple #[.int .i64 0, .bool false]) ∧ w = w' := by
  rcases h with h | h
  · have h2 : decide (0 ≤ f) = false := by simpa using h
    go_enter Try.func18, Try.ntmps18
    go_wp2
    go_ret2
    exact ⟨rfl, rfl⟩
  · have h0 : 0 ≤ f := by omega
    have h2 : decide (f ≤ 11) = false := by simp; omega
    go_enter Try.func18, Try.ntmps18
    go_wp2
    go_ret2
    exact ⟨rfl, rfl⟩

theorem tm_neg (n : Int) (h : n ≤ 0) : n.tmod 4 ≤ 0 := by
  obtain ⟨m, rfl⟩ : ∃ m : Int, n = -m := ⟨-n, by omega⟩
  rw [Int.neg_tmod]
  have := Int.tmod_nonneg (a := m) 4 (by omega)
  omega
theorem tm2_neg (n : Int) (h : n ≤ 0) : n.tmod 2 ≤ 0 := by
  obtain ⟨m, rfl⟩ : ∃ m : Int, n = -m := ⟨-n, by omega⟩
  rw [Int.neg_tmod]
  have := Int.tmod_nonneg (a := m) 2 (by omega)
  omega
def goodB (w : Int) : Prop := 0 < w ∧ w % 2 = 1 ∧ w < 48

theorem iget_yes (n : Int) (w : World) (h : goodB n) :
    Calls Try.prog 19 #[.int .i64 n] w fun e w' => e = .returned (.tuple #[.int .i64 (n / 4), .bool (decide (n % 4 = 3)), .bool true]) ∧ w = w' := by
  obtain ⟨h0, h1, h2⟩ := h
  have hc : n % 4 = 1 ∨ n % 4 = 3 := by omega
  have h3 : 0 ≤ n := by omega
  have h4 : n / 4 < 12 := by omega
  have hz : (n == 0) = false := by simp; omega
  have hk : (n % 2 == 1) = true := by simpa using h1
  clear h1
  rcases hc with hc | hc
  · have e1 : (n % 4 == 1) = true := by simpa using hc
    have e3 : (n % 4 == 3) = false := by simp; omega
    have HC := Lib.hid hc
    clear hc
    go_enter Try.func19, Try.ntmps19
    go_wp2
    go_ret3
    exact ⟨ret3 rfl (by have := HC.out; simp; omega), rfl⟩
  · have e1 : (n % 4 == 1) = false := by simp; omega
    have e3 : (n % 4 == 3) = true := by simpa using hc
    have HC := Lib.hid hc
    clear hc
    go_enter Try.func19, Try.ntmps19
    go_wp2
    go_ret3
    exact ⟨ret3 rfl (by have := HC.out; simp; omega), rfl⟩
theorem iget_no (n : Int) (w : World) (hn : ¬ goodB n) (hm : -9223372036854775808 ≤ n) (hM : n ≤ 9223372036854775807) :
    Calls Try.prog 19 #[.int .i64 n] w fun e w' => e = .returned (.tuple #[.int .i64 0, .bool false, .bool false]) ∧ w = w' := by
  unfold goodB at hn
  by_cases h0 : 0 < n
  · have h3 : 0 ≤ n := by omega
    have hz : (n == 0) = false := by simp; omega
    by_cases h1 : n % 2 = 1
    · have h2 : 48 ≤ n := by omega
      have h4 : decide (n / 4 < 12) = false := by simp; omega
      have h5 : decide (n < 48) = false := by simp; omega
      have hk : (n % 2 == 1) = true := by simpa using h1
      have hc : n % 4 = 1 ∨ n % 4 = 3 := by omega
      clear h1 hn
      rcases hc with hc | hc
      · have e1 : (n % 4 == 1) = true := by simpa using hc
        have e3 : (n % 4 == 3) = false := by simp; omega
        clear hc
        go_enter Try.func19, Try.ntmps19
        go_wp2
        go_ret3
        exact ⟨rfl, rfl⟩
      · have e1 : (n % 4 == 1) = false := by simp; omega
        have e3 : (n % 4 == 3) = true := by simpa using hc
        clear hc
        go_enter Try.func19, Try.ntmps19
        go_wp2
        go_ret3
        exact ⟨rfl, rfl⟩
    · have hk : (n % 2 == 1) = false := by simp; omega
      have e1 : (n % 4 == 1) = false := by simp; omega
      have e3 : (n % 4 == 3) = false := by simp; omega
      clear h1 hn
      go_enter Try.func19, Try.ntmps19
      go_wp2
      go_ret3
      exact ⟨rfl, rfl⟩
  · have hd : decide (0 < n) = false := by simpa using h0
    clear hn
    have ht := tm_neg n (by omega)
    have e1 : (n.tmod 4 == 1) = false := by simp; omega
    have e3 : (n.tmod 4 == 3) = false := by simp; omega
    have e5 : (n.tmod 2 == 1) = false := by have := tm2_neg n (by omega); simp; omega
    clear ht
    by_cases hz0 : n = 0
    · subst hz0
      go_enter Try.func19, Try.ntmps19
      go_wp2
      go_ret3
      exact ⟨rfl, rfl⟩
    · have hz : (n == 0) = false := by simpa using hz0
      have h6 : n < 0 := by omega
      go_enter Try.func19, Try.ntmps19
      go_wp2
      go_ret3
      exact ⟨rfl, rfl⟩

theorem sget_yes (n : Int) (w : World) (h : goodB n) :
    Calls Try.prog 21 #[.int .i64 n] w fun e w' => e = .returned (.tuple #[.int .i64 (n / 4), .bool (decide (n % 4 = 3)), .bool true]) ∧ w = w' := by
  obtain ⟨h0, h1, h2⟩ := h
  have hc : n % 4 = 1 ∨ n % 4 = 3 := by omega
  have h3 : 0 ≤ n := by omega
  have h4 : n / 4 < 12 := by omega
  have hz : (n == 0) = false := by simp; omega
  have hk : (n % 2 == 1) = true := by simpa using h1
  clear h1
  rcases hc with hc | hc
  · have e1 : (n % 4 == 1) = true := by simpa using hc
    have e3 : (n % 4 == 3) = false := by simp; omega
    have HC := Lib.hid hc
    clear hc
    go_enter Try.func21, Try.ntmps21
    go_wp2
    go_ret3
    exact ⟨ret3 rfl (by have := HC.out; simp; omega), rfl⟩
  · have e1 : (n % 4 == 1) = false := by simp; omega
    have e3 : (n % 4 == 3) = true := by simpa using hc
    have HC := Lib.hid hc
    clear hc
    go_enter Try.func21, Try.ntmps21
    go_wp2
    go_ret3
    exact ⟨ret3 rfl (by have := HC.out; simp; omega), rfl⟩
theorem sget_no (n : Int) (w : World) (hn : ¬ goodB n) (hm : -9223372036854775808 ≤ n) (hM : n ≤ 9223372036854775807) :
    Calls Try.prog 21 #[.int .i64 n] w fun e w' => e = .returned (.tuple #[.int .i64 0, .bool false, .bool false]) ∧ w = w' := by
  unfold goodB at hn
  by_cases h0 : 0 < n
  · have h3 : 0 ≤ n := by omega
    have hz : (n == 0) = false := by simp; omega
    by_cases h1 : n % 2 = 1
    · have h2 : 48 ≤ n := by omega
      have h4 : decide (n / 4 < 12) = false := by simp; omega
      have h5 : decide (n < 48) = false := by simp; omega
      have hk : (n % 2 == 1) = true := by simpa using h1
      have hc : n % 4 = 1 ∨ n % 4 = 3 := by omega
      clear h1 hn
      rcases hc with hc | hc
      · have e1 : (n % 4 == 1) = true := by simpa using hc
        have e3 : (n % 4 == 3) = false := by simp; omega
        clear hc
        go_enter Try.func21, Try.ntmps21
        go_wp2
        go_ret3
        exact ⟨rfl, rfl⟩
      · have e1 : (n % 4 == 1) = false := by simp; omega
        have e3 : (n % 4 == 3) = true := by simpa using hc
        clear hc
        go_enter Try.func21, Try.ntmps21
        go_wp2
        go_ret3
        exact ⟨rfl, rfl⟩
    · have hk : (n % 2 == 1) = false := by simp; omega
      have e1 : (n % 4 == 1) = false := by simp; omega
      have e3 : (n % 4 == 3) = false := by simp; omega
      clear h1 hn
      go_enter Try.func21, Try.ntmps21
      go_wp2
      go_ret3
      exact ⟨rfl, rfl⟩
  · have hd : decide (0 < n) = false := by simpa using h0
    clear hn
    have ht := tm_neg n (by omega)
    have e1 : (n.tmod 4 == 1) = false := by simp; omega
    have e3 : (n.tmod 4 == 3) = false := by simp; omega
    have e5 : (n.tmod 2 == 1) = false := by have := tm2_neg n (by omega); simp; omega
    clear ht
    by_cases hz0 : n = 0
    · subst hz0
      go_enter Try.func21, Try.ntmps21
      go_wp2
      go_ret3
      exact ⟨rfl, rfl⟩
    · have hz : (n == 0) = false := by simpa using hz0
      have h6 : n < 0 := by omega
      go_enter Try.func21, Try.ntmps21
      go_wp2
      go_ret3
      exact ⟨rfl, rfl⟩

theorem icut_yes (a : Int) (w : World) (h0 : 0 ≤ a) (h1 : a < 64) :
    Calls Try.prog 26 #[.int .i64 a] w fun e w' => e = .returned (.tuple #[.int .i64 (a / 16), .int .i64 (a / 4 % 4), .int .i64 (a % 4), .bool true]) ∧ w = w' := by
  have h2 : a < 64 := by omega
  have h3 : 0 ≤ a / 4 := by omega
  go_enter Try.func26, Try.ntmps26
  go_wp2
  refine bodyPost_ret (results_tmp4 rfl _ _ _) rfl ?_
  exact ⟨ret4 (by first | rfl | omega) (by first | rfl | omega) (by first | rfl | omega), rfl⟩
theorem icut_no (a : Int) (w : World) (h : a < 0 ∨ 64 ≤ a) :
    Calls Try.prog 26 #[.int .i64 a] w fun e w' => e = .returned (.tuple #[.int .i64 0, .int .i64 0, .int .i64 0, .bool false]) ∧ w = w' := by
  rcases h with h | h
  · have h2 : decide (0 ≤ a) = false := by simpa using h
    go_enter Try.func26, Try.ntmps26
    go_wp2
    refine bodyPost_ret (results_tmp4 rfl _ _ _) rfl ?_
    exact ⟨rfl, rfl⟩
  · have h0 : 0 ≤ a := by omega
    have h2 : decide (a < 64) = false := by simp; omega
    go_enter Try.func26, Try.ntmps26
    go_wp2
    refine bodyPost_ret (results_tmp4 rfl _ _ _) rfl ?_
    exact ⟨rfl, rfl⟩

theorem scut_yes (a : Int) (w : World) (h0 : 0 ≤ a) (h1 : a < 64) :
    Calls Try.prog 27 #[.int .i64 a] w fun e w' => e = .returned (.tuple #[.int .i64 (a / 16), .int .i64 (a / 4 % 4), .int .i64 (a % 4), .bool true]) ∧ w = w' := by
  have h2 : a ≤ 63 := by omega
  have h3 : 0 ≤ a / 4 := by omega
  go_enter Try.func27, Try.ntmps27
  go_wp2
  refine bodyPost_ret (results_tmp4 rfl _ _ _) rfl ?_
  exact ⟨ret4 (by first | rfl | omega) (by first | rfl | omega) (by first | rfl | omega), rfl⟩
theorem scut_no (a : Int) (w : World) (h : a < 0 ∨ 64 ≤ a) :
    Calls Try.prog 27 #[.int .i64 a] w fun e w' => e = .returned (.tuple #[.int .i64 0, .int .i64 0, .int .i64 0, .bool false]) ∧ w = w' := by
  rcases h with h | h
  · have h2 : decide (0 ≤ a) = false := by simpa using h
    go_enter Try.func27, Try.ntmps27
    go_wp2
    refine bodyPost_ret (results_tmp4 rfl _ _ _) rfl ?_
    exact ⟨rfl, rfl⟩
  · have h0 : 0 ≤ a := by omega
    have h2 : decide (a ≤ 63) = false := by simp; omega
    go_enter Try.func27, Try.ntmps27
    go_wp2
    refine bodyPost_ret (results_tmp4 rfl _ _ _) rfl ?_
    exact ⟨rfl, rfl⟩

theorem iof_yes (p t : Int) (w : World) (h0 : 0 ≤ p) (h1 : p < 16) (h2 : 0 ≤ t) (h3 : t < 4) :
    Calls Try.prog 29 #[.int .i64 p, .int .i64 t] w fun e w' => e = .returned (.tuple #[.int .i64 (4 * p + t), .bool true]) ∧ w = w' := by
  have h4 : p < 16 := by omega
  have h5 : t < 4 := by omega
  go_enter Try.func29, Try.ntmps29
  go_wp2
  go_ret2
  exact ⟨ret2 (by first | rfl | omega), rfl⟩
theorem iof_no (p t : Int) (w : World) (h : (p < 0 ∨ 16 ≤ p) ∨ (t < 0 ∨ 4 ≤ t)) :
    Calls Try.prog 29 #[.int .i64 p, .int .i64 t] w fun e w' => e = .returned (.tuple #[.int .i64 0, .bool false]) ∧ w = w' := by
  by_cases p0 : 0 ≤ p
  · by_cases p1 : p < 16
    · have hh : t < 0 ∨ 4 ≤ t := by omega
      clear h
      rcases hh with hh | hh
      · have h2 : decide (0 ≤ t) = false := by simpa using hh
        go_enter Try.func29, Try.ntmps29
        go_wp2
        go_ret2
        exact ⟨rfl, rfl⟩
      · have h0 : 0 ≤ t := by omega
        have h2 : decide (t < 4) = false := by simp; omega
        go_enter Try.func29, Try.ntmps29
        go_wp2
        go_ret2
        exact ⟨rfl, rfl⟩
    · have h2 : decide (p < 16) = false := by simpa using p1
      clear h
      go_enter Try.func29, Try.ntmps29
      go_wp2
      go_ret2
      exact ⟨rfl, rfl⟩
  · have h2 : decide (0 ≤ p) = false := by simpa using p0
    clear h
    go_enter Try.func29, Try.ntmps29
    go_wp2
    go_ret2
    exact ⟨rfl, rfl⟩

theorem sof_yes (p t : Int) (w : World) (h0 : 0 ≤ p) (h1 : p < 16) (h2 : 0 ≤ t) (h3 : t < 4) :
    Calls Try.prog 30 #[.int .i64 p, .int .i64 t] w fun e w' => e = .returned (.tuple #[.int .i64 (4 * p + t), .bool true]) ∧ w = w' := by
  have h4 : p ≤ 15 := by omega
  have h5 : t ≤ 3 := by omega
  go_enter Try.func30, Try.ntmps30
  go_wp2
  go_ret2
  exact ⟨ret2 (by first | rfl | omega), rfl⟩
theorem sof_no (p t : Int) (w : World) (h : (p < 0 ∨ 16 ≤ p) ∨ (t < 0 ∨ 4 ≤ t)) :
    Calls Try.prog 30 #[.int .i64 p, .int .i64 t] w fun e w' => e = .returned (.tuple #[.int .i64 0, .bool false]) ∧ w = w' := by
  by_cases p0 : 0 ≤ p
  · by_cases p1 : p ≤ 15
    · have hh : t < 0 ∨ 4 ≤ t := by omega
      clear h
      rcases hh with hh | hh
      · have h2 : decide (0 ≤ t) = false := by simpa using hh
        go_enter Try.func30, Try.ntmps30
        go_wp2
        go_ret2
        exact ⟨rfl, rfl⟩
      · have h0 : 0 ≤ t := by omega
        have h2 : decide (t ≤ 3) = false := by simp; omega
        go_enter Try.func30, Try.ntmps30
        go_wp2
        go_ret2
        exact ⟨rfl, rfl⟩
    · have h2 : decide (p ≤ 15) = false := by simpa using p1
      clear h
      go_enter Try.func30, Try.ntmps30
      go_wp2
      go_ret2
      exact ⟨rfl, rfl⟩
  · have h2 : decide (0 ≤ p) = false := by simpa using p0
    clear h
    go_enter Try.func30, Try.ntmps30
    go_wp2
    go_ret2
    exact ⟨rfl, rfl⟩

theorem ikind_yes (n : Int) (w : World) (h : goodB n) :
    Calls Try.prog 23 #[.int .i64 n] w fun e w' => e = .returned (.int .i64 1) ∧ w = w' := by
  obtain ⟨h0, h1, h2⟩ := h
  have hc : n % 4 = 1 ∨ n % 4 = 3 := by omega
  have h3 : 0 ≤ n := by omega
  have h4 : n / 4 < 12 := by omega
  have hz : (n == 0) = false := by simp; omega
  have hk : (n % 2 == 1) = true := by simpa using h1
  clear h1
  rcases hc with hc | hc
  · have e1 : (n % 4 == 1) = true := by simpa using hc
    have e3 : (n % 4 == 3) = false := by simp; omega
    have HC := Lib.hid hc
    clear hc
    go_enter Try.func23, Try.ntmps23
    go_wp2
    go_ret
    exact ⟨rfl, rfl⟩
  · have e1 : (n % 4 == 1) = false := by simp; omega
    have e3 : (n % 4 == 3) = true := by simpa using hc
    have HC := Lib.hid hc
    clear hc
    go_enter Try.func23, Try.ntmps23
    go_wp2
    go_ret
    exact ⟨rfl, rfl⟩
theorem ikind_no (n : Int) (w : World) (hn : ¬ goodB n) (hm : -9223372036854775808 ≤ n) (hM : n ≤ 9223372036854775807) (hne : (n == 0) = false) :
    Calls Try.prog 23 #[.int .i64 n] w fun e w' => e = .returned (.int .i64 2) ∧ w = w' := by
  unfold goodB at hn
  by_cases h0 : 0 < n
  · have h3 : 0 ≤ n := by omega
    have hz : (n == 0) = false := by simp; omega
    by_cases h1 : n % 2 = 1
    · have h2 : 48 ≤ n := by omega
      have h4 : decide (n / 4 < 12) = false := by simp; omega
      have h5 : decide (n < 48) = false := by simp; omega
      have hk : (n % 2 == 1) = true := by simpa using h1
      have hc : n % 4 = 1 ∨ n % 4 = 3 := by omega
      clear h1 hn
      rcases hc with hc | hc
      · have e1 : (n % 4 == 1) = true := by simpa using hc
        have e3 : (n % 4 == 3) = false := by simp; omega
        clear hc
        go_enter Try.func23, Try.ntmps23
        go_wp2
        go_ret
        exact ⟨rfl, rfl⟩
      · have e1 : (n % 4 == 1) = false := by simp; omega
        have e3 : (n % 4 == 3) = true := by simpa using hc
        clear hc
        go_enter Try.func23, Try.ntmps23
        go_wp2
        go_ret
        exact ⟨rfl, rfl⟩
    · have hk : (n % 2 == 1) = false := by simp; omega
      have e1 : (n % 4 == 1) = false := by simp; omega
      have e3 : (n % 4 == 3) = false := by simp; omega
      clear h1 hn
      go_enter Try.func23, Try.ntmps23
      go_wp2
      go_ret
      exact ⟨rfl, rfl⟩
  · have hd : decide (0 < n) = false := by simpa using h0
    clear hn
    have ht := tm_neg n (by omega)
    have e1 : (n.tmod 4 == 1) = false := by simp; omega
    have e3 : (n.tmod 4 == 3) = false := by simp; omega
    have e5 : (n.tmod 2 == 1) = false := by have := tm2_neg n (by omega); simp; omega
    clear ht
    have h6 : n < 0 := by simp at hne; omega
    go_enter Try.func23, Try.ntmps23
    go_wp2
    go_ret
    exact ⟨rfl, rfl⟩

theorem ikind_zero (w : World) :
    Calls Try.prog 23 #[.int .i64 0] w fun e w' => e = .returned (.int .i64 0) ∧ w = w' := by
  go_enter Try.func23, Try.ntmps23
  go_wp2
  go_ret
  exact ⟨rfl, rfl⟩

theorem skind_yes (n : Int) (w : World) (h : goodB n) :
    Calls Try.prog 24 #[.int .i64 n] w fun e w' => e = .returned (.int .i64 1) ∧ w = w' := by
  obtain ⟨h0, h1, h2⟩ := h
  have hc : n % 4 = 1 ∨ n % 4 = 3 := by omega
  have h3 : 0 ≤ n := by omega
  have h4 : n / 4 < 12 := by omega
  have hz : (n == 0) = false := by simp; omega
  have hk : (n % 2 == 1) = true := by simpa using h1
  clear h1
  rcases hc with hc | hc
  · have e1 : (n % 4 == 1) = true := by simpa using hc
    have e3 : (n % 4 == 3) = false := by simp; omega
    have HC := Lib.hid hc
    clear hc
    go_enter Try.func24, Try.ntmps24
    go_wp2
    go_ret
    exact ⟨rfl, rfl⟩
  · have e1 : (n % 4 == 1) = false := by simp; omega
    have e3 : (n % 4 == 3) = true := by simpa using hc
    have HC := Lib.hid hc
    clear hc
    go_enter Try.func24, Try.ntmps24
    go_wp2
    go_ret
    exact ⟨rfl, rfl⟩
theorem skind_no (n : Int) (w : World) (hn : ¬ goodB n) (hm : -9223372036854775808 ≤ n) (hM : n ≤ 9223372036854775807) (hne : (n == 0) = false) :
    Calls Try.prog 24 #[.int .i64 n] w fun e w' => e = .returned (.int .i64 2) ∧ w = w' := by
  unfold goodB at hn
  by_cases h0 : 0 < n
  · have h3 : 0 ≤ n := by omega
    have hz : (n == 0) = false := by simp; omega
    by_cases h1 : n % 2 = 1
    · have h2 : 48 ≤ n := by omega
      have h4 : decide (n / 4 < 12) = false := by simp; omega
      have h5 : decide (n < 48) = false := by simp; omega
      have hk : (n % 2 == 1) = true := by simpa using h1
      have hc : n % 4 = 1 ∨ n % 4 = 3 := by omega
      clear h1 hn
      rcases hc with hc | hc
      · have e1 : (n % 4 == 1) = true := by simpa using hc
        have e3 : (n % 4 == 3) = false := by simp; omega
        clear hc
        go_enter Try.func24, Try.ntmps24
        go_wp2
        go_ret
        exact ⟨rfl, rfl⟩
      · have e1 : (n % 4 == 1) = false := by simp; omega
        have e3 : (n % 4 == 3) = true := by simpa using hc
        clear hc
        go_enter Try.func24, Try.ntmps24
        go_wp2
        go_ret
        exact ⟨rfl, rfl⟩
    · have hk : (n % 2 == 1) = false := by simp; omega
      have e1 : (n % 4 == 1) = false := by simp; omega
      have e3 : (n % 4 == 3) = false := by simp; omega
      clear h1 hn
      go_enter Try.func24, Try.ntmps24
      go_wp2
      go_ret
      exact ⟨rfl, rfl⟩
  · have hd : decide (0 < n) = false := by simpa using h0
    clear hn
    have ht := tm_neg n (by omega)
    have e1 : (n.tmod 4 == 1) = false := by simp; omega
    have e3 : (n.tmod 4 == 3) = false := by simp; omega
    have e5 : (n.tmod 2 == 1) = false := by have := tm2_neg n (by omega); simp; omega
    clear ht
    have h6 : n < 0 := by simp at hne; omega
    go_enter Try.func24, Try.ntmps24
    go_wp2
    go_ret
    exact ⟨rfl, rfl⟩

theorem skind_zero (w : World) :
    Calls Try.prog 24 #[.int .i64 0] w fun e w' => e = .returned (.int .i64 0) ∧ w = w' := by
  go_enter Try.func24, Try.ntmps24
  go_wp2
  go_ret
  exact ⟨rfl, rfl⟩
end Go.Proofs.Ytdacffhagnhcfaa
