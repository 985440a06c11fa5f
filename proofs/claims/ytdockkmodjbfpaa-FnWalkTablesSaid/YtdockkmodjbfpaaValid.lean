/- What the reference's checks of a memory and of a frame return; they change nothing. -/
import Derived.Test.YtdockkmodjbfpaaCopy
namespace Go.Proofs.Ytdockkmodjbfpaa
open Go.ChangeShapes Go.WideShapes Go.ChangeAt Go.RowKit
set_option linter.unusedVariables false

theorem ret_bool {b c : Bool} {w : World} (h : b = c) : Ending.returned (.bool b) = .returned (.bool c) ∧ w = w := ⟨by rw [h], rfl⟩
theorem in_yes (w : World) (n a b : Int) (h : a ≤ n ∧ n ≤ b) : Calls Try.prog 62 #[.int .i64 n, .int .i64 a, .int .i64 b] w fun e w' => e = .returned (.bool true) ∧ w = w' := by
  obtain ⟨h1, h2⟩ := h
  go_enter Try.func62, Try.ntmps62
  go_wp2
  go_ret
  exact ⟨rfl, rfl⟩
theorem in_no (w : World) (n a b : Int) (h : ¬ (a ≤ n ∧ n ≤ b)) : Calls Try.prog 62 #[.int .i64 n, .int .i64 a, .int .i64 b] w fun e w' => e = .returned (.bool false) ∧ w = w' := by
  by_cases h1 : a ≤ n
  · have h2 : decide (n ≤ b) = false := by simp; omega
    clear h
    go_enter Try.func62, Try.ntmps62
    go_wp2
    go_ret
    exact ⟨rfl, rfl⟩
  · have h2 : decide (a ≤ n) = false := by simpa using h1
    clear h
    go_enter Try.func62, Try.ntmps62
    go_wp2
    go_ret
    exact ⟨rfl, rfl⟩

theorem words_no {xs : List Int} {k : Nat} (hk : k < xs.length) (h : ¬ (0 ≤ xs.getD k 0 ∧ xs.getD k 0 ≤ 9999)) : wordsOk xs = false := by
  unfold wordsOk
  refine decide_eq_false (fun hh => h ?_)
  rw [getD_lt hk]
  exact hh.1 _ (List.getElem_mem hk)
theorem words_end {xs : List Int} {n : Nat} (hn : n = xs.length) (h : ∀ i, i < n → 0 ≤ xs.getD i 0 ∧ xs.getD i 0 ≤ 9999) : wordsOk xs = ((n : Int) == 4) := by
  subst hn
  unfold wordsOk
  have h1 : ∀ x ∈ xs, 0 ≤ x ∧ x ≤ 9999 := fun x hx => by
    obtain ⟨i, hi, rfl⟩ := List.getElem_of_mem hx
    have := h i hi
    rwa [getD_lt hi] at this
  by_cases h4 : xs.length = 4
  · have : ((xs.length : Int) == 4) = true := by simp; omega
    rw [this]; exact decide_eq_true ⟨h1, h4⟩
  · have : ((xs.length : Int) == 4) = false := by simp; omega
    rw [this]; exact decide_eq_false (fun hh => h4 hh.2)

theorem l2Words_any (w : World) (v : Value) (xs : List Int) (h : Ints w v xs) :
    Calls Try.prog 55 #[v] w fun e w' => e = .returned (.bool (wordsOk xs)) ∧ w = w' := by
  obtain ⟨a, ca, rfl, hla, hma, hxa⟩ := h
  unfold maxLen at hma
  obtain ⟨n, hn⟩ : ∃ n, n = xs.length := ⟨_, rfl⟩
  rw [← hn] at hla hxa ⊢
  have HN := Lib.hid hn
  clear hn
  go_enter Try.func55, Try.ntmps55
  go_wp2
  go_loop [3] (fun i => ∃ k : Nat, k ≤ n ∧ i = .int .i64 k ∧ Hid (∀ i, i < k → 0 ≤ xs.getD i 0 ∧ xs.getD i 0 ≤ 9999)) (fun i => n - (intOf i).toNat)
  case atStart => exact ⟨0, Nat.zero_le _, rfl, Lib.hid (fun i hi => by omega)⟩
  case round =>
    obtain ⟨k, hk, rfl, HB⟩ := hrel
    by_cases hlt : k < n
    · obtain ⟨ba, oa, rfl, hca⟩ := hxa k hlt
      obtain ⟨x, hx⟩ : ∃ x, x = xs.getD k 0 := ⟨_, rfl⟩
      rw [← hx] at hca
      have HX := Lib.hid hx
      clear hx hxa
      have hlt' : (k : Int) < (n : Int) := by omega
      by_cases hi : 0 ≤ x ∧ x ≤ 9999
      · have HC := Lib.hid (in_yes w x 0 9999 hi)
        go_wp2_with (go_at_call 62; refine HC.out.mono ?_; rintro e w' ⟨rfl, rfl⟩)
        go_round
        case rel => exact ⟨k + 1, by omega, by go_num, Lib.hid (fun i hik => by
          by_cases hk2 : i = k
          · rw [hk2, ← HX.out]; exact hi
          · exact HB.out i (by omega))⟩
        case measure => simp [intOf]; omega
      · have HC := Lib.hid (in_no w x 0 9999 hi)
        have HW : Hid (wordsOk xs = false) := Lib.hid (words_no (k := k) (by have := HN.out; omega) (by rw [← HX.out]; exact hi))
        clear hi
        go_wp2_with (go_at_call 62; refine HC.out.mono ?_; rintro e w' ⟨rfl, rfl⟩)
        go_ret
        exact ret_bool HW.out.symm
    · go_wp2
      go_ret
      have e : k = n := by omega
      subst e
      exact ret_bool (words_end HN.out HB.out).symm

theorem mem_no {xss : List (List Int)} {k : Nat} (hk : k < xss.length) (h : wordsOk (xss.getD k []) = false) : memOk xss = false := by
  unfold memOk
  refine decide_eq_false (fun hh => ?_)
  have := hh.1 _ (List.getElem_mem hk)
  rw [getD_lt hk] at h
  rw [h] at this
  cases this
theorem mem_end {xss : List (List Int)} {n : Nat} (hn : n = xss.length) (h : ∀ i, i < n → wordsOk (xss.getD i []) = true) : memOk xss = ((n : Int) == 12) := by
  subst hn
  unfold memOk
  have h1 : ∀ x ∈ xss, wordsOk x = true := fun x hx => by
    obtain ⟨i, hi, rfl⟩ := List.getElem_of_mem hx
    have := h i hi
    rwa [getD_lt hi] at this
  by_cases h4 : xss.length = 12
  · have : ((xss.length : Int) == 12) = true := by simp; omega
    rw [this]; exact decide_eq_true ⟨h1, h4⟩
  · have : ((xss.length : Int) == 12) = false := by simp; omega
    rw [this]; exact decide_eq_false (fun hh => h4 hh.2)

theorem valid_any (w : World) (v : Value) (xss : List (List Int)) (h : Rows2 w v xss) :
    Calls Try.prog 22 #[v] w fun e w' => e = .returned (.bool (memOk xss)) ∧ w = w' := by
  obtain ⟨a, ca, rfl, hla, hma, hxa⟩ := h
  unfold maxLen at hma
  obtain ⟨n, hn⟩ : ∃ n, n = xss.length := ⟨_, rfl⟩
  rw [← hn] at hla hxa ⊢
  have HN := Lib.hid hn
  clear hn
  go_enter Try.func22, Try.ntmps22
  go_wp2
  go_loop [3] (fun i => ∃ k : Nat, k ≤ n ∧ i = .int .i64 k ∧ Hid (∀ i, i < k → wordsOk (xss.getD i []) = true)) (fun i => n - (intOf i).toNat)
  case atStart => exact ⟨0, Nat.zero_le _, rfl, Lib.hid (fun i hi => by omega)⟩
  case round =>
    obtain ⟨k, hk, rfl, HB⟩ := hrel
    by_cases hlt : k < n
    · obtain ⟨ba, oa, u, rfl, hca, hu⟩ := hxa k hlt
      have HC := Lib.hid (l2Words_any w u _ hu)
      clear hxa hu
      have hlt' : (k : Int) < (n : Int) := by omega
      by_cases hi : wordsOk (xss.getD k []) = true
      · rw [hi] at HC
        have HI := Lib.hid hi
        clear hi
        go_wp2_with (go_at_call 55; refine HC.out.mono ?_; rintro e w' ⟨rfl, rfl⟩)
        go_round
        case rel => exact ⟨k + 1, by omega, by go_num, Lib.hid (fun i hik => by
          by_cases hk2 : i = k
          · rw [hk2]; exact HI.out
          · exact HB.out i (by omega))⟩
        case measure => simp [intOf]; omega
      · have hi' : wordsOk (xss.getD k []) = false := by simpa using hi
        rw [hi'] at HC
        have HW : Hid (memOk xss = false) := Lib.hid (mem_no (k := k) (by have := HN.out; omega) hi')
        clear hi hi'
        go_wp2_with (go_at_call 55; refine HC.out.mono ?_; rintro e w' ⟨rfl, rfl⟩)
        go_ret
        exact ret_bool HW.out.symm
    · go_wp2
      go_ret
      have e : k = n := by omega
      subst e
      exact ret_bool (mem_end HN.out HB.out).symm

theorem l1Frame_yes (w : World) (f : Int) (h : 0 ≤ f ∧ f < 12) : Calls Try.prog 41 #[.int .i64 f] w fun e w' => e = .returned (.bool true) ∧ w = w' := by
  go_enter Try.func41, Try.ntmps41
  go_wp2_with (go_at_call 62; refine (in_yes _ _ _ _ (by omega)).mono ?_; rintro e w' ⟨rfl, rfl⟩)
  go_ret
  exact ⟨rfl, rfl⟩
theorem l1Frame_no (w : World) (f : Int) (h : ¬ (0 ≤ f ∧ f < 12)) : Calls Try.prog 41 #[.int .i64 f] w fun e w' => e = .returned (.bool false) ∧ w = w' := by
  go_enter Try.func41, Try.ntmps41
  go_wp2_with (go_at_call 62; refine (in_no _ _ _ _ (by omega)).mono ?_; rintro e w' ⟨rfl, rfl⟩)
  go_ret
  exact ⟨rfl, rfl⟩
theorem l2Ok_yes (w : World) (v : Value) (xss : List (List Int)) (f : Int) (h : Rows2 w v xss) (hm : memOk xss = true) (hf : 0 ≤ f ∧ f < 12) :
    Calls Try.prog 47 #[v, .int .i64 f] w fun e w' => e = .returned (.bool true) ∧ w = w' := by
  have HC := Lib.hid (valid_any w v xss h)
  rw [hm] at HC
  clear h hm
  go_enter Try.func47, Try.ntmps47
  go_wp2_with (first | (go_at_call 22; refine HC.out.mono ?_; rintro e w' ⟨rfl, rfl⟩) | (go_at_call 41; refine (l1Frame_yes _ _ hf).mono ?_; rintro e w' ⟨rfl, rfl⟩))
  go_ret
  exact ⟨rfl, rfl⟩
theorem l2Ok_no (w : World) (v : Value) (xss : List (List Int)) (f : Int) (h : Rows2 w v xss) (hm : ¬ (memOk xss = true ∧ 0 ≤ f ∧ f < 12)) :
    Calls Try.prog 47 #[v, .int .i64 f] w fun e w' => e = .returned (.bool false) ∧ w = w' := by
  have HC := Lib.hid (valid_any w v xss h)
  clear h
  by_cases h1 : memOk xss = true
  · have hf : ¬ (0 ≤ f ∧ f < 12) := fun hh => hm ⟨h1, hh⟩
    rw [h1] at HC
    clear h1 hm
    go_enter Try.func47, Try.ntmps47
    go_wp2_with (first | (go_at_call 22; refine HC.out.mono ?_; rintro e w' ⟨rfl, rfl⟩) | (go_at_call 41; refine (l1Frame_no _ _ hf).mono ?_; rintro e w' ⟨rfl, rfl⟩))
    go_ret
    exact ⟨rfl, rfl⟩
  · have h2 : memOk xss = false := by simpa using h1
    rw [h2] at HC
    clear h1 h2 hm
    go_enter Try.func47, Try.ntmps47
    go_wp2_with (go_at_call 22; refine HC.out.mono ?_; rintro e w' ⟨rfl, rfl⟩)
    go_ret
    exact ⟨rfl, rfl⟩
end Go.Proofs.Ytdockkmodjbfpaa
