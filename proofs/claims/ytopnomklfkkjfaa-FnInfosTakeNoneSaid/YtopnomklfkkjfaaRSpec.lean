/- What the reference's functions of rights return. -/
import Derived.Test.YtopnomklfkkjfaaStrMk
import Derived.Laws.DeepStrings4
import Derived.Laws.Cover1
namespace Go.Proofs.Ytopnomklfkkjfaa
open Go.ChangeShapes Go.WideShapes Go.ChangeAt Go.RowKit
set_option linter.unusedVariables false

/-- the letters below k are letters of rights -/
def okTo (s : Bs) (k : Nat) : Prop := ∀ b ∈ s.take k, lok b = true
theorem lok_iff {b : UInt8} : lok b = true ↔ 97 ≤ b.toNat ∧ b.toNat ≤ 99 := by
  rw [lok, Bool.and_eq_true, decide_eq_true_eq, decide_eq_true_eq]
theorem okTo_all {s : Bs} {k : Nat} (h : okTo s k) (hk : k = s.length) : rv s = decide (s.length ≤ 4) := by
  have h1 : s.all lok = true := List.all_eq_true.2 (by rw [okTo, take_all hk] at h; exact h)
  rw [rv, h1, Bool.true_and]
theorem okTo_succ {s : Bs} {k : Nat} (h : okTo s k) (hk : k < s.length) (hb : lok s[k] = true) : okTo s (k + 1) := by
  intro b hm
  rw [List.take_succ_eq_append_getElem hk, List.mem_append] at hm
  rcases hm with hm | hm
  · exact h b hm
  · rw [List.mem_singleton.1 hm]; exact hb
theorem rv_bad {s : Bs} {k : Nat} (hk : k < s.length) (hb : lok s[k] = false) : rv s = false := by
  rw [Bool.eq_false_iff]
  intro h
  have := (rv_iff.1 h).1 _ (List.getElem_mem hk)
  rw [hb] at this; cases this

/-- the call returns v, and reads only -/
def BoolRes (b : Bool) (w : World) (e : Ending) (w' : World) : Prop := e = .returned (.bool b) ∧ ∃ n, w' = w.drewN n

theorem run_index_str (s : Bs) (k : Nat) (hk : k < s.length) (x : Nat) (hx : s[k].toNat = x) (w : World) : (Instr.index 9 (.string ⟨s.toArray⟩) (.int .i64 k)).run Try.prog w = .ok (.int .u8 x) w := by
  subst hx
  have hs : (ByteArray.mk s.toArray).size = s.length := by simp [ByteArray.size]
  rw [run_index_string (P := Try.prog) w 9 ⟨s.toArray⟩ .i64 k Try.underlying9, dif_pos (by rw [hs]; omega)]
  have e : (ByteArray.mk s.toArray)[(k : Int).toNat]'(by rw [hs]; omega) = s[k] := rfl
  rw [e]

/-- the call returns a bool and changes nothing -/
def Says (b : Bool) (w : World) (e : Ending) (w' : World) : Prop := e = .returned (.bool b) ∧ w = w'
theorem says_mk {b c : Bool} {w : World} (h : b = c) : Says c w (.returned (.bool b)) w := ⟨by rw [h], rfl⟩

theorem sRightValid_any (w : World) (s : Bs) (hs : s.length ≤ 2000000) :
    Calls Try.prog 40 #[.string ⟨s.toArray⟩] w (Says (rv s) w) := by
  obtain ⟨n, hN⟩ : ∃ n, n = s.length := ⟨_, rfl⟩
  have hn : n ≤ 2000000 := by omega
  have hsz : s.toArray.size = n := by simp [hN]
  have HN := Lib.hid hN
  clear hN hs
  go_enter Try.func40, Try.ntmps40
  go_wp2
  go_loop [3] (fun i => ∃ k : Nat, k ≤ n ∧ i = .int .i64 k ∧ Hid (okTo s k)) (fun i => n - (intOf i).toNat)
  case atStart => exact ⟨0, Nat.zero_le _, rfl, Lib.hid (fun b hb => by simp at hb)⟩
  case round =>
    obtain ⟨k, hk, rfl, HT⟩ := hrel
    by_cases hlt : k < n
    · have hlt' : (k : Int) < (n : Int) := by omega
      have hks : k < s.length := by rw [← HN.out]; exact hlt
      have HB := Lib.hid (@lok_iff s[k])
      have hix := run_index_str s k hks _ rfl
      obtain ⟨x, hx⟩ : ∃ x, x = s[k].toNat := ⟨_, rfl⟩
      rw [← hx] at hix HB
      clear hx
      have HR := Lib.hid (fun h => rv_bad hks h)
      have HO := Lib.hid (fun h => okTo_succ HT.out hks h)
      by_cases h1 : x < 97
      · have h1' : (x : Int) < 97 := by omega
        go_wp2
        go_ret
        exact says_mk (HR.out (by rw [Bool.eq_false_iff]; intro h; have := HB.out.1 h; omega)).symm
      · by_cases h2 : 99 < x
        · have h1' : ¬ (x : Int) < 97 := by omega
          have h2' : (99 : Int) < (x : Int) := by omega
          go_wp2
          go_ret
          exact says_mk (HR.out (by rw [Bool.eq_false_iff]; intro h; have := HB.out.1 h; omega)).symm
        · have h1' : ¬ (x : Int) < 97 := by omega
          have h2' : ¬ (99 : Int) < (x : Int) := by omega
          go_wp2
          go_round
          case rel => exact ⟨k + 1, by omega, by go_num, Lib.hid (HO.out (HB.out.2 ⟨by omega, by omega⟩))⟩
          case measure => simp [intOf]; omega
    · go_wp2
      go_ret
      have e : k = n := by omega
      refine says_mk ?_
      rw [okTo_all HT.out (by rw [e]; exact HN.out), ← HN.out, decide_eq_decide]
      omega

theorem extract_mk (l : Bs) (i j : Nat) : (ByteArray.mk l.toArray).extract i j = ByteArray.mk ((l.take j).drop i).toArray := by
  apply ByteArray.ext
  rw [ByteArray.data_extract]
  simp [List.extract_toArray, List.extract_eq_take_drop, List.drop_take]
theorem extract_toList (l : Bs) (j : Nat) : ((ByteArray.mk l.toArray).extract 0 j).toList = l.take j := by
  rw [extract_mk, ByteArray.toList_mk]; rfl

/-- the texts below k are in order -/
def rokTo (xs : List Bs) (k : Nat) : Prop := ∀ j, j < k → rv (xs.getD j []) = true ∧ (0 < j → bl (xs.getD (j - 1) []) (xs.getD j []) = true)
theorem rokTo_all {xs : List Bs} {k : Nat} (h : rokTo xs k) (hk : k = xs.length) : rok xs = true := rok_iff.2 (by rw [← hk]; exact h)
theorem rokTo_succ {xs : List Bs} {k : Nat} (h : rokTo xs k) (h1 : rv (xs.getD k []) = true) (h2 : 0 < k → bl (xs.getD (k - 1) []) (xs.getD k []) = true) : rokTo xs (k + 1) := by
  intro j hj
  by_cases e : j = k
  · rw [e]; exact ⟨h1, h2⟩
  · exact h j (by omega)
theorem rok_bad1 {xs : List Bs} {k : Nat} (hk : k < xs.length) (h : rv (xs.getD k []) = false) : rvs xs = false := by
  rw [Bool.eq_false_iff]
  intro hh
  rw [rvs, Bool.and_eq_true, rok_iff] at hh
  rw [(hh.1 k hk).1] at h; cases h
theorem rok_bad2 {xs : List Bs} {k : Nat} (hk : k < xs.length) (h0 : 0 < k) (h : bl (xs.getD (k - 1) []) (xs.getD k []) = false) : rvs xs = false := by
  rw [Bool.eq_false_iff]
  intro hh
  rw [rvs, Bool.and_eq_true, rok_iff] at hh
  rw [(hh.1 k hk).2 h0] at h; cases h
/-- texts that are short enough to count their letters -/
def Short (xs : List Bs) : Prop := ∀ x ∈ xs, x.length ≤ 2000000
theorem Short.at {xs : List Bs} (h : Short xs) (i : Nat) : (xs.getD i []).length ≤ 2000000 := by
  by_cases hi : i < xs.length
  · rw [getD_lt hi]; exact h _ (List.getElem_mem hi)
  · rw [List.getD, List.getElem?_eq_none (Nat.le_of_not_lt hi)]; exact Nat.zero_le _

end Go.Proofs.Ytopnomklfkkjfaa
