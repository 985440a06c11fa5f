/- What the reference answers as the number of a list of frames. -/
import Derived.Test.YtijgpimjmphaoaaBSpec3
namespace Go.Proofs.Ytijgpimjmphaoaa
open Go.ChangeShapes Go.WideShapes Go.ChangeAt Go.RowKit
set_option linter.unusedVariables false

theorem not_bok_take {xs : List Int} {k : Nat} (hk : k < xs.length) (h : ¬ bok (xs.take k ++ [xs.getD k 0])) : ¬ bok xs := fun hh => h (by
  rw [← take_snoc_getD xs k 0 hk]
  exact bok_take hh)
set_option maxRecDepth 100000 in
theorem bitsOf_any (w : World) (v : Value) (xs : List Int) (h : Ints w v xs) :
    Calls Try.prog 18 #[v] w fun e w' => e = .returned (.tuple #[.int .i64 (bof xs).n, .bool (bof xs).b]) ∧ w = w' := by
  obtain ⟨a, ca, rfl, hla, hma, hxa⟩ := h
  unfold maxLen at hma
  obtain ⟨m, hm⟩ : ∃ m, m = xs.length := ⟨_, rfl⟩
  rw [← hm] at hla hxa ⊢
  have HM := Lib.hid hm
  clear hm
  obtain ⟨R, hR⟩ : ∃ R, R = bof xs := ⟨_, rfl⟩
  rw [← hR]
  have HR := Lib.hid hR
  clear hR
  go_enter Try.func18, Try.ntmps18
  go_wp2
  go_loopw [4, 5] (fun o i wr => ∃ k : Nat, k ≤ m ∧ i = .int .i64 k ∧ Hid (bok (xs.take k)) ∧ o = .int .i64 ((bnum (inSet (xs.take k)) 12 : Nat) : Int) ∧ wr = w) (fun _ i _ => m - (intOf i).toNat)
  case atStart => exact ⟨0, Nat.zero_le _, rfl, Lib.hid bok_nil, by rw [List.take_zero, show inSet [] = fun _ => false by funext i; simp [inSet], bnum_none]; rfl, rfl⟩
  case round =>
    obtain ⟨k, hk, rfl, HK, rfl, rfl⟩ := hrel
    by_cases hlt : k < m
    · obtain ⟨ba, oa, rfl, hca⟩ := hxa k hlt
      have hlt' : (k : Int) < (m : Int) := by omega
      have HT := Lib.hid (take_snoc_getD xs k 0 (by have := HM.out; omega))
      have HNO := Lib.hid (not_bok_take (xs := xs) (k := k) (by have := HM.out; omega))
      obtain ⟨x, hx⟩ : ∃ x, x = xs.getD k 0 := ⟨_, rfl⟩
      rw [← hx] at hca HT HNO
      clear hx hxa
      have HS := Lib.hid (fun h => bok_of_snoc (xs := xs.take k) (x := x) h)
      have HA := Lib.hid (fun h1 h2 => bok_snoc (xs := xs.take k) (x := x) HK.out h1 h2)
      have HI := Lib.hid (l6In_any wr x 0 11)
      rw [show inR x 0 11 = bin x from rfl] at HI
      have HSET := bnum_set (inSet (xs.take k))
      have hnlt := bnum_lt (inSet (xs.take k)) 12
      obtain ⟨N, hN⟩ : ∃ N, N = bnum (inSet (xs.take k)) 12 := ⟨_, rfl⟩
      rw [← hN] at HS HA HSET hnlt ⊢
      have HH := Lib.hid (fun h => l5Has_any wr N x HSET h)
      clear hN HSET
      by_cases hb : bin x = true
      · rw [hb] at HI
        have HC := Lib.hid (HH.out hb)
        clear HH
        have hx' := of_decide_eq_true hb
        obtain ⟨X, rfl⟩ := Int.eq_ofNat_of_zero_le hx'.1
        cases hc : bbit N X with
        | true =>
          rw [hc] at HC
          have HRE := Lib.hid (HR.out.trans (bof_no (HNO.out (fun hh => by have := (HS.out hh).2.2; rw [hc] at this; cases this))))
          clear HS HA hb hc hx'
          go_wp2_with fail
          refine HI.out.mono ?_
          rintro e w' ⟨rfl, rfl⟩
          go_wp2_with fail
          refine HC.out.mono ?_
          rintro e w' ⟨rfl, rfl⟩
          go_wp2_with fail
          go_ret2
          exact ⟨by rw [HRE.out]; rfl, rfl⟩
        | false =>
          rw [hc] at HC
          obtain ⟨hk2, hn2⟩ := HA.out hb hc
          rw [← HT.out] at hk2 hn2
          have HK2 := Lib.hid hk2
          have HN2 := Lib.hid hn2
          have HW := Lib.hid (l5Weight_any wr X (by omega))
          have hp : 2 ^ X ≤ 2 ^ 12 := Nat.pow_le_pow_right (by omega) (by omega)
          rw [Int.toNat_natCast] at HN2
          obtain ⟨Y, hY⟩ : ∃ Y : Nat, Y = 2 ^ X := ⟨_, rfl⟩
          rw [← hY] at HW HN2 hp
          have hw : IntKind.i64.wrap ((N : Int) + (Y : Int)) = (N : Int) + (Y : Int) := by rw [IntKind.wrap_i64]; omega
          clear HS HA hb hc hx' hk2 hn2 hY hp
          go_wp2_with fail
          refine HI.out.mono ?_
          rintro e w' ⟨rfl, rfl⟩
          go_wp2_with fail
          refine HC.out.mono ?_
          rintro e w' ⟨rfl, rfl⟩
          go_wp2_with fail
          refine HW.out.mono ?_
          rintro e w' ⟨rfl, rfl⟩
          go_wp2_with fail
          go_roundw
          case rel => exact ⟨k + 1, by omega, by go_num, HK2, by rw [HN2.out]; go_num, trivial⟩
          case measure => simp [intOf]; omega
      · have hb' : bin x = false := by simpa using hb
        rw [hb'] at HI
        have HRE := Lib.hid (HR.out.trans (bof_no (HNO.out (fun hh => hb (HS.out hh).2.1))))
        clear HS HA HH hb hb'
        go_wp2_with fail
        refine HI.out.mono ?_
        rintro e w' ⟨rfl, rfl⟩
        go_wp2_with fail
        go_ret2
        exact ⟨by rw [HRE.out]; rfl, rfl⟩
    · have ek : k = m := by omega
      subst ek
      have HRE := Lib.hid (HR.out.trans (bof_yes (by have := HK.out; rwa [take_all HM.out] at this)))
      rw [take_all HM.out]
      obtain ⟨N, hN⟩ : ∃ N, N = bnum (inSet xs) 12 := ⟨_, rfl⟩
      rw [← hN] at HRE ⊢
      clear hN
      go_wp2_with fail
      go_ret2
      exact ⟨by rw [HRE.out]; rfl, rfl⟩
end Go.Proofs.Ytijgpimjmphaoaa
