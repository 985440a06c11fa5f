/- What the reference's functions on sets of frames answer, the rest. -/
import Derived.Test.YtijgpimjmphaoaaBSpec
import Derived.Deep.RegionHeld
namespace Go.Proofs.Ytijgpimjmphaoaa
open Go.ChangeShapes Go.WideShapes Go.ChangeAt Go.RowKit
set_option linter.unusedVariables false

theorem cell_one_new (w : World) (v : Value) (t : TypeId) : ∀ j u, [v][j]? = some u → (w.alloc (.cells #[v] t)).cell? ((⟨w.heap.size, 0, none⟩ : Addr).add j) = some u := by
  intro j u hj
  rw [add0]
  have := cell_of_row (w.alloc (.cells #[v] t)) w.heap.size j _ t (0, 0) (heap_alloc_new w _)
  rw [this]
  simpa using hj
theorem bitsHas_any (w : World) (n f : Int) : Calls Try.prog 26 #[.int .i64 n, .int .i64 f] w fun e w' => e = .returned (.bool (bhas n f)) ∧ w = w' := by
  have HS := Lib.hid (l5Set_any w n)
  have HI := Lib.hid (l6In_any w f 0 11)
  have HH := Lib.hid (fun h1 h2 => l5Has_any w n f h1 h2)
  unfold bhas
  rw [show inR f 0 11 = bin f from rfl] at HI
  obtain ⟨b, hb⟩ : ∃ b, b = bset n := ⟨_, rfl⟩
  obtain ⟨c, hc⟩ : ∃ c, c = bin f := ⟨_, rfl⟩
  obtain ⟨d, hd⟩ : ∃ d, d = bbit n f := ⟨_, rfl⟩
  rw [← hb] at HS HH ⊢
  rw [← hc] at HI HH ⊢
  rw [← hd] at HH ⊢
  clear hb hc hd
  cases b
  · go_enter Try.func26, Try.ntmps26
    go_wp2_with fail
    refine HS.out.mono ?_
    rintro e w' ⟨rfl, rfl⟩
    go_wp2_with fail
    go_ret
    exact ⟨rfl, rfl⟩
  · cases c
    · go_enter Try.func26, Try.ntmps26
      go_wp2_with fail
      refine HS.out.mono ?_
      rintro e w' ⟨rfl, rfl⟩
      go_wp2_with fail
      refine HI.out.mono ?_
      rintro e w' ⟨rfl, rfl⟩
      go_wp2_with fail
      go_ret
      exact ⟨rfl, rfl⟩
    · go_enter Try.func26, Try.ntmps26
      go_wp2_with fail
      refine HS.out.mono ?_
      rintro e w' ⟨rfl, rfl⟩
      go_wp2_with fail
      refine HI.out.mono ?_
      rintro e w' ⟨rfl, rfl⟩
      go_wp2_with fail
      refine (HH.out (by trivial) (by trivial)).mono ?_
      rintro e w' ⟨rfl, rfl⟩
      go_wp2_with fail
      go_ret
      exact ⟨rfl, rfl⟩
set_option maxRecDepth 100000 in
theorem bitsList_any (w : World) (n : Int) : Calls Try.prog 22 #[.int .i64 n] w (NewI (blist n) w) := by
  obtain ⟨i0, hi, hz0, hz1, hz2⟩ := info_parts intInfo
  have HI := Lib.hid hi
  have HZ0 := Lib.hid hz0
  have HZ1 := Lib.hid hz1
  have HZ2 := Lib.hid hz2
  clear hi hz0 hz1 hz2
  have HS := Lib.hid (fun w => l5Set_any w n)
  have HH := Lib.hid (fun w (k : Nat) h1 h2 => l5Has_any w n k h1 h2)
  have HL := Lib.hid (fun h : bset n = true => show blist n = frm n.toNat.testBit 12 by unfold blist; rw [if_pos h])
  have HE := Lib.hid (fun h : bset n = false => show blist n = [] by unfold blist; rw [if_neg (by rw [h]; simp)])
  obtain ⟨b, hb⟩ : ∃ b, b = bset n := ⟨_, rfl⟩
  rw [← hb] at HS HH HL HE
  obtain ⟨R, hR⟩ : ∃ R, R = blist n := ⟨_, rfl⟩
  rw [← hR] at HL HE ⊢
  have HBIT := Lib.hid (fun k : Nat => show bbit n k = n.toNat.testBit k by unfold bbit; rw [Int.toNat_natCast])
  obtain ⟨P, hP⟩ : ∃ P, P = n.toNat.testBit := ⟨_, rfl⟩
  rw [← hP] at HL HBIT
  clear hb hR hP
  go_enter Try.func22, Try.ntmps22
  go_wp2
  go_loopw [3, 4] (fun u i wr => ∃ k : Nat, k ≤ 12 ∧ (b = true ∨ k = 0) ∧ i = .int .i64 k ∧ OwnI w u (frm P k) wr) (fun _ i _ => 12 - (intOf i).toNat)
  case atStart => exact ⟨0, Nat.zero_le _, .inr rfl, rfl, OwnI.start w⟩
  case round =>
    obtain ⟨k, hk, hbk, rfl, hrel⟩ := hrel
    by_cases hlt : k < 12
    · have hlt' : (k : Int) < 12 := by omega
      have HNL := Lib.hid (frm_len P k)
      have HSN := Lib.hid (frm_succ P k)
      have HREL := Lib.hid hrel
      clear hrel
      cases b with
      | false =>
        obtain rfl : k = 0 := by rcases hbk with h | h; cases h; exact h
        have HRE := HE.out (by trivial)
        subst HRE
        clear hbk hlt'
        go_wp2_with fail
        refine (HS.out _).mono ?_
        rintro e w' ⟨rfl, rfl⟩
        go_wp2_with fail
        go_ret
        exact ⟨_, rfl, HREL.out⟩
      | true =>
        have HC := Lib.hid (HH.out wr k (by trivial) (decide_eq_true (by omega)))
        rw [HBIT.out k] at HC
        clear hbk
        obtain ⟨c, hc⟩ : ∃ c, c = P k := ⟨_, rfl⟩
        rw [← hc] at HC HSN
        clear hc
        cases c with
        | true =>
          rw [if_pos rfl] at HSN
          go_wp2_with fail
          refine (HS.out _).mono ?_
          rintro e w' ⟨rfl, rfl⟩
          go_wp2_with fail
          refine HC.out.mono ?_
          rintro e w' ⟨rfl, rfl⟩
          go_wp2_with (at_builtin; refine wpList_append_own _ rfl (.tmp 17) (.tmp 19) 23 rfl w.heap.size 3 i0 (.int .i64 0) 1 8 Try.underlying23 HI.out HZ0.out HZ1.out HZ2.out rfl (by decide) _ _ _ rfl (HREL.out.own.alloc _) ⟨wr.heap.size, 0, none⟩ 1 1 [.int .i64 k] rfl rfl (cell_one_new _ _ _) (by intro u hu; simp at hu; subst hu; rfl) (by have := HNL.out; unfold maxLen; omega) (by have := HNL.out; omega) (by have := HREL.out.bel.size; simp; omega) ?_; intro v2 w2 hown2 hgrow2 hnn2)
          have HR2 : Hid (OwnI w v2 (frm P (k + 1)) w2) := Lib.hid (by
            rw [HSN.out]
            exact HREL.out.grow (zs := [(k : Int)]) rfl hown2 hgrow2 (fun e => (hnn2.1 e).1))
          clear hown2 hgrow2 hnn2
          go_wp2
          go_roundw
          case rel => exact ⟨k + 1, by omega, .inl (by trivial), by go_num, HR2.out⟩
          case measure => simp [intOf]; omega
        | false =>
          rw [if_neg (by simp), List.append_nil] at HSN
          have HR2 : Hid (OwnI w u3 (frm P (k + 1)) wr) := Lib.hid (by rw [HSN.out]; exact HREL.out)
          go_wp2_with fail
          refine (HS.out _).mono ?_
          rintro e w' ⟨rfl, rfl⟩
          go_wp2_with fail
          refine HC.out.mono ?_
          rintro e w' ⟨rfl, rfl⟩
          go_wp2_with fail
          go_roundw
          case rel => exact ⟨k + 1, by omega, .inl (by trivial), by go_num, HR2.out⟩
          case measure => simp [intOf]; omega
    · have hge : decide ((k : Int) < 12) = false := by simp; omega
      have e : k = 12 := by omega
      subst e
      have hbt : b = true := by rcases hbk with h | h; exact h; omega
      have HRE := HL.out hbt
      subst HRE
      have HREL := Lib.hid hrel
      clear hrel hbk hbt
      go_wp2_with fail
      go_ret
      exact ⟨_, rfl, HREL.out⟩
end Go.Proofs.Ytijgpimjmphaoaa
