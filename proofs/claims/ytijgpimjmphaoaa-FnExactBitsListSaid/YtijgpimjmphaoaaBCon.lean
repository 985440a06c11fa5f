/- What the program's functions on sets of frames answer. -/
import Derived.Test.YtijgpimjmphaoaaBOps
namespace Go.Proofs.Ytijgpimjmphaoaa
open Go.ChangeShapes Go.WideShapes Go.ChangeAt Go.RowKit
set_option linter.unusedVariables false

/-- a new slice of numbers that may be nil; nothing that was there changes -/
structure OwnN (w : World) (v : Value) (ys : List Int) (w' : World) : Prop where
  own : w'.ownsRow w.heap.size 3 1 v ys.length (ys.map (.int .i64))
  bel : Below w.heap.size w w'
theorem OwnN.start (w : World) : OwnN w (.slice none 0 0) [] w := ⟨World.ownsRow_nil _ _ _ _, Below.refl _ _⟩
theorem OwnN.grow {w wr w2 : World} {v v2 : Value} {ys zs : List Int} {o : Obj} {n : Nat} (h : OwnN w v ys wr) (hn : n = ys.length + zs.length) (h2 : w2.ownsRow w.heap.size 3 1 v2 n (ys.map (.int .i64) ++ zs.map (.int .i64))) (hg : (wr.alloc o).grownBy w2 v.ownBlock) :
    OwnN w v2 (ys ++ zs) w2 := by
  subst hn
  exact ⟨by rw [List.length_append, List.map_append]; exact h2, (h.bel.alloc h.bel.size o).grown hg (by have := h.bel.size; simp; omega) (fun b hb => (h.own.lt b hb).1)⟩
theorem OwnN.row {w w' : World} {v : Value} {ys : List Int} (h : OwnN w v ys w') : IntsW w' w.heap.size w'.heap.size v ys := by
  rcases h.own.2 with ⟨rfl, hz⟩ | ⟨g, cap, cur, rfl, hb, hbl, hnc, hcm, hcs, htk⟩
  · have hz' : ys.length = 0 := hz
    exact ⟨none, 0, by rw [hz'], by omega, Nat.zero_le _, fun i hi => by omega⟩
  · refine ⟨some ⟨g, 0, none⟩, cap, rfl, hnc, hcm, fun i hi => ⟨g, 0, rfl, hb, (Array.getElem?_eq_some_iff.1 hbl).1, ?_, ?_⟩⟩
    · have := h.own.cells (g := g) rfl i (.int .i64 (ys.getD i 0)) (by rw [getD_lt hi]; simp)
      rw [add0] at this
      rw [Nat.zero_add]; exact this
    · simp [World.frozen?, hbl]

theorem below_any (w : World) (f k : Int) : Calls Try.prog 40 #[.int .i64 f, .int .i64 k] w fun e w' => e = .returned (.bool (decide (0 ≤ f ∧ f < k))) ∧ w = w' := by
  obtain ⟨b, hb⟩ : ∃ b, b = decide (0 ≤ f ∧ f < k) := ⟨_, rfl⟩
  rw [← hb]
  have HB := Lib.hid hb
  clear hb
  by_cases h0 : 0 ≤ f
  · by_cases h1 : f < k
    · have e : Hid (b = true) := Lib.hid (by rw [HB.out]; exact decide_eq_true ⟨h0, h1⟩)
      go_enter Try.func40, Try.ntmps40
      go_wp2
      go_ret
      exact ⟨by rw [e.out]; rfl, rfl⟩
    · have e : Hid (b = false) := Lib.hid (by rw [HB.out]; exact decide_eq_false (fun h => h1 h.2))
      have h1' : decide (f < k) = false := by simpa using h1
      clear h1
      go_enter Try.func40, Try.ntmps40
      go_wp2
      go_ret
      exact ⟨by rw [e.out]; rfl, rfl⟩
  · have e : Hid (b = false) := Lib.hid (by rw [HB.out]; exact decide_eq_false (fun h => h0 h.1))
    have h0' : decide (0 ≤ f) = false := by simpa using h0
    clear h0
    go_enter Try.func40, Try.ntmps40
    go_wp2
    go_ret
    exact ⟨by rw [e.out]; rfl, rfl⟩
theorem bset_below (n : Int) : decide (0 ≤ n ∧ n < 4096) = bset n := by unfold bset; congr 1; exact propext ⟨fun h => ⟨h.1, by omega⟩, fun h => ⟨h.1, by omega⟩⟩
theorem bin_below (n : Int) : decide (0 ≤ n ∧ n < 12) = bin n := by unfold bin; congr 1; exact propext ⟨fun h => ⟨h.1, by omega⟩, fun h => ⟨h.1, by omega⟩⟩
theorem setOf_any (w : World) (n : Int) : Calls Try.prog 46 #[.int .i64 n] w fun e w' => e = .returned (.tuple #[.int .i64 (if bset n = true then n else 0), .bool (bset n)]) ∧ w = w' := by
  have HB := below_any w n 4096
  rw [bset_below] at HB
  obtain ⟨b, hb⟩ : ∃ b, b = bset n := ⟨_, rfl⟩
  rw [← hb] at HB ⊢
  have HB := Lib.hid HB
  clear hb
  cases b
  · go_enter Try.func46, Try.ntmps46
    go_wp2_with fail
    refine HB.out.mono ?_
    rintro e w' ⟨rfl, rfl⟩
    go_wp2_with fail
    go_ret2
    exact ⟨rfl, rfl⟩
  · go_enter Try.func46, Try.ntmps46
    go_wp2_with fail
    refine HB.out.mono ?_
    rintro e w' ⟨rfl, rfl⟩
    go_wp2_with fail
    go_ret2
    exact ⟨rfl, rfl⟩
theorem has_any (w : World) (N F : Nat) (hN : N ≤ 4095) (hF : F < 12) : Calls Try.prog 41 #[.int .i64 N, .int .i64 F] w fun e w' => e = .returned (.bool (bbit N F)) ∧ w = w' := by
  have he := shr_bit (N := N) (F := F) (by omega)
  have hmin : min F 64 = F := by omega
  obtain ⟨b, hb⟩ : ∃ b, b = bbit N F := ⟨_, rfl⟩
  rw [← hb] at he ⊢
  clear hb
  go_enter Try.func41, Try.ntmps41
  go_wp2_with fail
  go_ret
  exact ⟨rfl, rfl⟩
theorem with_any (w : World) (N X : Nat) (hN : N < 2 ^ 12) (hX : X < 12) (hb : bbit N X = false) : Calls Try.prog 42 #[.int .i64 N, .int .i64 X] w fun e w' => e = .returned (.int .i64 ((N + 2 ^ X : Nat) : Int)) ∧ w = w' := by
  have hor := or_new hN hX hb
  have hpw : (2 : Nat) ^ X ≤ 2 ^ 12 := Nat.pow_le_pow_right (by omega) (by omega)
  have hw : wrap64 ((2 : Int) ^ X) = 2 ^ X := by
    rw [show ((2 : Int) ^ X) = ((2 ^ X : Nat) : Int) from by rw [Int.natCast_pow]; rfl]
    obtain ⟨Y, hY⟩ : ∃ Y, Y = (2 : Nat) ^ X := ⟨_, rfl⟩
    rw [← hY] at hpw ⊢
    exact wrap_small (by omega)
  clear hpw
  go_enter Try.func42, Try.ntmps42
  go_wp2_with fail
  go_ret
  exact ⟨by go_num, rfl⟩
theorem ijoin_any : IJoin := fun w a b => by
  have HA := Lib.hid (fun w => setOf_any w a)
  have HB := Lib.hid (fun w => setOf_any w b)
  cases ha : bset a
  · cases hb : bset b
    all_goals
      rw [ha] at HA
      rw [hb] at HB
      have he : Hid (bjoin a b = -1) := Lib.hid (by unfold bjoin; rw [ha]; rfl)
      clear ha hb
      go_enter Try.func28, Try.ntmps28
      go_wp2_with fail
      refine (HA.out _).mono ?_
      rintro e w' ⟨rfl, rfl⟩
      go_wp2_with fail
      refine (HB.out _).mono ?_
      rintro e w' ⟨rfl, rfl⟩
      go_wp2_with fail
      go_ret
      exact ⟨by rw [he.out]; rfl, Below.refl _ _⟩
  · cases hb : bset b
    · rw [ha] at HA
      rw [hb] at HB
      have he : Hid (bjoin a b = -1) := Lib.hid (by unfold bjoin; rw [ha, hb]; rfl)
      clear ha hb
      go_enter Try.func28, Try.ntmps28
      go_wp2_with fail
      refine (HA.out _).mono ?_
      rintro e w' ⟨rfl, rfl⟩
      go_wp2_with fail
      refine (HB.out _).mono ?_
      rintro e w' ⟨rfl, rfl⟩
      go_wp2_with fail
      go_ret
      exact ⟨by rw [he.out]; rfl, Below.refl _ _⟩
    · have he := or_set ha hb
      rw [ha, if_pos rfl] at HA
      rw [hb, if_pos rfl] at HB
      clear ha hb
      go_enter Try.func28, Try.ntmps28
      go_wp2_with fail
      refine (HA.out _).mono ?_
      rintro e w' ⟨rfl, rfl⟩
      go_wp2_with fail
      refine (HB.out _).mono ?_
      rintro e w' ⟨rfl, rfl⟩
      go_wp2_with fail
      go_ret
      exact ⟨by rw [← he]; rfl, Below.refl _ _⟩
theorem iwout_any : IWout := fun w a b => by
  have HA := Lib.hid (fun w => setOf_any w a)
  have HB := Lib.hid (fun w => setOf_any w b)
  cases ha : bset a
  · cases hb : bset b
    all_goals
      rw [ha] at HA
      rw [hb] at HB
      have he : Hid (bwout a b = -1) := Lib.hid (by unfold bwout; rw [ha]; rfl)
      clear ha hb
      go_enter Try.func31, Try.ntmps31
      go_wp2_with fail
      refine (HA.out _).mono ?_
      rintro e w' ⟨rfl, rfl⟩
      go_wp2_with fail
      refine (HB.out _).mono ?_
      rintro e w' ⟨rfl, rfl⟩
      go_wp2_with fail
      go_ret
      exact ⟨by rw [he.out]; rfl, Below.refl _ _⟩
  · cases hb : bset b
    · rw [ha] at HA
      rw [hb] at HB
      have he : Hid (bwout a b = -1) := Lib.hid (by unfold bwout; rw [ha, hb]; rfl)
      clear ha hb
      go_enter Try.func31, Try.ntmps31
      go_wp2_with fail
      refine (HA.out _).mono ?_
      rintro e w' ⟨rfl, rfl⟩
      go_wp2_with fail
      refine (HB.out _).mono ?_
      rintro e w' ⟨rfl, rfl⟩
      go_wp2_with fail
      go_ret
      exact ⟨by rw [he.out]; rfl, Below.refl _ _⟩
    · have he := andNot_set ha hb
      rw [ha, if_pos rfl] at HA
      rw [hb, if_pos rfl] at HB
      clear ha hb
      go_enter Try.func31, Try.ntmps31
      go_wp2_with fail
      refine (HA.out _).mono ?_
      rintro e w' ⟨rfl, rfl⟩
      go_wp2_with fail
      refine (HB.out _).mono ?_
      rintro e w' ⟨rfl, rfl⟩
      go_wp2_with fail
      go_ret
      exact ⟨by rw [← he]; rfl, Below.refl _ _⟩
theorem ihas_any : IHas := fun w n f => by
  have HA := Lib.hid (setOf_any w n)
  have HB := below_any w f 12
  rw [bin_below] at HB
  have HB := Lib.hid HB
  cases ha : bset n
  · have he : Hid (bhas n f = false) := Lib.hid (by unfold bhas; rw [ha]; rfl)
    rw [ha] at HA
    clear ha HB
    go_enter Try.func25, Try.ntmps25
    go_wp2_with fail
    refine HA.out.mono ?_
    rintro e w' ⟨rfl, rfl⟩
    go_wp2_with fail
    go_ret
    exact ⟨by rw [he.out]; rfl, Below.refl _ _⟩
  · cases hb : bin f
    · have he : Hid (bhas n f = false) := Lib.hid (by unfold bhas; rw [ha, hb]; rfl)
      rw [ha, if_pos rfl] at HA
      rw [hb] at HB
      clear ha hb
      go_enter Try.func25, Try.ntmps25
      go_wp2_with fail
      refine HA.out.mono ?_
      rintro e w' ⟨rfl, rfl⟩
      go_wp2_with fail
      refine HB.out.mono ?_
      rintro e w' ⟨rfl, rfl⟩
      go_wp2_with fail
      go_ret
      exact ⟨by rw [he.out]; rfl, Below.refl _ _⟩
    · have he : Hid (bhas n f = bbit n f) := Lib.hid (by unfold bhas; rw [ha, hb]; rfl)
      have hn := of_decide_eq_true ha
      have hf := of_decide_eq_true hb
      rw [ha, if_pos rfl] at HA
      rw [hb] at HB
      clear ha hb
      obtain ⟨N, rfl⟩ := Int.eq_ofNat_of_zero_le hn.1
      obtain ⟨F, rfl⟩ := Int.eq_ofNat_of_zero_le hf.1
      have HC := Lib.hid (has_any w N F (by omega) (by omega))
      clear hn hf
      go_enter Try.func25, Try.ntmps25
      go_wp2_with fail
      refine HA.out.mono ?_
      rintro e w' ⟨rfl, rfl⟩
      go_wp2_with fail
      refine HB.out.mono ?_
      rintro e w' ⟨rfl, rfl⟩
      go_wp2_with fail
      refine HC.out.mono ?_
      rintro e w' ⟨rfl, rfl⟩
      go_wp2_with fail
      go_ret
      exact ⟨by rw [he.out]; rfl, Below.refl _ _⟩
set_option maxRecDepth 100000 in
theorem frames_any (w : World) (N : Nat) (hN : N ≤ 4095) : Calls Try.prog 47 #[.int .i64 N] w (NewR (frm N.testBit 12) w) := by
  obtain ⟨i0, hi, hz0, hz1, hz2⟩ := info_parts intInfo
  have HI := Lib.hid hi
  have HZ0 := Lib.hid hz0
  have HZ1 := Lib.hid hz1
  have HZ2 := Lib.hid hz2
  clear hi hz0 hz1 hz2
  have HH := Lib.hid (fun w (k : Nat) hk => has_any w N k hN hk)
  have HBIT := Lib.hid (fun k : Nat => show bbit N k = N.testBit k by unfold bbit; rw [Int.toNat_natCast, Int.toNat_natCast])
  obtain ⟨P, hP⟩ : ∃ P, P = N.testBit := ⟨_, rfl⟩
  rw [← hP] at HBIT ⊢
  clear hP
  go_enter Try.func47, Try.ntmps47
  go_wp2
  go_loopw [3, 5] (fun u i wr => ∃ k : Nat, k ≤ 12 ∧ i = .int .i64 k ∧ OwnN w u (frm P k) wr) (fun _ i _ => 12 - (intOf i).toNat)
  case atStart => exact ⟨0, Nat.zero_le _, rfl, OwnN.start w⟩
  case round =>
    obtain ⟨k, hk, rfl, hrel⟩ := hrel
    by_cases hlt : k < 12
    · have hlt' : (k : Int) < 12 := by omega
      have HNL := Lib.hid (frm_len P k)
      have HSN := Lib.hid (frm_succ P k)
      have HREL := Lib.hid hrel
      clear hrel
      have HC := Lib.hid (HH.out wr k hlt)
      rw [HBIT.out k] at HC
      obtain ⟨c, hc⟩ : ∃ c, c = P k := ⟨_, rfl⟩
      rw [← hc] at HC HSN
      clear hc
      cases c with
      | true =>
        rw [if_pos rfl] at HSN
        go_wp2_with fail
        refine HC.out.mono ?_
        rintro e w' ⟨rfl, rfl⟩
        go_wp2_with (at_builtin; refine wpList_append_own _ rfl (.tmp 11) (.tmp 13) 23 rfl w.heap.size 3 i0 (.int .i64 0) 1 8 Try.underlying23 HI.out HZ0.out HZ1.out HZ2.out rfl (by decide) _ _ _ rfl (HREL.out.own.alloc _) ⟨wr.heap.size, 0, none⟩ 1 1 [.int .i64 k] rfl rfl (cell_one_new _ _ _) (by intro u hu; simp at hu; subst hu; rfl) (by have := HNL.out; unfold maxLen; omega) (by have := HNL.out; omega) (by have := HREL.out.bel.size; simp; omega) ?_; intro v2 w2 hown2 hgrow2 hnn2)
        have HR2 : Hid (OwnN w v2 (frm P (k + 1)) w2) := Lib.hid (by
          rw [HSN.out]
          exact HREL.out.grow (zs := [(k : Int)]) rfl hown2 hgrow2)
        clear hown2 hgrow2 hnn2
        go_wp2
        go_roundw
        case rel => exact ⟨k + 1, by omega, by go_num, HR2.out⟩
        case measure => simp [intOf]; omega
      | false =>
        rw [if_neg (by simp), List.append_nil] at HSN
        have HR2 : Hid (OwnN w u3 (frm P (k + 1)) wr) := Lib.hid (by rw [HSN.out]; exact HREL.out)
        go_wp2_with fail
        refine HC.out.mono ?_
        rintro e w' ⟨rfl, rfl⟩
        go_wp2_with fail
        go_roundw
        case rel => exact ⟨k + 1, by omega, by go_num, HR2.out⟩
        case measure => simp [intOf]; omega
    · have hge : decide ((k : Int) < 12) = false := by simp; omega
      have e : k = 12 := by omega
      subst e
      have HREL := Lib.hid hrel
      clear hrel
      go_wp2_with fail
      go_ret
      exact ⟨_, rfl, HREL.out.row, HREL.out.bel⟩
theorem ilist_any : IList := fun w n => by
  have HA := Lib.hid (setOf_any w n)
  cases ha : bset n
  · have he : Hid (blist n = []) := Lib.hid (by unfold blist; rw [if_neg (by rw [ha]; simp)])
    rw [ha] at HA
    clear ha
    go_enter Try.func19, Try.ntmps19
    go_wp2_with fail
    refine HA.out.mono ?_
    rintro e w' ⟨rfl, rfl⟩
    go_wp2_with fail
    go_ret
    rw [he.out]
    exact ⟨_, rfl, (OwnN.start w).row, Below.refl _ _⟩
  · have he : Hid (blist n = frm n.toNat.testBit 12) := Lib.hid (by unfold blist; rw [if_pos ha])
    have hn := of_decide_eq_true ha
    rw [ha, if_pos rfl] at HA
    clear ha
    obtain ⟨N, rfl⟩ := Int.eq_ofNat_of_zero_le hn.1
    have HF := Lib.hid (frames_any w N (by omega))
    rw [Int.toNat_natCast] at he
    clear hn
    go_enter Try.func19, Try.ntmps19
    go_wp2_with fail
    refine HA.out.mono ?_
    rintro e w' ⟨rfl, rfl⟩
    go_wp2_with fail
    refine HF.out.mono ?_
    rintro e w2 ⟨v, rfl, h1, h2⟩
    have H1 := Lib.hid h1
    have H2 := Lib.hid h2
    clear h1 h2
    go_wp2_with fail
    go_ret
    rw [he.out]
    exact ⟨_, rfl, H1.out, H2.out⟩
theorem iof_any : IOf := fun w v xs h => by
  obtain ⟨a, ca, rfl, hla, hma, hxa⟩ := h
  unfold maxLen at hma
  obtain ⟨m, hm⟩ : ∃ m, m = xs.length := ⟨_, rfl⟩
  rw [← hm] at hla hxa ⊢
  have HM := Lib.hid hm
  clear hm
  go_enter Try.func17, Try.ntmps17
  go_wp2
  go_loopw [4, 6, 9] (fun o f i wr => ∃ k : Nat, k ≤ m ∧ i = .int .i64 k ∧ Hid (bok (xs.take k)) ∧ o = .int .i64 ((bnum (inSet (xs.take k)) 12 : Nat) : Int) ∧ wr = w) (fun _ _ i _ => m - (intOf i).toNat)
  case atStart => exact ⟨0, Nat.zero_le _, rfl, Lib.hid bok_nil, by rw [List.take_zero, show inSet [] = fun _ => false by funext i; simp [inSet], bnum_none]; rfl, rfl⟩
  case round =>
    obtain ⟨k, hk, rfl, HK, rfl, rfl⟩ := hrel
    by_cases hlt : k < m
    · obtain ⟨ba, oa, rfl, hca⟩ := hxa k hlt
      have hlt' : (k : Int) < (m : Int) := by omega
      have HT := Lib.hid (take_snoc_getD xs k 0 (by have := HM.out; omega))
      have HNO := Lib.hid (not_bok_take (xs := xs) (k := k) (by have := HM.out; omega))
      obtain ⟨x, hx⟩ : ∃ x, x = xs.getD k 0 := ⟨_, rfl⟩
      rw [← hx] at hca HT HNO
      clear hx hxa
      have HS := Lib.hid (fun h => bok_of_snoc (xs := xs.take k) (x := x) h)
      have HA := Lib.hid (fun h1 h2 => bok_snoc (xs := xs.take k) (x := x) HK.out h1 h2)
      have HI := below_any wr x 12
      rw [bin_below] at HI
      have HI := Lib.hid HI
      have hnlt := bnum_lt (inSet (xs.take k)) 12
      obtain ⟨N, hN⟩ : ∃ N, N = bnum (inSet (xs.take k)) 12 := ⟨_, rfl⟩
      rw [← hN] at HS HA hnlt ⊢
      clear hN
      by_cases hb : bin x = true
      · rw [hb] at HI
        have hx' := of_decide_eq_true hb
        obtain ⟨X, rfl⟩ := Int.eq_ofNat_of_zero_le hx'.1
        have HH := Lib.hid (has_any wr N X (by omega) (by omega))
        cases hc : bbit N X with
        | true =>
          rw [hc] at HH
          have HRE := Lib.hid (bof_no (HNO.out (fun hh => by have := (HS.out hh).2.2; rw [hc] at this; cases this)))
          clear HS HA hb hc hx' hnlt
          go_wp2_with fail
          refine HI.out.mono ?_
          rintro e w' ⟨rfl, rfl⟩
          go_wp2_with fail
          refine HH.out.mono ?_
          rintro e w' ⟨rfl, rfl⟩
          go_wp2_with fail
          go_ret2
          exact ⟨by rw [HRE.out]; rfl, Below.refl _ _⟩
        | false =>
          rw [hc] at HH
          obtain ⟨hk2, hn2⟩ := HA.out hb hc
          rw [← HT.out] at hk2 hn2
          have HK2 := Lib.hid hk2
          have HN2 := Lib.hid hn2
          rw [Int.toNat_natCast] at HN2
          have HW := Lib.hid (with_any wr N X hnlt (by omega) hc)
          clear HS HA hb hc hk2 hn2 hnlt hx'
          go_wp2_with fail
          refine HI.out.mono ?_
          rintro e w' ⟨rfl, rfl⟩
          go_wp2_with fail
          refine HH.out.mono ?_
          rintro e w' ⟨rfl, rfl⟩
          go_wp2_with fail
          refine HW.out.mono ?_
          rintro e w' ⟨rfl, rfl⟩
          go_wp2_with fail
          go_roundw
          case rel => exact ⟨k + 1, by omega, by go_num, HK2, by rw [HN2.out]; rfl, trivial⟩
          case measure => simp [intOf]; omega
      · have hb' : bin x = false := by simpa using hb
        rw [hb'] at HI
        have HRE := Lib.hid (bof_no (HNO.out (fun hh => hb (HS.out hh).2.1)))
        clear HS HA hb hb' hnlt
        go_wp2_with fail
        refine HI.out.mono ?_
        rintro e w' ⟨rfl, rfl⟩
        go_wp2_with fail
        go_ret2
        exact ⟨by rw [HRE.out]; rfl, Below.refl _ _⟩
    · have ek : k = m := by omega
      subst ek
      have HRE := Lib.hid (bof_yes (by have := HK.out; rwa [take_all HM.out] at this))
      rw [take_all HM.out]
      obtain ⟨N, hN⟩ : ∃ N, N = bnum (inSet xs) 12 := ⟨_, rfl⟩
      rw [← hN] at HRE ⊢
      clear hN
      go_wp2_with fail
      go_ret2
      exact ⟨by rw [HRE.out]; rfl, Below.refl _ _⟩
end Go.Proofs.Ytijgpimjmphaoaa
