/- What the proofs stand on, part 50. -/
import Derived.Test.YtfnmnegddhggaaaRows
import Derived.Test.YtfnmnegddhggaaaT1
import Derived.Test.YtfnmnegddhggaaaT2
import Derived.Test.YtfnmnegddhggaaaT3
import Derived.Test.YtfnmnegddhggaaaT4
import Derived.Test.YtfnmnegddhggaaaT5
import Derived.Test.YtfnmnegddhggaaaT6
import Derived.Test.YtfnmnegddhggaaaT8
import Derived.Test.YtfnmnegddhggaaaT9
import Derived.Test.YtfnmnegddhggaaaT10
import Derived.Test.YtfnmnegddhggaaaT11
import Derived.Test.YtfnmnegddhggaaaT12
import Derived.Test.YtfnmnegddhggaaaT13
import Derived.Test.YtfnmnegddhggaaaT14
import Derived.Test.YtfnmnegddhggaaaT19
import Derived.Test.YtfnmnegddhggaaaT20
import Derived.Test.YtfnmnegddhggaaaT21
import Derived.Test.YtfnmnegddhggaaaT24
import Derived.Test.YtfnmnegddhggaaaT29
import Derived.Test.YtfnmnegddhggaaaT30
import Derived.Test.YtfnmnegddhggaaaT34
import Derived.Test.YtfnmnegddhggaaaT35
import Derived.Test.YtfnmnegddhggaaaT36
set_option linter.unusedSimpArgs false
set_option linter.unusedVariables false
namespace Go.Proofs.Ytfnmnegddhggaaa
open Go.ChangeShapes Go.WideShapes Go.ChangeAt Go.RowKit
set_option linter.unusedVariables false
set_option linter.unusedSimpArgs false
theorem drawTraceSpans_any (W : World) (a : Option Addr) (len cap : Nat) (zs : List Int) (hr : Row .u8 W a len cap zs) :
    Calls Try.prog 18 #[.slice a len cap] W (DT0 W) := by
  go_enter Try.func18, Try.ntmps18
  go_wp2_with fail
  refine (open_any W a len cap zs hr).mono ?_
  clear hr
  rintro e w1 ⟨rfl, hR1⟩
  go_wp2_with fail
  refine (trace_any W _ _ _ hR1 (by omega)).mono ?_
  rintro e w2 ⟨v, ys, rfl, hl, h⟩
  have HD := Lib.hid (DTr.of h hl)
  clear h hR1 hl
  go_wp2_with fail
  go_ret
  exact ⟨_, ys, rfl, HD.out⟩
end Go.Proofs.Ytfnmnegddhggaaa
namespace Go.Proofs.Ytfnmnegddhggaaa
open Go.ChangeShapes Go.WideShapes Go.ChangeAt Go.RowKit
set_option linter.unusedVariables false
theorem sameInts_any (w : World) (va vb : Value) (xs ys : List Int) (ha : Ints w va xs) (hb : Ints w vb ys) :
    Calls Try.prog 21 #[va, vb] w (Reads (.bool (decide (xs = ys))) w) := by
  obtain ⟨a, ca, rfl, hla, hma, hxa⟩ := ha
  obtain ⟨b, cb, rfl, hlb, hmb, hxb⟩ := hb
  unfold maxLen at hma hmb
  by_cases hl : xs.length = ys.length
  · obtain ⟨n, hn⟩ : ∃ n, n = xs.length := ⟨_, rfl⟩
    have hn2 : ys.length = n := by omega
    rw [← hn] at hla hxa ⊢
    rw [hn2] at hlb hxb ⊢
    have HN := Lib.hid hn
    have HN2 := Lib.hid hn2
    clear hn hn2 hl
    go_enter Try.func21, Try.ntmps21
    go_wp2
    go_loopw [5] (fun i wr => ∃ k d : Nat, k ≤ n ∧ i = .int .i64 k ∧ Hid (xs.take k = ys.take k) ∧ wr = w.drewN d) (fun i _ => n - (intOf i).toNat)
    case atStart => exact ⟨0, 0, Nat.zero_le _, rfl, Lib.hid rfl, rfl⟩
    case round =>
      obtain ⟨k, d, hk, rfl, HT, rfl⟩ := hrel
      by_cases hlt : k < n
      · obtain ⟨ba, oa, rfl, hca⟩ := hxa k hlt
        obtain ⟨bb, ob, rfl, hcb⟩ := hxb k hlt
        generalize hx : xs.getD k 0 = x at hca
        generalize hy : ys.getD k 0 = y at hcb
        have HX := Lib.hid hx
        have HY := Lib.hid hy
        clear hx hy hxa hxb
        have hlt' : (k : Int) < (n : Int) := by omega
        by_cases he : x = y
        · subst he
          go_wp2_with fail
          go_quiet (fail)
          go_wp2
          go_roundw
          case rel => exact ⟨k + 1, _, by omega, by go_num, Lib.hid (take_eq_succ (d := 0) (HN.out.symm.trans HN2.out.symm) (by have := HN.out; omega) HT.out (HX.out.trans HY.out.symm)), rfl⟩
          case measure => simp [intOf]; omega
        · have hne : (x != y) = true := by simpa using he
          have HE : Hid (¬ x = y) := Lib.hid he
          clear he
          go_wp2_with fail
          go_quiet (fail)
          go_wp2
          go_ret
          exact reads_mk2 (by symm; exact decide_eq_false (ne_of_getD (d := 0) (k := k) (fun h => HE.out (HX.out.symm.trans (h.trans HY.out)))))
      · go_wp2
        go_ret
        exact reads_mk (by symm; exact decide_eq_true (eq_of_take (HN.out.symm.trans HN2.out.symm) (by have := HN.out; omega) HT.out))
  · have hne : ((xs.length : Int) != (ys.length : Int)) = true := by simp; omega
    have HL := Lib.hid hl
    clear hl
    go_enter Try.func21, Try.ntmps21
    go_wp2
    go_ret
    exact reads_mk0 (by symm; exact decide_eq_false (fun h => HL.out (by rw [h])))
end Go.Proofs.Ytfnmnegddhggaaa
namespace Go.Proofs.Ytfnmnegddhggaaa
open Go.ChangeShapes Go.WideShapes Go.ChangeAt Go.RowKit
set_option linter.unusedVariables false
set_option linter.unusedSimpArgs false
theorem bel_drewN {S : Nat} {W w : World} (h : Below S W w) (d : Nat) : Below S W (w.drewN d) := ⟨h.os, h.tape, h.output, h.size, h.block⟩
def Lst (xs : List Int) (i m : Nat) (l : Int) : Prop := (l = -1 ∧ ∀ k, k < m → xs.getD k 0 ≠ xs.getD i 0) ∨ ∃ p : Nat, l = (p : Int) ∧ p < m ∧ xs.getD p 0 = xs.getD i 0 ∧ ∀ k, p < k → k < m → xs.getD k 0 ≠ xs.getD i 0
theorem lst_same {xs : List Int} {i m : Nat} (h : xs.getD m 0 = xs.getD i 0) : Lst xs i (m + 1) (m : Int) := .inr ⟨m, rfl, Nat.lt_succ_self m, h, fun k h1 h2 => by omega⟩
theorem lst_other {xs : List Int} {i m : Nat} {l : Int} (h : xs.getD m 0 ≠ xs.getD i 0) (hl : Lst xs i m l) : Lst xs i (m + 1) l := by
  rcases hl with ⟨h1, h2⟩ | ⟨p, h1, h2, h3, h4⟩
  · refine .inl ⟨h1, fun k hk => ?_⟩
    by_cases hkm : k = m
    · rw [hkm]; exact h
    · exact h2 k (by omega)
  · refine .inr ⟨p, h1, by omega, h3, fun k hk1 hk2 => ?_⟩
    by_cases hkm : k = m
    · rw [hkm]; exact h
    · exact h4 k hk1 (by omega)
theorem spn_none {xs : List Int} {i : Nat} (h : ∀ k, k < i → xs.getD k 0 ≠ xs.getD i 0) : spn xs i = -1 := by
  have : bfi xs i = i := bfi_none (fun j hj => h _ (by omega))
  rw [spn, if_neg (by omega)]
theorem spn_some {xs : List Int} {i p : Nat} (hi : i ≤ xs.length) (hp : p < i) (he : xs.getD p 0 = xs.getD i 0) (h : ∀ k, p < k → k < i → xs.getD k 0 ≠ xs.getD i 0) : spn xs i = ((rcp ((xs.take i).drop (p + 1))).length : Nat) := by
  have hb : bfi xs i = i - 1 - p := bfi_first (by omega) (fun j hj => h _ (by omega) (by omega)) (by rw [show i - 1 - (i - 1 - p) = p by omega]; exact he)
  rw [spn, if_pos (by omega), hb]
  congr 1
  refine rcp_count (seen_nodup xs i _) (fun y => ?_)
  rw [seen_mem, List.mem_iff_getElem]
  constructor
  · rintro ⟨j, hj, e⟩
    refine ⟨i - 1 - j - (p + 1), by rw [List.length_drop, List.length_take]; omega, ?_⟩
    rw [List.getElem_drop, List.getElem_take, ← e, getD_lt (show i - 1 - j < xs.length by omega)]
    congr 1
    omega
  · rintro ⟨j, hj, e⟩
    rw [List.length_drop, List.length_take] at hj
    refine ⟨i - 1 - (p + 1 + j), by omega, ?_⟩
    rw [List.getElem_drop, List.getElem_take] at e
    rw [show i - 1 - (i - 1 - (p + 1 + j)) = p + 1 + j by omega, getD_lt (show p + 1 + j < xs.length by omega)]
    exact e
theorem slice_mid {w : World} {v : Value} {xs : List Int} (h : Ints w v xs) (k m : Nat) (hk : k ≤ m) (hm : m ≤ xs.length) (u t : Int) (hu : u = (k : Int)) (ht : t = (m : Int)) :
    ∃ v', (∀ W : World, (Instr.sliceAt 23 v (some (.int .i64 u)) (some (.int .i64 t)) none).run Try.prog W = .ok v' W) ∧ ∀ w', Ints w' v xs → Ints w' v' ((xs.take m).drop k) := by
  subst hu
  subst ht
  obtain ⟨a, c, rfl, h1, h2, h3⟩ := h
  have hk1 : (0 : Int) ≤ (k : Int) ∧ (k : Int) ≤ (m : Int) := by omega
  have hm1 : (0 : Int) ≤ (m : Int) ∧ (m : Int) ≤ (c : Int) := by omega
  refine ⟨.slice (if c = k then a else a.map (·.add k)) (m - k) (c - k), fun W => ?_, fun w' hw => ?_⟩
  · unfold Instr.sliceAt
    simp only [Sem.run_bind, run_underlying Try.underlying23, Result.andThen_ok]
    unfold Instr.slice
    simp only [Sem.run_bind, run_underlying Try.underlying23, Result.andThen_ok, Instr.sliceBounds, Instr.sliceBound, asIntOf, Sem.run_pure, if_pos hm1, if_pos hk1, Int.toNat_natCast, Try.sizeOf3, Nat.mul_one]
  · obtain ⟨a', c', e, q1, q2, q3⟩ := hw
    injection e with e1 e2 e3
    subst e1
    subst e3
    have hl : ((xs.take m).drop k).length = m - k := by rw [List.length_drop, List.length_take]; omega
    refine ⟨_, _, by rw [hl], by rw [hl]; omega, by omega, fun i hi => ?_⟩
    rw [hl] at hi
    obtain ⟨b, o, rfl, hc⟩ := q3 (k + i) (by omega)
    refine ⟨b, o + k, ?_, ?_⟩
    · rw [if_neg (by omega)]
      simp [Addr.add_mid]
    · rw [drop_get, Nat.add_assoc, hc, List.getD_eq_getElem?_getD, List.getD_eq_getElem?_getD, List.getElem?_take, if_pos (by omega)]
set_option maxRecDepth 100000 in
set_option maxHeartbeats 2000000 in
theorem spans_walk (ctv : CTV) (cts : CTS) (cff : CFF) (cfl : CFL) (cfb : CFB) (W : World) (a : Option Addr) (len cap : Nat) (zs : List Int) (hr : Row .u8 W a len cap zs) :
    Calls Try.prog 3 #[.slice a len cap] W fun e w' => e = .returned (.bool true) ∧ Below W.heap.size W w' := by
  have hm := row_len hr
  by_cases hL : 1048576 < len
  · have hL1 : (1048576 : Int) < (len : Int) := by omega
    clear hr
    go_enter Try.func3, Try.ntmps3
    go_wp2_with fail
    go_ret
    exact ⟨rfl, Below.refl _ _⟩
  have hL1 : decide ((1048576 : Int) < (len : Int)) = false := by simp; omega
  have hL2 : decide (1048576 < len) = false := by simp; omega
  go_enter Try.func3, Try.ntmps3
  go_wp2_with fail
  refine (drawTraceSpans_any W a len cap zs hr).mono ?_
  clear hr
  rintro e w1 ⟨v, ys, rfl, hd⟩
  have B1 := Lib.hid hd.bel
  have R1 := Lib.hid hd.ints
  have hl25 := hd.len
  obtain ⟨g, c, hv⟩ := hd.form
  clear hd
  subst hv
  have CS := Lib.hid (fun (w : World) (h : Ints w (.slice (some ⟨g, 0, none⟩) ys.length c) ys) => cts w _ ys h)
  have SS := Lib.hid (fun (w : World) (h : Ints w (.slice (some ⟨g, 0, none⟩) ys.length c) ys) => sTraceSpans_any w _ ys h)
  have SV := Lib.hid (fun (w : World) (h : Ints w (.slice (some ⟨g, 0, none⟩) ys.length c) ys) => sTraceValid_any w _ ys h)
  have HYN : Hid (ys.length ≤ 25) := Lib.hid hl25
  obtain ⟨n, hn⟩ : ∃ n, n = ys.length := ⟨_, rfl⟩
  rw [← hn] at hl25 R1 CS SS SV ⊢
  have HN := Lib.hid hn
  clear hn
  have HSE : Hid (trOk ys = true → spans ys = spansN ys ys.length) := Lib.hid (fun h => by rw [spans, if_pos h])
  obtain ⟨zs, hzs⟩ : ∃ zs, zs = spans ys := ⟨_, rfl⟩
  rw [← hzs] at CS SS HSE
  clear hzs
  generalize trOk ys = t at SV HSE
  rw [← HN.out] at HSE
  go_wp2_with fail
  refine (CS.out w1 R1.out).mono ?_
  rintro e w2 ⟨v2, rfl, hw2, hb2⟩
  have B2 := Lib.hid (B1.out.trans (hb2.mono B1.out.size))
  have R2 := Lib.hid (Ints.below (B := 0) R1.out hb2)
  have O2 := Lib.hid hw2.ints
  clear hw2 hb2 CS
  go_wp2_with fail
  refine (SS.out w2 R2.out).mono ?_
  rintro e w3 ⟨v3, rfl, hw3, hb3⟩
  have B3 := Lib.hid (B2.out.trans (hb3.mono B2.out.size))
  have R3 := Lib.hid (Ints.below (B := 0) R2.out hb3)
  have O3 := Lib.hid (Ints.below (B := 0) O2.out hb3)
  have P3 := Lib.hid hw3.ints
  clear hw3 hb3 SS
  have HSM := Lib.hid (fun w (h1 : Ints w v2 zs) (h2 : Ints w v3 zs) => sameInts_any w v2 v3 zs zs h1 h2)
  rw [decide_eq_true (rfl : zs = zs)] at HSM
  go_wp2_with fail
  refine (HSM.out w3 O3.out P3.out).mono ?_
  rintro e w4 ⟨rfl, dq, rfl⟩
  have B4 : Hid (Below W.heap.size W (w3.drewN dq)) := Lib.hid (bel_drewN B3.out dq)
  have R4 := Lib.hid (Ints.below (B := 0) R3.out (bel_drewN (Below.refl _ _) dq))
  have O4 := Lib.hid (Ints.below (B := 0) O3.out (bel_drewN (Below.refl _ _) dq))
  have P4 := Lib.hid (Ints.below (B := 0) P3.out (bel_drewN (Below.refl _ _) dq))
  generalize w3.drewN dq = w5 at B4 R4 O4 P4 ⊢
  go_wp2_with fail
  refine (SV.out w5 R4.out).mono ?_
  rintro e w' ⟨rfl, rfl⟩
  cases t with
  | false =>
    go_wp2_with fail
    refine (HSM.out w5 O4.out P4.out).mono ?_
    rintro e w6 ⟨rfl, dq, rfl⟩
    go_wp2_with fail
    go_ret
    exact ⟨rfl, bel_drewN B4.out dq⟩
  | true =>
    have hzs := HSE.out rfl
    subst hzs
    obtain ⟨a2, c2, rfl, q1, q2, q3⟩ := O4.out
    rw [spansN_len] at q1 q3 ⊢
    have O5 : Hid (Ints w5 (.slice a2 n c2) (spansN ys n)) := Lib.hid ⟨a2, c2, by rw [spansN_len], by rw [spansN_len]; exact q1, q2, by rw [spansN_len]; exact q3⟩
    unfold maxLen at q2
    clear q3 HSE HSM SV O2 O3 O4 P3 P4 R1 R2 R3 B1 B2 B3
    go_wp2_with fail
    go_loopw [6] (fun ii wr => ∃ i : Nat, i ≤ n ∧ ii = .int .i64 i ∧ Hid (Below w5.heap.size w5 wr)) (fun ii _ => n - (intOf ii).toNat)
    case atStart => exact ⟨0, Nat.zero_le _, rfl, Lib.hid (Below.refl _ _)⟩
    case round =>
      obtain ⟨i, hi, rfl, HX⟩ := hrel
      by_cases hlt : i < n
      · have hlt1 : (i : Int) < (n : Int) := by omega
        go_wp2_with fail
        go_loopw [7, 8] (fun l kk wq => ∃ (m : Nat) (lz : Int), m ≤ i ∧ kk = .int .i64 m ∧ l = .int .i64 lz ∧ Hid (Lst ys i m lz) ∧ Hid (Below w5.heap.size w5 wq)) (fun _ kk _ => i - (intOf kk).toNat)
        case atStart => exact ⟨0, -1, Nat.zero_le _, rfl, rfl, Lib.hid (.inl ⟨rfl, fun k hk => by omega⟩), HX⟩
        case round =>
          obtain ⟨m, lz, hm, rfl, rfl, HLS, HY⟩ := hrel
          have RR := Lib.hid (Ints.below (B := 0) R4.out HY.out)
          by_cases hlm : m < i
          · have hlm1 : (m : Int) < (i : Int) := by omega
            have hmn : (m : Int) < (n : Int) := by omega
            have c1 := ints_cell RR.out (show m < n by omega)
            have d2 := ints_cell RR.out hlt
            by_cases he : ys.getD m 0 = ys.getD i 0
            · have HE := Lib.hid (lst_same he)
              rw [he] at c1
              generalize ys.getD i 0 = x at c1 d2
              clear he
              go_wp2_with fail
              go_quiet (fail)
              go_wp2
              go_roundw
              case rel => exact ⟨m + 1, (m : Int), by omega, by go_num, rfl, HE, Lib.hid (HY.out.trans (Below.mono (by first | exact Below.drew (Below.refl _ _) | exact bel_drewN (Below.refl _ _) _) HY.out.size))⟩
              case measure => simp [intOf]; omega
            · have HE := Lib.hid (lst_other he HLS.out)
              have hne : (ys.getD m 0 == ys.getD i 0) = false := by simpa using he
              generalize ys.getD i 0 = x at c1 d2 hne
              generalize ys.getD m 0 = y at c1 hne
              clear he
              go_wp2_with fail
              go_quiet (fail)
              go_wp2
              go_roundw
              case rel => exact ⟨m + 1, lz, by omega, by go_num, rfl, HE, Lib.hid (HY.out.trans (Below.mono (by first | exact Below.drew (Below.refl _ _) | exact bel_drewN (Below.refl _ _) _) HY.out.size))⟩
              case measure => simp [intOf]; omega
          · obtain rfl : m = i := by omega
            have OO := Lib.hid (Ints.below (B := 0) O5.out HY.out)
            obtain ⟨a3, c3, e3, _, _, q3⟩ := OO.out
            have e31 : Value.slice a2 n c2 = .slice a3 (spansN ys n).length c3 := e3
            injection e31 with e31 e32 e33
            subst e31
            obtain ⟨b2, o2, rfl, hcell⟩ := q3 m (by rw [spansN_len]; exact hlt)
            rw [spansN_get ys n m hlt] at hcell
            clear q3 e3 e32 e33
            rcases HLS.out with ⟨rfl, hno⟩ | ⟨p, rfl, hp, hpe, hpn⟩
            · rw [spn_none hno] at hcell
              clear hno
              go_wp2_with fail
              refine wp_region_held_drew (S := fun w' => w'.cell? ⟨b2, o2 + m, none⟩ = some (.int .i64 (-1))) (by kernel_rfl) hcell (fun hHeld => ?_)
              refine wpAnyH_take (i := 0) (oi := { dst := some 57, op := .move (.tmp 7), type := _, pos := _, after := _, guard := none }) (v := .int .i64 (-1)) rfl (by kernel_rfl) (by kernel_rfl) (by kernel_rfl) (fun _ _ _ h => h) (Or.inl ⟨by rfl, fun wh hSw => ?_⟩) hHeld ?_
              · (go_simp)
              try simp only [Act.put, List.setIfInBounds_toArray, List.set_cons_zero, List.set_cons_succ]
              refine wpAnyH_take (i := 1) (oi := { dst := some 58, op := .binOp .lss 3 (.tmp 57) (.const (.int .i64 0)) 3, type := _, pos := _, after := _, guard := none }) (v := .bool true) rfl (by kernel_rfl) (by kernel_rfl) (by kernel_rfl) (fun _ _ _ h => h) (Or.inl ⟨by rfl, fun wh hSw => ?_⟩) hHeld ?_
              · (go_simp)
              try simp only [Act.put, List.setIfInBounds_toArray, List.set_cons_zero, List.set_cons_succ]
              refine wpAnyH_take (i := 2) (oi := { dst := some 59, op := .move (.tmp 58), type := _, pos := _, after := _, guard := none }) (v := .bool true) rfl (by kernel_rfl) (by kernel_rfl) (by kernel_rfl) (fun _ _ _ h => h) (Or.inl ⟨by rfl, fun wh hSw => ?_⟩) hHeld ?_
              · (go_simp)
              try simp only [Act.put, List.setIfInBounds_toArray, List.set_cons_zero, List.set_cons_succ]
              refine wpAnyH_take (i := 3) (oi := { dst := some 60, op := .move (.tmp 4), type := _, pos := _, after := _, guard := some (2, true) }) (v := .slice (some ⟨b2, o2, none⟩) n c2) rfl (by kernel_rfl) (by kernel_rfl) (by kernel_rfl) (fun _ _ _ h => h) (Or.inl ⟨by rfl, fun wh hSw => ?_⟩) hHeld ?_
              · (go_simp)
              try simp only [Act.put, List.setIfInBounds_toArray, List.set_cons_zero, List.set_cons_succ]
              refine wpAnyH_take (i := 4) (oi := { dst := some 61, op := .move (.tmp 6), type := _, pos := _, after := _, guard := some (2, true) }) (v := .int .i64 (m : Int)) rfl (by kernel_rfl) (by kernel_rfl) (by kernel_rfl) (fun _ _ _ h => h) (Or.inl ⟨by rfl, fun wh hSw => ?_⟩) hHeld ?_
              · (go_simp)
              try simp only [Act.put, List.setIfInBounds_toArray, List.set_cons_zero, List.set_cons_succ]
              refine wpAnyH_take (i := 5) (oi := { dst := some 62, op := .indexAddr 23 (.tmp 60) (.tmp 61), type := _, pos := _, after := _, guard := some (2, true) }) (v := .pointer (some ⟨b2, o2 + m, none⟩)) rfl (by kernel_rfl) (by kernel_rfl) (by kernel_rfl) (fun _ _ _ h => h) (Or.inl ⟨by rfl, fun wh hSw => ?_⟩) hHeld ?_
              · (go_simp)
              try simp only [Act.put, List.setIfInBounds_toArray, List.set_cons_zero, List.set_cons_succ]
              refine wpAnyH_take (i := 6) (oi := { dst := some 63, op := .load 3 (.tmp 62), type := _, pos := _, after := _, guard := some (2, true) }) (v := .int .i64 (-1)) rfl (by kernel_rfl) (by kernel_rfl) (by kernel_rfl) (fun _ _ _ h => h) (Or.inl ⟨by rfl, fun wh hSw => ?_⟩) hHeld ?_
              · (go_simp)
              try simp only [Act.put, List.setIfInBounds_toArray, List.set_cons_zero, List.set_cons_succ]
              refine wpAnyH_take (i := 7) (oi := { dst := some 64, op := .binOp .neq 3 (.tmp 63) (.const (.int .i64 (-1))) 3, type := _, pos := _, after := _, guard := some (2, true) }) (v := .bool false) rfl (by kernel_rfl) (by kernel_rfl) (by kernel_rfl) (fun _ _ _ h => h) (Or.inl ⟨by rfl, fun wh hSw => ?_⟩) hHeld ?_
              · (go_simp)
              try simp only [Act.put, List.setIfInBounds_toArray, List.set_cons_zero, List.set_cons_succ]
              refine wpAnyH_take (i := 8) (oi := { dst := some 65, op := .pick (.tmp 59) (.tmp 64) (.const (.bool false)), type := _, pos := _, after := _, guard := none }) (v := .bool false) rfl (by kernel_rfl) (by kernel_rfl) (by kernel_rfl) (fun _ _ _ h => h) (Or.inl ⟨by rfl, fun wh hSw => ?_⟩) hHeld ?_
              · (go_simp)
              try simp only [Act.put, List.setIfInBounds_toArray, List.set_cons_zero, List.set_cons_succ]
              refine wpAnyH_take (i := 9) (oi := { dst := some 66, op := .move (.tmp 65), type := _, pos := _, after := _, guard := none }) (v := .bool false) rfl (by kernel_rfl) (by kernel_rfl) (by kernel_rfl) (fun _ _ _ h => h) (Or.inl ⟨by rfl, fun wh hSw => ?_⟩) hHeld ?_
              · (go_simp)
              try simp only [Act.put, List.setIfInBounds_toArray, List.set_cons_zero, List.set_cons_succ]
              refine wpAnyH_take (i := 10) (oi := { dst := some 67, op := .move (.tmp 7), type := _, pos := _, after := _, guard := some (9, false) }) (v := .int .i64 (-1)) rfl (by kernel_rfl) (by kernel_rfl) (by kernel_rfl) (fun _ _ _ h => h) (Or.inl ⟨by rfl, fun wh hSw => ?_⟩) hHeld ?_
              · (go_simp)
              try simp only [Act.put, List.setIfInBounds_toArray, List.set_cons_zero, List.set_cons_succ]
              refine wpAnyH_take (i := 11) (oi := { dst := some 68, op := .binOp .geq 3 (.tmp 67) (.const (.int .i64 0)) 3, type := _, pos := _, after := _, guard := some (9, false) }) (v := .bool false) rfl (by kernel_rfl) (by kernel_rfl) (by kernel_rfl) (fun _ _ _ h => h) (Or.inl ⟨by rfl, fun wh hSw => ?_⟩) hHeld ?_
              · (go_simp)
              try simp only [Act.put, List.setIfInBounds_toArray, List.set_cons_zero, List.set_cons_succ]
              refine wpAnyH_take (i := 12) (oi := { dst := some 69, op := .move (.tmp 68), type := _, pos := _, after := _, guard := some (9, false) }) (v := .bool false) rfl (by kernel_rfl) (by kernel_rfl) (by kernel_rfl) (fun _ _ _ h => h) (Or.inl ⟨by rfl, fun wh hSw => ?_⟩) hHeld ?_
              · (go_simp)
              try simp only [Act.put, List.setIfInBounds_toArray, List.set_cons_zero, List.set_cons_succ]
              refine wpAnyH_take (i := 13) (oi := { dst := some 70, op := .move (.tmp 4), type := _, pos := _, after := _, guard := some (12, true) }) (v := undef) rfl (by kernel_rfl) (by kernel_rfl) (by kernel_rfl) (fun _ _ _ h => h) (Or.inr ⟨by rfl, rfl⟩) hHeld ?_
              try simp only [Act.put, List.setIfInBounds_toArray, List.set_cons_zero, List.set_cons_succ]
              refine wpAnyH_take (i := 14) (oi := { dst := some 71, op := .move (.tmp 6), type := _, pos := _, after := _, guard := some (12, true) }) (v := undef) rfl (by kernel_rfl) (by kernel_rfl) (by kernel_rfl) (fun _ _ _ h => h) (Or.inr ⟨by rfl, rfl⟩) hHeld ?_
              try simp only [Act.put, List.setIfInBounds_toArray, List.set_cons_zero, List.set_cons_succ]
              refine wpAnyH_take (i := 15) (oi := { dst := some 72, op := .indexAddr 23 (.tmp 70) (.tmp 71), type := _, pos := _, after := _, guard := some (12, true) }) (v := undef) rfl (by kernel_rfl) (by kernel_rfl) (by kernel_rfl) (fun _ _ _ h => h) (Or.inr ⟨by rfl, rfl⟩) hHeld ?_
              try simp only [Act.put, List.setIfInBounds_toArray, List.set_cons_zero, List.set_cons_succ]
              refine wpAnyH_take (i := 16) (oi := { dst := some 73, op := .load 3 (.tmp 72), type := _, pos := _, after := _, guard := some (12, true) }) (v := undef) rfl (by kernel_rfl) (by kernel_rfl) (by kernel_rfl) (fun _ _ _ h => h) (Or.inr ⟨by rfl, rfl⟩) hHeld ?_
              try simp only [Act.put, List.setIfInBounds_toArray, List.set_cons_zero, List.set_cons_succ]
              refine wpAnyH_take (i := 17) (oi := { dst := some 74, op := .move (.tmp 3), type := _, pos := _, after := _, guard := some (12, true) }) (v := undef) rfl (by kernel_rfl) (by kernel_rfl) (by kernel_rfl) (fun _ _ _ h => h) (Or.inr ⟨by rfl, rfl⟩) hHeld ?_
              try simp only [Act.put, List.setIfInBounds_toArray, List.set_cons_zero, List.set_cons_succ]
              refine wpAnyH_take (i := 18) (oi := { dst := some 75, op := .move (.tmp 7), type := _, pos := _, after := _, guard := some (12, true) }) (v := undef) rfl (by kernel_rfl) (by kernel_rfl) (by kernel_rfl) (fun _ _ _ h => h) (Or.inr ⟨by rfl, rfl⟩) hHeld ?_
              try simp only [Act.put, List.setIfInBounds_toArray, List.set_cons_zero, List.set_cons_succ]
              refine wpAnyH_take (i := 19) (oi := { dst := some 76, op := .binOp .add 3 (.tmp 75) (.const (.int .i64 1)) 3, type := _, pos := _, after := _, guard := some (12, true) }) (v := undef) rfl (by kernel_rfl) (by kernel_rfl) (by kernel_rfl) (fun _ _ _ h => h) (Or.inr ⟨by rfl, rfl⟩) hHeld ?_
              try simp only [Act.put, List.setIfInBounds_toArray, List.set_cons_zero, List.set_cons_succ]
              refine wpAnyH_take (i := 20) (oi := { dst := some 77, op := .move (.tmp 6), type := _, pos := _, after := _, guard := some (12, true) }) (v := undef) rfl (by kernel_rfl) (by kernel_rfl) (by kernel_rfl) (fun _ _ _ h => h) (Or.inr ⟨by rfl, rfl⟩) hHeld ?_
              try simp only [Act.put, List.setIfInBounds_toArray, List.set_cons_zero, List.set_cons_succ]
              refine wpAnyH_take (i := 21) (oi := { dst := some 78, op := .slice 23 (.tmp 74) (some (.tmp 76)) (some (.tmp 77)) none, type := _, pos := _, after := _, guard := some (12, true) }) (v := undef) rfl (by kernel_rfl) (by kernel_rfl) (by kernel_rfl) (fun _ _ _ h => h) (Or.inr ⟨by rfl, rfl⟩) hHeld ?_
              try simp only [Act.put, List.setIfInBounds_toArray, List.set_cons_zero, List.set_cons_succ]
              refine wpAnyH_take (i := 22) (oi := { dst := some 79, op := .call { callee := .value (.func 23), args := #[.tmp 78], argTypes := #[23] }, type := _, pos := _, after := _, guard := some (12, true) }) (v := undef) rfl (by kernel_rfl) (by kernel_rfl) (by kernel_rfl) (fun _ _ _ h => h) (Or.inr ⟨by rfl, rfl⟩) hHeld ?_
              try simp only [Act.put, List.setIfInBounds_toArray, List.set_cons_zero, List.set_cons_succ]
              refine wpAnyH_take (i := 23) (oi := { dst := some 80, op := .binOp .neq 3 (.tmp 73) (.tmp 79) 3, type := _, pos := _, after := _, guard := some (12, true) }) (v := undef) rfl (by kernel_rfl) (by kernel_rfl) (by kernel_rfl) (fun _ _ _ h => h) (Or.inr ⟨by rfl, rfl⟩) hHeld ?_
              try simp only [Act.put, List.setIfInBounds_toArray, List.set_cons_zero, List.set_cons_succ]
              refine wpAnyH_take (i := 24) (oi := { dst := some 81, op := .pick (.tmp 69) (.tmp 80) (.const (.bool false)), type := _, pos := _, after := _, guard := some (9, false) }) (v := .bool false) rfl (by kernel_rfl) (by kernel_rfl) (by kernel_rfl) (fun _ _ _ h => h) (Or.inl ⟨by rfl, fun wh hSw => ?_⟩) hHeld ?_
              · (go_simp)
              try simp only [Act.put, List.setIfInBounds_toArray, List.set_cons_zero, List.set_cons_succ]
              refine wpAnyH_take (i := 25) (oi := { dst := some 82, op := .pick (.tmp 66) (.const (.bool true)) (.tmp 81), type := _, pos := _, after := _, guard := none }) (v := .bool false) rfl (by kernel_rfl) (by kernel_rfl) (by kernel_rfl) (fun _ _ _ h => h) (Or.inl ⟨by rfl, fun wh hSw => ?_⟩) hHeld ?_
              · (go_simp)
              try simp only [Act.put, List.setIfInBounds_toArray, List.set_cons_zero, List.set_cons_succ]
              refine wpAnyH_done (by kernel_rfl) ?_ _
              go_wp2_with fail
              exact ⟨⟨m + 1, by omega, by go_num, Lib.hid (HY.out.trans (Below.mono (Below.drew (Below.refl _ _)) HY.out.size))⟩, by simp [intOf]; omega⟩
            · have HSP : Hid (spn ys m = ((rcp ((ys.take m).drop (p + 1))).length : Nat)) := Lib.hid (spn_some (by rw [← HN.out]; exact hi) hp hpe hpn)
              rw [HSP.out] at hcell
              have hp0 : decide ((p : Int) < 0) = false := by rw [decide_eq_false_iff_not]; omega
              obtain ⟨v78, hmid, hmid2⟩ := slice_mid RR.out (p + 1) m (by omega) (by rw [← HN.out]; exact hi) ((p : Int) + 1) (m : Int) (by omega) rfl
              have HM1 := Lib.hid hmid
              have HM2 := Lib.hid hmid2
              have HDP := Lib.hid (fun w (h : Ints w v78 ((ys.take m).drop (p + 1))) => differentPages_any w v78 _ h (by rw [List.length_drop, List.length_take]; omega))
              generalize (rcp ((ys.take m).drop (p + 1))).length = D at hcell HDP
              clear hpe hpn hmid hmid2 HSP
              go_wp2_with fail
              refine wp_region_held_drew (S := fun w' => w'.cell? ⟨b2, o2 + m, none⟩ = some (.int .i64 (D : Int))) (by kernel_rfl) hcell (fun hHeld => ?_)
              refine wpAnyH_take (i := 0) (oi := { dst := some 57, op := .move (.tmp 7), type := _, pos := _, after := _, guard := none }) (v := .int .i64 (p : Int)) rfl (by kernel_rfl) (by kernel_rfl) (by kernel_rfl) (fun _ _ _ h => h) (Or.inl ⟨by rfl, fun wh hSw => ?_⟩) hHeld ?_
              · (go_simp)
              try simp only [Act.put, List.setIfInBounds_toArray, List.set_cons_zero, List.set_cons_succ]
              refine wpAnyH_take (i := 1) (oi := { dst := some 58, op := .binOp .lss 3 (.tmp 57) (.const (.int .i64 0)) 3, type := _, pos := _, after := _, guard := none }) (v := .bool false) rfl (by kernel_rfl) (by kernel_rfl) (by kernel_rfl) (fun _ _ _ h => h) (Or.inl ⟨by rfl, fun wh hSw => ?_⟩) hHeld ?_
              · (go_simp)
              try simp only [Act.put, List.setIfInBounds_toArray, List.set_cons_zero, List.set_cons_succ]
              refine wpAnyH_take (i := 2) (oi := { dst := some 59, op := .move (.tmp 58), type := _, pos := _, after := _, guard := none }) (v := .bool false) rfl (by kernel_rfl) (by kernel_rfl) (by kernel_rfl) (fun _ _ _ h => h) (Or.inl ⟨by rfl, fun wh hSw => ?_⟩) hHeld ?_
              · (go_simp)
              try simp only [Act.put, List.setIfInBounds_toArray, List.set_cons_zero, List.set_cons_succ]
              refine wpAnyH_take (i := 3) (oi := { dst := some 60, op := .move (.tmp 4), type := _, pos := _, after := _, guard := some (2, true) }) (v := undef) rfl (by kernel_rfl) (by kernel_rfl) (by kernel_rfl) (fun _ _ _ h => h) (Or.inr ⟨by rfl, rfl⟩) hHeld ?_
              try simp only [Act.put, List.setIfInBounds_toArray, List.set_cons_zero, List.set_cons_succ]
              refine wpAnyH_take (i := 4) (oi := { dst := some 61, op := .move (.tmp 6), type := _, pos := _, after := _, guard := some (2, true) }) (v := undef) rfl (by kernel_rfl) (by kernel_rfl) (by kernel_rfl) (fun _ _ _ h => h) (Or.inr ⟨by rfl, rfl⟩) hHeld ?_
              try simp only [Act.put, List.setIfInBounds_toArray, List.set_cons_zero, List.set_cons_succ]
              refine wpAnyH_take (i := 5) (oi := { dst := some 62, op := .indexAddr 23 (.tmp 60) (.tmp 61), type := _, pos := _, after := _, guard := some (2, true) }) (v := undef) rfl (by kernel_rfl) (by kernel_rfl) (by kernel_rfl) (fun _ _ _ h => h) (Or.inr ⟨by rfl, rfl⟩) hHeld ?_
              try simp only [Act.put, List.setIfInBounds_toArray, List.set_cons_zero, List.set_cons_succ]
              refine wpAnyH_take (i := 6) (oi := { dst := some 63, op := .load 3 (.tmp 62), type := _, pos := _, after := _, guard := some (2, true) }) (v := undef) rfl (by kernel_rfl) (by kernel_rfl) (by kernel_rfl) (fun _ _ _ h => h) (Or.inr ⟨by rfl, rfl⟩) hHeld ?_
              try simp only [Act.put, List.setIfInBounds_toArray, List.set_cons_zero, List.set_cons_succ]
              refine wpAnyH_take (i := 7) (oi := { dst := some 64, op := .binOp .neq 3 (.tmp 63) (.const (.int .i64 (-1))) 3, type := _, pos := _, after := _, guard := some (2, true) }) (v := undef) rfl (by kernel_rfl) (by kernel_rfl) (by kernel_rfl) (fun _ _ _ h => h) (Or.inr ⟨by rfl, rfl⟩) hHeld ?_
              try simp only [Act.put, List.setIfInBounds_toArray, List.set_cons_zero, List.set_cons_succ]
              refine wpAnyH_take (i := 8) (oi := { dst := some 65, op := .pick (.tmp 59) (.tmp 64) (.const (.bool false)), type := _, pos := _, after := _, guard := none }) (v := .bool false) rfl (by kernel_rfl) (by kernel_rfl) (by kernel_rfl) (fun _ _ _ h => h) (Or.inl ⟨by rfl, fun wh hSw => ?_⟩) hHeld ?_
              · (go_simp)
              try simp only [Act.put, List.setIfInBounds_toArray, List.set_cons_zero, List.set_cons_succ]
              refine wpAnyH_take (i := 9) (oi := { dst := some 66, op := .move (.tmp 65), type := _, pos := _, after := _, guard := none }) (v := .bool false) rfl (by kernel_rfl) (by kernel_rfl) (by kernel_rfl) (fun _ _ _ h => h) (Or.inl ⟨by rfl, fun wh hSw => ?_⟩) hHeld ?_
              · (go_simp)
              try simp only [Act.put, List.setIfInBounds_toArray, List.set_cons_zero, List.set_cons_succ]
              refine wpAnyH_take (i := 10) (oi := { dst := some 67, op := .move (.tmp 7), type := _, pos := _, after := _, guard := some (9, false) }) (v := .int .i64 (p : Int)) rfl (by kernel_rfl) (by kernel_rfl) (by kernel_rfl) (fun _ _ _ h => h) (Or.inl ⟨by rfl, fun wh hSw => ?_⟩) hHeld ?_
              · (go_simp)
              try simp only [Act.put, List.setIfInBounds_toArray, List.set_cons_zero, List.set_cons_succ]
              refine wpAnyH_take (i := 11) (oi := { dst := some 68, op := .binOp .geq 3 (.tmp 67) (.const (.int .i64 0)) 3, type := _, pos := _, after := _, guard := some (9, false) }) (v := .bool true) rfl (by kernel_rfl) (by kernel_rfl) (by kernel_rfl) (fun _ _ _ h => h) (Or.inl ⟨by rfl, fun wh hSw => ?_⟩) hHeld ?_
              · (go_simp)
              try simp only [Act.put, List.setIfInBounds_toArray, List.set_cons_zero, List.set_cons_succ]
              refine wpAnyH_take (i := 12) (oi := { dst := some 69, op := .move (.tmp 68), type := _, pos := _, after := _, guard := some (9, false) }) (v := .bool true) rfl (by kernel_rfl) (by kernel_rfl) (by kernel_rfl) (fun _ _ _ h => h) (Or.inl ⟨by rfl, fun wh hSw => ?_⟩) hHeld ?_
              · (go_simp)
              try simp only [Act.put, List.setIfInBounds_toArray, List.set_cons_zero, List.set_cons_succ]
              refine wpAnyH_take (i := 13) (oi := { dst := some 70, op := .move (.tmp 4), type := _, pos := _, after := _, guard := some (12, true) }) (v := .slice (some ⟨b2, o2, none⟩) n c2) rfl (by kernel_rfl) (by kernel_rfl) (by kernel_rfl) (fun _ _ _ h => h) (Or.inl ⟨by rfl, fun wh hSw => ?_⟩) hHeld ?_
              · (go_simp)
              try simp only [Act.put, List.setIfInBounds_toArray, List.set_cons_zero, List.set_cons_succ]
              refine wpAnyH_take (i := 14) (oi := { dst := some 71, op := .move (.tmp 6), type := _, pos := _, after := _, guard := some (12, true) }) (v := .int .i64 (m : Int)) rfl (by kernel_rfl) (by kernel_rfl) (by kernel_rfl) (fun _ _ _ h => h) (Or.inl ⟨by rfl, fun wh hSw => ?_⟩) hHeld ?_
              · (go_simp)
              try simp only [Act.put, List.setIfInBounds_toArray, List.set_cons_zero, List.set_cons_succ]
              refine wpAnyH_take (i := 15) (oi := { dst := some 72, op := .indexAddr 23 (.tmp 70) (.tmp 71), type := _, pos := _, after := _, guard := some (12, true) }) (v := .pointer (some ⟨b2, o2 + m, none⟩)) rfl (by kernel_rfl) (by kernel_rfl) (by kernel_rfl) (fun _ _ _ h => h) (Or.inl ⟨by rfl, fun wh hSw => ?_⟩) hHeld ?_
              · (go_simp)
              try simp only [Act.put, List.setIfInBounds_toArray, List.set_cons_zero, List.set_cons_succ]
              refine wpAnyH_take (i := 16) (oi := { dst := some 73, op := .load 3 (.tmp 72), type := _, pos := _, after := _, guard := some (12, true) }) (v := .int .i64 (D : Int)) rfl (by kernel_rfl) (by kernel_rfl) (by kernel_rfl) (fun _ _ _ h => h) (Or.inl ⟨by rfl, fun wh hSw => ?_⟩) hHeld ?_
              · (go_simp)
              try simp only [Act.put, List.setIfInBounds_toArray, List.set_cons_zero, List.set_cons_succ]
              refine wpAnyH_take (i := 17) (oi := { dst := some 74, op := .move (.tmp 3), type := _, pos := _, after := _, guard := some (12, true) }) (v := .slice (some ⟨g, 0, none⟩) n c) rfl (by kernel_rfl) (by kernel_rfl) (by kernel_rfl) (fun _ _ _ h => h) (Or.inl ⟨by rfl, fun wh hSw => ?_⟩) hHeld ?_
              · (go_simp)
              try simp only [Act.put, List.setIfInBounds_toArray, List.set_cons_zero, List.set_cons_succ]
              refine wpAnyH_take (i := 18) (oi := { dst := some 75, op := .move (.tmp 7), type := _, pos := _, after := _, guard := some (12, true) }) (v := .int .i64 (p : Int)) rfl (by kernel_rfl) (by kernel_rfl) (by kernel_rfl) (fun _ _ _ h => h) (Or.inl ⟨by rfl, fun wh hSw => ?_⟩) hHeld ?_
              · (go_simp)
              try simp only [Act.put, List.setIfInBounds_toArray, List.set_cons_zero, List.set_cons_succ]
              refine wpAnyH_take (i := 19) (oi := { dst := some 76, op := .binOp .add 3 (.tmp 75) (.const (.int .i64 1)) 3, type := _, pos := _, after := _, guard := some (12, true) }) (v := .int .i64 ((p : Int) + 1)) rfl (by kernel_rfl) (by kernel_rfl) (by kernel_rfl) (fun _ _ _ h => h) (Or.inl ⟨by rfl, fun wh hSw => ?_⟩) hHeld ?_
              · (go_simp; rw [IntKind.wrap_i64]; omega)
              try simp only [Act.put, List.setIfInBounds_toArray, List.set_cons_zero, List.set_cons_succ]
              refine wpAnyH_take (i := 20) (oi := { dst := some 77, op := .move (.tmp 6), type := _, pos := _, after := _, guard := some (12, true) }) (v := .int .i64 (m : Int)) rfl (by kernel_rfl) (by kernel_rfl) (by kernel_rfl) (fun _ _ _ h => h) (Or.inl ⟨by rfl, fun wh hSw => ?_⟩) hHeld ?_
              · (go_simp)
              try simp only [Act.put, List.setIfInBounds_toArray, List.set_cons_zero, List.set_cons_succ]
              refine wpAnyH_take (i := 21) (oi := { dst := some 78, op := .slice 23 (.tmp 74) (some (.tmp 76)) (some (.tmp 77)) none, type := _, pos := _, after := _, guard := some (12, true) }) (v := v78) rfl (by kernel_rfl) (by kernel_rfl) (by kernel_rfl) (fun _ _ _ h => h) (Or.inl ⟨by rfl, fun wh hSw => ?_⟩) hHeld ?_
              · exact exec_slice rfl (HM1.out wh)
              try simp only [Act.put, List.setIfInBounds_toArray, List.set_cons_zero, List.set_cons_succ]
              refine wpAnyH_ready (rs := [22]) (by kernel_rfl) (by simp) ?_
              refine AllReadyH.cons (o := { dst := some 79, op := .call { callee := .value (.func 23), args := #[.tmp 78], argTypes := #[23] }, type := _, pos := _, after := _, guard := some (12, true) }) rfl (fun K hK => ?_) AllReadyH.nil
              go_simp
              refine (HDP.out _ (HM2.out _ (Ints.below (B := 0) RR.out (Below.drew (Below.refl _ _))))).mono ?_
              rintro e w9 ⟨rfl, hb9⟩
              have hc9 := (hb9.cell (p := ⟨b2, o2 + m, none⟩) (cell_lt hHeld)).trans hHeld
              have HB9 := Lib.hid hb9
              clear hb9
              refine hK.out _ _ ?_ (fun hHeld => ?_)
              · exact hc9
              clear hK K
              try simp only [Act.put, List.setIfInBounds_toArray, List.set_cons_zero, List.set_cons_succ]
              refine wpAnyH_take (i := 23) (oi := { dst := some 80, op := .binOp .neq 3 (.tmp 73) (.tmp 79) 3, type := _, pos := _, after := _, guard := some (12, true) }) (v := .bool false) rfl (by kernel_rfl) (by kernel_rfl) (by kernel_rfl) (fun _ _ _ h => h) (Or.inl ⟨by rfl, fun wh hSw => ?_⟩) hHeld ?_
              · (go_simp)
              try simp only [Act.put, List.setIfInBounds_toArray, List.set_cons_zero, List.set_cons_succ]
              refine wpAnyH_take (i := 24) (oi := { dst := some 81, op := .pick (.tmp 69) (.tmp 80) (.const (.bool false)), type := _, pos := _, after := _, guard := some (9, false) }) (v := .bool false) rfl (by kernel_rfl) (by kernel_rfl) (by kernel_rfl) (fun _ _ _ h => h) (Or.inl ⟨by rfl, fun wh hSw => ?_⟩) hHeld ?_
              · (go_simp)
              try simp only [Act.put, List.setIfInBounds_toArray, List.set_cons_zero, List.set_cons_succ]
              refine wpAnyH_take (i := 25) (oi := { dst := some 82, op := .pick (.tmp 66) (.const (.bool true)) (.tmp 81), type := _, pos := _, after := _, guard := none }) (v := .bool false) rfl (by kernel_rfl) (by kernel_rfl) (by kernel_rfl) (fun _ _ _ h => h) (Or.inl ⟨by rfl, fun wh hSw => ?_⟩) hHeld ?_
              · (go_simp)
              try simp only [Act.put, List.setIfInBounds_toArray, List.set_cons_zero, List.set_cons_succ]
              refine wpAnyH_done (by kernel_rfl) ?_ _
              go_wp2_with fail
              exact ⟨⟨m + 1, by omega, by go_num, Lib.hid ((HY.out.trans (Below.mono (Below.drew (Below.refl _ _)) HY.out.size)).trans (HB9.out.mono HY.out.size))⟩, by simp [intOf]; omega⟩
      · obtain rfl : i = n := by omega
        go_wp2_with fail
        go_ret
        exact ⟨rfl, B4.out.trans (HX.out.mono B4.out.size)⟩
end Go.Proofs.Ytfnmnegddhggaaa
