/- What the proofs stand on, part 4. -/
import Derived.Test.YthfdkenidfnmgaaRows
import Derived.Test.YthfdkenidfnmgaaX3
set_option linter.unusedSimpArgs false
set_option linter.unusedVariables false
namespace Go.Proofs.Ythfdkenidfnmgaa
open Go.ChangeShapes Go.WideShapes Go.ChangeAt Go.RowKit
set_option linter.unusedVariables false
set_option linter.unusedSimpArgs false
set_option maxRecDepth 100000
set_option maxRecDepth 100000 in
set_option maxHeartbeats 1000000 in
theorem markCachedG_any (k0 : Nat) (hk0 : k0 ≤ 3200000) (w : World) (v : Value) (xs : List CV) (B0 B1 : Nat) (h : CsW w B0 B1 v xs) (hB : B1 ≤ w.heap.size) (hn : xs.length ≤ 1048580) :
    Calls Try.prog 28 #[v, .int .i64 k0] w fun e w' => e = .returned (.int .i64 ((k0 : Int) + 4 * (xs.length : Int))) ∧ Kept B0 B1 w w' ∧ CsW w' B0 B1 v (mkCG k0 xs.length) := by
  obtain ⟨a, ca, rfl, hla, hma, hxa⟩ := h
  unfold maxLen at hma
  obtain ⟨n, hN⟩ : ∃ n, n = xs.length := ⟨_, rfl⟩
  have HXA := Lib.hid hxa
  have HN := Lib.hid hN
  rw [← hN] at hla hn ⊢
  clear hN hxa
  go_enter Try.func28, Try.ntmps28
  go_wp2
  go_loopw [1, 5] (fun q i wr => ∃ k : Nat, k ≤ n ∧ i = .int .i64 k ∧ q = .int .i64 ((k0 : Int) + 4 * (k : Int)) ∧ Hid (Kept B0 B1 w wr) ∧ Hid (∀ i, i < n → ∃ g p, a = some ⟨g, p, none⟩ ∧ B0 ≤ g ∧ g < B1 ∧ FourW wr g (p + i * 4) (mixEG k0 xs k i))) (fun _ i _ => n - (intOf i).toNat)
  case atStart => exact ⟨0, Nat.zero_le _, rfl, rfl, Lib.hid (Kept.refl _ _ _), Lib.hid (fun i hi => by
    have := HXA.out i (by have := HN.out; omega)
    unfold mixEG
    rwa [if_neg (by omega)])⟩
  case round =>
    obtain ⟨k, hk, rfl, rfl, HKP, HFW⟩ := hrel
    by_cases hlt : k < n
    · obtain ⟨g, p, rfl, hg0, hg1, hf⟩ := HFW.out k hlt
      have HT := Lib.hid hf.there
      have HG0 := Lib.hid hg0
      have HG1 := Lib.hid hg1
      obtain ⟨⟨g0, g1, g2, g3⟩, hfr⟩ := hf
      have f0 := hfr 0 (by omega)
      have f1 := hfr 1 (by omega)
      have f2 := hfr 2 (by omega)
      have f3 := hfr 3 (by omega)
      rw [Nat.add_zero] at f0
      have hlt' : (k : Int) < (n : Int) := by omega
      clear hfr hg0 hg1
      go_wp2_with fail
      have z1 : ((k0 : Int) + 4 * (k : Int) + 1) = (k0 : Int) + 1 + 4 * (k : Int) := by omega
      have z2 : ((k0 : Int) + 1 + 4 * (k : Int) + 1) = (k0 : Int) + 2 + 4 * (k : Int) := by omega
      have z3 : ((k0 : Int) + 2 + 4 * (k : Int) + 1) = (k0 : Int) + 3 + 4 * (k : Int) := by omega
      have z4 : (((k0 : Int) + 3 + 4 * (k : Int)) % 3 == 0) = decide (((k0 : Int) + 3 + 4 * (k : Int)) % 3 = 0) := rfl
      rw [z1, z2, z3, z4]
      obtain ⟨wn, hwn⟩ : ∃ wn, wn = wr.setCells g (p + k * 4) (cvC (mkEG k0 k)) := ⟨_, rfl⟩
      have hw4 : (((wr.setCell ⟨g, p + k * 4, none⟩ (.int .i64 ((k0 : Int) + 4 * (k : Int)))).setCell ⟨g, p + k * 4 + 1, none⟩ (.int .i64 ((k0 : Int) + 1 + 4 * (k : Int)))).setCell ⟨g, p + k * 4 + 2, none⟩ (.int .i64 ((k0 : Int) + 2 + 4 * (k : Int)))).setCell ⟨g, p + k * 4 + 3, none⟩ (.bool (decide (((k0 : Int) + 3 + 4 * (k : Int)) % 3 = 0))) = wn := by rw [hwn]; rfl
      rw [hw4]
      have HK2 : Hid (Kept B0 B1 w wn) := Lib.hid (by
        rw [hwn]
        refine HKP.out.trans ⟨?_, ?_, ?_, size_setCells _ _ _ _, fun b hb => heap_setCells_other wr g _ _ wr b (by have := HG0.out; have := HG1.out; omega)⟩
        · exact os_setCells _ _ _ _
        · exact tape_setCells _ _ _ _
        · exact output_setCells _ _ _ _)
      have HF2 : Hid (∀ i, i < n → ∃ g' p', (some ⟨g, p, none⟩ : Option Addr) = some ⟨g', p', none⟩ ∧ B0 ≤ g' ∧ g' < B1 ∧ FourW wn g' (p' + i * 4) (mixEG k0 xs (k + 1) i)) := Lib.hid (fun i hi => by
        refine ⟨g, p, rfl, HG0.out, HG1.out, ?_⟩
        rw [hwn]
        by_cases hik : i = k
        · subst hik
          have e : mixEG k0 xs (i + 1) i = mkEG k0 i := by unfold mixEG; rw [if_pos (by omega)]
          rw [e]
          exact FourW.stored HT.out
        · have e : mixEG k0 xs (k + 1) i = mixEG k0 xs k i := by
            unfold mixEG
            by_cases h : i < k
            · rw [if_pos h, if_pos (by omega)]
            · rw [if_neg h, if_neg (by omega)]
          rw [e]
          obtain ⟨g', p', e2, _, _, h2⟩ := HFW.out i hi
          cases e2
          exact h2.apart (by show p + i * 4 + 4 ≤ p + k * 4 ∨ p + k * 4 + 4 ≤ p + i * 4; omega))
      exact ⟨⟨k + 1, by omega, by go_num, by congr 1; omega, HK2, HF2⟩, by simp [intOf]; omega⟩
    · have ek : k = n := by omega
      subst ek
      go_wp2
      go_ret
      refine ⟨rfl, HKP.out, a, ca, by rw [mkCG_len], by rw [mkCG_len]; exact hla, by unfold maxLen; omega, fun i hi => ?_⟩
      rw [mkCG_len] at hi
      rw [mkCG_get hi]
      obtain ⟨g, p, e, q0, q1, q2⟩ := HFW.out i hi
      unfold mixEG at q2
      rw [if_pos hi] at q2
      exact ⟨g, p, e, q0, q1, q2⟩
end Go.Proofs.Ythfdkenidfnmgaa
namespace Go.Proofs.Ythfdkenidfnmgaa
open Go.ChangeShapes Go.WideShapes Go.ChangeAt Go.RowKit
set_option linter.unusedVariables false
set_option linter.unusedSimpArgs false
set_option maxRecDepth 100000
section
variable {w w1 : World} {B0 B1 : Nat} {a : Option Addr} {n : Nat} {A : Nat → Option Addr} {L C : Nat → Nat} {X : Nat → Nat → Bs} {R : Nat → Int} {k lo hi : Nat}
theorem TAt.congrX {X' : Nat → Nat → Bs} (h : TAt w B0 B1 2 a n A L C X) (e : ∀ j, j < n → ∀ i, i < L j → X' j i = X j i) : TAt w B0 B1 2 a n A L C X' :=
  ⟨h.top, fun j hj i hi => by rw [e j hj i hi]; exact h.row j hj i hi, h.apart⟩
theorem RAt.congrR {R' : Nat → Int} (h : RAt w B0 B1 a n R) (e : ∀ j, j < n → R' j = R j) : RAt w B0 B1 a n R' := fun j hj => by rw [e j hj]; exact h j hj
theorem TFrom.from0 (h : TFrom w B0 B1 a n A L C X 0) (k : Nat) : TFrom w B0 B1 a n A L C X k :=
  ⟨fun j _ hj => h.top j (Nat.zero_le _) hj, fun j _ hj => h.root j (Nat.zero_le _) hj, fun j _ hj => h.row j (Nat.zero_le _) hj, h.apart⟩
theorem TAt.stepG (h : TAt w B0 B1 2 a n A L C X) (hr : RAt w B0 B1 a n R) (hk : k < n) (hB : B1 ≤ w.heap.size) (hc : Chg lo hi w w1) (hlo : hi ≤ lo ∨ (B0 ≤ lo ∧ hi = lo + 1 ∧ 0 < L k ∧ ∃ p, A k = some ⟨lo, p, none⟩))
    {ys : List Bs} (hs : StrsW w1 lo hi (.slice (A k) (L k) (C k)) ys) (hl : ys.length = L k) {b o : Nat} (e : a = some ⟨b, o, none⟩) :
    (∃ t, w1.cell? ⟨b, o + k * 2 + 1, none⟩ = some (.int .i64 t) ∧ w1.frozen? ⟨b, o + k * 2 + 1, none⟩ = false) ∧
    (∀ v, TAt (w1.setCell ⟨b, o + k * 2 + 1, none⟩ (.int .i64 v)) B0 B1 2 a n A L C (fun j i => if j = k then ys.getD i [] else X j i) ∧ RAt (w1.setCell ⟨b, o + k * 2 + 1, none⟩ (.int .i64 v)) B0 B1 a n (fun j => if j = k then v else R j)) := by
  have htop : w1.heap[b]? = w.heap[b]? := by
    obtain ⟨b', o', e', h0, h1, _⟩ := h.top k hk
    rw [e] at e'
    cases e'
    refine hc.block b (by omega) ?_
    rcases hlo with hlo | ⟨hl0, rfl, hL, p, eA⟩
    · omega
    · obtain ⟨g, p', e2, _, _, _, _, hne⟩ := h.row k hk 0 hL
      rw [eA] at e2
      cases e2
      have := hne b o e
      omega
  refine ⟨?_, fun v => ⟨⟨fun j hj => ?_, fun j hj i hi => ?_, h.apart⟩, fun j hj => ?_⟩⟩
  · obtain ⟨b', o', e', _, _, h1, h2⟩ := hr k hk
    rw [e] at e'
    cases e'
    exact ⟨_, (World.cell?_of_block htop).trans h1, (World.frozen?_of_block htop).trans h2⟩
  · obtain ⟨b', o', e', h0, h1, h2, h3, h4, h5⟩ := h.top j hj
    have ee := e.symm.trans e'
    cases ee
    exact ⟨b, o, e, h0, h1, (cell_set_other (.inr (by omega))).trans ((World.cell?_of_block htop).trans h2), h3, h4, (frozen_set _).trans ((World.frozen?_of_block htop).trans h5)⟩
  · obtain ⟨g, p, e1, h0, h1, h2, h3, h4⟩ := h.row j hj i hi
    by_cases hjk : j = k
    · subst hjk
      rw [if_pos rfl]
      obtain ⟨a', cap', e', q1, q2, q3⟩ := hs
      injection e' with e'1 e'2 e'3
      subst e'1
      obtain ⟨g', p', eg, _, _, hcg, hfg⟩ := q3 i (by omega)
      have ee := e1.symm.trans eg
      cases ee
      exact ⟨g, p, e1, h0, h1, (cell_set_other (.inl (h4 b o e))).trans hcg, (frozen_set _).trans hfg, h4⟩
    · rw [if_neg hjk]
      have hb : w1.heap[g]? = w.heap[g]? := by
        refine hc.block g (by omega) ?_
        rcases hlo with hlo | ⟨hl0, rfl, hL, q, eA⟩
        · omega
        · have := h.apart k hk j hj (fun q => hjk q.symm) hL (by omega) _ _ _ _ eA e1
          omega
      exact ⟨g, p, e1, h0, h1, (cell_set_other (.inl (h4 b o e))).trans ((World.cell?_of_block hb).trans h2), (frozen_set _).trans ((World.frozen?_of_block hb).trans h3), h4⟩
  · obtain ⟨b', o', e', h0, h1, h2, h3⟩ := hr j hj
    have ee := e.symm.trans e'
    cases ee
    have hcc := (World.cell?_of_block htop).trans h2
    by_cases hjk : j = k
    · subst hjk
      dsimp only
      rw [if_pos rfl]
      exact ⟨b, o, e, h0, h1, cell_set_same hcc, (frozen_set _).trans ((World.frozen?_of_block htop).trans h3)⟩
    · dsimp only
      rw [if_neg hjk]
      exact ⟨b, o, e, h0, h1, (cell_set_other (.inr (by omega))).trans hcc, (frozen_set _).trans ((World.frozen?_of_block htop).trans h3)⟩
end
def mkX (L : Nat → Nat) (k0 : Nat) (X : Nat → Nat → Bs) (m : Nat) : Nat → Nat → Bs := fun t i => if t < m then mtext (no L k0 t + i) else X t i
def mkR (L : Nat → Nat) (k0 : Nat) (R : Nat → Int) (m : Nat) : Nat → Int := fun t => if t < m then ((no L k0 t + L t : Nat) : Int) else R t
set_option maxHeartbeats 1000000 in
theorem markEnvG_any (k0 : Nat) (hk0 : 1 ≤ k0) (w : World) (B0 B1 : Nat) (a : Option Addr) (n cap : Nat) (A : Nat → Option Addr) (L C : Nat → Nat) (X : Nat → Nat → Bs) (R : Nat → Int) (h : TAt w B0 B1 2 a n A L C X) (hr : RAt w B0 B1 a n R) (hB : B1 ≤ w.heap.size) (hn : no L k0 n ≤ 3200000) :
    Calls Try.prog 27 #[.slice a n cap, .int .i64 k0] w fun e w' => e = .returned (.int .i64 (no L k0 n : Nat)) ∧ TAt w' B0 B1 2 a n A L C (mkX L k0 X n) ∧ RAt w' B0 B1 a n (mkR L k0 R n) ∧ Chg B0 B1 w w' := by
  have H := Lib.hid h
  have HR := Lib.hid hr
  have HB := Lib.hid hB
  have HN := Lib.hid hn
  clear h hr hB hn
  go_enter Try.func27, Try.ntmps27
  go_wp2
  go_loopw [1, 5] (fun l i wr => ∃ j : Nat, j ≤ n ∧ i = .int .i64 j ∧ l = .int .i64 (no L k0 j : Nat) ∧ Hid (TAt wr B0 B1 2 a n A L C (mkX L k0 X j)) ∧ Hid (RAt wr B0 B1 a n (mkR L k0 R j)) ∧ Hid (Chg B0 B1 w wr)) (fun _ i _ => n - (intOf i).toNat)
  case atStart => exact ⟨0, Nat.zero_le _, rfl, rfl, Lib.hid (H.out.congrX (fun j _ i _ => by unfold mkX; rw [if_neg (Nat.not_lt_zero _)])), Lib.hid (HR.out.congrR (fun j _ => by unfold mkR; rw [if_neg (Nat.not_lt_zero _)])), Lib.hid (chg_refl _ _ _)⟩
  case round =>
    obtain ⟨j, hj, rfl, rfl, HT, HRR, HC⟩ := hrel
    by_cases hlt : j < n
    · have hlt' : (j : Int) < (n : Int) := by omega
      have hj32 : (j : Int) + 1 ≤ 3200000 := by have h1 := no_ge L k0 n; have h2 := HN.out; omega
      have HF := Lib.hid ((tfrom_start HT.out HRR.out).from0 j)
      obtain ⟨b, o, rfl, hb0, hb1, hc, hl, hm⟩ := HF.out.top j (Nat.le_refl _) hlt
      obtain ⟨lo, hi, hw, hhi, hlo⟩ := HF.out.rowW hlt
      have hstep : no L k0 j + L j + 1 ≤ no L k0 n := no_mono L k0 (i := j + 1) (by omega)
      have HK : Hid (Calls Try.prog 24 #[.slice (A j) (L j) (C j), .int .i64 (no L k0 j : Nat)] wr fun e w' => e = .returned (.int .i64 ((no L k0 j + L j : Nat) : Int)) ∧ StrsW w' lo hi (.slice (A j) (L j) (C j)) (mkSG (no L k0 j) (L j)) ∧ Chg lo hi wr w') := Lib.hid (markStringG_any (no L k0 j) (Nat.le_trans hk0 (no_mono L k0 (Nat.zero_le j))) wr lo hi (A j) (L j) (C j) _ hw (by have h1 := HC.out.size; have h2 := HB.out; omega) (by simp) (by have := HN.out; omega))
      have HLO := Lib.hid (And.intro hhi hlo)
      have HBB := Lib.hid (And.intro hb0 hb1)
      have HST := Lib.hid hstep
      clear hw hhi hlo hb0 hb1 hl hm hstep HF
      obtain ⟨q, hq⟩ : ∃ q, q = no L k0 j := ⟨_, rfl⟩
      rw [← hq] at HK ⊢
      have HQ := Lib.hid hq
      have hqn : (q : Int) + (L j : Int) + 1 ≤ 3200000 := by have h1 := HST.out; have h2 := HN.out; omega
      clear hq
      go_wp2_with fail
      refine HK.out.mono ?_
      rintro e w1 ⟨rfl, hsw, hc1⟩
      obtain ⟨hroot, hnext⟩ := HT.out.stepG HRR.out hlt (Nat.le_trans HB.out HC.out.size) hc1 HLO.out.2 hsw (mkSG_len _) rfl
      obtain ⟨t, hc0, hf0⟩ := hroot
      have HNX := Lib.hid (hnext ((q + L j : Nat) : Int))
      have HC2 : Hid (Chg B0 B1 w (w1.setCell ⟨b, o + j * 2 + 1, none⟩ (.int .i64 ((q + L j : Nat) : Int)))) := Lib.hid (chg_set (chg_trans HC.out (chg_wide hc1 (by have := HLO.out; omega))) HBB.out.1 HBB.out.2)
      clear hnext hc1 hc hsw
      have HX2 : Hid (TAt (w1.setCell ⟨b, o + j * 2 + 1, none⟩ (.int .i64 ((q + L j : Nat) : Int))) B0 B1 2 (some ⟨b, o, none⟩) n A L C (mkX L k0 X (j + 1)) ∧ RAt (w1.setCell ⟨b, o + j * 2 + 1, none⟩ (.int .i64 ((q + L j : Nat) : Int))) B0 B1 (some ⟨b, o, none⟩) n (mkR L k0 R (j + 1))) := Lib.hid ⟨HNX.out.1.congrX (fun t ht i hi => by
          unfold mkX
          by_cases htj : t = j
          · subst htj
            rw [if_pos (by omega), if_pos rfl, mkSG_get hi, HQ.out]
          · rw [if_neg htj]
            by_cases h2 : t < j
            · rw [if_pos (by omega), if_pos h2]
            · rw [if_neg (by omega), if_neg h2]), HNX.out.2.congrR (fun t ht => by
          unfold mkR
          by_cases htj : t = j
          · subst htj
            rw [if_pos (by omega), if_pos rfl, HQ.out]
          · rw [if_neg htj]
            by_cases h2 : t < j
            · rw [if_pos (by omega), if_pos h2]
            · rw [if_neg (by omega), if_neg h2])⟩
      go_wp2_with fail
      go_roundw
      case rel => exact ⟨j + 1, by omega, by (have h1 := no_ge L k0 n; have h2 := HN.out; go_num), by rw [show no L k0 (j + 1) = q + L j + 1 from by show no L k0 j + L j + 1 = _; rw [HQ.out]]; congr 1, Lib.hid HX2.out.1, Lib.hid HX2.out.2, HC2⟩
      case measure => (have h1 := no_ge L k0 n; have h2 := HN.out; simp [intOf]; omega)
    · go_wp2
      go_ret
      have e : j = n := by omega
      subst e
      exact ⟨rfl, HT.out, HRR.out, HC.out⟩
set_option maxHeartbeats 1000000 in
theorem heldEnvG_any (k0 : Nat) (hk0 : 1 ≤ k0) (w : World) (B0 B1 : Nat) (a : Option Addr) (n cap : Nat) (A : Nat → Option Addr) (L C : Nat → Nat) (h : TAt w B0 B1 2 a n A L C (fun t i => mtext (no L k0 t + i))) (hr : RAt w B0 B1 a n (fun t => ((no L k0 t + L t : Nat) : Int))) (hn : no L k0 n ≤ 3200000) :
    Calls Try.prog 31 #[.slice a n cap, .int .i64 k0] w fun e w' => e = .returned (.int .i64 (no L k0 n : Nat)) ∧ Below w.heap.size w w' := by
  have H := Lib.hid h
  have HR := Lib.hid hr
  have HN := Lib.hid hn
  clear h hr hn
  go_enter Try.func31, Try.ntmps31
  go_wp2
  go_loopw [1, 5] (fun l i wr => ∃ j : Nat, j ≤ n ∧ i = .int .i64 j ∧ l = .int .i64 (no L k0 j : Nat) ∧ Hid (Below w.heap.size w wr)) (fun _ i _ => n - (intOf i).toNat)
  case atStart => exact ⟨0, Nat.zero_le _, rfl, rfl, Lib.hid (Below.refl _ _)⟩
  case round =>
    obtain ⟨j, hj, rfl, rfl, HB⟩ := hrel
    by_cases hlt : j < n
    · have hlt' : (j : Int) < (n : Int) := by omega
      have hj0 : (0 : Int) ≤ (j : Int) := by omega
      have hj32 : (j : Int) + 1 ≤ 3200000 := by have h1 := no_ge L k0 n; have h2 := HN.out; omega
      obtain ⟨b, o, rfl, _, _, hc0, hl, hm, _⟩ := H.out.top j hlt
      obtain ⟨b', o', e', _, _, hd0, _⟩ := HR.out j hlt
      cases e'
      dsimp only at hd0
      have hc := (HB.out.cell (p := ⟨b, o + j * 2, none⟩) (cell_lt hc0)).trans hc0
      have hd := fun (Q : World) (hq : Below wr.heap.size wr Q) => ((HB.out.trans (hq.mono HB.out.size)).cell (p := ⟨b, o + j * 2 + 1, none⟩) (cell_lt hd0)).trans hd0
      have HD := Lib.hid hd
      have hstep : no L k0 j + L j + 1 ≤ no L k0 n := no_mono L k0 (i := j + 1) (by omega)
      have hrow : Strs w (.slice (A j) (L j) (C j)) (mkSG (no L k0 j) (L j)) := ⟨A j, C j, by rw [mkSG_len], by rw [mkSG_len]; exact hl, hm, fun i hi => by
        rw [mkSG_len] at hi
        obtain ⟨g, p, e, _, _, hcg, _⟩ := H.out.row j hlt i hi
        exact ⟨g, p, e, by rw [mkSG_get hi]; exact hcg⟩⟩
      have HK := Lib.hid (heldStringG_any (no L k0 j) (Nat.le_trans hk0 (no_mono L k0 (Nat.zero_le j))) wr (A j) (L j) (C j) (hrow.below HB.out) (by have := HN.out; omega))
      have HST := Lib.hid hstep
      clear hrow hl hm hstep hc0 hd0 hd
      obtain ⟨q, hq⟩ : ∃ q, q = no L k0 j := ⟨_, rfl⟩
      rw [← hq] at HK HD ⊢
      have HQ := Lib.hid hq
      have hqn : (q : Int) + (L j : Int) + 1 ≤ 3200000 := by have h1 := HST.out; have h2 := HN.out; omega
      clear hq
      go_wp2_with fail
      refine HK.out.mono ?_
      rintro e w1 ⟨rfl, hb1⟩
      have hd := HD.out w1 hb1
      have HB1 := Lib.hid (HB.out.trans (hb1.mono HB.out.size))
      clear hb1
      obtain ⟨z, hz⟩ : ∃ z : Int, z = ((q + L j : Nat) : Int) := ⟨_, rfl⟩
      rw [← hz] at hd
      rw [← hz]
      have HZ := Lib.hid hz
      have hz1 : z + 1 ≤ 3200000 := by omega
      have hlz : decide (z < 0) = false := by simp; omega
      have hwz : IntKind.i64.wrap (z + 1) = z + 1 := by rw [IntKind.wrap_i64]; omega
      clear hz
      go_wp2_with fail
      go_roundw
      case rel => exact ⟨j + 1, by omega, by (have h1 := no_ge L k0 n; have h2 := HN.out; go_num), by rw [show no L k0 (j + 1) = q + L j + 1 from by show no L k0 j + L j + 1 = _; rw [HQ.out]]; exact congrArg (Value.int .i64) (by rw [HZ.out]; omega), HB1⟩
      case measure => (have h1 := no_ge L k0 n; have h2 := HN.out; simp [intOf]; omega)
    · go_wp2
      go_ret
      have e : j = n := by omega
      subst e
      exact ⟨rfl, HB.out⟩
end Go.Proofs.Ythfdkenidfnmgaa
namespace Go.Proofs.Ythfdkenidfnmgaa
open Go.ChangeShapes Go.WideShapes Go.ChangeAt Go.RowKit
set_option linter.unusedVariables false
set_option linter.unusedSimpArgs false
set_option maxRecDepth 100000
abbrev eL (K : KV) : Nat → Nat := fun j => (K.e.getD j ez).r.length
def kmk1 (K : KV) : Nat := 1 + total K.m
def kmk2 (K : KV) : Nat := kmk1 K + 3 * K.i.length
def kmk3 (K : KV) : Nat := no (eL K) (kmk2 K) K.e.length
def kmk4 (K : KV) : Nat := kmk3 K + 4 * K.c.length
structure KMrk (w : World) (B0 B1 B2 B3 B4 : Nat) (vm vi ve vc : Value) (K : KV) : Prop where
  m : ∃ a cap A C, vm = .slice a K.m.length cap ∧ MatAt w B0 B1 a K.m.length A (fun j => (K.m.getD j []).length) C (fun j i => (1 : Int) + off (fun j => (K.m.getD j []).length) j + i)
  i : IsW w B1 B2 vi (mkIsG (kmk1 K) K.i.length)
  e : ∃ a cap A C, ve = .slice a K.e.length cap ∧ TAt w B2 B3 2 a K.e.length A (eL K) C (fun t i => mtext (no (eL K) (kmk2 K) t + i)) ∧ RAt w B2 B3 a K.e.length (fun t => ((no (eL K) (kmk2 K) t + eL K t : Nat) : Int))
  c : CsW w B3 B4 vc (mkCG (kmk3 K) K.c.length)
theorem KMrk.chg {lo hi : Nat} {w w' : World} {B0 B1 B2 B3 B4 : Nat} {vm vi ve vc : Value} {K : KV} (h : KMrk w B0 B1 B2 B3 B4 vm vi ve vc K) (c : Chg lo hi w w') (h0 : B0 ≤ B1) (h1 : B1 ≤ B2) (h2 : B2 ≤ B3) (h3 : B3 ≤ B4) (hB : B4 ≤ w.heap.size) (hh : B4 ≤ lo ∨ hi ≤ B0) : KMrk w' B0 B1 B2 B3 B4 vm vi ve vc K := by
  obtain ⟨a, cap, A, C, e1, e2⟩ := h.m
  obtain ⟨a', cap', A', C', f1, f2, f3⟩ := h.e
  exact ⟨⟨a, cap, A, C, e1, e2.chg c (by omega) (by omega)⟩, h.i.chg c (by omega) (by omega), ⟨a', cap', A', C', f1, f2.chg c (by omega) (by omega), f3.of_blocks (fun b h0 h1 => c.block b (by omega) (by omega))⟩, h.c.chg c (by omega) (by omega)⟩
theorem kmk3_le (K : KV) : kmk3 K ≤ kmk2 K + K.e.length + tot3 K.e := by
  have := no_tot K.e (kmk2 K) K.e.length (Nat.le_refl _)
  rw [List.take_length] at this
  exact this
set_option maxHeartbeats 2000000 in
theorem markKernelG_any (w : World) (B0 B1 B2 B3 B4 : Nat) (vm vi ve vc : Value) (K : KV) (h : KsW w B0 B1 B2 B3 B4 vm vi ve vc K) (h0 : B0 ≤ B1) (h1 : B1 ≤ B2) (h2 : B2 ≤ B3) (h3 : B3 ≤ B4) (hB : B4 ≤ w.heap.size) (hn : szK K ≤ 1048576) :
    Calls Try.prog 11 #[kV vm vi ve vc, .int .i64 1] w fun e w' => e = .returned (.int .i64 (kmk4 K : Nat)) ∧ KMrk w' B0 B1 B2 B3 B4 vm vi ve vc K ∧ Chg B0 B4 w w' := by
  have hm3 := kmk3_le K
  have hK1 : kmk1 K = 1 + total K.m := rfl
  have hK2 : kmk2 K = kmk1 K + 3 * K.i.length := rfl
  have hK3 : kmk3 K = no (eL K) (kmk2 K) K.e.length := rfl
  have hK4 : kmk4 K = kmk3 K + 4 * K.c.length := rfl
  unfold szK at hn
  have HA : Hid (∀ o, Below w.heap.size w (w.alloc o)) := Lib.hid (fun o => (Below.refl _ _).alloc (Nat.le_refl _) _)
  have HM : Hid (∀ W, Below w.heap.size w W → Calls Try.prog 25 #[vm, .int .i64 1] W fun e w' => e = .returned (.int .i64 (kmk1 K : Nat)) ∧ (∃ a cap A C, vm = .slice a K.m.length cap ∧ MatAt w' B0 B1 a K.m.length A (fun j => (K.m.getD j []).length) C (fun j i => (1 : Int) + off (fun j => (K.m.getD j []).length) j + i)) ∧ Chg B0 B1 W w') := Lib.hid (fun W hW => by
    obtain ⟨a, cap, A, C, rfl, q1, q2, q3⟩ := h.m.chg (Chg.of_below hW) (by omega) (.inr (Nat.zero_le _))
    refine (markIntSS_any W B0 B1 a K.m.length cap A _ C _ 1 (by omega) (by rw [off_all]; omega) (by omega) (by omega) q3).mono ?_
    rintro e w' ⟨rfl, hm, hk⟩
    exact ⟨by rw [off_all, hK1]; congr 1, ⟨a, cap, A, C, rfl, hm⟩, Chg.of_kept hk⟩)
  have HI : Hid (∀ W, Chg B0 B4 w W → (∀ b, B1 ≤ b → b < B4 → W.heap[b]? = w.heap[b]?) → Calls Try.prog 26 #[vi, .int .i64 (kmk1 K : Nat)] W fun e w' => e = .returned (.int .i64 (kmk2 K : Nat)) ∧ IsW w' B1 B2 vi (mkIsG (kmk1 K) K.i.length) ∧ Chg B1 B2 W w') := Lib.hid (fun W hW hb => by
    have q := h.i.of_blocks (fun b b0 b1 => hb b b0 (by omega))
    obtain ⟨a, cap, rfl, q1, q2, q3⟩ := q
    have := markInfoG_any (kmk1 K) (by omega) W B1 B2 a K.i.length cap K.i ⟨a, cap, rfl, q1, q2, q3⟩ (by have := hW.size; omega) rfl (by omega)
    rw [← hK2] at this
    exact this)
  have HE : Hid (∀ W, Chg B0 B4 w W → (∀ b, B2 ≤ b → b < B4 → W.heap[b]? = w.heap[b]?) → Calls Try.prog 27 #[ve, .int .i64 (kmk2 K : Nat)] W fun e w' => e = .returned (.int .i64 (kmk3 K : Nat)) ∧ (∃ a cap A C, ve = .slice a K.e.length cap ∧ TAt w' B2 B3 2 a K.e.length A (eL K) C (fun t i => mtext (no (eL K) (kmk2 K) t + i)) ∧ RAt w' B2 B3 a K.e.length (fun t => ((no (eL K) (kmk2 K) t + eL K t : Nat) : Int))) ∧ Chg B2 B3 W w') := Lib.hid (fun W hW hb => by
    obtain ⟨a, cap, A, C, rfl, q1, q2, q3, q4⟩ := h.e.of_blocks (fun b b0 b1 => hb b b0 (by omega))
    refine (markEnvG_any (kmk2 K) (by omega) W B2 B3 a K.e.length cap A _ C _ _ q3 q4 (by have := hW.size; omega) (by rw [← hK3]; omega)).mono ?_
    rintro e w' ⟨rfl, ht, hr, hc⟩
    exact ⟨rfl, ⟨a, cap, A, C, rfl, ht.congrX (fun j hj i _ => by unfold mkX; rw [if_pos hj]), hr.congrR (fun j hj => by unfold mkR; rw [if_pos hj])⟩, hc⟩)
  have HCC : Hid (∀ W, Chg B0 B4 w W → (∀ b, B3 ≤ b → b < B4 → W.heap[b]? = w.heap[b]?) → Calls Try.prog 28 #[vc, .int .i64 (kmk3 K : Nat)] W fun e w' => e = .returned (.int .i64 (kmk4 K : Nat)) ∧ CsW w' B3 B4 vc (mkCG (kmk3 K) K.c.length) ∧ Chg B3 B4 W w') := Lib.hid (fun W hW hb => by
    refine (markCachedG_any (kmk3 K) (by omega) W vc K.c B3 B4 (h.c.of_blocks (fun b b0 b1 => hb b b0 b1)) (by have := hW.size; omega) (by omega)).mono ?_
    rintro e w' ⟨rfl, hk, hc⟩
    exact ⟨by rw [hK4]; congr 1, hc, Chg.of_kept hk⟩)
  have HQ : Hid (∀ t W', Chg B0 B4 (w.alloc (.cells #[vm, vi, ve, vc] t)) W' → W'.cell? ⟨w.heap.size, 1, none⟩ = some vi ∧ W'.cell? ⟨w.heap.size, 2, none⟩ = some ve ∧ W'.cell? ⟨w.heap.size, 3, none⟩ = some vc) := Lib.hid (fun t W' hb => by
    have e : ∀ j v, (#[vm, vi, ve, vc] : Array Value)[j]? = some v → W'.cell? ⟨w.heap.size, j, none⟩ = some v := fun j v hj => (World.cell?_of_block (hb.block w.heap.size (by simp) (.inr hB))).trans (new_cell hj)
    exact ⟨e 1 _ rfl, e 2 _ rfl, e 3 _ rfl⟩)
  have HL := Lib.hid (And.intro h0 (And.intro h1 (And.intro h2 (And.intro h3 hB))))
  have HFIN : Hid (∀ wa wb wc wd, (∃ a cap A C, vm = .slice a K.m.length cap ∧ MatAt wa B0 B1 a K.m.length A (fun j => (K.m.getD j []).length) C (fun j i => (1 : Int) + off (fun j => (K.m.getD j []).length) j + i)) → B4 ≤ wa.heap.size → Chg B1 B2 wa wb → IsW wb B1 B2 vi (mkIsG (kmk1 K) K.i.length) → Chg B2 B3 wb wc → (∃ a cap A C, ve = .slice a K.e.length cap ∧ TAt wc B2 B3 2 a K.e.length A (eL K) C (fun t i => mtext (no (eL K) (kmk2 K) t + i)) ∧ RAt wc B2 B3 a K.e.length (fun t => ((no (eL K) (kmk2 K) t + eL K t : Nat) : Int))) → Chg B3 B4 wc wd → CsW wd B3 B4 vc (mkCG (kmk3 K) K.c.length) → KMrk wd B0 B1 B2 B3 B4 vm vi ve vc K) := Lib.hid (fun wa wb wc wd hm hs c1 hi c2 he c3 hc => by
    have s1 := c1.size
    have s2 := c2.size
    obtain ⟨a, cap, A, C, e1, e2⟩ := hm
    obtain ⟨a', cap', A', C', f1, f2, f3⟩ := he
    exact ⟨⟨a, cap, A, C, e1, ((e2.chg c1 (by omega) (by omega)).chg c2 (by omega) (by omega)).chg c3 (by omega) (by omega)⟩, (hi.chg c2 (by omega) (by omega)).chg c3 (by omega) (by omega), ⟨a', cap', A', C', f1, f2.chg c3 (by omega) (by omega), f3.of_blocks (fun b k0 k1 => c3.block b (by omega) (by omega))⟩, hc⟩)
  obtain ⟨z1, hz1⟩ : ∃ z, z = kmk1 K := ⟨_, rfl⟩
  obtain ⟨z2, hz2⟩ : ∃ z, z = kmk2 K := ⟨_, rfl⟩
  obtain ⟨z3, hz3⟩ : ∃ z, z = kmk3 K := ⟨_, rfl⟩
  obtain ⟨z4, hz4⟩ : ∃ z, z = kmk4 K := ⟨_, rfl⟩
  obtain ⟨PM, hPM⟩ : ∃ P : World → Prop, P = fun w' => (∃ a cap A C, vm = .slice a K.m.length cap ∧ MatAt w' B0 B1 a K.m.length A (fun j => (K.m.getD j []).length) C (fun j i => (1 : Int) + off (fun j => (K.m.getD j []).length) j + i)) := ⟨_, rfl⟩
  obtain ⟨PI, hPI⟩ : ∃ P : World → Prop, P = fun w' => IsW w' B1 B2 vi (mkIsG (kmk1 K) K.i.length) := ⟨_, rfl⟩
  obtain ⟨PE, hPE⟩ : ∃ P : World → Prop, P = fun w' => (∃ a cap A C, ve = .slice a K.e.length cap ∧ TAt w' B2 B3 2 a K.e.length A (eL K) C (fun t i => mtext (no (eL K) (kmk2 K) t + i)) ∧ RAt w' B2 B3 a K.e.length (fun t => ((no (eL K) (kmk2 K) t + eL K t : Nat) : Int))) := ⟨_, rfl⟩
  obtain ⟨PC, hPC⟩ : ∃ P : World → Prop, P = fun w' => CsW w' B3 B4 vc (mkCG (kmk3 K) K.c.length) := ⟨_, rfl⟩
  replace HM : Hid (∀ W, Below w.heap.size w W → Calls Try.prog 25 #[vm, .int .i64 1] W fun e w' => e = .returned (.int .i64 (z1 : Nat)) ∧ PM w' ∧ Chg B0 B1 W w') := Lib.hid (by rw [hz1, hPM]; exact HM.out)
  replace HI : Hid (∀ W, Chg B0 B4 w W → (∀ b, B1 ≤ b → b < B4 → W.heap[b]? = w.heap[b]?) → Calls Try.prog 26 #[vi, .int .i64 (z1 : Nat)] W fun e w' => e = .returned (.int .i64 (z2 : Nat)) ∧ PI w' ∧ Chg B1 B2 W w') := Lib.hid (by rw [hz1, hz2, hPI]; exact HI.out)
  replace HE : Hid (∀ W, Chg B0 B4 w W → (∀ b, B2 ≤ b → b < B4 → W.heap[b]? = w.heap[b]?) → Calls Try.prog 27 #[ve, .int .i64 (z2 : Nat)] W fun e w' => e = .returned (.int .i64 (z3 : Nat)) ∧ PE w' ∧ Chg B2 B3 W w') := Lib.hid (by rw [hz2, hz3, hPE]; exact HE.out)
  replace HCC : Hid (∀ W, Chg B0 B4 w W → (∀ b, B3 ≤ b → b < B4 → W.heap[b]? = w.heap[b]?) → Calls Try.prog 28 #[vc, .int .i64 (z3 : Nat)] W fun e w' => e = .returned (.int .i64 (z4 : Nat)) ∧ PC w' ∧ Chg B3 B4 W w') := Lib.hid (by rw [hz3, hz4, hPC]; exact HCC.out)
  replace HFIN : Hid (∀ wa wb wc wd, PM wa → B4 ≤ wa.heap.size → Chg B1 B2 wa wb → PI wb → Chg B2 B3 wb wc → PE wc → Chg B3 B4 wc wd → PC wd → KMrk wd B0 B1 B2 B3 B4 vm vi ve vc K) := Lib.hid (by rw [hPM, hPI, hPE, hPC]; exact HFIN.out)
  rw [← hz4]
  clear h h0 h1 h2 h3 hB hn hm3 hK1 hK2 hK3 hK4 hz1 hz2 hz3 hz4 hPM hPI hPE hPC
  go_enter Try.func11, Try.ntmps11
  go_wp2_with fail
  refine (HM.out _ (HA.out _)).mono ?_
  rintro e w1 ⟨rfl, hp1, hc1⟩
  have HP1 := Lib.hid hp1
  have HS1 : Hid (B4 ≤ w1.heap.size) := Lib.hid (by have := HL.out; have h7 := hc1.size; simp at h7; omega)
  have HC1 := Lib.hid (chg_wide (B0 := B0) (B1 := B4) hc1 (.inr ⟨Nat.le_refl _, by have := HL.out; omega⟩))
  obtain ⟨q1, q2, q3⟩ := HQ.out _ _ HC1.out
  have HD1 : Hid (Chg B0 B4 w w1) := Lib.hid (chg_trans (chg_below (chg_refl _ _ _) (HA.out _)) HC1.out)
  have HB1 : Hid (∀ b, B1 ≤ b → b < B4 → w1.heap[b]? = w.heap[b]?) := Lib.hid (fun b b0 b1 => (hc1.block b (by have := HL.out; simp; omega) (.inr b0)).trans ((HA.out _).block b (by have := HL.out; omega)))
  clear hc1 hp1
  go_wp2_with fail
  refine (HI.out _ HD1.out HB1.out).mono ?_
  rintro e w2 ⟨rfl, hp2, hc2⟩
  have HP2 := Lib.hid (And.intro hp2 hc2)
  have HC2 := Lib.hid (chg_trans HC1.out (chg_wide (B0 := B0) (B1 := B4) hc2 (.inr ⟨by have := HL.out; omega, by have := HL.out; omega⟩)))
  have HD2 := Lib.hid (chg_trans HD1.out (chg_wide (B0 := B0) (B1 := B4) hc2 (.inr ⟨by have := HL.out; omega, by have := HL.out; omega⟩)))
  have HB2 : Hid (∀ b, B2 ≤ b → b < B4 → w2.heap[b]? = w.heap[b]?) := Lib.hid (fun b b0 b1 => (hc2.block b (by have := HL.out; have := HD1.out.size; omega) (.inr b0)).trans (HB1.out b (by have := HL.out; omega) b1))
  clear q1 q2 q3 hc2 hp2
  obtain ⟨q1, q2, q3⟩ := HQ.out _ _ HC2.out
  go_wp2_with fail
  refine (HE.out _ HD2.out HB2.out).mono ?_
  rintro e w3 ⟨rfl, hp3, hc3⟩
  have HP3 := Lib.hid (And.intro hp3 hc3)
  have HC3 := Lib.hid (chg_trans HC2.out (chg_wide (B0 := B0) (B1 := B4) hc3 (.inr ⟨by have := HL.out; omega, by have := HL.out; omega⟩)))
  have HD3 := Lib.hid (chg_trans HD2.out (chg_wide (B0 := B0) (B1 := B4) hc3 (.inr ⟨by have := HL.out; omega, by have := HL.out; omega⟩)))
  have HB3 : Hid (∀ b, B3 ≤ b → b < B4 → w3.heap[b]? = w.heap[b]?) := Lib.hid (fun b b0 b1 => (hc3.block b (by have := HL.out; have := HD2.out.size; omega) (.inr b0)).trans (HB2.out b (by have := HL.out; omega) b1))
  clear q1 q2 q3 hc3 hp3
  obtain ⟨q1, q2, q3⟩ := HQ.out _ _ HC3.out
  go_wp2_with fail
  refine (HCC.out _ HD3.out HB3.out).mono ?_
  rintro e w4 ⟨rfl, hp4, hc4⟩
  have HP4 := Lib.hid (And.intro hp4 hc4)
  have HD4 := Lib.hid (chg_trans HD3.out (chg_wide (B0 := B0) (B1 := B4) hc4 (.inr ⟨by have := HL.out; omega, Nat.le_refl _⟩)))
  clear q1 q2 q3 hc4 hp4
  go_wp2_with fail
  go_ret
  exact ⟨rfl, HFIN.out w1 w2 w3 w4 HP1.out HS1.out HP2.out.2 HP2.out.1 HP3.out.2 HP3.out.1 HP4.out.2 HP4.out.1, HD4.out⟩
set_option maxHeartbeats 2000000 in
theorem heldKernelG_any (w : World) (B0 B1 B2 B3 B4 : Nat) (vm vi ve vc : Value) (K : KV) (h : KMrk w B0 B1 B2 B3 B4 vm vi ve vc K) (h0 : B0 ≤ B1) (h1 : B1 ≤ B2) (h2 : B2 ≤ B3) (h3 : B3 ≤ B4) (hB : B4 ≤ w.heap.size) (hn : szK K ≤ 1048576) :
    Calls Try.prog 12 #[kV vm vi ve vc, .int .i64 1] w fun e w' => e = .returned (.int .i64 (kmk4 K : Nat)) ∧ Below w.heap.size w w' := by
  have hm3 := kmk3_le K
  have hK1 : kmk1 K = 1 + total K.m := rfl
  have hK2 : kmk2 K = kmk1 K + 3 * K.i.length := rfl
  have hK3 : kmk3 K = no (eL K) (kmk2 K) K.e.length := rfl
  have hK4 : kmk4 K = kmk3 K + 4 * K.c.length := rfl
  unfold szK at hn
  have HKP := Lib.hid (fun t => KP.start w vm vi ve vc t)
  have HM : Hid (∀ W, Below w.heap.size w W → Calls Try.prog 29 #[vm, .int .i64 1] W fun e w' => e = .returned (.int .i64 (kmk1 K : Nat)) ∧ Below W.heap.size W w') := Lib.hid (fun W hW => by
    obtain ⟨a, cap, A, C, rfl, q⟩ := h.m
    refine (heldIntSS_any W B0 B1 a K.m.length cap A _ C 1 (by omega) (by rw [off_all]; omega) (by omega) (by omega) (q.chg (Chg.of_below hW) (by omega) (.inr (Nat.zero_le _)))).mono ?_
    rintro e w' ⟨rfl, rfl⟩
    exact ⟨by rw [off_all, hK1]; congr 1, Below.refl _ _⟩)
  have HI : Hid (∀ W, Below w.heap.size w W → Calls Try.prog 30 #[vi, .int .i64 (kmk1 K : Nat)] W fun e w' => e = .returned (.int .i64 (kmk2 K : Nat)) ∧ Below W.heap.size W w') := Lib.hid (fun W hW => by
    have q := (h.i.below hW (by omega)).is
    have q' := q
    obtain ⟨a, cap, rfl, _⟩ := q'
    rw [mkIsG_len] at q ⊢
    have := heldInfoG_any (kmk1 K) (by omega) W a K.i.length cap q (by omega)
    rw [← hK2] at this
    exact this)
  have HE : Hid (∀ W, Below w.heap.size w W → Calls Try.prog 31 #[ve, .int .i64 (kmk2 K : Nat)] W fun e w' => e = .returned (.int .i64 (kmk3 K : Nat)) ∧ Below W.heap.size W w') := Lib.hid (fun W hW => by
    obtain ⟨a, cap, A, C, rfl, q1, q2⟩ := h.e
    exact heldEnvG_any (kmk2 K) (by omega) W B2 B3 a K.e.length cap A (eL K) C (q1.chg (Chg.of_below hW) (by omega) (.inr (Nat.zero_le _))) (q2.of_blocks (fun b k0 k1 => hW.block b (by omega))) (by rw [← hK3]; omega))
  have HCC : Hid (∀ W, Below w.heap.size w W → Calls Try.prog 32 #[vc, .int .i64 (kmk3 K : Nat)] W fun e w' => e = .returned (.int .i64 (kmk4 K : Nat)) ∧ Below W.heap.size W w') := Lib.hid (fun W hW => by
    refine (heldCachedG_any (kmk3 K) (by omega) W vc K.c.length ((h.c.cs).below hW) (by omega)).mono ?_
    rintro e w' ⟨rfl, rfl⟩
    exact ⟨by rw [hK4]; congr 1, Below.refl _ _⟩)
  have hb1 : (kmk1 K : Int) ≤ 100000000 := by omega
  have hb2 : (kmk2 K : Int) ≤ 100000000 := by omega
  have hb3 : (kmk3 K : Int) ≤ 100000000 := by omega
  have hb4 : (kmk4 K : Int) ≤ 100000000 := by omega
  obtain ⟨z1, hz1⟩ : ∃ z : Int, z = ((kmk1 K : Nat) : Int) := ⟨_, rfl⟩
  obtain ⟨z2, hz2⟩ : ∃ z : Int, z = ((kmk2 K : Nat) : Int) := ⟨_, rfl⟩
  obtain ⟨z3, hz3⟩ : ∃ z : Int, z = ((kmk3 K : Nat) : Int) := ⟨_, rfl⟩
  obtain ⟨z4, hz4⟩ : ∃ z : Int, z = ((kmk4 K : Nat) : Int) := ⟨_, rfl⟩
  rw [← hz1] at HM HI
  rw [← hz2] at HI HE
  rw [← hz3] at HE HCC
  rw [← hz4] at HCC ⊢
  have l1 : decide (z1 < 0) = false := by simp; omega
  have l2 : decide (z2 < 0) = false := by simp; omega
  have l3 : decide (z3 < 0) = false := by simp; omega
  have l4 : decide (z4 < 0) = false := by simp; omega
  clear h h0 h1 h2 h3 hB hn hm3 hK1 hK2 hK3 hK4 hb1 hb2 hb3 hb4 hz1 hz2 hz3 hz4
  go_enter Try.func12, Try.ntmps12
  obtain ⟨W0, hW0⟩ : ∃ W0, W0 = w.alloc (.cells #[vm, vi, ve, vc] 29) := ⟨_, rfl⟩
  have HP0 : Hid (KP w W0 vm vi ve vc) := Lib.hid (by rw [hW0]; exact HKP.out _)
  have HW0 := Lib.hid hW0
  clear hW0
  go_wp2_with fail
  rw [← HW0.out]
  refine (HM.out W0 HP0.out.bel).mono ?_
  rintro e W1 ⟨rfl, hb⟩
  have HP1 := Lib.hid (HP0.out.go hb)
  clear hb
  obtain ⟨q0, q1, q2, q3⟩ := HP1.out.cells
  go_wp2_with fail
  clear q0 q1 q2 q3
  refine (HI.out W1 HP1.out.bel).mono ?_
  rintro e W2 ⟨rfl, hb⟩
  have HP2 := Lib.hid (HP1.out.go hb)
  clear hb
  obtain ⟨q0, q1, q2, q3⟩ := HP2.out.cells
  go_wp2_with fail
  clear q0 q1 q2 q3
  refine (HE.out W2 HP2.out.bel).mono ?_
  rintro e W3 ⟨rfl, hb⟩
  have HP3 := Lib.hid (HP2.out.go hb)
  clear hb
  obtain ⟨q0, q1, q2, q3⟩ := HP3.out.cells
  go_wp2_with fail
  clear q0 q1 q2 q3
  refine (HCC.out W3 HP3.out.bel).mono ?_
  rintro e W4 ⟨rfl, hb⟩
  have HP4 := Lib.hid (HP3.out.go hb)
  clear hb
  go_wp2_with fail
  go_ret
  exact ⟨rfl, HP4.out.bel⟩
end Go.Proofs.Ythfdkenidfnmgaa
namespace Go.Proofs.Ythfdkenidfnmgaa
open Go.ChangeShapes Go.WideShapes Go.ChangeAt Go.RowKit
set_option linter.unusedVariables false
set_option linter.unusedSimpArgs false
set_option maxRecDepth 100000
def Fit2 (xss : List (List Bs)) : Prop := ∀ x ∈ xss, Fit x
theorem Fit2.at {xss : List (List Bs)} (h : Fit2 xss) (i : Nat) : Fit (xss.getD i []) := by
  by_cases hi : i < xss.length
  · rw [getD_lt hi]; exact h _ (List.getElem_mem hi)
  · rw [List.getD, List.getElem?_eq_none (Nat.le_of_not_lt hi)]; exact fun x hx => by cases hx
def tot2 (xss : List (List Bs)) : Nat := (xss.map (fun x => x.length + totalS x)).sum
theorem tot2_snoc (xss : List (List Bs)) (k : Nat) (h : k < xss.length) : tot2 (xss.take (k + 1)) = tot2 (xss.take k) + ((xss.getD k []).length + totalS (xss.getD k [])) := by
  rw [take_snoc_getD xss k [] h]; simp [tot2]
theorem tot2_mem {xss : List (List Bs)} {x : List Bs} (h : x ∈ xss) : x.length + totalS x ≤ tot2 xss := by
  induction xss with
  | nil => cases h
  | cons y ys ih =>
    simp only [tot2, List.map_cons, List.sum_cons] at ih ⊢
    rcases List.mem_cons.1 h with e | h
    · subst e; omega
    · have := ih h; omega
def Left2 (xss : List (List Bs)) (left : Int) (w : World) (e : Ending) (w' : World) : Prop :=
  ∃ r : Int, (r < 0 ∨ (0 ≤ r ∧ r + xss.length + tot2 xss = left)) ∧ e = .returned (.int .i64 r) ∧ Below w.heap.size w w'
theorem left2_neg {xss : List (List Bs)} {left : Int} {w w' : World} (h : Below w.heap.size w w') : Left2 xss left w (.returned (.int .i64 (-1))) w' := ⟨-1, .inl (by omega), rfl, h⟩
theorem szStringSS_any (w : World) (v : Value) (xss : List (List Bs)) (left : Int) (h : Sss w v xss) (hf : Fit2 xss) (h0 : 0 ≤ left) (h1 : left ≤ 1048576) :
    Calls Try.prog 4 #[v, .int .i64 left] w (Left2 xss left w) := by
  obtain ⟨a, ca, rfl, hla, hma, hxa⟩ := h
  unfold maxLen at hma
  obtain ⟨n, hN⟩ : ∃ n, n = xss.length := ⟨_, rfl⟩
  rw [← hN] at hla hxa ⊢
  have HN := Lib.hid hN
  have HF := Lib.hid hf
  have HX := Lib.hid hxa
  clear hN hf hxa
  by_cases hneg : left < (n : Int)
  · have hneg' : left - (n : Int) < 0 := by omega
    go_enter Try.func4, Try.ntmps4
    go_wp2
    go_ret
    exact left2_neg (Below.refl _ _)
  · have hpos : ¬ left - (n : Int) < 0 := by omega
    go_enter Try.func4, Try.ntmps4
    go_wp2
    go_loop [1, 5] (fun l i => ∃ (k : Nat) (r : Int), k ≤ n ∧ i = .int .i64 k ∧ l = .int .i64 r ∧ 0 ≤ r ∧ r ≤ 1048576 ∧ Hid (r + n + tot2 (xss.take k) = left)) (fun _ i => n - (intOf i).toNat)
    case atStart => exact ⟨0, left - n, Nat.zero_le _, rfl, rfl, by omega, by omega, Lib.hid (by simp [tot2])⟩
    case round =>
      obtain ⟨k, r, hk, rfl, rfl, hr0, hr1, HT⟩ := hrel
      by_cases hlt : k < n
      · obtain ⟨b, o, u, rfl, hc, hu⟩ := HX.out k hlt
        have HC := Lib.hid (szStringS_any w u _ r hu (HF.out.at k) hr0 hr1)
        unfold LeftS at HC
        have HS := Lib.hid (tot2_snoc xss k (by have := HN.out; omega))
        generalize hx : xss.getD k [] = x at HC HS
        clear hx hu
        have hlt' : (k : Int) < (n : Int) := by omega
        go_wp2_with fail
        refine HC.out.mono ?_
        rintro e w' ⟨r', hr', rfl, rfl⟩
        rcases hr' with hr' | hr'
        · go_wp2_with fail
          go_ret
          exact left2_neg (Below.refl _ _)
        · have hng : ¬ r' < 0 := by omega
          go_wp2_with fail
          go_round
          case rel => exact ⟨k + 1, r', by omega, by go_num, rfl, by omega, by omega, Lib.hid (by have h1 := HT.out; have h2 := HS.out; omega)⟩
          case measure => simp [intOf]; omega
      · go_wp2
        go_ret
        have e : k = n := by omega
        subst e
        exact ⟨r, .inr ⟨by omega, by have := HT.out; rw [HN.out, List.take_length] at this; exact this⟩, rfl, Below.refl _ _⟩
theorem strsInfo : (Try.prog.info? 38).map (fun i => (i.zero, i.size, i.bytes)) = some (some (.slice none 0 0), 1, 24) := by kernel_rfl
def tops (xss : List (List Bs)) (g k : Nat) (j : Nat) : Value := if j < k then .slice (some ⟨g + 1 + j, 0, none⟩) (xss.getD j []).length (xss.getD j []).length else .slice none 0 0
theorem tops_step {xss : List (List Bs)} {g k : Nat} (j : Nat) : (if j = k then Value.slice (some ⟨g + 1 + k, 0, none⟩) (xss.getD k []).length (xss.getD k []).length else tops xss g k j) = tops xss g (k + 1) j := by
  unfold tops
  by_cases h : j = k
  · subst h; simp
  · by_cases h2 : j < k
    · rw [if_neg h, if_pos h2, if_pos (by omega)]
    · rw [if_neg h, if_neg h2, if_neg (by omega)]
def rowsSome (w : World) (v : Value) (n : Nat) : Prop := ∃ g m c, v = .slice (some ⟨g, 0, none⟩) m c ∧ ∀ j, j < n → ∃ b l c, w.cell? ⟨g, j, none⟩ = some (.slice (some b) l c)
def ToSss (xss : List (List Bs)) (w : World) (e : Ending) (w' : World) : Prop :=
  ∃ v, e = .returned v ∧ SssW w' w.heap.size w'.heap.size v xss ∧ rowsSome w' v xss.length ∧ Below w.heap.size w w'
theorem strsW_shape {w : World} {g n : Nat} {x : List Bs} (h : StrsW w g (g + 1) (.slice (some ⟨g, 0, none⟩) n n) x) : n = x.length ∧ n ≤ maxLen ∧ ∀ i, i < n → w.cell? ⟨g, 0 + i, none⟩ = some (.string ⟨(x.getD i []).toArray⟩) ∧ w.frozen? ⟨g, 0 + i, none⟩ = false := by
  obtain ⟨a, cap, e, h1, h2, h3⟩ := h
  cases e
  refine ⟨rfl, h2, fun i hi => ?_⟩
  obtain ⟨g', p', e, _, _, hc, hf⟩ := h3 i hi
  cases e
  exact ⟨hc, hf⟩
theorem sss_mk {w0 w : World} {g n : Nat} {xss : List (List Bs)} (hg : g < w.heap.size) (hs : w.heap.size = g + 1 + n) (hN : n = xss.length) (hn : n ≤ 1048576) (hr : w.rowIs g 38 n (tops xss g n))
    (hx : ∀ j, j < n → StrsW w (g + 1 + j) (g + 1 + j + 1) (.slice (some ⟨g + 1 + j, 0, none⟩) (xss.getD j []).length (xss.getD j []).length) (xss.getD j [])) : SssW w g w.heap.size (.slice (some ⟨g, 0, none⟩) n n) xss := by
  subst hN
  refine ⟨_, _, fun j => some ⟨g + 1 + j, 0, none⟩, fun j => (xss.getD j []).length, rfl, Nat.le_refl _, by unfold maxLen; omega, fun j hj => ?_, fun j hj i hi => ?_, fun j hj j' hj' hne _ _ g1 p1 g2 p2 e1 e2 => ?_⟩
  · have hc := hr.cell hj
    rw [tops, if_pos hj] at hc
    exact ⟨g, 0, rfl, Nat.le_refl _, hg, by rw [Nat.mul_one, Nat.zero_add]; exact hc, Nat.le_refl _, (strsW_shape (hx j hj)).2.1, by simpa using hr.frozen j⟩
  · obtain ⟨_, _, h3⟩ := strsW_shape (hx j hj)
    have := h3 i hi
    exact ⟨g + 1 + j, 0, rfl, by omega, by omega, this.1, this.2, fun b o e => by cases e; omega⟩
  · cases e1; cases e2; omega
theorem len_le_tot2 (xss : List (List Bs)) (j : Nat) (h : j < xss.length) : (xss.getD j []).length ≤ tot2 xss := by
  have := tot2_mem (x := xss.getD j []) (by rw [getD_lt h]; exact List.getElem_mem h)
  omega
theorem toStringSS_any (w : World) (v : Value) (xss : List (List Bs)) (h : Sss w v xss) (hn : xss.length + tot2 xss ≤ 1048576) :
    Calls Try.prog 6 #[v] w (ToSss xss w) := by
  obtain ⟨a, ca, rfl, hla, hma, hxa⟩ := h
  unfold maxLen at hma
  have hlen := len_le_tot2 xss
  obtain ⟨n, hN⟩ : ∃ n, n = xss.length := ⟨_, rfl⟩
  rw [← hN] at hla hxa hn hlen ⊢
  have HN := Lib.hid hN
  clear hN
  have HLEN := Lib.hid hlen
  clear hlen
  have hmk := run_make_row' (P := Try.prog) 22 38 (.slice none 0 0) 24 Try.underlying22 strsInfo rfl .i64 .i64 n (by omega) (by omega)
  go_enter Try.func6, Try.ntmps6
  go_wp2
  clear hmk
  go_loopw [4] (fun i wr => ∃ k : Nat, k ≤ n ∧ i = .int .i64 k ∧ Below w.heap.size w wr ∧ wr.rowIs w.heap.size 38 n (tops xss w.heap.size k) ∧ Hid (wr.heap.size = w.heap.size + 1 + k) ∧
    Hid (∀ j, j < k → StrsW wr (w.heap.size + 1 + j) (w.heap.size + 1 + j + 1) (.slice (some ⟨w.heap.size + 1 + j, 0, none⟩) (xss.getD j []).length (xss.getD j []).length) (xss.getD j []))) (fun i _ => n - (intOf i).toNat)
  case atStart => exact ⟨0, Nat.zero_le _, rfl, (Below.refl _ _).alloc (Nat.le_refl _) _, (World.rowIs_made w (.slice none 0 0) n 38).congr (fun j _ => by simp [tops]), Lib.hid (by simp), Lib.hid (fun j hj => by omega)⟩
  case round =>
    obtain ⟨k, hk, rfl, hbel, hrow, HS, HR⟩ := hrel
    by_cases hlt : k < n
    · obtain ⟨b, o, u, rfl, hc, hu⟩ := hxa k hlt
      have hb := cell_lt hc
      have hcr := (hbel.cell (p := ⟨b, o + k, none⟩) hb).trans hc
      have hur : Strs wr u (xss.getD k []) := hu.below hbel
      have HC := Lib.hid (toStringS_any wr u _ hur (by have := HLEN.out k hlt; omega))
      clear hc hxa hu hur
      have hlt' : (k : Int) < (n : Int) := by omega
      go_wp2_with fail
      refine HC.out.mono ?_
      rintro e w2 ⟨v, rfl, ho, hb2, hs2, hv⟩
      have hsz := HS.out
      rw [hsz] at ho hb2 hv
      have hs3 : Hid (w2.heap.size = w.heap.size + 1 + (k + 1)) := Lib.hid (by omega)
      clear hs2
      subst hv
      have hrow2 : w2.rowIs w.heap.size 38 n (tops xss w.heap.size k) := hrow.of_block (hb2.block _ (by omega))
      have hdst := hrow2.cell hlt
      have hfr := hrow2.frozen k
      have hbel2 : Below w.heap.size w w2 := hbel.trans (hb2.mono (by omega))
      have HR2 : Hid (∀ j, j < k + 1 → StrsW (w2.setCell ⟨w.heap.size, k, none⟩ (.slice (some ⟨w.heap.size + 1 + k, 0, none⟩) (xss.getD k []).length (xss.getD k []).length)) (w.heap.size + 1 + j) (w.heap.size + 1 + j + 1) (.slice (some ⟨w.heap.size + 1 + j, 0, none⟩) (xss.getD j []).length (xss.getD j []).length) (xss.getD j [])) := Lib.hid (fun j hj => by
        refine StrsW.of_blocks ?_ (fun b h0 h1 => Below.heap_setCell _ _ _ _ (by show b ≠ w.heap.size; omega))
        by_cases hjk : j = k
        · subst hjk; exact ho
        · exact (HR.out j (by omega)).of_blocks (fun b h0 h1 => hb2.block _ (by omega)))
      clear ho hsz HS
      go_wp2_with fail
      go_roundw
      case rel => exact ⟨k + 1, by omega, by go_num, hbel2.setCell (p := ⟨w.heap.size, k, none⟩) (Nat.le_refl _) _, (hrow2.set k _).congr (fun j _ => tops_step j), Lib.hid (by have := hs3.out; simpa [World.setCell] using this), HR2⟩
      case measure => simp [intOf]; omega
    · go_wp2
      go_ret
      have e : k = n := by omega
      subst e
      exact ⟨_, rfl, sss_mk (w0 := w) (by have := HS.out; omega) HS.out HN.out (by omega) hrow HR.out, ⟨_, _, _, rfl, fun j hj => ⟨_, _, _, by have hc := hrow.cell (show j < k by have := HN.out; omega); rw [tops, if_pos (show j < k by have := HN.out; omega)] at hc; exact hc⟩⟩, hbel⟩
theorem eqStringSS_any (w : World) (va vb : Value) (xs ys : List (List Bs)) (ha : Sss w va xs) (hb : Sss w vb ys) :
    Calls Try.prog 9 #[va, vb] w (Reads (.bool (decide (xs = ys))) w) := by
  obtain ⟨a, ca, rfl, hla, hma, hxa⟩ := ha
  obtain ⟨b, cb, rfl, hlb, hmb, hxb⟩ := hb
  unfold maxLen at hma hmb
  by_cases hl : xs.length = ys.length
  · obtain ⟨n, hn⟩ : ∃ n, n = xs.length := ⟨_, rfl⟩
    have hn2 : ys.length = n := by omega
    rw [← hn] at hla hxa ⊢
    rw [hn2] at hlb hxb ⊢
    have HN := Lib.hid hn
    have HN2 := Lib.hid hn2
    clear hn hn2 hl
    go_enter Try.func9, Try.ntmps9
    go_wp2
    go_loopw [5] (fun i wr => ∃ k d : Nat, k ≤ n ∧ i = .int .i64 k ∧ Hid (xs.take k = ys.take k) ∧ wr = w.drewN d) (fun i _ => n - (intOf i).toNat)
    case atStart => exact ⟨0, 0, Nat.zero_le _, rfl, Lib.hid rfl, rfl⟩
    case round =>
      obtain ⟨k, d, hk, rfl, HT, rfl⟩ := hrel
      by_cases hlt : k < n
      · obtain ⟨ba, oa, ua, rfl, hca, hia⟩ := hxa k hlt
        obtain ⟨bb, ob, ub, rfl, hcb, hib⟩ := hxb k hlt
        generalize hx : xs.getD k [] = x at hia
        generalize hy : ys.getD k [] = y at hib
        have HX := Lib.hid hx
        have HY := Lib.hid hy
        clear hx hy hxa hxb
        have hlt' : (k : Int) < (n : Int) := by omega
        have HA := Lib.hid hia
        have HB := Lib.hid hib
        clear hia hib
        by_cases he : x = y
        · have hd : decide (x = y) = true := decide_eq_true he
          have HE := Lib.hid he
          clear he
          have HC : ∀ m, Calls Try.prog 23 #[ua, ub] (w.drewN m) (Reads (.bool true) (w.drewN m)) := fun m => by
            have := eqStringS_any (w.drewN m) ua ub x y HA.out HB.out
            rw [hd] at this
            exact this
          have HC' := Lib.hid HC
          clear HC hd
          go_wp2_with fail
          go_quiet ((go_at_call 23; exact reads_add (HC'.out _)))
          go_wp2
          go_roundw
          case rel => exact ⟨k + 1, _, by omega, by go_num, Lib.hid (take_eq_succ (d := []) (HN.out.symm.trans HN2.out.symm) (by have := HN.out; omega) HT.out (HX.out.trans (HE.out.trans HY.out.symm))), rfl⟩
          case measure => simp [intOf]; omega
        · have hd : decide (x = y) = false := decide_eq_false he
          have HE : Hid (¬ x = y) := Lib.hid he
          clear he
          have HC : ∀ m, Calls Try.prog 23 #[ua, ub] (w.drewN m) (Reads (.bool false) (w.drewN m)) := fun m => by
            have := eqStringS_any (w.drewN m) ua ub x y HA.out HB.out
            rw [hd] at this
            exact this
          have HC' := Lib.hid HC
          clear HC hd
          go_wp2_with fail
          go_quiet ((go_at_call 23; exact reads_add (HC'.out _)))
          go_wp2
          go_ret
          exact reads_mk2 (by symm; exact decide_eq_false (ne_of_getD (d := []) (k := k) (fun h => HE.out (HX.out.symm.trans (h.trans HY.out)))))
      · go_wp2
        go_ret
        exact reads_mk (by symm; exact decide_eq_true (eq_of_take (HN.out.symm.trans HN2.out.symm) (by have := HN.out; omega) HT.out))
  · have hne : ((xs.length : Int) != (ys.length : Int)) = true := by simp; omega
    have HL := Lib.hid hl
    clear hl
    go_enter Try.func9, Try.ntmps9
    go_wp2
    go_ret
    exact reads_mk0 (by symm; exact decide_eq_false (fun h => HL.out (by rw [h])))
end Go.Proofs.Ythfdkenidfnmgaa
namespace Go.Proofs.Ythfdkenidfnmgaa
open Go.ChangeShapes Go.WideShapes Go.ChangeAt Go.RowKit
set_option linter.unusedVariables false
set_option linter.unusedSimpArgs false
set_option maxRecDepth 100000
structure SFrom (w : World) (B0 B1 : Nat) (a : Option Addr) (n : Nat) (A : Nat → Option Addr) (L C : Nat → Nat) (X : Nat → Nat → Bs) (k : Nat) : Prop where
  top : ∀ j, k ≤ j → j < n → ∃ b o, a = some ⟨b, o, none⟩ ∧ B0 ≤ b ∧ b < B1 ∧ w.cell? ⟨b, o + j, none⟩ = some (.slice (A j) (L j) (C j)) ∧ L j ≤ C j ∧ C j ≤ maxLen
  row : ∀ j, k ≤ j → j < n → ∀ i, i < L j → ∃ g p, A j = some ⟨g, p, none⟩ ∧ B0 ≤ g ∧ g < B1 ∧ w.cell? ⟨g, p + i, none⟩ = some (.string ⟨(X j i).toArray⟩) ∧ w.frozen? ⟨g, p + i, none⟩ = false ∧ ∀ b o, a = some ⟨b, o, none⟩ → g ≠ b
  apart : ∀ j, j < n → ∀ j', j' < n → j ≠ j' → 0 < L j → 0 < L j' → ∀ g p g' p', A j = some ⟨g, p, none⟩ → A j' = some ⟨g', p', none⟩ → g ≠ g'
section
variable {w w1 : World} {B0 B1 : Nat} {a : Option Addr} {n : Nat} {A : Nat → Option Addr} {L C : Nat → Nat} {X : Nat → Nat → Bs} {k lo hi : Nat}
theorem sfrom_start (h : TAt w B0 B1 1 a n A L C X) : SFrom w B0 B1 a n A L C X 0 := by
  refine ⟨fun j _ hj => ?_, fun j _ hj i hi => h.row j hj i hi, h.apart⟩
  obtain ⟨b, o, e, h1, h2, h3, h4, h5, _⟩ := h.top j hj
  rw [Nat.mul_one] at h3
  exact ⟨b, o, e, h1, h2, h3, h4, h5⟩
theorem SFrom.rowW (h : SFrom w B0 B1 a n A L C X k) (hk : k < n) :
    ∃ lo hi, StrsW w lo hi (.slice (A k) (L k) (C k)) ((List.range (L k)).map (X k)) ∧ hi ≤ B1 ∧ (hi ≤ lo ∨ (B0 ≤ lo ∧ hi = lo + 1 ∧ 0 < L k ∧ ∃ p, A k = some ⟨lo, p, none⟩)) := by
  obtain ⟨b, o, _, _, _, _, hl, hm⟩ := h.top k (Nat.le_refl _) hk
  by_cases h0 : L k = 0
  · refine ⟨0, 0, ⟨A k, C k, by simp, by simpa using hl, hm, fun i hi => ?_⟩, Nat.zero_le _, .inl (Nat.le_refl _)⟩
    simp [h0] at hi
  · obtain ⟨g, p, e, hg0, hg1, _⟩ := h.row k (Nat.le_refl _) hk 0 (by omega)
    refine ⟨g, g + 1, ⟨A k, C k, by simp, by simpa using hl, hm, fun i hi => ?_⟩, by omega, .inr ⟨hg0, rfl, by omega, p, e⟩⟩
    simp at hi
    obtain ⟨g', p', e', _, _, hc, hf, _⟩ := h.row k (Nat.le_refl _) hk i hi
    have ee := e.symm.trans e'
    cases ee
    refine ⟨g, p, e, Nat.le_refl _, by omega, ?_, hf⟩
    rw [hc, getD_lt (by simpa using hi)]
    simp
theorem SFrom.step (h : SFrom w B0 B1 a n A L C X k) (hk : k < n) (hB : B1 ≤ w.heap.size) (hc : Chg lo hi w w1) (hlo : hi ≤ lo ∨ (B0 ≤ lo ∧ hi = lo + 1 ∧ 0 < L k ∧ ∃ p, A k = some ⟨lo, p, none⟩)) : SFrom w1 B0 B1 a n A L C X (k + 1) := by
  have htop : ∀ b o, a = some ⟨b, o, none⟩ → w1.heap[b]? = w.heap[b]? := fun b o e => by
    obtain ⟨b', o', e', h0, h1, _⟩ := h.top k (Nat.le_refl _) hk
    rw [e] at e'
    cases e'
    refine hc.block b (by omega) ?_
    rcases hlo with hlo | ⟨hl0, rfl, hL, p, eA⟩
    · omega
    · obtain ⟨g, p', e2, _, _, _, _, hne⟩ := h.row k (Nat.le_refl _) hk 0 hL
      rw [eA] at e2
      cases e2
      have := hne b o e
      omega
  refine ⟨fun j hj hn => ?_, fun j hj hn i hi => ?_, h.apart⟩
  · obtain ⟨b, o, e, h0, h1, h2, h3⟩ := h.top j (by omega) hn
    exact ⟨b, o, e, h0, h1, (World.cell?_of_block (htop b o e)).trans h2, h3⟩
  · obtain ⟨g, p, e1, h0, h1, h2, h3, h4⟩ := h.row j (by omega) hn i hi
    have hb : w1.heap[g]? = w.heap[g]? := by
      refine hc.block g (by omega) ?_
      rcases hlo with hlo | ⟨hl0, rfl, hL, q, eA⟩
      · omega
      · have := h.apart k hk j hn (by omega) hL (by omega) _ _ _ _ eA e1
        omega
    exact ⟨g, p, e1, h0, h1, (World.cell?_of_block hb).trans h2, (World.frozen?_of_block hb).trans h3, h4⟩
end
def noS (L : Nat → Nat) : Nat → Nat
  | 0 => 1
  | j + 1 => noS L j + L j
theorem noS_mono (L : Nat → Nat) {i j : Nat} (h : i ≤ j) : noS L i ≤ noS L j := by
  induction j with
  | zero => obtain rfl : i = 0 := by omega
            exact Nat.le_refl _
  | succ j ih =>
    by_cases e : i = j + 1
    · subst e; exact Nat.le_refl _
    · exact Nat.le_trans (ih (by omega)) (by show noS L j ≤ noS L j + L j; omega)
theorem noS_tot (xss : List (List Bs)) : ∀ n, n ≤ xss.length → noS (fun j => (xss.getD j []).length) n ≤ 1 + tot2 (xss.take n)
  | 0, _ => by simp [noS]
  | n + 1, h => by
    have ih := noS_tot xss n (by omega)
    rw [tot2_snoc xss n (by omega)]
    show noS _ n + (xss.getD n []).length ≤ _
    omega
set_option maxHeartbeats 1000000 in
theorem markStringSS_any (w : World) (B0 B1 : Nat) (v : Value) (xss : List (List Bs)) (h : SssW w B0 B1 v xss) (hB : B1 ≤ w.heap.size) (hn : xss.length + tot2 xss ≤ 1048576) :
    Calls Try.prog 10 #[v, .int .i64 1] w fun e w' => ∃ k : Nat, e = .returned (.int .i64 (k : Int)) ∧ Chg B0 B1 w w' := by
  obtain ⟨a, cap, A, C, rfl, h1, h2, h3⟩ := h
  have hk := noS_tot xss xss.length (Nat.le_refl _)
  rw [List.take_length] at hk
  have H := Lib.hid (sfrom_start h3)
  have HB := Lib.hid hB
  obtain ⟨L, hL⟩ : ∃ L : Nat → Nat, L = fun j => (xss.getD j []).length := ⟨_, rfl⟩
  rw [← hL] at hk H
  obtain ⟨n, hN⟩ : ∃ n, n = xss.length := ⟨_, rfl⟩
  rw [← hN] at hk H hn h1 ⊢
  have HN : Hid (noS L n ≤ 3200000) := Lib.hid (by omega)
  have hn2 : n ≤ 1048576 := by omega
  clear h1 h2 h3 hk hB hL hN hn
  go_enter Try.func10, Try.ntmps10
  go_wp2
  go_loopw [1, 5] (fun l i wr => ∃ j : Nat, j ≤ n ∧ i = .int .i64 j ∧ l = .int .i64 (noS L j : Nat) ∧ Hid (SFrom wr B0 B1 a n A L C (fun j i => (xss.getD j []).getD i []) j) ∧ Hid (Chg B0 B1 w wr)) (fun _ i _ => n - (intOf i).toNat)
  case atStart => exact ⟨0, Nat.zero_le _, rfl, rfl, H, Lib.hid (chg_refl _ _ _)⟩
  case round =>
    obtain ⟨j, hj, rfl, rfl, HT, HC⟩ := hrel
    by_cases hlt : j < n
    · have hlt' : (j : Int) < (n : Int) := by omega
      obtain ⟨b, o, rfl, hb0, hb1, hc, hl, hm⟩ := HT.out.top j (Nat.le_refl _) hlt
      obtain ⟨lo, hi, hw, hhi, hlo⟩ := HT.out.rowW hlt
      have hstep : noS L j + L j ≤ noS L n := noS_mono L (i := j + 1) (by omega)
      have h1j : 1 ≤ noS L j := noS_mono L (i := 0) (Nat.zero_le j)
      have HK : Hid (Calls Try.prog 24 #[.slice (A j) (L j) (C j), .int .i64 (noS L j : Nat)] wr fun e w' => e = .returned (.int .i64 ((noS L j + L j : Nat) : Int)) ∧ Chg lo hi wr w') := Lib.hid (markStringK_any (noS L j) h1j (by have := HN.out; omega) wr lo hi (A j) (L j) (C j) _ hw (by have h1 := HC.out.size; have h2 := HB.out; omega) (by simp) (by have := HN.out; omega))
      have HLO := Lib.hid (And.intro hhi hlo)
      have HST := Lib.hid hstep
      clear hw hhi hlo hb0 hb1 hl hm hstep h1j
      obtain ⟨q, hq⟩ : ∃ q, q = noS L j := ⟨_, rfl⟩
      rw [← hq] at HK ⊢
      have HQ := Lib.hid hq
      clear hq
      go_wp2_with fail
      refine HK.out.mono ?_
      rintro e w1 ⟨rfl, hc1⟩
      have HNX := Lib.hid (HT.out.step hlt (Nat.le_trans HB.out HC.out.size) hc1 HLO.out.2)
      have HC2 : Hid (Chg B0 B1 w w1) := Lib.hid (chg_trans HC.out (chg_wide hc1 (by have := HLO.out; omega)))
      clear hc1 hc
      go_wp2_with fail
      go_roundw
      case rel => exact ⟨j + 1, by omega, by go_num, congrArg (Value.int .i64) (by have hz : noS L (j + 1) = noS L j + L j := rfl; have := HQ.out; omega), HNX, HC2⟩
      case measure => simp [intOf]; omega
    · go_wp2
      go_ret
      exact ⟨_, rfl, HC.out⟩
end Go.Proofs.Ythfdkenidfnmgaa
namespace Go.Proofs.Ythfdkenidfnmgaa
open Go.ChangeShapes Go.WideShapes Go.ChangeAt Go.RowKit Go.Maps Go.Shelf
set_option linter.unusedVariables false
set_option linter.unusedSimpArgs false
set_option maxRecDepth 100000
theorem sssN_of {w : World} {v : Value} {xss : List (List Bs)} (h : Sss w v xss) (hr : rowsSome w v xss.length) : SssN w v xss := by
  obtain ⟨a, cap, rfl, h1, h2, h3⟩ := h
  obtain ⟨g, m, c, e, hr⟩ := hr
  injection e with e1 e2 e3
  subst e1
  refine ⟨_, cap, rfl, h1, h2, fun i hi => ?_⟩
  obtain ⟨b, o, u, eb, hc, hu⟩ := h3 i hi
  obtain ⟨b', l, c', hc'⟩ := hr i hi
  cases eb
  rw [Nat.zero_add] at hc
  have := hc.symm.trans hc'
  injection this with this
  subst this
  exact ⟨g, 0, _, rfl, by rw [Nat.zero_add]; exact hc, hu, nilOk_some⟩
def NewKX (K : KV) (b : Bool) (w : World) (e : Ending) (w' : World) : Prop :=
  ∃ ma mc ia ic ea ec ca cc B0 B1 B2 B3 B4, e = .returned (.tuple #[kV (.slice ma K.m.length mc) (.slice ia K.i.length ic) (.slice ea K.e.length ec) (.slice ca K.c.length cc), .bool b]) ∧ KsW w' B0 B1 B2 B3 B4 (.slice ma K.m.length mc) (.slice ia K.i.length ic) (.slice ea K.e.length ec) (.slice ca K.c.length cc) K ∧
    w.heap.size ≤ B0 ∧ B0 ≤ B1 ∧ B1 ≤ B2 ∧ B2 ≤ B3 ∧ B3 ≤ B4 ∧ B4 ≤ w'.heap.size ∧ Below w.heap.size w w'
theorem ksW_forms {w : World} {B0 B1 B2 B3 B4 : Nat} {vm vi ve vc : Value} {K : KV} (h : KsW w B0 B1 B2 B3 B4 vm vi ve vc K) : ∃ ma mc ia ic ea ec ca cc, vm = .slice ma K.m.length mc ∧ vi = .slice ia K.i.length ic ∧ ve = .slice ea K.e.length ec ∧ vc = .slice ca K.c.length cc := by
  obtain ⟨ma, mc, e1, _⟩ := h.ks.m
  obtain ⟨ia, ic, e2, _⟩ := h.ks.i
  obtain ⟨ea, ec, e3, _⟩ := h.ks.e
  obtain ⟨ca, cc, e4, _⟩ := h.ks.c
  exact ⟨ma, mc, ia, ic, ea, ec, ca, cc, e1, e2, e3, e4⟩
theorem KsW.of_blocks2 {w w' : World} {B0 B1 B2 B3 B4 : Nat} {vm vi ve vc : Value} {K : KV} (h : KsW w B0 B1 B2 B3 B4 vm vi ve vc K) (e : ∀ b, B0 ≤ b → b < B4 → w'.heap[b]? = w.heap[b]?) (h0 : B0 ≤ B1) (h1 : B1 ≤ B2) (h2 : B2 ≤ B3) (h3 : B3 ≤ B4) : KsW w' B0 B1 B2 B3 B4 vm vi ve vc K :=
  ⟨h.m.of_blocks (fun b k0 k1 => e b k0 (by omega)), h.i.of_blocks (fun b k0 k1 => e b (by omega) (by omega)), h.e.of_blocks (fun b k0 k1 => e b (by omega) (by omega)), h.c.of_blocks (fun b k0 k1 => e b (by omega) k1)⟩
theorem ksW_none (w : World) (B : Nat) : KsW w B B B B B sl0 sl0 sl0 sl0 kz :=
  ⟨⟨none, 0, fun _ => none, fun _ => 0, rfl, Nat.le_refl _, Nat.zero_le _, ⟨fun j hj => absurd hj (Nat.not_lt_zero j), fun j hj => absurd hj (Nat.not_lt_zero j), fun j hj => absurd hj (Nat.not_lt_zero j)⟩⟩,
   ⟨none, 0, rfl, Nat.le_refl _, Nat.zero_le _, fun i hi => absurd hi (Nat.not_lt_zero i)⟩, esW_none, ⟨none, 0, rfl, Nat.le_refl _, Nat.zero_le _, fun i hi => absurd hi (Nat.not_lt_zero i)⟩⟩
theorem NewKW.x {rs : List (List Bs)} {w : World} {e : Ending} {w' : World} (h : NewKW rs w e w') : NewKX (knew rs) (knewOk rs) w e w' := by
  obtain ⟨v0, v1, v2, v3, rfl, hks, hb, h1, h2⟩ := h
  cases hq : knewOk rs with
  | true =>
    obtain ⟨B0, B1, B2, B3, B4, q0, q1, q2, q3, q4, q5, hk⟩ := h2 hq
    obtain ⟨ma, mc, ia, ic, ea, ec, ca, cc, rfl, rfl, rfl, rfl⟩ := ksW_forms hk
    exact ⟨ma, mc, ia, ic, ea, ec, ca, cc, B0, B1, B2, B3, B4, rfl, hk, q0, q1, q2, q3, q4, q5, hb⟩
  | false =>
    obtain ⟨rfl, rfl, rfl, rfl⟩ := h1 hq
    have hkn : knew rs = kz := by unfold knew; rw [hq]; rfl
    rw [hkn]
    exact ⟨none, 0, none, 0, none, 0, none, 0, _, _, _, _, _, rfl, ksW_none w' w'.heap.size, hb.size, Nat.le_refl _, Nat.le_refl _, Nat.le_refl _, Nat.le_refl _, Nat.le_refl _, hb⟩
theorem totalS_le {r : List Bs} (h : ∀ x ∈ r, x.length ≤ 4) : totalS r ≤ 4 * r.length := by
  induction r with
  | nil => exact Nat.zero_le _
  | cons x r ih =>
    have h1 := ih (fun y hy => h y (List.mem_cons_of_mem _ hy))
    have h2 := h x (List.mem_cons_self ..)
    unfold totalS at h1 ⊢
    rw [List.map_cons, List.sum_cons, List.length_cons]
    omega
theorem tot3_le {es : List EV} (h : ∀ x ∈ es, rvs x.r = true) : tot3 es ≤ 30 * es.length := by
  induction es with
  | nil => exact Nat.zero_le _
  | cons x es ih =>
    have h1 := ih (fun y hy => h y (List.mem_cons_of_mem _ hy))
    have h2 := rvs_iff.1 (h x (List.mem_cons_self ..))
    have h3 := totalS_le (r := x.r) (fun y hy => rv_len (h2.1.2 y hy))
    unfold tot3 at h1 ⊢
    rw [List.map_cons, List.sum_cons, List.length_cons]
    omega
theorem knew_sz (rs : List (List Bs)) : szK (knew rs) ≤ 1048576 := by
  unfold knew
  split
  · rename_i h
    unfold knewOk at h
    rw [Bool.and_eq_true, decide_eq_true_eq, List.all_eq_true] at h
    have h1 := tot3_le (es := rs.map (fun r => (⟨r, -1⟩ : EV))) (fun x hx => by
      obtain ⟨r, hr, rfl⟩ := List.mem_map.1 hx
      exact h.1 r hr)
    rw [List.length_map] at h1
    have e1 : total mem0 = 48 := by decide
    have e2 : totalI (List.replicate 12 iz) = 0 := by decide
    unfold szK
    dsimp only
    rw [e1, e2, List.length_map]
    show 12 + 48 + (12 + 0) + (rs.length + tot3 _) + 0 ≤ _
    omega
  · show szK kz ≤ _
    exact Nat.le_trans (show szK kz ≤ 0 by decide) (Nat.zero_le _)
structure XA (W w3 wr : World) (v : Value) (rs : List (List Bs)) (s0 s1 s2 s3 : Value) (K : KV) : Prop where
  v : Sss wr v rs
  b : Below W.heap.size W wr
  b3 : Below w3.heap.size w3 wr
  s : Ks wr s0 s1 s2 s3 K
  y : KB4 wr w3.heap.size s0 s1 s2 s3
  le : W.heap.size ≤ w3.heap.size
theorem XA.go {W w3 wr wr' : World} {v : Value} {rs : List (List Bs)} {s0 s1 s2 s3 : Value} {K : KV} (h : XA W w3 wr v rs s0 s1 s2 s3 K) (hb : Below wr.heap.size wr wr') : XA W w3 wr' v rs s0 s1 s2 s3 K :=
  ⟨h.v.below hb, h.b.trans (hb.mono h.b.size), h.b3.trans (hb.mono h.b3.size), h.s.below hb, h.y.go hb, h.le⟩
theorem XA.chg {W w3 wr wr' : World} {v : Value} {rs : List (List Bs)} {s0 s1 s2 s3 : Value} {K : KV} {lo hi : Nat} (h : XA W w3 wr v rs s0 s1 s2 s3 K) (hv : Sss W v rs) (hs : Ks w3 s0 s1 s2 s3 K) (c : Chg lo hi wr wr') (hlo : w3.heap.size < lo) : XA W w3 wr' v rs s0 s1 s2 s3 K := by
  have b3 := Below.chg h.b3 c h.b3.size (.inl (by omega))
  have b := Below.chg h.b c h.b.size (.inl (by have := h.le; omega))
  exact ⟨hv.below b, b, b3, hs.below b3, h.y.chg c (.inl hlo), h.le⟩
set_option maxHeartbeats 8000000 in
theorem exKernelNew_walk (W : World) (v : Value) (rs : List (List Bs)) (h : Sss W v rs) (hf : Fit2 rs) :
    Calls Try.prog 3 #[v] W fun e w' => e = .returned (.bool true) ∧ Below W.heap.size W w' := by
  have HV := Lib.hid h
  have HSZ := Lib.hid (szStringSS_any W v rs 1048576 h hf (by omega) (by omega))
  unfold Left2 at HSZ
  clear h hf
  go_enter Try.func3, Try.ntmps3
  go_wp2_with fail
  refine HSZ.out.mono ?_
  rintro _ w1 ⟨lf, hlf, rfl, hb⟩
  have HB1 := Lib.hid hb
  clear hb HSZ
  by_cases hneg : lf < 0
  · go_wp2_with fail
    go_ret
    exact ⟨rfl, HB1.out⟩
  have hpos : decide (lf < 0) = false := by simpa using hneg
  have hn : rs.length + tot2 rs ≤ 1048576 := by omega
  have HSH : Hid (∀ x ∈ rs, Short x) := Lib.hid (fun x hx y hy => by
    have h1 := tot2_mem hx
    have h2 : y.length ≤ totalS x := by
      obtain ⟨i, hi, rfl⟩ := List.getElem_of_mem hy
      have := totalS_snoc x i hi
      rw [getD_lt hi] at this
      have h3 : totalS (x.take (i + 1)) ≤ totalS x := by
        conv => rhs; rw [← List.take_append_drop (i + 1) x]
        unfold totalS
        rw [List.map_append, List.sum_append]
        exact Nat.le_add_right _ _
      omega
    omega)
  have HLX : Hid (∀ x ∈ rs, x.length ≤ 1100000) := Lib.hid (fun x hx => by have := tot2_mem hx; omega)
  have HLN : Hid (rs.length ≤ 1100000) := Lib.hid (by omega)
  have HTO : Hid (∀ Q, Sss Q v rs → Calls Try.prog 6 #[v] Q (ToSss rs Q)) := Lib.hid (fun Q hQ => toStringSS_any Q v rs hQ hn)
  have HMS : Hid (∀ Q B0 B1 u, SssW Q B0 B1 u rs → B1 ≤ Q.heap.size → Calls Try.prog 10 #[u, .int .i64 1] Q fun e w' => ∃ k : Nat, e = .returned (.int .i64 (k : Int)) ∧ Chg B0 B1 Q w') := Lib.hid (fun Q B0 B1 u hu hB => markStringSS_any Q B0 B1 u rs hu hB hn)
  have HSK : Hid (∀ Q u, SssN Q u rs → Calls Try.prog 5 #[u] Q (NewKB (knew rs) (knewOk rs) Q)) := Lib.hid (fun Q u hu => sKernelNew_any Q u rs hu HSH.out HLN.out HLX.out)
  have HIK : Hid (∀ Q u, Sss Q u rs → Calls Try.prog 7 #[u] Q (NewKX (knew rs) (knewOk rs) Q)) := Lib.hid (fun Q u hu => (iKernelNew_any Q u rs hu HSH.out HLN.out).mono (fun e w' hh => hh.x))
  have HES : Hid (∀ Q a b, Sss Q a rs → Sss Q b rs → Calls Try.prog 9 #[a, b] Q (BRes true Q)) := Lib.hid (fun Q a b ha hb => (eqStringSS_any Q a b rs rs ha hb).mono (fun e w' hh => by
    have := reads_below hh
    rw [decide_eq_true rfl] at this
    exact this))
  have hsz := knew_sz rs
  obtain ⟨q, hq⟩ : ∃ q, q = knewOk rs := ⟨_, rfl⟩
  obtain ⟨K, hK⟩ : ∃ K, K = knew rs := ⟨_, rfl⟩
  rw [← hq, ← hK] at HSK HIK
  rw [← hK] at hsz
  unfold NewKB at HSK
  unfold NewKX at HIK
  unfold ToSss at HTO
  have HKSZ := Lib.hid hsz
  have HEK : Hid (∀ Q (x0 x1 x2 x3 y0 y1 y2 y3 : Value), Ks Q x0 x1 x2 x3 K → Ks Q y0 y1 y2 y3 K → Calls Try.prog 8 #[kV x0 x1 x2 x3, kV y0 y1 y2 y3] Q (BRes true Q)) := Lib.hid (fun Q x0 x1 x2 x3 y0 y1 y2 y3 h1 h2 => eqKernel_any Q x0 x1 x2 x3 y0 y1 y2 y3 K K h1 h2 true (by simp))
  have HMK := Lib.hid (fun Q (B0 B1 B2 B3 B4 : Nat) (x0 x1 x2 x3 : Value) (h : KsW Q B0 B1 B2 B3 B4 x0 x1 x2 x3 K) h0 h1 h2 h3 hB => markKernelG_any Q B0 B1 B2 B3 B4 x0 x1 x2 x3 K h h0 h1 h2 h3 hB HKSZ.out)
  have HHK := Lib.hid (fun Q (B0 B1 B2 B3 B4 : Nat) (x0 x1 x2 x3 : Value) (h : KMrk Q B0 B1 B2 B3 B4 x0 x1 x2 x3 K) h0 h1 h2 h3 hB => heldKernelG_any Q B0 B1 B2 B3 B4 x0 x1 x2 x3 K h h0 h1 h2 h3 hB HKSZ.out)
  have hz4 : (kmk4 K : Int) ≤ 100000000 := by
    have h1 := kmk3_le K
    have h2 : kmk4 K = kmk3 K + 4 * K.c.length := rfl
    have h3 : kmk2 K = 1 + total K.m + 3 * K.i.length := rfl
    unfold szK at hsz
    omega
  obtain ⟨z, hz⟩ : ∃ z : Int, z = ((kmk4 K : Nat) : Int) := ⟨_, rfl⟩
  rw [← hz] at HMK HHK
  have hzl : decide (z < 0) = false := by simp; omega
  have hqq : (q != q) = false := by simp
  have hzz : (z != z) = false := by simp
  clear hlf hn hneg hq hK hsz hz4 hz HSH HLX HLN
  go_wp2_with fail
  refine (HTO.out w1 (HV.out.below HB1.out)).mono ?_
  rintro _ w2 ⟨u0, rfl, hu, hsm, hb⟩
  have HU0 := Lib.hid (sssN_of hu.sss hsm)
  have HB2 := Lib.hid (HB1.out.trans (hb.mono HB1.out.size))
  clear hu hsm hb
  go_wp2_with fail
  refine (HSK.out w2 u0 HU0.out).mono ?_
  rintro _ w3 ⟨s0, s1, s2, s3, rfl, hks, hb⟩
  obtain ⟨sma, smc, sia, sic, sea, sec, sca, scc, rfl, rfl, rfl, rfl⟩ : ∃ ma mc ia ic ea ec ca cc, s0 = .slice ma K.m.length mc ∧ s1 = .slice ia K.i.length ic ∧ s2 = .slice ea K.e.length ec ∧ s3 = .slice ca K.c.length cc := by
    obtain ⟨ma, mc, e1, _⟩ := hks.m
    obtain ⟨ia, ic, e2, _⟩ := hks.i
    obtain ⟨ea, ec, e3, _⟩ := hks.e
    obtain ⟨ca, cc, e4, _⟩ := hks.c
    exact ⟨ma, mc, ia, ic, ea, ec, ca, cc, e1, e2, e3, e4⟩
  have HS3 := Lib.hid hks
  have HB3 := Lib.hid (HB2.out.trans (hb.mono HB2.out.size))
  clear hks hb HU0
  obtain ⟨w4, hw4⟩ : ∃ w4, w4 = w3.alloc (.cells #[.slice sma K.m.length smc, .slice sia K.i.length sic, .slice sea K.e.length sec, .slice sca K.c.length scc] 29) := ⟨_, rfl⟩
  have HX4 : Hid (XA W w3 w4 v rs (.slice sma K.m.length smc) (.slice sia K.i.length sic) (.slice sea K.e.length sec) (.slice sca K.c.length scc) K) := Lib.hid (by
    have hb4 : Below w3.heap.size w3 w4 := by rw [hw4]; exact (Below.refl _ _).alloc (Nat.le_refl _) _
    exact ⟨HV.out.below (HB3.out.trans (hb4.mono HB3.out.size)), HB3.out.trans (hb4.mono HB3.out.size), hb4, HS3.out.below hb4, by rw [hw4]; exact KB4.new .., HB3.out.size⟩)
  have HZ4 : Hid (w4.heap.size = w3.heap.size + 1) := Lib.hid (by rw [hw4]; simp)
  have HW4 := Lib.hid hw4
  clear hw4
  go_wp2_with fail
  rw [← HW4.out]
  refine (HTO.out w4 HX4.out.v).mono ?_
  rintro _ w5 ⟨u1, rfl, hu, -, hb⟩
  have HU1 := Lib.hid hu
  have HX5 := Lib.hid (HX4.out.go hb)
  have HB45 := Lib.hid hb.size
  clear hu hb
  go_wp2_with fail
  refine (HIK.out w5 u1 HU1.out.sss).mono ?_
  rintro _ w6 ⟨gma, gmc, gia, gic, gea, gec, gca, gcc, B0, B1, B2, B3, B4, rfl, hk, hB0, hB1, hB2, hB3, hB4, hB5, hb⟩
  have HG6 := Lib.hid hk
  have HLB := Lib.hid (And.intro hB0 (And.intro hB1 (And.intro hB2 (And.intro hB3 (And.intro hB4 hB5)))))
  have HU6 := Lib.hid (HU1.out.chg (Chg.of_below hb) (Nat.le_refl _) (.inr (Nat.zero_le _)))
  have HX6 := Lib.hid (HX5.out.go hb)
  have HB56 := Lib.hid hb.size
  clear hk hB0 hB1 hB2 hB3 hB4 hB5 hb HU1
  obtain ⟨w7, hw7⟩ : ∃ w7, w7 = w6.alloc (.cells #[.slice gma K.m.length gmc, .slice gia K.i.length gic, .slice gea K.e.length gec, .slice gca K.c.length gcc] 29) := ⟨_, rfl⟩
  have HB67 : Hid (Below w6.heap.size w6 w7) := Lib.hid (by rw [hw7]; exact (Below.refl _ _).alloc (Nat.le_refl _) _)
  have HX7 := Lib.hid (HX6.out.go HB67.out)
  have HY7 : Hid (KB4 w7 w6.heap.size (.slice gma K.m.length gmc) (.slice gia K.i.length gic) (.slice gea K.e.length gec) (.slice gca K.c.length gcc)) := Lib.hid (by rw [hw7]; exact KB4.new ..)
  have HG7 := Lib.hid (HG6.out.chg (Chg.of_below HB67.out) (by have := HLB.out; omega) (by have := HLB.out; omega) (by have := HLB.out; omega) (by have := HLB.out; omega) (by have := HLB.out; omega) (.inr (Nat.zero_le _)))
  have HU7 := Lib.hid (HU6.out.chg (Chg.of_below HB67.out) (by have := HB56.out; omega) (.inr (Nat.zero_le _)))
  have HW7 := Lib.hid hw7
  obtain ⟨y0, y1, y2, y3⟩ := HX6.out.y.cells
  have hyl := HX6.out.y.lt
  clear hw7
  obtain ⟨Y, hY⟩ : ∃ Y, Y = w6.heap.size := ⟨_, rfl⟩
  rw [← hY] at HY7
  have HYE := Lib.hid hY
  clear hY
  go_wp2_with fail
  rw [← HW7.out, ← HYE.out]
  refine (HEK.out w7 _ _ _ _ _ _ _ _ HG7.out.ks HX7.out.s).mono ?_
  rintro _ w8 ⟨rfl, hb⟩
  have HX8 := Lib.hid (HX7.out.go hb)
  have HY8 := Lib.hid (HY7.out.go hb)
  have HB78 := Lib.hid hb.size
  have HG8 := Lib.hid (HG7.out.chg (Chg.of_below hb) (by have := HLB.out; omega) (by have := HLB.out; omega) (by have := HLB.out; omega) (by have := HLB.out; omega) (by have h1 := HLB.out; have h2 := HB67.out.size; omega) (.inr (Nat.zero_le _)))
  have HU8 := Lib.hid (HU7.out.chg (Chg.of_below hb) (by have h1 := HB56.out; have h2 := HB67.out.size; omega) (.inr (Nat.zero_le _)))
  clear hb y0 y1 y2 y3 hyl
  go_wp2_with fail
  refine (HTO.out w8 HX8.out.v).mono ?_
  rintro _ w9 ⟨u2, rfl, hu, -, hb⟩
  have HU2 := Lib.hid hu
  have HX9 := Lib.hid (HX8.out.go hb)
  have HY9 := Lib.hid (HY8.out.go hb)
  have HB89 := Lib.hid hb.size
  have HG9 := Lib.hid (HG8.out.chg (Chg.of_below hb) (by have := HLB.out; omega) (by have := HLB.out; omega) (by have := HLB.out; omega) (by have := HLB.out; omega) (by have h1 := HLB.out; have h2 := HB67.out.size; have h3 := HB78.out; omega) (.inr (Nat.zero_le _)))
  have HU9 := Lib.hid (HU8.out.chg (Chg.of_below hb) (by have h1 := HB56.out; have h2 := HB67.out.size; have h3 := HB78.out; omega) (.inr (Nat.zero_le _)))
  clear hu hb
  go_wp2_with fail
  refine (HES.out w9 u1 u2 HU9.out.sss HU2.out.sss).mono ?_
  rintro _ w10 ⟨rfl, hb⟩
  have HX10 := Lib.hid (HX9.out.go hb)
  have HY10 := Lib.hid (HY9.out.go hb)
  have HB910 := Lib.hid hb.size
  have HS10 : Hid (B4 ≤ w10.heap.size ∧ w5.heap.size ≤ w10.heap.size ∧ w6.heap.size < w10.heap.size) := Lib.hid (by have h1 := HLB.out; have h2 := HY7.out.lt; have h3 := HB78.out; have h4 := HB89.out; have h5 := HB910.out; have h6 := HB56.out; have h7 := HYE.out; omega)
  have HG10 := Lib.hid (HG9.out.chg (Chg.of_below hb) (by have := HLB.out; omega) (by have := HLB.out; omega) (by have := HLB.out; omega) (by have := HLB.out; omega) (by have h1 := HLB.out; have h2 := HB67.out.size; have h3 := HB78.out; have h4 := HB89.out; omega) (.inr (Nat.zero_le _)))
  have HU10 := Lib.hid (HU9.out.chg (Chg.of_below hb) (by have h1 := HB56.out; have h2 := HB67.out.size; have h3 := HB78.out; have h4 := HB89.out; omega) (.inr (Nat.zero_le _)))
  clear hb HU2
  go_wp2_with fail
  refine (HMS.out w10 _ _ u1 HU10.out HS10.out.2.1).mono ?_
  rintro _ w11 ⟨mk, rfl, hc⟩
  have hmk : decide ((mk : Int) < 0) = false := by simp
  have HX11 := Lib.hid (HX10.out.chg HV.out HS3.out hc (by have := HZ4.out; omega))
  have HY11 := Lib.hid (HY10.out.chg hc (.inr (by have h1 := HB56.out; have h2 := HYE.out; omega)))
  have HS11 : Hid (B4 ≤ w11.heap.size ∧ w6.heap.size < w11.heap.size) := Lib.hid (by have := HS10.out; have := hc.size; omega)
  have HG11 := Lib.hid (HG10.out.of_blocks2 (fun b b0 b1 => hc.block b (by have := HS10.out; omega) (.inr (by have := HLB.out; omega))) HLB.out.2.1 HLB.out.2.2.1 HLB.out.2.2.2.1 HLB.out.2.2.2.2.1)
  obtain ⟨y0, y1, y2, y3⟩ := HX11.out.y.cells
  obtain ⟨g0, g1, g2, g3⟩ := HY11.out.cells
  clear hc
  go_wp2_with fail
  refine (HEK.out w11 _ _ _ _ _ _ _ _ HG11.out.ks HX11.out.s).mono ?_
  rintro _ w12 ⟨rfl, hb⟩
  have HX12 := Lib.hid (HX11.out.go hb)
  have HY12 := Lib.hid (HY11.out.go hb)
  have HG12 := Lib.hid (HG11.out.chg (Chg.of_below hb) (by have := HLB.out; omega) (by have := HLB.out; omega) (by have := HLB.out; omega) (by have := HLB.out; omega) HS11.out.1 (.inr (Nat.zero_le _)))
  have HS12 : Hid (B4 ≤ w12.heap.size ∧ w6.heap.size < w12.heap.size) := Lib.hid (by have := HS11.out; have := hb.size; omega)
  clear hb y0 y1 y2 y3 g0 g1 g2 g3
  obtain ⟨g0, g1, g2, g3⟩ := HY12.out.cells
  go_wp2_with fail
  refine (HMK.out w12 _ _ _ _ _ _ _ _ _ HG12.out HLB.out.2.1 HLB.out.2.2.1 HLB.out.2.2.2.1 HLB.out.2.2.2.2.1 HS12.out.1).mono ?_
  rintro _ w13 ⟨rfl, hm, hc⟩
  have HM13 := Lib.hid hm
  have HX13 := Lib.hid (HX12.out.chg HV.out HS3.out hc (by have h1 := HZ4.out; have h2 := HLB.out; have h3 := HB45.out; omega))
  have HY13 := Lib.hid (HY12.out.chg hc (.inr (by have h1 := HLB.out; have h2 := HYE.out; omega)))
  have HS13 : Hid (B4 ≤ w13.heap.size ∧ w6.heap.size < w13.heap.size) := Lib.hid (by have := HS12.out; have := hc.size; omega)
  clear hm hc g0 g1 g2 g3
  obtain ⟨g0, g1, g2, g3⟩ := HY13.out.cells
  go_wp2_with fail
  refine (HHK.out w13 _ _ _ _ _ _ _ _ _ HM13.out HLB.out.2.1 HLB.out.2.2.1 HLB.out.2.2.2.1 HLB.out.2.2.2.2.1 HS13.out.1).mono ?_
  rintro _ w14 ⟨rfl, hb⟩
  have HX14 := Lib.hid (HX13.out.go hb)
  have HY14 := Lib.hid (HY13.out.go hb)
  have HM14 := Lib.hid (HM13.out.chg (Chg.of_below hb) HLB.out.2.1 HLB.out.2.2.1 HLB.out.2.2.2.1 HLB.out.2.2.2.2.1 HS13.out.1 (.inr (Nat.zero_le _)))
  have HS14 : Hid (B4 ≤ w14.heap.size ∧ w6.heap.size < w14.heap.size) := Lib.hid (by have := HS13.out; have := hb.size; omega)
  clear hb g0 g1 g2 g3
  go_wp2_with fail
  refine (HTO.out w14 HX14.out.v).mono ?_
  rintro _ w15 ⟨u3, rfl, hu, -, hb⟩
  have HU3 := Lib.hid hu
  have HX15 := Lib.hid (HX14.out.go hb)
  have HY15 := Lib.hid (HY14.out.go hb)
  have HM15 := Lib.hid (HM14.out.chg (Chg.of_below hb) HLB.out.2.1 HLB.out.2.2.1 HLB.out.2.2.2.1 HLB.out.2.2.2.2.1 HS14.out.1 (.inr (Nat.zero_le _)))
  have HS15 : Hid (B4 ≤ w15.heap.size ∧ w6.heap.size < w15.heap.size) := Lib.hid (by have := HS14.out; have := hb.size; omega)
  clear hu hb
  go_wp2_with fail
  refine (HIK.out w15 u3 HU3.out.sss).mono ?_
  rintro _ w16 ⟨hma, hmc, hia, hic, hea, hec, hca, hcc, C0, C1, C2, C3, C4, rfl, hk, -, -, -, -, -, -, hb⟩
  have HH16 := Lib.hid hk.ks
  have HX16 := Lib.hid (HX15.out.go hb)
  have HY16 := Lib.hid (HY15.out.go hb)
  have HM16 := Lib.hid (HM15.out.chg (Chg.of_below hb) HLB.out.2.1 HLB.out.2.2.1 HLB.out.2.2.2.1 HLB.out.2.2.2.2.1 HS15.out.1 (.inr (Nat.zero_le _)))
  have HS16 : Hid (B4 ≤ w16.heap.size ∧ w6.heap.size < w16.heap.size) := Lib.hid (by have := HS15.out; have := hb.size; omega)
  clear hk hb
  obtain ⟨w17, hw17⟩ : ∃ w17, w17 = w16.alloc (.cells #[.slice hma K.m.length hmc, .slice hia K.i.length hic, .slice hea K.e.length hec, .slice hca K.c.length hcc] 29) := ⟨_, rfl⟩
  have HB167 : Hid (Below w16.heap.size w16 w17) := Lib.hid (by rw [hw17]; exact (Below.refl _ _).alloc (Nat.le_refl _) _)
  have HX17 := Lib.hid (HX16.out.go HB167.out)
  have HY17 := Lib.hid (HY16.out.go HB167.out)
  have HH17 := Lib.hid (HH16.out.below HB167.out)
  have HM17 := Lib.hid (HM16.out.chg (Chg.of_below HB167.out) HLB.out.2.1 HLB.out.2.2.1 HLB.out.2.2.2.1 HLB.out.2.2.2.2.1 HS16.out.1 (.inr (Nat.zero_le _)))
  have HS17 : Hid (B4 ≤ w17.heap.size) := Lib.hid (by have := HS16.out; have := HB167.out.size; omega)
  have HW17 := Lib.hid hw17
  obtain ⟨y0, y1, y2, y3⟩ := HX16.out.y.cells
  have hyl := HX16.out.y.lt
  clear hw17
  go_wp2_with fail
  rw [← HW17.out]
  refine (HEK.out w17 _ _ _ _ _ _ _ _ HH17.out HX17.out.s).mono ?_
  rintro _ w18 ⟨rfl, hb⟩
  have HX18 := Lib.hid (HX17.out.go hb)
  have HY18 := Lib.hid (HY17.out.go hb)
  have HM18 := Lib.hid (HM17.out.chg (Chg.of_below hb) HLB.out.2.1 HLB.out.2.2.1 HLB.out.2.2.2.1 HLB.out.2.2.2.2.1 HS17.out (.inr (Nat.zero_le _)))
  have HS18 : Hid (B4 ≤ w18.heap.size) := Lib.hid (by have := HS17.out; have := hb.size; omega)
  clear hb y0 y1 y2 y3 hyl
  obtain ⟨g0, g1, g2, g3⟩ := HY18.out.cells
  go_wp2_with fail
  refine (HHK.out w18 _ _ _ _ _ _ _ _ _ HM18.out HLB.out.2.1 HLB.out.2.2.1 HLB.out.2.2.2.1 HLB.out.2.2.2.2.1 HS18.out).mono ?_
  rintro _ w19 ⟨rfl, hb⟩
  have HX19 := Lib.hid (HX18.out.go hb)
  clear hb g0 g1 g2 g3
  go_wp2_with fail
  go_ret
  exact ⟨rfl, HX19.out.b⟩
end Go.Proofs.Ythfdkenidfnmgaa
namespace Go.Proofs.Ythfdkenidfnmgaa
open Go.ChangeShapes Go.WideShapes Go.ChangeAt Go.RowKit
set_option linter.unusedVariables false
set_option maxRecDepth 100000
theorem addr_at {w : World} {a : Addr} {n : Nat} {f : Nat → Value} (h : ∀ i, i < n → w.cell? (a.add i) = some (f i)) (hn : 0 < n) : ∃ b o, a = ⟨b, o, none⟩ ∧ ∀ i, i < n → w.cell? ⟨b, o + i, none⟩ = some (f i) := by
  obtain ⟨b, o, s⟩ := a
  have h0 := h 0 hn
  have hs : s = none := by
    have : w.cell? ⟨b, o, s⟩ = some (f 0) := by simpa [Addr.add] using h0
    exact World.cell?_spot this
  subst hs
  refine ⟨b, o, rfl, fun i hi => ?_⟩
  have := h i hi
  have e : (⟨b, o, none⟩ : Addr).add i = ⟨b, o + i, none⟩ := by unfold Addr.add; split <;> simp_all
  rwa [e] at this
end Go.Proofs.Ythfdkenidfnmgaa
namespace Go.Proofs.Ythfdkenidfnmgaa
open Go.ChangeShapes Go.WideShapes Go.ChangeAt Go.RowKit
set_option linter.unusedVariables false
set_option maxRecDepth 100000
theorem strs_of_trod {H : Type} {enc : TypeId × Value → H} {P : Program} {w : World} {base : Nat} {held : Bool} {t e : TypeId} {fuel : Nat} {a : Option Addr} {len cap : Nat} {x : DataW H × List MemPlace}
    (ht : P.underlying t = some (.slice e)) (he : P.underlying e = some .string) (ce : P.cellsOf e = 1)
    (h : DataW.trod enc P w base (fun _ => true) held fuel t (Value.slice a len cap).cells.toList = some x) : ∃ xs, Strs w (.slice a len cap) xs ∧ Fit xs := by
  rcases open_strings ht he ce h with ⟨hcs, _⟩ | ⟨x, l, c, ss, hcs, _, hl, hm, hz, _, hcell, hsz⟩
  · simp [Value.cells] at hcs
    obtain ⟨rfl, rfl, rfl⟩ := hcs
    exact ⟨[], ⟨none, 0, rfl, Nat.le_refl _, Nat.zero_le _, fun i hi => by simp at hi⟩, fun x hx => by cases hx⟩
  · simp [Value.cells] at hcs
    obtain ⟨rfl, rfl, rfl⟩ := hcs
    have hz' : ss.length = cap := by simpa using hz
    have hlen : ((ss.take len).map (fun s : ByteArray => s.data.toList)).length = len := by rw [List.length_map, List.length_take]; omega
    refine ⟨(ss.take len).map (fun s : ByteArray => s.data.toList), ⟨some x, cap, by rw [hlen], by rw [hlen]; exact hl, hm, fun i hi => ?_⟩, fun y hy => ?_⟩
    · rw [hlen] at hi
      obtain ⟨b, o, rfl, hcells⟩ := addr_at (w := w) (n := cap) (f := fun r => .string (ss.getD r ByteArray.empty)) (fun r hr => hcell r (by omega)) (by omega)
      refine ⟨b, o, rfl, (hcells i (by omega)).trans ?_⟩
      have e1 : ((ss.take len).map (fun s : ByteArray => s.data.toList)).getD i [] = (ss.getD i ByteArray.empty).data.toList := by
        rw [getD_lt (by rw [hlen]; exact hi), getD_lt (show i < ss.length by omega)]
        simp
      rw [e1]
    · obtain ⟨s, hs, rfl⟩ := List.mem_map.1 hy
      have := hsz s (List.mem_of_mem_take hs)
      show s.data.toList.length ≤ maxLen
      rw [Array.length_toList]; exact this
end Go.Proofs.Ythfdkenidfnmgaa
namespace Go.Proofs.Ythfdkenidfnmgaa
open Go.ChangeShapes Go.WideShapes Go.ChangeAt Go.RowKit
set_option linter.unusedVariables false
set_option linter.unusedSimpArgs false
set_option maxRecDepth 100000
theorem sss_of_trod {H : Type} {enc : TypeId × Value → H} {w : World} {base : Nat} {held : Bool} {fuel : Nat} {a : Option Addr} {len cap : Nat} {x : DataW H × List MemPlace}
    (h : DataW.trod enc Try.prog w base (fun _ => true) held fuel 22 (Value.slice a len cap).cells.toList = some x) : ∃ xss, Sss w (.slice a len cap) xss ∧ Fit2 xss := by
  rcases Go.Deep.open_slice1 Try.underlying22 (by kernel_rfl) h with ⟨hcs, _⟩ | ⟨a', len', cap', m, n, V, D, Pl, hcs, _, hl, hm, hmm, _, hrow⟩
  · simp [Value.cells] at hcs
    obtain ⟨rfl, rfl, rfl⟩ := hcs
    exact ⟨[], ⟨none, 0, rfl, Nat.le_refl _, Nat.zero_le _, fun i hi => by simp at hi⟩, fun x hx => by cases hx⟩
  · simp [Value.cells] at hcs
    obtain ⟨rfl, rfl, rfl⟩ := hcs
    have hmc : m = cap := by simpa using hmm
    have each : ∀ i, i < len → ∃ y : List Bs, Fit y ∧ w.cell? (a'.add i) = some (V i) ∧ Strs w (V i) y := by
      intro i hi
      obtain ⟨h1, h2⟩ := hrow i (by omega)
      have hv : ∃ b l c, V i = .slice b l c := by
        rcases Go.Deep.open_slice Try.underlying38 h2 with ⟨hcs, _⟩ | ⟨b, l, c, _, _, _, _, hcs, _⟩
        · exact ⟨_, _, _, by simpa using hcs⟩
        · exact ⟨_, _, _, by simpa using hcs⟩
      obtain ⟨b, l, c, hv⟩ := hv
      rw [hv] at h1 h2 ⊢
      obtain ⟨ss, hs, hf⟩ := strs_of_trod Try.underlying38 Try.underlying9 (by kernel_rfl) (show DataW.trod enc Try.prog w base (fun _ => true) held n 38 (Value.slice b l c).cells.toList = some (D i, Pl i) from h2)
      exact ⟨ss, hf, h1, hs⟩
    haveI : Inhabited (List Bs) := ⟨[]⟩
    obtain ⟨q, hq⟩ := Go.Deep.choose_lt each
    by_cases h0 : len = 0
    · subst h0
      exact ⟨[], ⟨some a', cap, rfl, by simp, hm, fun i hi => by simp at hi⟩, fun x hx => by cases hx⟩
    · have hs : a'.spot = none := by
        obtain ⟨_, this, _⟩ := hq 0 (by omega)
        rw [show a'.add 0 = a' from rfl] at this
        exact World.cell?_spot this
      obtain ⟨b, o, s⟩ := a'
      simp only at hs
      subst hs
      refine ⟨(List.range len).map q, ⟨some ⟨b, o, none⟩, cap, by simp, by simpa using hl, hm, fun i hi => ?_⟩, fun x hx => by
        obtain ⟨i, hi, rfl⟩ := List.mem_map.1 hx
        exact (hq i (by simpa using hi)).1⟩
      have hi' : i < len := by simpa using hi
      have hg : ((List.range len).map q).getD i [] = q i := by rw [getD_lt hi]; simp
      obtain ⟨_, r0, r1⟩ := hq i hi'
      rw [Addr.add_mid] at r0
      rw [hg]
      exact ⟨b, o, V i, rfl, r0, r1⟩
end Go.Proofs.Ythfdkenidfnmgaa
