/- How the laws mark translations, and look whether the marks are held. -/
import Derived.Test.YtklclcbhghjjfaaCTo
import Derived.Test.YtklclcbhghjjfaaChg
namespace Go.Proofs.Ytklclcbhghjjfaa
open Go.ChangeShapes Go.WideShapes Go.ChangeAt Go.RowKit
set_option linter.unusedVariables false

/-- the mark of the translation i -/
def mkE (i : Nat) : CV := ⟨1 + 4 * (i : Int), 2 + 4 * (i : Int), 3 + 4 * (i : Int), decide ((4 + 4 * (i : Int)) % 3 = 0)⟩
def mkC (n : Nat) : List CV := (List.range n).map mkE
theorem mkC_len (n : Nat) : (mkC n).length = n := by simp [mkC]
theorem mkC_get {n i : Nat} (h : i < n) : (mkC n).getD i c0 = mkE i := by
  rw [getD_lt (by rw [mkC_len]; exact h)]
  simp [mkC]
def mixE (xs : List CV) (k i : Nat) : CV := if i < k then mkE i else xs.getD i c0
theorem os_setCells (b : Nat) : ∀ (vs : List Value) (o : Nat) (w : World), (w.setCells b o vs).os = w.os
  | [], _, _ => rfl
  | v :: r, o, w => by rw [World.setCells, os_setCells b r (o + 1)]; rfl
theorem tape_setCells (b : Nat) : ∀ (vs : List Value) (o : Nat) (w : World), (w.setCells b o vs).tape = w.tape
  | [], _, _ => rfl
  | v :: r, o, w => by rw [World.setCells, tape_setCells b r (o + 1)]; rfl
theorem output_setCells (b : Nat) : ∀ (vs : List Value) (o : Nat) (w : World), (w.setCells b o vs).output = w.output
  | [], _, _ => rfl
  | v :: r, o, w => by rw [World.setCells, output_setCells b r (o + 1)]; rfl
set_option maxRecDepth 100000 in
set_option maxHeartbeats 1000000 in
theorem markCachedS_any (w : World) (v : Value) (xs : List CV) (B0 B1 : Nat) (h : CsW w B0 B1 v xs) (hB : B1 ≤ w.heap.size) (hn : xs.length ≤ 1048580) :
    Calls Try.prog 32 #[v, .int .i64 1] w fun e w' => e = .returned (.int .i64 (1 + 4 * (xs.length : Int))) ∧ Kept B0 B1 w w' ∧ CsW w' B0 B1 v (mkC xs.length) := by
  obtain ⟨a, ca, rfl, hla, hma, hxa⟩ := h
  unfold maxLen at hma
  obtain ⟨n, hN⟩ : ∃ n, n = xs.length := ⟨_, rfl⟩
  have HXA := Lib.hid hxa
  have HN := Lib.hid hN
  rw [← hN] at hla hn ⊢
  clear hN hxa
  go_enter Try.func32, Try.ntmps32
  go_wp2
  go_loopw [1, 5] (fun q i wr => ∃ k : Nat, k ≤ n ∧ i = .int .i64 k ∧ q = .int .i64 (1 + 4 * (k : Int)) ∧ Hid (Kept B0 B1 w wr) ∧ Hid (∀ i, i < n → ∃ g p, a = some ⟨g, p, none⟩ ∧ B0 ≤ g ∧ g < B1 ∧ FourW wr g (p + i * 4) (mixE xs k i))) (fun _ i _ => n - (intOf i).toNat)
  case atStart => exact ⟨0, Nat.zero_le _, rfl, rfl, Lib.hid (Kept.refl _ _ _), Lib.hid (fun i hi => by
    have := HXA.out i (by have := HN.out; omega)
    unfold mixE
    rwa [if_neg (by omega)])⟩
  case round =>
    obtain ⟨k, hk, rfl, rfl, HKP, HFW⟩ := hrel
    by_cases hlt : k < n
    · obtain ⟨g, p, rfl, hg0, hg1, hf⟩ := HFW.out k hlt
      have HT := Lib.hid hf.there
      have HG0 := Lib.hid hg0
      have HG1 := Lib.hid hg1
      obtain ⟨⟨g0, g1, g2, g3⟩, hfr⟩ := hf
      have f0 := hfr 0 (by omega)
      have f1 := hfr 1 (by omega)
      have f2 := hfr 2 (by omega)
      have f3 := hfr 3 (by omega)
      rw [Nat.add_zero] at f0
      have hlt' : (k : Int) < (n : Int) := by omega
      clear hfr hg0 hg1
      go_wp2_with fail
      have z1 : (1 + 4 * (k : Int) + 1) = 2 + 4 * (k : Int) := by omega
      have z2 : (2 + 4 * (k : Int) + 1) = 3 + 4 * (k : Int) := by omega
      have z3 : (3 + 4 * (k : Int) + 1) = 4 + 4 * (k : Int) := by omega
      have z4 : ((4 + 4 * (k : Int)) % 3 == 0) = decide ((4 + 4 * (k : Int)) % 3 = 0) := rfl
      rw [z1, z2, z3, z4]
      obtain ⟨wn, hwn⟩ : ∃ wn, wn = wr.setCells g (p + k * 4) (cvC (mkE k)) := ⟨_, rfl⟩
      have hw4 : (((wr.setCell ⟨g, p + k * 4, none⟩ (.int .i64 (1 + 4 * (k : Int)))).setCell ⟨g, p + k * 4 + 1, none⟩ (.int .i64 (2 + 4 * (k : Int)))).setCell ⟨g, p + k * 4 + 2, none⟩ (.int .i64 (3 + 4 * (k : Int)))).setCell ⟨g, p + k * 4 + 3, none⟩ (.bool (decide ((4 + 4 * (k : Int)) % 3 = 0))) = wn := by rw [hwn]; rfl
      rw [hw4]
      have HK2 : Hid (Kept B0 B1 w wn) := Lib.hid (by
        rw [hwn]
        refine HKP.out.trans ⟨?_, ?_, ?_, size_setCells _ _ _ _, fun b hb => heap_setCells_other wr g _ _ wr b (by have := HG0.out; have := HG1.out; omega)⟩
        · exact os_setCells _ _ _ _
        · exact tape_setCells _ _ _ _
        · exact output_setCells _ _ _ _)
      have HF2 : Hid (∀ i, i < n → ∃ g' p', (some ⟨g, p, none⟩ : Option Addr) = some ⟨g', p', none⟩ ∧ B0 ≤ g' ∧ g' < B1 ∧ FourW wn g' (p' + i * 4) (mixE xs (k + 1) i)) := Lib.hid (fun i hi => by
        refine ⟨g, p, rfl, HG0.out, HG1.out, ?_⟩
        rw [hwn]
        by_cases hik : i = k
        · subst hik
          have e : mixE xs (i + 1) i = mkE i := by unfold mixE; rw [if_pos (by omega)]
          rw [e]
          exact FourW.stored HT.out
        · have e : mixE xs (k + 1) i = mixE xs k i := by
            unfold mixE
            by_cases h : i < k
            · rw [if_pos h, if_pos (by omega)]
            · rw [if_neg h, if_neg (by omega)]
          rw [e]
          obtain ⟨g', p', e2, _, _, h2⟩ := HFW.out i hi
          cases e2
          exact h2.apart (by show p + i * 4 + 4 ≤ p + k * 4 ∨ p + k * 4 + 4 ≤ p + i * 4; omega))
      exact ⟨⟨k + 1, by omega, by go_num, by congr 1; omega, HK2, HF2⟩, by simp [intOf]; omega⟩
    · have ek : k = n := by omega
      subst ek
      go_wp2
      go_ret
      refine ⟨rfl, HKP.out, a, ca, by rw [mkC_len], by rw [mkC_len]; exact hla, by unfold maxLen; omega, fun i hi => ?_⟩
      rw [mkC_len] at hi
      rw [mkC_get hi]
      obtain ⟨g, p, e, q0, q1, q2⟩ := HFW.out i hi
      unfold mixE at q2
      rw [if_pos hi] at q2
      exact ⟨g, p, e, q0, q1, q2⟩
end Go.Proofs.Ytklclcbhghjjfaa
