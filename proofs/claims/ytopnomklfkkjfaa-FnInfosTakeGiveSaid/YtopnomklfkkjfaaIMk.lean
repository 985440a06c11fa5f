/- How the laws mark what is known of frames, and look whether the marks are held. -/
import Derived.Test.YtopnomklfkkjfaaITo
import Derived.Test.YtopnomklfkkjfaaStrMk
namespace Go.Proofs.Ytopnomklfkkjfaa
open Go.ChangeShapes Go.WideShapes Go.ChangeAt Go.RowKit
set_option linter.unusedVariables false

/-- the mark of place i -/
def mkI (i : Nat) : IV := ⟨((1 + 3 * i : Nat) : Int), mtext (2 + 3 * i), ((3 + 3 * i : Nat) : Int)⟩
def mkIs (n : Nat) : List IV := (List.range n).map mkI
theorem mkIs_len (n : Nat) : (mkIs n).length = n := by simp [mkIs]
theorem mkIs_get {n i : Nat} (h : i < n) : (mkIs n).getD i iz = mkI i := by
  rw [getD_lt (by rw [mkIs_len]; exact h)]
  simp [mkIs]
theorem iv_list_ext {xs ys : List IV} (hl : xs.length = ys.length) (h : ∀ i, i < xs.length → xs.getD i iz = ys.getD i iz) : xs = ys := by
  refine List.ext_getElem hl (fun i h1 h2 => ?_)
  have := h i h1
  rwa [getD_lt h1, getD_lt h2] at this
theorem set_getD_iv {xs : List IV} {k i : Nat} {x : IV} (hk : k < xs.length) : (xs.set k x).getD i iz = if i = k then x else xs.getD i iz := by
  by_cases h : i = k
  · subst h
    rw [if_pos rfl, getD_lt (by rw [List.length_set]; exact hk), List.getElem_set_self]
  · rw [if_neg h]
    by_cases hi : i < xs.length
    · rw [getD_lt (by rw [List.length_set]; exact hi), getD_lt hi, List.getElem_set_ne (by omega)]
    · simp [List.getD, List.getElem?_eq_none (Nat.le_of_not_lt hi), List.getElem?_eq_none (show (xs.set k x).length ≤ i by rw [List.length_set]; omega)]
set_option maxHeartbeats 1000000 in
theorem markInfoS_any (w : World) (B0 B1 : Nat) (a : Option Addr) (n cap : Nat) (xs : List IV) (h : IsW w B0 B1 (.slice a n cap) xs) (hB : B1 ≤ w.heap.size) (hN : n = xs.length) (hn : n ≤ 1048576) :
    Calls Try.prog 30 #[.slice a n cap, .int .i64 1] w fun e w' => e = .returned (.int .i64 ((1 + 3 * n : Nat) : Int)) ∧ IsW w' B0 B1 (.slice a n cap) (mkIs n) ∧ Chg B0 B1 w w' := by
  have H := Lib.hid h
  have HN := Lib.hid hN
  have HB := Lib.hid hB
  clear h hN hB
  go_enter Try.func30, Try.ntmps30
  go_wp2
  go_loopw [1, 5] (fun l i wr => ∃ (j : Nat) (ys : List IV), j ≤ n ∧ i = .int .i64 j ∧ l = .int .i64 ((1 + 3 * j : Nat) : Int) ∧ Hid (ys.length = n) ∧ Hid (∀ q, q < j → ys.getD q iz = mkI q) ∧ Hid (IsW wr B0 B1 (.slice a n cap) ys) ∧ Hid (Chg B0 B1 w wr)) (fun _ i _ => n - (intOf i).toNat)
  case atStart => exact ⟨0, xs, Nat.zero_le _, rfl, rfl, Lib.hid HN.out.symm, Lib.hid (fun q hq => by omega), H, Lib.hid ⟨rfl, rfl, rfl, Nat.le_refl _, fun _ _ _ => rfl⟩⟩
  case round =>
    obtain ⟨j, ys, hj, rfl, rfl, HL, HY, HS, HC⟩ := hrel
    by_cases hlt : j < n
    · have hlt' : (j : Int) < (n : Int) := by omega
      obtain ⟨a', cap', e, q1, q2, q3⟩ := HS.out
      injection e with e1 e2 e3
      subst e1
      obtain ⟨g, p, rfl, hg0, hg1, ht⟩ := q3 j (by omega)
      clear q1 q2 q3 e2 e3
      generalize ys.getD j iz = x at ht
      have HT := Lib.hid ht
      have HG := Lib.hid (And.intro hg0 hg1)
      have hc0 := ht.at3.c0
      have hf0 := ht.fr 0 (by omega)
      rw [Nat.add_zero] at hf0
      clear hg0 hg1 ht
      go_wp2_with fail
      have z1 : (1 + 3 * (j : Int) + 1) = ((2 + 3 * j : Nat) : Int) := by omega
      obtain ⟨wa, hwa⟩ : ∃ wa, wa = wr.setCell ⟨g, p + j * 3, none⟩ (.int .i64 (1 + 3 * (j : Int))) := ⟨_, rfl⟩
      have TA : Hid (TriW wa g (p + j * 3) ⟨1 + 3 * (j : Int), x.g, x.r⟩) := Lib.hid (by rw [hwa]; exact HT.out.set0 _)
      have SA : Hid (IsW wa B0 B1 (.slice (some ⟨g, p, none⟩) n cap) (ys.set j ⟨1 + 3 * (j : Int), x.g, x.r⟩)) := Lib.hid (HS.out.upd rfl hlt TA.out (fun i y hi hy => by rw [hwa]; exact hy.off (by omega) _))
      have CA : Hid (Chg B0 B1 w wa) := Lib.hid (by rw [hwa]; exact chg_set HC.out HG.out.1 HG.out.2)
      rw [z1, ← hwa]
      clear hwa
      refine (markText_any wa (2 + 3 * j) (by omega) (by omega)).mono ?_
      rintro e wb ⟨rfl, hbb⟩
      have TB := Lib.hid (TA.out.block (hbb.block g TA.out.at3.lt))
      have SB := Lib.hid (SA.out.below hbb (Nat.le_trans HB.out CA.out.size))
      have CB := Lib.hid (chg_below CA.out hbb)
      have hc1 := TB.out.at3.c1
      have hf1 := TB.out.fr 1 (by omega)
      have hc2 := TB.out.at3.c2
      have hf2 := TB.out.fr 2 (by omega)
      clear hbb TA SA CA
      go_wp2_with fail
      have z2 : (2 + 3 * (j : Int) + 1) = ((3 + 3 * j : Nat) : Int) := by omega
      obtain ⟨wc, hwc⟩ : ∃ wc, wc = wb.setCell ⟨g, p + j * 3 + 1, none⟩ (.string ⟨(mtext (2 + 3 * j)).toArray⟩) := ⟨_, rfl⟩
      have TC : Hid (TriW wc g (p + j * 3) ⟨1 + 3 * (j : Int), mtext (2 + 3 * j), x.r⟩) := Lib.hid (by rw [hwc]; exact TB.out.set1 _)
      have SC : Hid (IsW wc B0 B1 (.slice (some ⟨g, p, none⟩) n cap) ((ys.set j ⟨1 + 3 * (j : Int), x.g, x.r⟩).set j ⟨1 + 3 * (j : Int), mtext (2 + 3 * j), x.r⟩)) := Lib.hid (SB.out.upd rfl hlt TC.out (fun i y hi hy => by rw [hwc]; exact hy.off (by omega) _))
      have CC : Hid (Chg B0 B1 w wc) := Lib.hid (by rw [hwc]; exact chg_set CB.out HG.out.1 HG.out.2)
      rw [← hwc]
      clear hwc
      have TD := Lib.hid (TC.out.set2 (2 + 3 * (j : Int) + 1))
      have SD := Lib.hid (SC.out.upd rfl hlt TD.out (fun i y hi hy => hy.off (by omega) _))
      have CD := Lib.hid (chg_set (v := .int .i64 (2 + 3 * (j : Int) + 1)) CC.out HG.out.1 HG.out.2 (p := p + j * 3 + 2))
      have e1 : (⟨1 + 3 * (j : Int), mtext (2 + 3 * j), 2 + 3 * (j : Int) + 1⟩ : IV) = mkI j := by unfold mkI; congr 1 <;> omega
      dsimp only at SD
      rw [List.set_set, List.set_set, e1] at SD
      refine ⟨⟨j + 1, ys.set j (mkI j), by omega, by go_num, by congr 1; omega, Lib.hid (by rw [List.length_set]; exact HL.out), Lib.hid (fun q hq => ?_), SD, CD⟩, by simp [intOf]; omega⟩
      rw [set_getD_iv (by rw [HL.out]; exact hlt)]
      by_cases hqj : q = j
      · rw [if_pos hqj, hqj]
      · rw [if_neg hqj]; exact HY.out q (by omega)
    · go_wp2
      go_ret
      have e : j = n := by omega
      subst e
      have hys : ys = mkIs j := iv_list_ext (by rw [mkIs_len, HL.out]) (fun i hi => by rw [HL.out] at hi; rw [HY.out i hi, mkIs_get hi])
      rw [← hys]
      exact ⟨rfl, HS.out, HC.out⟩
end Go.Proofs.Ytopnomklfkkjfaa
