/- What the proofs stand on, part 28. -/
import Derived.Test.YtaalnjinocicgaaRows
import Derived.Test.YtaalnjinocicgaaW1
import Derived.Test.YtaalnjinocicgaaW3
import Derived.Test.YtaalnjinocicgaaW5
import Derived.Test.YtaalnjinocicgaaW6
import Derived.Test.YtaalnjinocicgaaW7
import Derived.Test.YtaalnjinocicgaaW8
import Derived.Test.YtaalnjinocicgaaW9
import Derived.Test.YtaalnjinocicgaaW10
import Derived.Test.YtaalnjinocicgaaW11
set_option linter.unusedSimpArgs false
set_option linter.unusedVariables false
namespace Go.Proofs.Ytaalnjinocicgaa
open Go.ChangeShapes Go.WideShapes Go.ChangeAt Go.RowKit
set_option linter.unusedVariables false
set_option linter.unusedSimpArgs false
def DrewS0 (W : World) (e : Ending) (w' : World) : Prop := ∃ v xss, e = .returned v ∧ DS W v xss w'
theorem drawSwapValid_any (W : World) (a : Option Addr) (len cap : Nat) (zs : List Int) (hr : Row .u8 W a len cap zs) :
    Calls Try.prog 24 #[.slice a len cap] W (DrewS0 W) := by
  go_enter Try.func24, Try.ntmps24
  go_wp2_with fail
  refine (open_any W a len cap zs hr).mono ?_
  clear hr
  rintro e w1 ⟨rfl, hR1⟩
  go_wp2_with fail
  refine (swap_any W _ _ _ hR1 (by omega)).mono ?_
  rintro e w2 ⟨v, xss, rfl, hl, h⟩
  have HD := Lib.hid (DS.of h hl)
  clear h hR1 hl
  go_wp2_with fail
  go_ret
  exact ⟨_, xss, rfl, HD.out⟩
end Go.Proofs.Ytaalnjinocicgaa
namespace Go.Proofs.Ytaalnjinocicgaa
set_option linter.unusedVariables false
set_option linter.unusedSimpArgs false
theorem swOk_set_no {xss : Rs} {ys : List Int} (hr : rowOk ys = false) {i : Nat} (hi : i < xss.length) : swOk (xss.set i ys) = false :=
  sw_bad (k := i) (by rw [List.length_set]; exact hi) (by rw [getD_set, if_pos ⟨rfl, hi⟩]; exact hr)
end Go.Proofs.Ytaalnjinocicgaa
namespace Go.Proofs.Ytaalnjinocicgaa
open Go.ChangeShapes Go.WideShapes Go.ChangeAt Go.RowKit
set_option linter.unusedVariables false
set_option linter.unusedSimpArgs false
theorem wpList_store_sl {ops : Array Oper} {rest : List Oper} {a : Act} {w : World} {Q : Exit → Act → World → Prop} {tt : TypeId} {pos : String} {after : Array Edge} (x y : Operand)
    (g k n c : Nat) (ad : Option Addr) (u : Value) (hx : a.eval x = .pointer (some ⟨g, k, none⟩)) (hy : a.eval y = .slice ad n c) (hc : w.cell? ⟨g, k, none⟩ = some u) (hf : w.frozen? ⟨g, k, none⟩ = false)
    (h : ∀ w', w' = w.setCell ⟨g, k, none⟩ (.slice ad n c) → wpList Try.prog ops Q rest (a.put none undef) w') :
    wpList Try.prog ops Q ({ dst := none, op := .store 24 x y, type := tt, pos := pos, after := after, guard := none } :: rest) a w :=
  wpList_plain rfl fun K hK => by
    have hK' := hK _ _ (h _ rfl)
    unfold Oper.wp execOp
    simp only [hx, hy]
    clear hK h
    go_simp
    exact hK'
theorem frozen_alloc (w : World) {g k : Nat} (ob : Obj) (hg : g < w.heap.size) (h : w.frozen? ⟨g, k, none⟩ = false) : (w.alloc ob).frozen? ⟨g, k, none⟩ = false :=
  (World.frozen?_of_block (a := ⟨g, k, none⟩) (Below.heap_alloc _ _ _ hg)).trans h
theorem cell_alloc (w : World) {g k : Nat} {u : Value} (ob : Obj) (h : w.cell? ⟨g, k, none⟩ = some u) : (w.alloc ob).cell? ⟨g, k, none⟩ = some u := by
  rw [World.cell?_alloc_past _ _ _ (cell_lt h), h]
structure NewTop (w0 w : World) (g c : Nat) (xss : Rs) : Prop where
  lo : w0.heap.size ≤ g
  lt : g < w.heap.size
  le : 16 ≤ c
  cm : c ≤ maxLen
  bel : Below w0.heap.size w0 w
  cell : ∀ i, i < 16 → ∃ u, w.cell? ⟨g, i, none⟩ = some u ∧ Ints w u (xss.getD i [])
  frz : ∀ i, i < 16 → w.frozen? ⟨g, i, none⟩ = false
theorem wpList_append_swap {ops : Array Oper} {rest : List Oper} {a : Act} {Q : Exit → Act → World → Prop} {dst : Option Nat} {tt : TypeId} {pos : String} {after : Array Edge} (s x : Operand)
    (W0 : World) (v : Value) (xss : Rs) (hv : Rows2 W0 v xss) (hl : xss.length = 16) (hs : a.eval s = .slice (some ⟨W0.heap.size, 0, none⟩) 0 0) (hx : a.eval x = v)
    (h : ∀ g c w', NewTop W0 w' g c xss → wpList Try.prog ops Q rest (a.put dst (.slice (some ⟨g, 0, none⟩) 16 c)) w') :
    wpList Try.prog ops Q ({ dst := dst, op := .call { callee := .builtin .append, args := #[s, x], argTypes := #[23, 23] }, type := tt, pos := pos, after := after, guard := none } :: rest) a (W0.alloc (.cells #[] 24)) := by
  obtain ⟨i1, hj, hy0, hy1, hy2⟩ := info_parts intsInfo
  obtain ⟨av, cv, rfl, hc1, hc2, hrows⟩ := hv
  rw [hl] at hc1 hx
  obtain ⟨b, o, u0, rfl, _, _⟩ := hrows 0 (by omega)
  obtain ⟨R, hR⟩ : ∃ R : Nat → Value, ∀ i, i < 16 → W0.cell? ⟨b, o + i, none⟩ = some (R i) ∧ Ints W0 (R i) (xss.getD i []) :=
    ⟨fun i => (W0.cell? ⟨b, o + i, none⟩).getD undef, fun i hi => by
      obtain ⟨b', o', u, e, h1, h2⟩ := hrows i (by omega)
      injection e with e
      injection e with e1 e2
      subst e1
      subst e2
      have h1' : W0.cell? ⟨b, o + i, none⟩ = some u := h1
      simp only [h1', Option.getD_some]
      exact ⟨trivial, h2⟩⟩
  have hrg : ∀ i, i < 16 → ((List.range 16).map R)[i]? = some (R i) := fun i hi => by simp [hi]
  refine wpList_append_own _ rfl s x 23 rfl W0.heap.size 24 i1 (.slice none 0 0) 1 24 Try.underlying23 hj hy0 hy1 hy2 rfl (by decide) _ 0 [] hs (World.ownsRow_made W0 #[] 0 (Nat.le_refl _) (Nat.zero_le _) rfl) ⟨b, o, none⟩ 16 cv ((List.range 16).map R) hx (by simp) (fun j u hju => ?_) (fun u hu => ?_) (by unfold maxLen; omega) (by omega) (by simp) ?_
  · have hjk : j < 16 := by
      have := (List.getElem?_eq_some_iff.1 hju).1
      simpa using this
    rw [hrg j hjk] at hju
    injection hju with hju
    subst hju
    rw [Addr.add_mid]
    have := (hR j hjk).1
    rw [World.cell?_alloc_past _ _ _ (cell_lt this), this]
  · obtain ⟨j, hj', rfl⟩ := List.mem_map.1 hu
    obtain ⟨_, _, e, _⟩ := (hR j (List.mem_range.1 hj')).2
    rw [e]; rfl
  intro v3 wD hown hg hn
  simp only [Nat.zero_add, List.nil_append] at hown ⊢
  replace hg : (W0.alloc (.cells #[] 24)).grownBy wD (some W0.heap.size) := hg
  have hb : Below W0.heap.size W0 wD := ((Below.refl _ _).alloc (Nat.le_refl _) _).grown hg (by simp) (fun q hq => by injection hq with hq; omega)
  rcases hown.2 with ⟨_, hz⟩ | ⟨g, cap, cur, rfl, hgb, hbl, hnc, hcm, hcs, htk⟩
  · omega
  have hlt := (hown.lt g rfl).2
  refine h g cap wD ⟨hgb, hlt, by omega, hcm, hb, fun i hi => ⟨R i, ?_, Ints.below (B := 0) (hR i hi).2 hb⟩, fun i hi => frozen_of_row wD g i cur _ hbl⟩
  have hc := hown.cells (g := g) rfl i (R i) (hrg i hi)
  rw [add0] at hc
  exact hc
theorem NewTop.rows {w0 w : World} {g c : Nat} {xss : Rs} (h : NewTop w0 w g c xss) (hl : xss.length = 16) : Rows2 w (.slice (some ⟨g, 0, none⟩) 16 c) xss :=
  ⟨_, _, by rw [hl], by rw [hl]; exact h.le, h.cm, fun i hi => by
    obtain ⟨u, h1, h2⟩ := h.cell i (by omega)
    exact ⟨g, 0, u, rfl, by rw [Nat.zero_add]; exact h1, h2⟩⟩
theorem NewTop.set {w0 w w2 : World} {g c k : Nat} {xss : Rs} {ys : List Int} (h : NewTop w0 w g c xss) (hl : xss.length = 16) (hk : k < 16) (hb : Below w.heap.size w w2) (v : Value) (hv : ∀ Z : World, Z.heap[w.heap.size]? = w2.heap[w.heap.size]? → Ints Z v ys) :
    Rows2 (w2.setCell ⟨g, k, none⟩ v) (.slice (some ⟨g, 0, none⟩) 16 c) (xss.set k ys) ∧ Below w0.heap.size w0 (w2.setCell ⟨g, k, none⟩ v) := by
  have hlt := h.lt
  have hlo := h.lo
  have hB : Below w0.heap.size w0 (w2.setCell ⟨g, k, none⟩ v) := (h.bel.trans (hb.mono h.bel.size)).setCell (p := ⟨g, k, none⟩) hlo _
  refine ⟨⟨_, _, by rw [List.length_set, hl], by rw [List.length_set, hl]; exact h.le, h.cm, fun i hi => ?_⟩, hB⟩
  rw [List.length_set, hl] at hi
  rw [getD_set]
  by_cases hik : k = i
  · subst hik
    rw [if_pos ⟨rfl, by omega⟩]
    obtain ⟨u, h1, _⟩ := h.cell k hi
    refine ⟨g, 0, v, rfl, by rw [Nat.zero_add]; exact cell_set_same ((World.cell?_of_block (hb.block g hlt)).trans h1), hv _ ?_⟩
    simp only [World.setCell, Array.getElem?_modify]
    rw [if_neg (by show ¬ g = w.heap.size; omega)]
  · rw [if_neg (fun hh => hik hh.1)]
    obtain ⟨u, h1, h2⟩ := h.cell i hi
    refine ⟨g, 0, u, rfl, by rw [Nat.zero_add]; exact (cell_set_other (.inr (by show i ≠ k; omega))).trans ((World.cell?_of_block (hb.block g hlt)).trans h1), ?_⟩
    obtain ⟨uk, hk1, hk2⟩ := h.cell k hk
    obtain ⟨ak, ck, rfl, _⟩ := hk2
    obtain ⟨au, cu, rfl, q1, q2, q3⟩ := h2
    refine ⟨au, cu, rfl, q1, q2, fun j hj => ?_⟩
    obtain ⟨b, o, e, hc⟩ := q3 j hj
    refine ⟨b, o, e, ?_⟩
    have hc' : w2.cell? ⟨b, o + j, none⟩ = _ := (World.cell?_of_block (hb.block b (cell_lt hc))).trans hc
    by_cases hbg : b = g ∧ o + j = k
    · obtain ⟨rfl, rfl⟩ := hbg
      rw [hk1] at hc
      injection hc with hc
      cases hc
    · exact (cell_set_other (by show b ≠ g ∨ o + j ≠ k; omega)).trans hc'
end Go.Proofs.Ytaalnjinocicgaa
namespace Go.Proofs.Ytaalnjinocicgaa
open Go.ChangeShapes Go.WideShapes Go.ChangeAt Go.RowKit
set_option linter.unusedVariables false
set_option linter.unusedSimpArgs false
set_option maxRecDepth 100000 in
set_option maxHeartbeats 2000000 in
theorem swapPart_walk (hISV : ISV) (hISP : ISP) (hISG : ISG) (hISD : ISD) (W : World) (a : Option Addr) (len cap : Nat) (zs : List Int) (a2 : Option Addr) (len2 cap2 : Nat) (zs2 : List Int) (hr : Row .u8 W a len cap zs) (hr2 : Row .u8 W a2 len2 cap2 zs2) :
    Calls Try.prog 8 #[.slice a len cap, .slice a2 len2 cap2] W fun e w' => e = .returned (.bool true) ∧ Below W.heap.size W w' := by
  have HISV := Lib.hid hISV
  have HISP := Lib.hid hISP
  have HISG := Lib.hid hISG
  have HISD := Lib.hid hISD
  clear hISV hISP hISG hISD
  have hm := row_len hr
  have hm2 := row_len hr2
  by_cases hL : 1048576 < len
  · have hL1 : (1048576 : Int) < (len : Int) := by omega
    clear hr
    go_enter Try.func8, Try.ntmps8
    go_wp2_with fail
    go_ret
    exact ⟨rfl, Below.refl _ _⟩
  have hL1 : decide ((1048576 : Int) < (len : Int)) = false := by simp; omega
  have hL2 : decide (1048576 < len) = false := by simp; omega
  by_cases hK : 1048576 < len2
  · have hK1 : (1048576 : Int) < (len2 : Int) := by omega
    clear hr
    go_enter Try.func8, Try.ntmps8
    go_wp2_with fail
    go_ret
    exact ⟨rfl, Below.refl _ _⟩
  have hK1 : decide ((1048576 : Int) < (len2 : Int)) = false := by simp; omega
  have hK2 : decide (1048576 < len2) = false := by simp; omega
  clear hK
  clear hL
  go_enter Try.func8, Try.ntmps8
  clear hr2
  go_wp2_with fail
  refine (drawSwapValid_any W a len cap zs hr).mono ?_
  clear hr
  rintro e w1 ⟨v, xss, rfl, hd⟩
  have B1 := Lib.hid hd.bel
  have R1 := Lib.hid hd.rows
  clear hd
  have HC := Lib.hid (HISV.out w1 v xss R1.out)
  have HS := Lib.hid (fun w h => sSwapValid_any w v xss h)
  obtain ⟨b, hb⟩ : ∃ b, b = swOk xss := ⟨_, rfl⟩
  rw [← hb] at HC HS
  have HB := Lib.hid hb
  clear hb
  have hbb := neB b
  go_wp2_with fail
  refine HC.out.mono ?_
  rintro e w2 ⟨rfl, hb⟩
  have R2 := Lib.hid (R1.out.below hb)
  have B2 := Lib.hid (B1.out.trans (hb.mono B1.out.size))
  clear hb HC R1 B1
  go_wp2_with fail
  refine (HS.out w2 R2.out).mono ?_
  rintro e w' ⟨rfl, rfl⟩
  clear HS
  cases b with
  | false =>
    go_wp2_with fail
    go_ret
    exact ⟨rfl, B2.out⟩
  | true =>
    have HL16 := Lib.hid (sw_len HB.out.symm)
    have HOK := Lib.hid HB.out.symm
    clear HB
    obtain ⟨av, cv, hv0, hv1, hv2, hv3⟩ := R2.out
    rw [HL16.out] at hv0 hv1
    subst hv0
    unfold maxLen at hv2
    clear hv3
    obtain ⟨k, hk⟩ : ∃ k : Nat, k = len2 % 16 := ⟨_, rfl⟩
    have ek : (len2 : Int) % 16 = (k : Int) := by omega
    have ek2 : IntKind.i64.wrap ((len2 : Int) % 16) = (k : Int) := by rw [IntKind.wrap_i64]; omega
    have hk16 : k < 16 := by omega
    have hk16' : (k : Int) < 16 := by omega
    clear hk
    have HV2 : Hid (Rows2 w2 (.slice av 16 cv) xss) := Lib.hid (by exact R2.out)
    go_wp2_with (first
      | (at_builtin; (refine wpList_append_swap _ _ w2 _ xss HV2.out HL16.out rfl rfl ?_; intro g1 c1 w3 hT1; have T1 := Lib.hid hT1; obtain ⟨q1, hq1, -⟩ := hT1.cell k hk16; have hq1' := cell_alloc w3 (.cells #[] 3) hq1; have hf1 := frozen_alloc w3 (g := g1) (k := k) (.cells #[] 3) (hT1.lt) (hT1.frz k hk16); clear hT1))
      | ((with_reducible refine store_is 24 _ _ ?_); refine wpList_store_sl _ _ g1 k 0 0 (some ⟨w3.heap.size, 0, none⟩) q1 rfl rfl hq1' hf1 ?_; intro w4 hw4
         obtain ⟨hx4, hb4⟩ := T1.out.set (ys := []) HL16.out hk16 ((Below.refl _ _).alloc (Nat.le_refl _) (.cells #[] 3)) (.slice (some ⟨w3.heap.size, 0, none⟩) 0 0) (fun Z hZ => ⟨_, 0, rfl, Nat.le_refl _, by unfold maxLen; omega, fun i hi => by simp at hi⟩)
         rw [← hw4] at hx4 hb4; have X4 := Lib.hid hx4; have V4 := Lib.hid (HV2.out.below hb4); have B4 := Lib.hid (B2.out.trans (hb4.mono B2.out.size)); clear hx4 hb4 hw4 hq1 hq1' hf1 T1 HV2 R2 B2)
      | (at_builtin; refine wpList_append_swap _ _ w4 _ xss V4.out HL16.out rfl rfl ?_; intro g2 c2 w5 hT2; have T2 := Lib.hid hT2; obtain ⟨q2, hq2, -⟩ := hT2.cell k hk16; have hq2' := cell_alloc w5 (.cells #[.int .i64 1] 3) hq2; have hf2 := frozen_alloc w5 (g := g2) (k := k) (.cells #[.int .i64 1] 3) (hT2.lt) (hT2.frz k hk16); clear hT2)
      | ((with_reducible refine store_is 24 _ _ ?_); refine wpList_store_sl _ _ g2 k 1 1 (some ⟨w5.heap.size, 0, none⟩) q2 rfl rfl hq2' hf2 ?_; intro w6 hw6
         obtain ⟨hx6, hb6⟩ := T2.out.set (ys := [1]) HL16.out hk16 ((Below.refl _ _).alloc (Nat.le_refl _) (.cells #[.int .i64 1] 3)) (.slice (some ⟨w5.heap.size, 0, none⟩) 1 1) (fun Z hZ => ⟨_, 1, rfl, Nat.le_refl _, by unfold maxLen; omega, fun i hi => ⟨w5.heap.size, 0, rfl, by
           obtain rfl : i = 0 := by simp at hi; omega
           exact (World.cell?_of_block (a := ⟨w5.heap.size, 0 + 0, none⟩) hZ).trans (new_cell rfl)⟩⟩)
         rw [← hw6] at hx6 hb6; have Y6 := Lib.hid hx6; have X6 := Lib.hid (X4.out.below hb6); have B6 := Lib.hid (B4.out.trans (hb6.mono B4.out.size)); clear hx6 hb6 hw6 hq2 hq2' hf2 T2 V4 X4 B4))
    refine (HISV.out w6 _ _ X6.out).mono ?_
    rintro e w7 ⟨rfl, hb⟩
    rw [swOk_set HOK.out (by decide) k]
    have Y7 := Lib.hid (Y6.out.below hb)
    have B7 := Lib.hid (B6.out.trans (hb.mono B6.out.size))
    clear hb X6 Y6 B6
    go_wp2_with fail
    refine (HISV.out w7 _ _ Y7.out).mono ?_
    rintro e w8 ⟨rfl, hb⟩
    rw [swOk_set_no (by decide) (by rw [HL16.out]; exact hk16)]
    have B8 := Lib.hid (B7.out.trans (hb.mono B7.out.size))
    clear hb Y7 B7
    go_wp2_with fail
    go_ret
    exact ⟨rfl, B8.out⟩
end Go.Proofs.Ytaalnjinocicgaa
