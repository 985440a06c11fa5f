/- What the proofs stand on, part 11. -/
import Derived.Test.YtfnmnegddhggaaaRows
import Derived.Test.YtfnmnegddhggaaaT1
import Derived.Test.YtfnmnegddhggaaaT2
import Derived.Test.YtfnmnegddhggaaaT6
set_option linter.unusedSimpArgs false
set_option linter.unusedVariables false
namespace Go.Proofs.Ytfnmnegddhggaaa
open Go.ChangeShapes Go.WideShapes Go.ChangeAt Go.RowKit
set_option linter.unusedVariables false
theorem IntsW.of_own {w w' : World} {v : Value} {ys : List Int} (h : OwnI w v ys w') : IntsW w' w.heap.size w'.heap.size v ys := by
  rcases h.own.2 with ⟨e, _⟩ | ⟨g, cap, cur, rfl, hb, hbl, hnc, hcm, hcs, htk⟩
  · exact absurd e h.nn
  · refine ⟨some ⟨g, 0, none⟩, cap, rfl, hnc, hcm, fun i hi => ⟨g, 0, rfl, hb, (Array.getElem?_eq_some_iff.1 hbl).1, ?_, ?_⟩⟩
    · have := h.own.cells (g := g) rfl i (.int .i64 (ys.getD i 0)) (by rw [getD_lt hi]; simp)
      rw [add0] at this
      rw [Nat.zero_add]; exact this
    · simp [World.frozen?, hbl]
def NewR (ys : List Int) (w : World) (e : Ending) (w' : World) : Prop := ∃ v, e = .returned v ∧ IntsW w' w.heap.size w'.heap.size v ys ∧ Below w.heap.size w w'
end Go.Proofs.Ytfnmnegddhggaaa
namespace Go.Proofs.Ytfnmnegddhggaaa
open Go.ChangeShapes Go.WideShapes Go.ChangeAt Go.RowKit
set_option linter.unusedVariables false
def spansN (xs : List Int) : Nat → List Int
  | 0 => []
  | m + 1 => spansN xs m ++ [spn xs m]
def spans (xs : List Int) : List Int := if trOk xs = true then spansN xs xs.length else []
theorem spansN_len (xs : List Int) (m : Nat) : (spansN xs m).length = m := by
  induction m with
  | zero => rfl
  | succ m ih => simp [spansN, ih]
end Go.Proofs.Ytfnmnegddhggaaa
namespace Go.Proofs.Ytfnmnegddhggaaa
set_option linter.unusedVariables false
set_option linter.unusedSimpArgs false
theorem rcp_len : ∀ (p : List Int), (rcp p).length ≤ p.length
  | [] => Nat.le_refl _
  | x :: p => by
    have := rcp_len p
    have := List.length_filter_le (fun y => decide (y ≠ x)) (rcp p)
    simp only [rcp, List.length_cons]; omega
end Go.Proofs.Ytfnmnegddhggaaa
namespace Go.Proofs.Ytfnmnegddhggaaa
set_option linter.unusedVariables false
set_option linter.unusedSimpArgs false
theorem x_span {xs : List Int} {k : Nat} (hk : k < xs.length) : lfind (rcp (xs.take k).reverse) (xs.getD k 0) = spn xs k := by
  have hb := bfi_past (Nat.le_of_lt hk)
  have hl : (xs.take k).reverse.length = k := by simp; omega
  unfold lfind
  by_cases hx : xs.getD k 0 ∈ (xs.take k).reverse
  · have h1 : bfi xs k < k := by
      rw [hb]
      conv => rhs; rw [← hl]
      rw [List.findIdx_lt_length]
      exact ⟨_, hx, by simp⟩
    have hs : spn xs k = ((seen xs k (bfi xs k)).length : Nat) := if_pos h1
    rw [seen_rec (Nat.le_of_lt hk) (Nat.le_of_lt h1)] at hs
    rw [if_pos (rcp_mem.2 hx), hs]
    obtain ⟨s, he⟩ := rcp_split hx
    rw [fTw, ← hb] at he
    rw [he]
    have hno : ∀ y ∈ rcp ((xs.take k).reverse.take (bfi xs k)), decide (y = xs.getD k 0) = false := fun y hy => by
      rw [rcp_mem, hb, ← fTw] at hy
      have := List.all_takeWhile (p := fun y => decide (y ≠ xs.getD k 0)) (l := (xs.take k).reverse)
      rw [List.all_eq_true] at this
      simpa using this y hy
    rw [List.findIdx_append, List.findIdx_eq_length.2 hno, if_neg (by omega), List.findIdx_cons]
    simp
  · have h1 : ¬ bfi xs k < k := by
      intro h
      apply hx
      rw [hb] at h
      conv at h => rhs; rw [← hl]
      rw [List.findIdx_lt_length] at h
      obtain ⟨y, hy, e⟩ := h
      rw [← of_decide_eq_true e]; exact hy
    have hs : spn xs k = -1 := if_neg h1
    rw [if_neg (fun h => hx (rcp_mem.1 h)), hs]
theorem x_used {xs : List Int} {k : Nat} (hk : k < xs.length) : rcp (xs.take (k + 1)).reverse = xs.getD k 0 :: (rcp (xs.take k).reverse).erase (xs.getD k 0) := by
  rw [fPast_cons hk, rcp, xFilterErase (rcp_nodup _)]
end Go.Proofs.Ytfnmnegddhggaaa
namespace Go.Proofs.Ytfnmnegddhggaaa
open Go.ChangeShapes Go.WideShapes Go.ChangeAt Go.RowKit
set_option linter.unusedVariables false
set_option linter.unusedSimpArgs false
def CTS : Prop := ∀ w v xs, Ints w v xs → Calls Try.prog 19 #[v] w (NewR (spans xs) w)
end Go.Proofs.Ytfnmnegddhggaaa
namespace Go.Proofs.Ytfnmnegddhggaaa
open Go.ChangeShapes Go.WideShapes Go.ChangeAt Go.RowKit
set_option linter.unusedVariables false
set_option linter.unusedSimpArgs false
structure SpS (w0 : World) (xs : List Int) (g n k : Nat) (q : Option Addr) (w : World) : Prop where
  pg : ∃ ns, Pg w ns q ∧ pgs ns = rcp (xs.take k).reverse ∧ (blk ns).Nodup ∧ (∀ b ∈ blk ns, w0.heap.size ≤ b) ∧ g ∉ blk ns
  own : w.ownsRow w0.heap.size 3 1 (.slice (some ⟨g, 0, none⟩) k n) k ((spansN xs k).map (.int .i64))
  bel : Below w0.heap.size w0 w
  lt : g < w.heap.size
theorem ownsRow_keep {w w' : World} {B : Nat} {e : TypeId} {g n c : Nat} {x : List Value} (h : w.ownsRow B e 1 (.slice (some ⟨g, 0, none⟩) n c) n x) (hb : w'.heap[g]? = w.heap[g]?) : w'.ownsRow B e 1 (.slice (some ⟨g, 0, none⟩) n c) n x := by
  refine ⟨h.1, ?_⟩
  rcases h.2 with hn | ⟨g', cap, cur, e', hg, hbl, rest⟩
  · exact .inl hn
  · have e2 := e'
    injection e2 with e2 _ _
    injection e2 with e2
    injection e2 with e2
    subst e2
    exact .inr ⟨g, cap, cur, e', hg, hb.trans hbl, rest⟩
set_option maxRecDepth 100000 in
set_option maxHeartbeats 2000000 in
theorem iTraceSpans_any (w : World) (v : Value) (xs : List Int) (h : Ints w v xs) :
    Calls Try.prog 19 #[v] w (NewR (spans xs) w) := by
  have HV := Lib.hid (iTraceValid_any w v xs h)
  have H := Lib.hid h
  obtain ⟨a, ca, rfl, hla, hma, hxa⟩ := h
  unfold maxLen at hma
  obtain ⟨n, hn⟩ : ∃ n, n = xs.length := ⟨_, rfl⟩
  rw [← hn] at hla hxa HV ⊢
  have HN := Lib.hid hn
  clear hn hxa
  obtain ⟨ys, hys⟩ : ∃ ys, ys = spans xs := ⟨_, rfl⟩
  rw [← hys]
  have HYS := Lib.hid hys
  clear hys
  cases hc : trOk xs with
  | false =>
    rw [hc] at HV
    have HF : Hid (ys = []) := Lib.hid (by rw [HYS.out, spans, hc]; rfl)
    clear hc
    go_enter Try.func19, Try.ntmps19
    go_wp2_with fail
    refine HV.out.mono ?_
    rintro e w' ⟨rfl, rfl⟩
    go_wp2_with fail
    go_ret
    rw [HF.out]
    exact ⟨_, rfl, ⟨none, 0, rfl, Nat.le_refl _, Nat.zero_le _, fun i hi => by simp at hi⟩, Below.refl _ _⟩
  | true =>
    rw [hc] at HV
    have h24 : n ≤ 24 := by rw [HN.out]; exact tr_len hc
    have HF : Hid (ys = spansN xs n) := Lib.hid (by rw [HYS.out, spans, hc, if_pos rfl, HN.out])
    clear hc
    have H24 := Lib.hid h24
    obtain ⟨i0, hi, hz0, hz1, hz2⟩ := info_parts intInfo
    have HI0 := Lib.hid hi
    have HZ0 := Lib.hid hz0
    have HZ1 := Lib.hid hz1
    have HZ2 := Lib.hid hz2
    clear hi hz0 hz1 hz2 h24
    go_enter Try.func19, Try.ntmps19
    go_wp2_with fail
    refine HV.out.mono ?_
    rintro e w' ⟨rfl, rfl⟩
    go_wp2_with (at_make; refine wpList_make_own _ rfl (.const (.int .i64 0)) (.tmp 11) 23 rfl w.heap.size 3 i0 (.int .i64 0) 1 Try.underlying23 HI0.out HZ0.out HZ1.out .i64 .i64 _ n rfl rfl rfl (by rw [HZ2.out]; have := H24.out; omega) (by unfold maxLen; have := H24.out; omega) (Nat.le_refl _) ?_; intro wm hown hgrow)
    obtain ⟨g, hg⟩ : ∃ g, w.heap.size = g := ⟨_, rfl⟩
    have HS0 : Hid (SpS w xs g n 0 none wm) := Lib.hid ⟨⟨[], rfl, rfl, List.nodup_nil, fun b hb => by simp [blk] at hb, by simp [blk]⟩, by rw [← hg]; exact hown, (Below.refl _ _).grown hgrow (Nat.le_refl _) (fun b hb => by cases hb), by rw [← hg]; exact (hown.lt _ rfl).2⟩
    simp only [hg]
    have HG := Lib.hid hg
    clear hg hown hgrow HV
    go_loopw [3, 4, 15] (fun kp sv i wr => ∃ (k : Nat) (q : Option Addr), k ≤ n ∧ i = .int .i64 k ∧ kp = .pointer q ∧ sv = .slice (some ⟨g, 0, none⟩) k n ∧ Hid (SpS w xs g n k q wr)) (fun _ _ i _ => n - (intOf i).toNat)
    case atStart => exact ⟨0, none, Nat.zero_le _, rfl, rfl, rfl, HS0⟩
    case round =>
      obtain ⟨k, q, hk, rfl, rfl, rfl, HS⟩ := hrel
      by_cases hlt : k < n
      · have hlt' : (k : Int) < (n : Int) := by omega
        obtain ⟨ns, hp, hps, hnd, hlo, hgn⟩ := HS.out.pg
        have hk' : k < xs.length := by rw [← HN.out]; exact hlt
        have H1 := Lib.hid (Ints.below (B := 0) H.out (HS.out.bel))
        obtain ⟨x, hx⟩ : ∃ x, x = xs.getD k 0 := ⟨_, rfl⟩
        have hca : ∃ ba oa, a = some ⟨ba, oa, none⟩ ∧ wr.cell? ⟨ba, oa + k, none⟩ = some (.int .i64 x) := by
          obtain ⟨a', ca', e, _, _, q3⟩ := H1.out
          injection e with e1 e2 e3
          subst e1
          rw [hx]; exact q3 k hk'
        obtain ⟨ba, oa, rfl, hc⟩ := hca
        have HSP := Lib.hid (ispan_any wr ns q x hp (by
          have h1 : (pgs ns).length = ns.length := List.length_map _
          have h2 := rcp_len (xs.take k).reverse
          rw [← hps, h1, List.length_reverse, List.length_take] at h2
          have := H24.out; omega))
        have hsp : lfind (pgs ns) x = spn xs k := by rw [hps, hx]; exact x_span hk'
        rw [hsp] at HSP
        obtain ⟨s, hs⟩ : ∃ s, s = spn xs k := ⟨_, rfl⟩
        rw [← hs] at HSP
        have HSX : Hid (spansN xs (k + 1) = spansN xs k ++ [s]) := Lib.hid (by rw [hs]; rfl)
        have HND := Lib.hid hnd
        have HLO := Lib.hid hlo
        have HGN := Lib.hid hgn
        have HPG := Lib.hid hp
        have HUX : Hid (rcp (xs.take (k + 1)).reverse = x :: (pgs ns).erase x) := Lib.hid (by rw [hps, hx]; exact x_used hk')
        clear hx hsp hs hp hps hnd hlo hgn hk'
        go_wp2_with fail
        refine HSP.out.mono ?_
        rintro e w' ⟨rfl, rfl⟩
        clear HSP hc
        go_wp2_with (at_builtin; refine wpList_append_fits _ rfl (.tmp 19) (.tmp 23) 23 rfl w.heap.size 3 i0 1 Try.underlying23 HI0.out HZ1.out g k n _ rfl (HS.out.own.alloc _) ⟨wr.heap.size, 0, none⟩ 1 1 [.int .i64 s] rfl rfl (cells_new _ _ _) (by simp [Value.oneCell']) (by omega) ?_; intro w3 hown3 hgrow3)
        have hz3 : wr.heap.size + 1 ≤ w3.heap.size := by have := hgrow3.size; simpa using this
        have hkb : ∀ b, b < wr.heap.size → b ≠ g → w3.heap[b]? = wr.heap[b]? := fun b hb hne =>
          (hgrow3.block b (by simp; omega) (fun e => hne (Option.some.inj e))).trans (heap_alloc_old _ _ hb)
        have HB3 : Hid (Below w.heap.size w w3) := Lib.hid ((HS.out.bel.alloc HS.out.bel.size _).grown hgrow3 (by have := HS.out.bel.size; simp; omega) (fun b hb => by cases hb; exact (HS.out.own.lt _ rfl).1))
        have HP3 : Hid (Pg w3 ns q) := Lib.hid (HPG.out.keep (fun b hb => hkb b (HPG.out.lt b hb) (fun e => HGN.out (by rw [← e]; exact hb))))
        have HO3 : Hid (w3.ownsRow w.heap.size 3 1 (.slice (some ⟨g, 0, none⟩) (k + 1) n) (k + 1) ((spansN xs (k + 1)).map (.int .i64))) := Lib.hid (by rw [HSX.out, List.map_append]; exact hown3)
        have HG3 : Hid (g < w3.heap.size) := Lib.hid (by have := HS.out.lt; omega)
        have HU := Lib.hid (iused_any w3 ns q x HP3.out HND.out)
        clear hown3 hgrow3 hz3 hkb
        go_wp2_with fail
        refine HU.out.mono ?_
        rintro e w4 ⟨q4, ns4, rfl, hp4, hb4, hn4, hg4, hc4⟩
        have HS4 : Hid (SpS w xs g n (k + 1) q4 w4) := Lib.hid (by
          refine ⟨⟨ns4, hg4, by rw [hp4, HUX.out], hn4, fun b hb => ?_, fun hh => ?_⟩, ownsRow_keep HO3.out (hc4.block g HG3.out HGN.out), hc4.below HB3.out HB3.out.size HLO.out, Nat.lt_of_lt_of_le HG3.out hc4.size⟩
          · rcases hb4 b hb with e | e
            · exact HLO.out b e
            · have := HB3.out.size; omega
          · rcases hb4 g hh with e | e
            · exact HGN.out e
            · have := HG3.out; omega)
        clear hp4 hb4 hn4 hg4 hc4 HU
        go_wp2_with fail
        go_roundw
        case rel => exact ⟨k + 1, q4, by omega, by go_num, rfl, rfl, HS4⟩
        case measure => simp [intOf]; omega
      · have e : k = n := by omega
        subst e
        have HR : Hid (IntsW wr w.heap.size wr.heap.size (.slice (some ⟨g, 0, none⟩) k k) (spansN xs k)) := Lib.hid (by
          have h := HS.out.own
          have ho : OwnI w (.slice (some ⟨g, 0, none⟩) k k) (spansN xs k) wr := ⟨by rw [spansN_len]; exact h, HS.out.bel, fun e => by cases e⟩
          exact IntsW.of_own ho)
        go_wp2_with fail
        go_ret
        rw [HF.out]
        exact ⟨_, rfl, HR.out, HS.out.bel⟩
theorem ics : CTS := iTraceSpans_any
end Go.Proofs.Ytfnmnegddhggaaa
