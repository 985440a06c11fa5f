/- What the proofs stand on, part 32. -/
import Derived.Test.YtachiggolgdocaaRows
import Derived.Test.YtachiggolgdocaaM1
import Derived.Test.YtachiggolgdocaaM2
import Derived.Test.YtachiggolgdocaaM3
import Derived.Test.YtachiggolgdocaaM5
import Derived.Test.YtachiggolgdocaaM7
import Derived.Test.YtachiggolgdocaaM12
import Derived.Test.YtachiggolgdocaaM16
import Derived.Test.YtachiggolgdocaaM23
import Derived.Test.YtachiggolgdocaaM24
set_option linter.unusedSimpArgs false
set_option linter.unusedVariables false
namespace Go.Proofs.Ytachiggolgdocaa
open Go.ChangeShapes Go.WideShapes Go.ChangeAt Go.RowKit
set_option linter.unusedVariables false
structure OwnI (w : World) (v : Value) (ys : List Int) (w' : World) : Prop where
  own : w'.ownsRow w.heap.size 3 1 v ys.length (ys.map (.int .i64))
  bel : Below w.heap.size w w'
  nn : v ≠ .slice none 0 0
theorem ints_of_own {w : World} {B : Nat} {v : Value} {ys : List Int} (h : w.ownsRow B 3 1 v ys.length (ys.map (.int .i64))) : Ints w v ys := by
  rcases h.2 with ⟨rfl, hz⟩ | ⟨g, cap, cur, rfl, hb, hbl, hnc, hcm, hcs, htk⟩
  · exact ⟨none, 0, by rw [hz], by omega, Nat.zero_le _, fun i hi => by omega⟩
  · refine ⟨some ⟨g, 0, none⟩, cap, rfl, hnc, hcm, fun i hi => ⟨g, 0, rfl, ?_⟩⟩
    have := h.cells (g := g) rfl i (.int .i64 (ys.getD i 0)) (by rw [getD_lt hi]; simp)
    rw [add0] at this
    rw [Nat.zero_add]; exact this
theorem OwnI.ints {w w' : World} {v : Value} {ys : List Int} (h : OwnI w v ys w') : Ints w' v ys := ints_of_own h.own
theorem own_lower {w : World} {B B' : Nat} {e : TypeId} {v : Value} {n : Nat} {x : List Value} (h : w.ownsRow B e 1 v n x) (hB : B' ≤ B) : w.ownsRow B' e 1 v n x := by
  refine ⟨h.1, ?_⟩
  rcases h.2 with hn | ⟨g, cap, cur, e, hb, rest⟩
  · exact .inl hn
  · exact .inr ⟨g, cap, cur, e, by omega, rest⟩
theorem OwnI.from {w w1 w2 : World} {v : Value} {ys : List Int} (h : OwnI w1 v ys w2) (hb : Below w.heap.size w w1) : OwnI w v ys w2 :=
  ⟨own_lower h.own hb.size, hb.trans (h.bel.mono hb.size), h.nn⟩
theorem OwnI.start (w : World) : OwnI w (.slice (some ⟨w.heap.size, 0, none⟩) 0 0) [] (w.alloc (.cells #[] 3)) :=
  ⟨World.ownsRow_made w #[] 0 (Nat.le_refl _) (Nat.zero_le _) rfl, (Below.refl _ _).alloc (Nat.le_refl _) _, fun h => by cases h⟩
theorem OwnI.grow {w wr w2 : World} {v v2 : Value} {ys zs : List Int} {o : Obj} {n : Nat} (h : OwnI w v ys wr) (hn : n = ys.length + zs.length) (h2 : w2.ownsRow w.heap.size 3 1 v2 n (ys.map (.int .i64) ++ zs.map (.int .i64))) (hg : (wr.alloc o).grownBy w2 v.ownBlock) (hnn : v2 = .slice none 0 0 → v = .slice none 0 0) :
    OwnI w v2 (ys ++ zs) w2 := by
  subst hn
  refine ⟨by rw [List.length_append, List.map_append]; exact h2, (h.bel.alloc h.bel.size o).grown hg (by have := h.bel.size; simp; omega) (fun b hb => (h.own.lt b hb).1), fun e => h.nn (hnn e)⟩
end Go.Proofs.Ytachiggolgdocaa
namespace Go.Proofs.Ytachiggolgdocaa
open Go.ChangeShapes Go.WideShapes Go.ChangeAt Go.RowKit
set_option linter.unusedVariables false
theorem IntsW.of_own {w w' : World} {v : Value} {ys : List Int} (h : OwnI w v ys w') : IntsW w' w.heap.size w'.heap.size v ys := by
  rcases h.own.2 with ⟨e, _⟩ | ⟨g, cap, cur, rfl, hb, hbl, hnc, hcm, hcs, htk⟩
  · exact absurd e h.nn
  · refine ⟨some ⟨g, 0, none⟩, cap, rfl, hnc, hcm, fun i hi => ⟨g, 0, rfl, hb, (Array.getElem?_eq_some_iff.1 hbl).1, ?_, ?_⟩⟩
    · have := h.own.cells (g := g) rfl i (.int .i64 (ys.getD i 0)) (by rw [getD_lt hi]; simp)
      rw [add0] at this
      rw [Nat.zero_add]; exact this
    · simp [World.frozen?, hbl]
end Go.Proofs.Ytachiggolgdocaa
namespace Go.Proofs.Ytachiggolgdocaa
open Go.ChangeShapes Go.WideShapes Go.ChangeAt Go.RowKit
set_option linter.unusedVariables false
theorem OwnN.of_own {w w' : World} {v : Value} {ys : List Int} (h : OwnI w v ys w') : OwnN w v ys w' := ⟨h.own, h.bel⟩
set_option maxRecDepth 100000 in
set_option maxHeartbeats 1000000 in
theorem sMailWords_any (w : World) (v : Value) (xs : List IV) (f t : Int) (h : Is w v xs) :
    Calls Try.prog 26 #[v, .int .i64 f, .int .i64 t] w (NewR (mws xs f t) w) := by
  have HV := Lib.hid (fun w h => sMailsValid_any w v xs h)
  have H := Lib.hid h
  have HST := Lib.hid (OwnN.of_own (OwnI.start w))
  obtain ⟨i0, hi, hz0, hz1, hz2⟩ := info_parts intInfo
  have HI := Lib.hid hi
  have HZ0 := Lib.hid hz0
  have HZ1 := Lib.hid hz1
  have HZ2 := Lib.hid hz2
  clear hi hz0 hz1 hz2
  clear h
  obtain ⟨ys, hys⟩ : ∃ ys, ys = mws xs f t := ⟨_, rfl⟩
  rw [← hys]
  have HYS := Lib.hid hys
  clear hys
  obtain ⟨n, hnn⟩ : ∃ n, n = xs.length := ⟨_, rfl⟩
  obtain ⟨a, ca, rfl, hla, hma, hxa⟩ := H.out
  rw [← hnn] at hla hxa HV H ⊢
  have HN := Lib.hid hnn
  have HX := Lib.hid hxa
  unfold maxLen at hma
  clear hnn hxa
  cases h1 : msok xs with
  | false =>
    have HR : Hid (ys = []) := Lib.hid (by rw [HYS.out, mws, h1]; rfl)
    rw [h1] at HV
    clear h1
    by_cases h0 : n = 0
    · subst h0
      go_enter Try.func26, Try.ntmps26
      go_wp2
      go_loopw [7, 8] (fun c i wr => i = .int .i64 0 ∧ Hid (OwnN w c [] wr)) (fun _ i _ => 0)
      case atStart => exact ⟨rfl, HST⟩
      case round =>
        obtain ⟨rfl, HO⟩ := hrel
        go_wp2
        go_ret
        exact ⟨_, rfl, by rw [HR.out]; exact HO.out.row, HO.out.bel⟩
    · have h0' : (0 : Int) < (n : Int) := by omega
      go_enter Try.func26, Try.ntmps26
      go_wp2
      go_loopw [7, 8] (fun c i wr => i = .int .i64 0 ∧ Hid (OwnN w c [] wr)) (fun _ i _ => 0)
      case atStart => exact ⟨rfl, HST⟩
      case round =>
        obtain ⟨rfl, HO⟩ := hrel
        go_wp2_with fail
        refine (HV.out wr (H.out.below HO.out.bel)).mono ?_
        rintro e w1 ⟨rfl, hb1⟩
        have HO1 := Lib.hid (HO.out.below hb1)
        clear hb1
        go_wp2
        go_ret
        exact ⟨_, rfl, by rw [HR.out]; exact HO1.out.row, HO1.out.bel⟩
  | true =>
    have HOK := Lib.hid h1
    have HY : Hid (ys = mws0 xs f t) := Lib.hid (by rw [HYS.out, mws, if_pos h1])
    have hl8 : n ≤ 8 := by rw [HN.out]; exact msok_len h1
    rw [h1] at HV
    clear h1
    go_enter Try.func26, Try.ntmps26
    go_wp2
    go_loopw [7, 8] (fun c i wr => ∃ k : Nat, k ≤ n ∧ i = .int .i64 k ∧ Hid (OwnN w c (mws0 (xs.take k) f t) wr)) (fun _ i _ => n - (intOf i).toNat)
    case atStart => exact ⟨0, Nat.zero_le _, rfl, HST⟩
    case round =>
      obtain ⟨k, hk, rfl, HO⟩ := hrel
      by_cases hlt : k < n
      · obtain ⟨b, o, rfl, hc⟩ := HX.out k hlt
        have HT := Lib.hid hc
        obtain ⟨x, hx⟩ : ∃ x, x = xs.getD k iz := ⟨_, rfl⟩
        rw [← hx] at HT
        have HSN := Lib.hid (mws0_snoc xs f t k (by rw [← HN.out]; exact hlt))
        rw [← hx] at HSN
        have hlt' : (k : Int) < (n : Int) := by omega
        have HML : Hid ((mws0 (xs.take k) f t).length ≤ 8) := Lib.hid (by
          rw [mws0, List.length_map]
          exact Nat.le_trans (List.length_filter_le _ _) (by rw [List.length_take]; omega))
        clear hc hx
        go_wp2_with fail
        refine (HV.out wr (H.out.below HO.out.bel)).mono ?_
        rintro e w1 ⟨rfl, hb1⟩
        have HO1 := Lib.hid (HO.out.below hb1)
        obtain ⟨c0, c1, c2⟩ := HT.out.below HO1.out.bel HT.out.lt
        clear hb1 HO
        by_cases h1 : x.k = f
        · have h1' : (x.k == f) = true := by simpa using h1
          by_cases h2 : x.g = t
          · have h2' : (x.g == t) = true := by simpa using h2
            have HE : Hid (mws0 (xs.take (k + 1)) f t = mws0 (xs.take k) f t ++ [x.r]) := Lib.hid (by rw [HSN.out, if_pos (by unfold msel; rw [decide_eq_true h1, decide_eq_true h2]; rfl)])
            generalize mws0 (xs.take k) f t = us at HO1 HML HE
            clear h1 h2 HSN
            go_wp2_with (at_builtin; refine wpList_append_own _ rfl (.tmp 36) (.tmp 42) 31 rfl w.heap.size 3 i0 (.int .i64 0) 1 8 Try.underlying31 HI.out HZ0.out HZ1.out HZ2.out rfl (by decide) _ _ _ rfl (HO1.out.own.alloc _) ⟨w1.heap.size, 0, none⟩ 1 1 [.int .i64 x.r] rfl rfl (cell_one_new _ _ _) (by intro u hu; simp at hu; subst hu; rfl) (by have := HML.out; unfold maxLen; omega) (by have := HML.out; omega) (by have := HO1.out.bel.size; simp; omega) ?_; intro v2 w2 hown2 hgrow2 hnn2)
            have HR2 : Hid (OwnN w v2 (mws0 (xs.take (k + 1)) f t) w2) := Lib.hid (by
              rw [HE.out]
              exact HO1.out.grow (zs := [x.r]) rfl hown2 hgrow2)
            clear hown2 hgrow2 hnn2
            go_wp2
            go_roundw
            case rel => exact ⟨k + 1, by omega, by go_num, HR2⟩
            case measure => simp [intOf]; omega
          · have h2' : (x.g == t) = false := by simpa using h2
            have HE : Hid (mws0 (xs.take (k + 1)) f t = mws0 (xs.take k) f t) := Lib.hid (by rw [HSN.out, if_neg (by unfold msel; rw [decide_eq_false h2, Bool.and_false]; exact Bool.noConfusion), List.append_nil])
            rw [← HE.out] at HO1
            clear h1 h2 HSN
            go_wp2
            go_roundw
            case rel => exact ⟨k + 1, by omega, by go_num, HO1⟩
            case measure => simp [intOf]; omega
        · have h1' : (x.k == f) = false := by simpa using h1
          have HE : Hid (mws0 (xs.take (k + 1)) f t = mws0 (xs.take k) f t) := Lib.hid (by rw [HSN.out, if_neg (by unfold msel; rw [decide_eq_false h1, Bool.false_and]; exact Bool.noConfusion), List.append_nil])
          rw [← HE.out] at HO1
          clear h1 HSN
          go_wp2
          go_roundw
          case rel => exact ⟨k + 1, by omega, by go_num, HO1⟩
          case measure => simp [intOf]; omega
      · have e : k = n := by omega
        subst e
        have HE : Hid (mws0 (xs.take k) f t = mws0 xs f t) := Lib.hid (by rw [take_all HN.out])
        go_wp2
        go_ret
        exact ⟨_, rfl, by rw [HY.out, ← HE.out]; exact HO.out.row, HO.out.bel⟩
end Go.Proofs.Ytachiggolgdocaa
