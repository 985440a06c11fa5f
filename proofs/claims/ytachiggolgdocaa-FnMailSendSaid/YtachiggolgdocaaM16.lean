/- What the proofs stand on, part 16. -/
import Derived.Test.YtachiggolgdocaaRows
import Derived.Test.YtachiggolgdocaaM1
import Derived.Test.YtachiggolgdocaaM2
import Derived.Test.YtachiggolgdocaaM3
import Derived.Test.YtachiggolgdocaaM5
import Derived.Test.YtachiggolgdocaaM7
import Derived.Test.YtachiggolgdocaaM12
set_option linter.unusedSimpArgs false
set_option linter.unusedVariables false
namespace Go.Proofs.Ytachiggolgdocaa
open Go.ChangeShapes Go.WideShapes Go.ChangeAt Go.RowKit
set_option linter.unusedVariables false
theorem intInfo : (Try.prog.info? 3).map (fun i => (i.zero, i.size, i.bytes)) = some (some (.int .i64 0), 1, 8) := by kernel_rfl
end Go.Proofs.Ytachiggolgdocaa
namespace Go.Proofs.Ytachiggolgdocaa
open Go.ChangeShapes Go.WideShapes Go.ChangeAt Go.RowKit
set_option linter.unusedVariables false
def IntsW (w : World) (B0 B1 : Nat) (v : Value) (xs : List Int) : Prop :=
  ∃ (a : Option Addr) (cap : Nat), v = .slice a xs.length cap ∧ xs.length ≤ cap ∧ cap ≤ maxLen ∧
    ∀ i, i < xs.length → ∃ g p, a = some ⟨g, p, none⟩ ∧ B0 ≤ g ∧ g < B1 ∧ w.cell? ⟨g, p + i, none⟩ = some (.int .i64 (xs.getD i 0)) ∧ w.frozen? ⟨g, p + i, none⟩ = false
theorem IntsW.chg {lo hi B0 B1 : Nat} {w w' : World} {v : Value} {xs : List Int} (h : IntsW w B0 B1 v xs) (c : Chg lo hi w w') (hB : B1 ≤ w.heap.size) (hh : B1 ≤ lo ∨ hi ≤ B0) : IntsW w' B0 B1 v xs := by
  obtain ⟨a, cap, rfl, h1, h2, h3⟩ := h
  refine ⟨a, cap, rfl, h1, h2, fun i hi => ?_⟩
  obtain ⟨g, p, e, hg0, hg1, hc, hf⟩ := h3 i hi
  have hb := c.block g (by omega) (by omega)
  exact ⟨g, p, e, hg0, hg1, (World.cell?_of_block hb).trans hc, (World.frozen?_of_block hb).trans hf⟩
def NewR (ys : List Int) (w : World) (e : Ending) (w' : World) : Prop := ∃ v, e = .returned v ∧ IntsW w' w.heap.size w'.heap.size v ys ∧ Below w.heap.size w w'
end Go.Proofs.Ytachiggolgdocaa
namespace Go.Proofs.Ytachiggolgdocaa
set_option linter.unusedVariables false
def msel (f t : Int) (x : IV) : Bool := decide (x.k = f) && decide (x.g = t)
def mws0 (xs : List IV) (f t : Int) : List Int := (xs.filter (msel f t)).map (·.r)
def mws (xs : List IV) (f t : Int) : List Int := if msok xs = true then mws0 xs f t else []
theorem mws0_snoc (xs : List IV) (f t : Int) (k : Nat) (hk : k < xs.length) : mws0 (xs.take (k + 1)) f t = mws0 (xs.take k) f t ++ (if msel f t (xs.getD k iz) = true then [(xs.getD k iz).r] else []) := by
  rw [take_snoc_getD xs k iz hk]
  unfold mws0
  rw [List.filter_append, List.map_append]
  congr 1
  by_cases h : msel f t (xs.getD k iz) = true
  · rw [if_pos h, List.filter_cons_of_pos h]; rfl
  · rw [if_neg h, List.filter_cons_of_neg h]; rfl
end Go.Proofs.Ytachiggolgdocaa
namespace Go.Proofs.Ytachiggolgdocaa
open Go.ChangeShapes Go.WideShapes Go.ChangeAt Go.RowKit
set_option linter.unusedVariables false
structure OwnN (w : World) (v : Value) (ys : List Int) (w' : World) : Prop where
  own : w'.ownsRow w.heap.size 3 1 v ys.length (ys.map (.int .i64))
  bel : Below w.heap.size w w'
theorem OwnN.start (w : World) : OwnN w (.slice none 0 0) [] w := ⟨World.ownsRow_nil _ _ _ _, Below.refl _ _⟩
theorem OwnN.grow {w wr w2 : World} {v v2 : Value} {ys zs : List Int} {o : Obj} {n : Nat} (h : OwnN w v ys wr) (hn : n = ys.length + zs.length) (h2 : w2.ownsRow w.heap.size 3 1 v2 n (ys.map (.int .i64) ++ zs.map (.int .i64))) (hg : (wr.alloc o).grownBy w2 v.ownBlock) :
    OwnN w v2 (ys ++ zs) w2 := by
  subst hn
  exact ⟨by rw [List.length_append, List.map_append]; exact h2, (h.bel.alloc h.bel.size o).grown hg (by have := h.bel.size; simp; omega) (fun b hb => (h.own.lt b hb).1)⟩
theorem OwnN.row {w w' : World} {v : Value} {ys : List Int} (h : OwnN w v ys w') : IntsW w' w.heap.size w'.heap.size v ys := by
  rcases h.own.2 with ⟨rfl, hz⟩ | ⟨g, cap, cur, rfl, hb, hbl, hnc, hcm, hcs, htk⟩
  · have hz' : ys.length = 0 := hz
    exact ⟨none, 0, by rw [hz'], by omega, Nat.zero_le _, fun i hi => by omega⟩
  · refine ⟨some ⟨g, 0, none⟩, cap, rfl, hnc, hcm, fun i hi => ⟨g, 0, rfl, hb, (Array.getElem?_eq_some_iff.1 hbl).1, ?_, ?_⟩⟩
    · have := h.own.cells (g := g) rfl i (.int .i64 (ys.getD i 0)) (by rw [getD_lt hi]; simp)
      rw [add0] at this
      rw [Nat.zero_add]; exact this
    · simp [World.frozen?, hbl]
theorem own_below {w1 w2 : World} {base : Nat} {e : TypeId} {s : Nat} {v : Value} {n : Nat} {x : List Value} (h : w1.ownsRow base e s v n x) (hb : Below w1.heap.size w1 w2) : w2.ownsRow base e s v n x := by
  refine ⟨h.1, ?_⟩
  rcases h.2 with hn | ⟨g, cap, cur, e, hg, hbl, rest⟩
  · exact .inl hn
  · exact .inr ⟨g, cap, cur, e, hg, (hb.block g (Array.getElem?_eq_some_iff.1 hbl).1).trans hbl, rest⟩
theorem OwnN.below {w w1 w2 : World} {v : Value} {ys : List Int} (h : OwnN w v ys w1) (hb : Below w1.heap.size w1 w2) : OwnN w v ys w2 := ⟨own_below h.own hb, h.bel.trans (hb.mono h.bel.size)⟩
end Go.Proofs.Ytachiggolgdocaa
namespace Go.Proofs.Ytachiggolgdocaa
open Go.ChangeShapes Go.WideShapes Go.ChangeAt Go.RowKit
set_option linter.unusedVariables false
theorem IntsW.wide0 {w : World} {B0 B1 C0 : Nat} {v : Value} {xs : List Int} (h : IntsW w B0 B1 v xs) (h0 : C0 ≤ B0) : IntsW w C0 B1 v xs := by
  obtain ⟨a, cap, e, h1, h2, h3⟩ := h
  refine ⟨a, cap, e, h1, h2, fun i hi => ?_⟩
  obtain ⟨g, p, e, hg0, r⟩ := h3 i hi
  exact ⟨g, p, e, by omega, r⟩
set_option maxRecDepth 100000 in
set_option maxHeartbeats 1000000 in
theorem imw_any (w : World) (v : Value) (xs : List IV) (f t : Int) (h : Is w v xs) :
    Calls Try.prog 19 #[v, .int .i64 f, .int .i64 t] w (NewR (mws xs f t) w) := by
  have HC := Lib.hid (queueOf_any w v xs h)
  clear h
  obtain ⟨i0, hi, hz0, hz1, hz2⟩ := info_parts intInfo
  have HI := Lib.hid hi
  have HZ0 := Lib.hid hz0
  have HZ1 := Lib.hid hz1
  have HZ2 := Lib.hid hz2
  clear hi hz0 hz1 hz2
  obtain ⟨ys, hys⟩ : ∃ ys, ys = mws xs f t := ⟨_, rfl⟩
  rw [← hys]
  have HYS := Lib.hid hys
  clear hys
  cases h1 : msok xs with
  | false =>
    have HR : Hid (ys = []) := Lib.hid (by rw [HYS.out, mws, h1]; rfl)
    rw [h1] at HC
    clear h1
    rw [HR.out]
    go_enter Try.func19, Try.ntmps19
    go_wp2_with fail
    refine HC.out.mono ?_
    rintro e w1 ⟨v1, rfl, -, h2, hb1⟩
    obtain rfl := h2 rfl
    have B1 := Lib.hid hb1
    clear hb1 h2
    go_wp2_with fail
    go_ret
    exact ⟨_, rfl, (OwnN.start w1).row.wide0 B1.out.size, B1.out⟩
  | true =>
    have HOK := Lib.hid h1
    have HY : Hid (ys = mws0 xs f t) := Lib.hid (by rw [HYS.out, mws, if_pos h1])
    rw [h1] at HC
    clear h1
    have hl8 := msok_len HOK.out
    obtain ⟨n, hnn⟩ : ∃ n, n = xs.length := ⟨_, rfl⟩
    have HN := Lib.hid hnn
    rw [← hnn] at hl8
    clear hnn
    go_enter Try.func19, Try.ntmps19
    go_wp2_with fail
    refine HC.out.mono ?_
    rintro e w1 ⟨v1, rfl, h1, -, hb1⟩
    have HQ := Lib.hid (h1 rfl).is
    obtain ⟨a, ca, rfl, hla, hma, hxa⟩ := HQ.out
    unfold maxLen at hma
    rw [← HN.out] at hla hxa HQ ⊢
    have HX := Lib.hid hxa
    have B1 := Lib.hid hb1
    clear h1 hb1 hxa
    go_wp2
    go_loopw [9, 21] (fun c i wr => ∃ k : Nat, k ≤ n ∧ i = .int .i64 k ∧ Hid (OwnN w1 c (mws0 (xs.take k) f t) wr)) (fun _ i _ => n - (intOf i).toNat)
    case atStart => exact ⟨0, Nat.zero_le _, rfl, Lib.hid (OwnN.start w1)⟩
    case round =>
      obtain ⟨k, hk, rfl, HO⟩ := hrel
      by_cases hlt : k < n
      · obtain ⟨b, o, rfl, hc⟩ := HX.out k hlt
        have HT := Lib.hid hc
        obtain ⟨x, hx⟩ : ∃ x, x = xs.getD k iz := ⟨_, rfl⟩
        rw [← hx] at HT
        have HSN := Lib.hid (mws0_snoc xs f t k (by rw [← HN.out]; exact hlt))
        rw [← hx] at HSN
        have hlt' : (k : Int) < (n : Int) := by omega
        have HML : Hid ((mws0 (xs.take k) f t).length ≤ 8) := Lib.hid (by
          rw [mws0, List.length_map]
          exact Nat.le_trans (List.length_filter_le _ _) (by rw [List.length_take]; omega))
        obtain ⟨c0, c1, c2⟩ := HT.out.below HO.out.bel HT.out.lt
        clear hc hx
        have HO1 := Lib.hid (HO.out.below ((Below.refl wr.heap.size wr).alloc (Nat.le_refl _) (.cells #[.int .i64 x.k, .int .i64 x.g, .int .i64 x.r] 25)))
        clear HO
        by_cases h1 : x.k = f
        · have h1' : (x.k == f) = true := by simpa using h1
          by_cases h2 : x.g = t
          · have h2' : (x.g == t) = true := by simpa using h2
            have HE : Hid (mws0 (xs.take (k + 1)) f t = mws0 (xs.take k) f t ++ [x.r]) := Lib.hid (by rw [HSN.out, if_pos (by unfold msel; rw [decide_eq_true h1, decide_eq_true h2]; rfl)])
            generalize mws0 (xs.take k) f t = us at HO1 HML HE
            clear h1 h2 HSN
            go_wp2_with (at_builtin; refine wpList_append_own _ rfl (.tmp 35) (.tmp 38) 31 rfl w1.heap.size 3 i0 (.int .i64 0) 1 8 Try.underlying31 HI.out HZ0.out HZ1.out HZ2.out rfl (by decide) _ _ _ rfl (HO1.out.own.alloc _) ⟨wr.heap.size + 1, 0, none⟩ 1 1 [.int .i64 x.r] rfl rfl (by have := cell_one_new (wr.alloc (.cells #[.int .i64 x.k, .int .i64 x.g, .int .i64 x.r] 25)) (.int .i64 x.r) 3; simpa using this) (by intro u hu; simp at hu; subst hu; rfl) (by have := HML.out; unfold maxLen; omega) (by have := HML.out; omega) (by have := HO1.out.bel.size; simp at this ⊢; omega) ?_; intro v2 w2 hown2 hgrow2 hnn2)
            have HR2 : Hid (OwnN w1 v2 (mws0 (xs.take (k + 1)) f t) w2) := Lib.hid (by
              rw [HE.out]
              exact HO1.out.grow (zs := [x.r]) rfl hown2 hgrow2)
            clear hown2 hgrow2 hnn2
            go_wp2
            go_roundw
            case rel => exact ⟨k + 1, by omega, by go_num, HR2⟩
            case measure => simp [intOf]; omega
          · have h2' : (x.g == t) = false := by simpa using h2
            have HE : Hid (mws0 (xs.take (k + 1)) f t = mws0 (xs.take k) f t) := Lib.hid (by rw [HSN.out, if_neg (by unfold msel; rw [decide_eq_false h2, Bool.and_false]; exact Bool.noConfusion), List.append_nil])
            rw [← HE.out] at HO1
            clear h1 h2 HSN
            go_wp2
            go_roundw
            case rel => exact ⟨k + 1, by omega, by go_num, HO1⟩
            case measure => simp [intOf]; omega
        · have h1' : (x.k == f) = false := by simpa using h1
          have HE : Hid (mws0 (xs.take (k + 1)) f t = mws0 (xs.take k) f t) := Lib.hid (by rw [HSN.out, if_neg (by unfold msel; rw [decide_eq_false h1, Bool.false_and]; exact Bool.noConfusion), List.append_nil])
          rw [← HE.out] at HO1
          clear h1 HSN
          go_wp2
          go_roundw
          case rel => exact ⟨k + 1, by omega, by go_num, HO1⟩
          case measure => simp [intOf]; omega
      · have e : k = n := by omega
        subst e
        have HE : Hid (mws0 (xs.take k) f t = mws0 xs f t) := Lib.hid (by rw [take_all HN.out])
        go_wp2
        go_ret
        exact ⟨_, rfl, by rw [HY.out, ← HE.out]; exact HO.out.row.wide0 B1.out.size, B1.out.trans (HO.out.bel.mono B1.out.size)⟩
end Go.Proofs.Ytachiggolgdocaa
