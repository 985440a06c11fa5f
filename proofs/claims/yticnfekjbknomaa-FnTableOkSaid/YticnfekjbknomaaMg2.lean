/- What the proofs stand on, part 2: Draws New DrawMem DrawM Ent WBase DrawW RMath Str Is IOwn. -/
import Derived.Test.YticnfekjbknomaaMg1
import Derived.OwnWalk
import Derived.Deep.RegionWith
import Derived.Deep.RegionHeld3
import Derived.Test.YticnfekjbknomaaRows
import Derived.WalkKit
import Derived.ProofKit
import Derived.OpenShut
import Derived.Tactics
import Derived.Lib.Hide
import Derived.Deep.RegionHeld
import Derived.Laws.Strings
import Derived.Laws.Concat
import Derived.Maps.AppendAt
import Derived.Laws.AppendOwnNone
/- What the draws of entries and addresses give: numbers of the ranges that are named, whatever the code; nothing that was there before the call changes. -/
namespace Go.Proofs.Yticnfekjbknomaa
open Go.ChangeShapes Go.WideShapes Go.ChangeAt Go.RowKit
set_option linter.unusedVariables false

theorem pick_any (w0 w : World) (B k : Nat) (n : Int) (hR : Rdr w0 w B k) (hk : k ≤ 1000000) (hn : 1 ≤ n) :
    Calls Try.prog 63 #[.pointer (some ⟨B, 0, none⟩), .int .i64 n] w (Picked n w0 B (k + 1) w) := by
  obtain ⟨a, len, cap, zs, p, hr, hp, hh, hb, hB⟩ := hR
  have hr' := hr
  rcases hr' with ⟨rfl, rfl, rfl, rfl⟩ | ⟨x, rfl, hl, hm, hz, hcell, hwz⟩
  · exact pick_empty w0 w B k n _ _ _ p hr hp hk hh hb hB hn
  · by_cases h0 : len = 0
    · subst h0
      exact pick_empty w0 w B k n _ _ _ p hr hp hk hh hb hB hn
    · obtain ⟨b, off, rfl, hcs⟩ := ints_at hcell (by omega)
      have hbl : b < w0.heap.size := cell_lt (hcs 0 (by omega))
      have hbB : b ≠ B := by omega
      have hat : ∀ j, j < zs.length → w.cell? ⟨b, off + j, none⟩ = some (.int .u8 (zs.getD j 0)) := fun j hj => (hb.cell (p := ⟨b, off + j, none⟩) hbl).trans (hcs j hj)
      by_cases h1 : p < len
      · exact pick_near w0 w B k n b off len cap zs p _ hr hp hk hh hb hB hn h1 hbB (hat p (by omega)) (byte_bd hwz p).1 (byte_bd hwz p).2
      · have i1 : p % len < len := Nat.mod_lt _ (by omega)
        have i2 : (p * 7 + 3) % len < len := Nat.mod_lt _ (by omega)
        exact pick_far w0 w B k n b off len cap zs p _ _ hr hp hk hh hb hB hn (by omega) (by omega) hbB (hat _ (by omega)) (hat _ (by omega)) (byte_bd hwz _).1 (byte_bd hwz _).2 (byte_bd hwz _).1 (byte_bd hwz _).2

theorem rdr_alloc {w0 w : World} {B k : Nat} (h : Rdr w0 w B k) (o : Obj) : Rdr w0 (w.alloc o) B k := by
  obtain ⟨a, len, cap, zs, p, hr, hp, hh, hb, hB⟩ := h
  have hlt : B < w.heap.size := by
    rcases Nat.lt_or_ge B w.heap.size with h' | h'
    · exact h'
    · rw [Array.getElem?_eq_none h'] at hh; cases hh
  exact ⟨a, len, cap, zs, p, hr, hp, (Below.heap_alloc w o B hlt).trans hh, hb.alloc hb.size o, hB⟩
theorem rdr_lt {w0 w : World} {B k : Nat} (h : Rdr w0 w B k) : B < w.heap.size := by
  obtain ⟨a, len, cap, zs, p, hr, hp, hh, hb, hB⟩ := h
  rcases Nat.lt_or_ge B w.heap.size with h' | h'
  · exact h'
  · rw [Array.getElem?_eq_none h'] at hh; cases hh
theorem rdr_drewN {w0 w : World} {B k : Nat} (h : Rdr w0 w B k) (d : Nat) : Rdr w0 (w.drewN d) B k := by
  obtain ⟨a, len, cap, zs, p, hr, hp, hh, hb, hB⟩ := h
  exact ⟨a, len, cap, zs, p, hr, hp, hh, ⟨hb.os, hb.tape, hb.output, hb.size, hb.block⟩, hB⟩
theorem rdr_mono {w0 w : World} {B k k' : Nat} (h : Rdr w0 w B k) (hk : k ≤ k') : Rdr w0 w B k' := by
  obtain ⟨a, len, cap, zs, p, hr, hp, hh, hb, hB⟩ := h
  exact ⟨a, len, cap, zs, p, hr, by omega, hh, hb, hB⟩
theorem rdr_below {w0 w : World} {B k : Nat} (h : Rdr w0 w B k) : Below w0.heap.size w0 w := by
  obtain ⟨a, len, cap, zs, p, hr, hp, hh, hb, hB⟩ := h
  exact hb
theorem Only.grown {B : Nat} {w w' : World} (h : Only B w w') : w.grownBy w' (some B) :=
  ⟨h.1, h.2.1, h.2.2.1, by rw [h.2.2.2.1]; exact Nat.le_refl _, fun i hi hne => h.2.2.2.2 i (fun e => hne (by rw [e]))⟩
theorem Only.cell {B : Nat} {w w' : World} (h : Only B w w') {b o : Nat} (hb : b ≠ B) : w'.cell? ⟨b, o, none⟩ = w.cell? ⟨b, o, none⟩ := World.cell?_of_block (h.2.2.2.2 b hb)

theorem gtrans {B : Nat} {a b c : World} (h : a.grownBy b (some B)) (k : b.grownBy c (some B)) : a.grownBy c (some B) :=
  ⟨k.os.trans h.os, k.tape.trans h.tape, k.output.trans h.output, Nat.le_trans h.size k.size, fun i hi hne => (k.block i (Nat.lt_of_lt_of_le hi h.size) hne).trans (h.block i hi hne)⟩
theorem new_cell {w : World} {cs : Array Value} {t : TypeId} {j : Nat} {v : Value} (h : cs[j]? = some v) : (w.alloc (.cells cs t)).cell? ⟨w.heap.size, j, none⟩ = some v := by
  have e : (w.alloc (.cells cs t)).heap[w.heap.size]? = some (.cells cs t) := by
    show (w.heap.push _)[w.heap.size]? = _
    simp
  unfold World.cell?
  rw [e]
  exact h
theorem galloc (w : World) (o : Obj) (B : Nat) : w.grownBy (w.alloc o) (some B) := World.grownBy_alloc w o (some B)

/-- a number with P has been drawn: the reader has been asked at most k times; nothing else that was there has changed -/
def Drew (P : Int → Prop) (w0 : World) (B k : Nat) (w : World) (e : Ending) (w' : World) : Prop :=
  ∃ f : Int, P f ∧ e = .returned (.int .i64 f) ∧ Rdr w0 w' B k ∧ w.grownBy w' (some B)
theorem drew_mk {P : Int → Prop} {w0 : World} {B k k' : Nat} {w w' : World} {f : Int} (hP : P f) (hR : Rdr w0 w' B k') (hk : k' ≤ k) (hg : w.grownBy w' (some B)) :
    Drew P w0 B k w (.returned (.int .i64 f)) w' := ⟨f, hP, rfl, rdr_mono hR hk, hg⟩

def frameP (f : Int) : Prop := -1 ≤ f ∧ f ≤ 100
theorem frame_any (w0 w : World) (B k : Nat) (hR : Rdr w0 w B k) (hk : k ≤ 900000) :
    Calls Try.prog 65 #[.pointer (some ⟨B, 0, none⟩)] w (Drew frameP w0 B (k + 2) w) := by
  go_enter Try.func65, Try.ntmps65
  go_wp2_with fail
  refine (pick_any w0 _ B k _ hR (by omega) (by omega)).mono ?_
  rintro e w1 ⟨m, h0, h1, rfl, hR1, hO1⟩
  by_cases hm : m = 0
  · subst hm
    have hB1 := rdr_lt hR1
    go_wp2_with fail
    refine (pick_any w0 _ B _ _ (rdr_alloc hR1 _) (by omega) (by omega)).mono ?_
    rintro e w2 ⟨m2, h20, h21, rfl, hR2, hO2⟩
    have hc : ∀ o, w2.cell? ⟨w1.heap.size, o, none⟩ = (w1.alloc (.cells #[.int .i64 (-1), .int .i64 12, .int .i64 100] 3)).cell? ⟨w1.heap.size, o, none⟩ := fun o => hO2.cell (by omega)
    have hg := gtrans hO1.grown (gtrans (galloc _ _ _) hO2.grown)
    have hmm : m2 = 0 ∨ m2 = 1 ∨ m2 = 2 := by omega
    rcases hmm with rfl | rfl | rfl
    · have hc0 : w2.cell? ⟨w1.heap.size, 0, none⟩ = some (.int .i64 (-1)) := (hc 0).trans (new_cell rfl)
      clear hc
      go_wp2_with fail
      go_ret
      exact drew_mk (by unfold frameP; omega) hR2 (by omega) hg
    · have hc1 : w2.cell? ⟨w1.heap.size, 1, none⟩ = some (.int .i64 12) := (hc 1).trans (new_cell rfl)
      clear hc
      go_wp2_with fail
      go_ret
      exact drew_mk (by unfold frameP; omega) hR2 (by omega) hg
    · have hc2 : w2.cell? ⟨w1.heap.size, 2, none⟩ = some (.int .i64 100) := (hc 2).trans (new_cell rfl)
      clear hc
      go_wp2_with fail
      go_ret
      exact drew_mk (by unfold frameP; omega) hR2 (by omega) hg
  · have hm' : (m == 0) = false := by simpa using hm
    go_wp2_with fail
    refine (pick_any w0 _ B _ _ hR1 (by omega) (by omega)).mono ?_
    rintro e w2 ⟨m2, h20, h21, rfl, hR2, hO2⟩
    go_wp2_with fail
    go_ret
    exact drew_mk (by unfold frameP; omega) hR2 (by omega) (gtrans hO1.grown hO2.grown)

def entryP (f : Int) : Prop := -1 ≤ f ∧ f ≤ 9999
theorem entry_any (w0 w : World) (B k : Nat) (hR : Rdr w0 w B k) (hk : k ≤ 900000) :
    Calls Try.prog 119 #[.pointer (some ⟨B, 0, none⟩)] w (Drew entryP w0 B (k + 3) w) := by
  go_enter Try.func119, Try.ntmps119
  go_wp2_with fail
  refine (pick_any w0 _ B k _ hR (by omega) (by omega)).mono ?_
  rintro e w1 ⟨m, h0, h1, rfl, hR1, hO1⟩
  by_cases hm0 : m = 0
  · subst hm0
    go_wp2_with fail
    go_ret
    exact drew_mk (by unfold entryP; omega) hR1 (by omega) hO1.grown
  have e0 : (m == 0) = false := by simpa using hm0
  by_cases hm1 : m = 1
  · subst hm1
    go_wp2_with fail
    go_ret
    exact drew_mk (by unfold entryP; omega) hR1 (by omega) hO1.grown
  have e1 : (m == 1) = false := by simpa using hm1
  by_cases hm2 : m = 2
  · subst hm2
    have hB1 := rdr_lt hR1
    go_wp2_with fail
    refine (pick_any w0 _ B _ _ (rdr_alloc hR1 _) (by omega) (by omega)).mono ?_
    rintro e w2 ⟨m2, h20, h21, rfl, hR2, hO2⟩
    have hc : ∀ o, w2.cell? ⟨w1.heap.size, o, none⟩ = (w1.alloc (.cells #[.int .i64 (-1), .int .i64 2, .int .i64 47, .int .i64 48, .int .i64 49, .int .i64 9999, .int .i64 4] 3)).cell? ⟨w1.heap.size, o, none⟩ := fun o => hO2.cell (by omega)
    have hg := gtrans hO1.grown (gtrans (galloc _ _ _) hO2.grown)
    have hmm : m2 = 0 ∨ m2 = 1 ∨ m2 = 2 ∨ m2 = 3 ∨ m2 = 4 ∨ m2 = 5 ∨ m2 = 6 := by omega
    rcases hmm with rfl | rfl | rfl | rfl | rfl | rfl | rfl
    · have hc0 : w2.cell? ⟨w1.heap.size, 0, none⟩ = some (.int .i64 (-1)) := (hc 0).trans (new_cell rfl)
      clear hc
      go_wp2_with fail
      go_ret
      exact drew_mk (by unfold entryP; omega) hR2 (by omega) hg
    · have hc1 : w2.cell? ⟨w1.heap.size, 1, none⟩ = some (.int .i64 2) := (hc 1).trans (new_cell rfl)
      clear hc
      go_wp2_with fail
      go_ret
      exact drew_mk (by unfold entryP; omega) hR2 (by omega) hg
    · have hc2 : w2.cell? ⟨w1.heap.size, 2, none⟩ = some (.int .i64 47) := (hc 2).trans (new_cell rfl)
      clear hc
      go_wp2_with fail
      go_ret
      exact drew_mk (by unfold entryP; omega) hR2 (by omega) hg
    · have hc3 : w2.cell? ⟨w1.heap.size, 3, none⟩ = some (.int .i64 48) := (hc 3).trans (new_cell rfl)
      clear hc
      go_wp2_with fail
      go_ret
      exact drew_mk (by unfold entryP; omega) hR2 (by omega) hg
    · have hc4 : w2.cell? ⟨w1.heap.size, 4, none⟩ = some (.int .i64 49) := (hc 4).trans (new_cell rfl)
      clear hc
      go_wp2_with fail
      go_ret
      exact drew_mk (by unfold entryP; omega) hR2 (by omega) hg
    · have hc5 : w2.cell? ⟨w1.heap.size, 5, none⟩ = some (.int .i64 9999) := (hc 5).trans (new_cell rfl)
      clear hc
      go_wp2_with fail
      go_ret
      exact drew_mk (by unfold entryP; omega) hR2 (by omega) hg
    · have hc6 : w2.cell? ⟨w1.heap.size, 6, none⟩ = some (.int .i64 4) := (hc 6).trans (new_cell rfl)
      clear hc
      go_wp2_with fail
      go_ret
      exact drew_mk (by unfold entryP; omega) hR2 (by omega) hg
  have e2 : (m == 2) = false := by simpa using hm2
  go_wp2_with fail
  refine (pick_any w0 _ B _ _ hR1 (by omega) (by omega)).mono ?_
  rintro e w2 ⟨m2, h20, h21, rfl, hR2, hO2⟩
  go_wp2_with fail
  refine (pick_any w0 _ B _ _ hR2 (by omega) (by omega)).mono ?_
  rintro e w3 ⟨m3, h30, h31, rfl, hR3, hO3⟩
  go_wp2_with fail
  go_ret
  exact drew_mk (by unfold entryP; omega) hR3 (by omega) (gtrans hO1.grown (gtrans hO2.grown hO3.grown))

theorem below_mk {w0 w : World} {B k : Nat} (h : Rdr w0 w B k) : Below w0.heap.size w0 w := rdr_below h

/-- the reader is new: block 'w.heap.size' -/
theorem open_any (w : World) (a : Option Addr) (len cap : Nat) (zs : List Int) (hr : Row .u8 w a len cap zs) :
    Calls Try.prog 62 #[.slice a len cap] w fun e w' => e = .returned (.pointer (some ⟨w.heap.size, 0, none⟩)) ∧ Rdr w w' w.heap.size 0 := by
  have hlm : len ≤ 9223372036854775807 ∧ len ≤ cap ∧ cap ≤ 9223372036854775807 := by
    rcases hr with ⟨_, rfl, rfl, _⟩ | ⟨x, _, hl, hm, _⟩
    · omega
    · unfold maxLen at hm; omega
  obtain ⟨hlm, hlc, hcm⟩ := hlm
  by_cases hl : 2000 < len
  · have hl' : (2000 : Int) < (len : Int) := by omega
    rcases hr with ⟨rfl, rfl, rfl, _⟩ | ⟨x, rfl, hlx, hm, hz, hcell, hwz⟩
    · omega
    have hR : Rdr w (w.alloc (.cells #[.slice (some x) 2000 cap, .int .i64 0] 122)) w.heap.size 0 :=
      ⟨some x, 2000, cap, zs, 0, .inr ⟨x, rfl, by omega, hm, hz, hcell, hwz⟩, Nat.le_refl _, by show (w.heap.push _)[w.heap.size]? = _; simp, (Below.refl _ _).alloc (Nat.le_refl _) _, Nat.le_refl _⟩
    go_enter Try.func62, Try.ntmps62
    go_wp2_with fail
    go_ret
    exact ⟨rfl, hR⟩
  · have hl' : (len : Int) ≤ 2000 := by omega
    have hl2 : decide ((2000 : Int) < (len : Int)) = false := by simp; omega
    have hl3 : decide (2000 < len) = false := by simp; omega
    have hR : Rdr w (w.alloc (.cells #[.slice a len cap, .int .i64 0] 122)) w.heap.size 0 :=
      ⟨a, len, cap, zs, 0, hr, Nat.le_refl _, by show (w.heap.push _)[w.heap.size]? = _; simp, (Below.refl _ _).alloc (Nat.le_refl _) _, Nat.le_refl _⟩
    go_enter Try.func62, Try.ntmps62
    go_wp2_with fail
    go_ret
    exact ⟨rfl, hR⟩

end Go.Proofs.Yticnfekjbknomaa
/- What the reference's new memory is: twelve rows of four zeros in new blocks. -/
namespace Go.Proofs.Yticnfekjbknomaa
open Go.ChangeShapes Go.WideShapes Go.ChangeAt Go.RowKit
set_option linter.unusedVariables false

def zeros : List (List Int) := List.replicate 12 [0, 0, 0, 0]
theorem zeros_get {k : Nat} (h : k < 12) : zeros.getD k [] = [0, 0, 0, 0] := by
  unfold zeros
  rw [getD_lt (by simpa using h), List.getElem_replicate]
theorem made_owns (w : World) : (w.alloc (.cells (madeCells #[.int .i64 0] 4) 3)).ownsRow w.heap.size 3 1 (.slice (some ⟨w.heap.size, 0, none⟩) 4 4) 4 (([0, 0, 0, 0] : List Int).map (.int .i64)) :=
  ⟨rfl, .inr ⟨w.heap.size, 4, madeCells #[.int .i64 0] 4, rfl, Nat.le_refl _, by show (w.heap.push _)[w.heap.size]? = _; simp, Nat.le_refl _, by unfold maxLen; omega, size_madeCells _ _, by kernel_rfl⟩⟩

theorem l2New_any (w : World) : Calls Try.prog 118 #[] w (ToMat zeros w) := by
  obtain ⟨i1, hj, hy0, hy1, hy2⟩ := info_parts intsInfo
  have HJ := Lib.hid hj
  have HY0 := Lib.hid hy0
  have HY1 := Lib.hid hy1
  have HY2 := Lib.hid hy2
  clear hj hy0 hy1 hy2
  have hmk : ∀ W : World, (Instr.makeSlice 34 (.int .i64 4) (.int .i64 4)).run Try.prog W = .ok (.slice (some ⟨W.heap.size, 0, none⟩) 4 4) (W.alloc (.cells (madeCells #[.int .i64 0] 4) 3)) := fun W =>
    run_make_row' (P := Try.prog) 34 3 (.int .i64 0) 8 Try.underlying34 intInfo rfl .i64 .i64 4 (by omega) (by omega) W
  go_enter Try.func118, Try.ntmps118
  go_wp2
  go_loopw [1, 2] (fun u i wr => ∃ (k : Nat) (V : Nat → Value) (G : Nat → Nat), k ≤ 12 ∧ i = .int .i64 k ∧ CRel w zeros k u wr V G) (fun _ i _ => 12 - (intOf i).toNat)
  case atStart => exact ⟨0, _, _, Nat.zero_le _, rfl, CRel.start w zeros⟩
  case round =>
    obtain ⟨k, V, G, hk, rfl, hrel⟩ := hrel
    by_cases hlt : k < 12
    · have hlt' : (k : Int) < 12 := by omega
      have hsz := hrel.bel.size
      have hmk' := hmk wr
      have hown1 := made_owns wr
      obtain ⟨w1, hw1⟩ : ∃ w1, w1 = wr.alloc (.cells (madeCells #[.int .i64 0] 4) 3) := ⟨_, rfl⟩
      have hg1 : (wr.alloc (.cells #[] 3)).grownBy w1 (some wr.heap.size) := by
        subst hw1
        exact ⟨rfl, rfl, rfl, by simp, fun q hq hne => by
          have : q < wr.heap.size := by
            have : q ≠ wr.heap.size := fun e => hne (by rw [e])
            simp at hq
            omega
          rw [Below.heap_alloc _ _ _ this, Below.heap_alloc _ _ _ this]⟩
      rw [← hw1] at hown1 hmk'
      have hs1 : w.heap.size ≤ w1.heap.size := by rw [hw1]; simp; omega
      clear hmk hw1
      have HO := Lib.hid hown1
      have HG := Lib.hid hg1
      clear hown1 hg1
      go_wp2_with (at_builtin; refine wpList_append_own _ rfl (.tmp 8) (.tmp 10) 26 rfl w.heap.size 34 i1 (.slice none 0 0) 1 24 Try.underlying26 HJ.out HY0.out HY1.out HY2.out rfl (by decide) _ _ _ rfl (hrel.own_mid HG.out) ⟨w1.heap.size, 0, none⟩ 1 1 [.slice (some ⟨wr.heap.size, 0, none⟩) 4 4] rfl rfl (cell_one_new _ _ _) (by intro u hu; simp at hu; subst hu; rfl) (by unfold maxLen; omega) (by omega) (by simp; omega) ?_; intro v2 w2 hown2 hgrow2 _)
      have HREL : Hid (∃ V' G', CRel w zeros (k + 1) v2 w2 V' G') := Lib.hid (hrel.step (zeros_get hlt) (by simp) HO.out HG.out hown2 hgrow2)
      clear hown2 hgrow2 hrel
      go_wp2
      go_roundw
      case rel =>
        obtain ⟨V', G', hR⟩ := HREL.out
        exact ⟨k + 1, V', G', by omega, by go_num, hR⟩
      case measure => simp [intOf]; omega
    · have hge : decide ((k : Int) < 12) = false := by simp; omega
      go_wp2
      go_ret
      have e : k = 12 := by omega
      subst e
      exact ⟨_, rfl, hrel.mat (by simp [zeros]) (by omega) (fun j hj => by rw [zeros_get hj]; simp), hrel.bel⟩
end Go.Proofs.Yticnfekjbknomaa
/- What the draw of a memory gives: rows of their own, whatever the code; of what was there before only the reader changes. -/
namespace Go.Proofs.Yticnfekjbknomaa
open Go.ChangeShapes Go.WideShapes Go.ChangeAt Go.RowKit
set_option linter.unusedVariables false

theorem rdr_drew {w0 w : World} {B k : Nat} (h : Rdr w0 w B k) : Rdr w0 w.drew B k := rdr_drewN h 1
theorem rdr_store {w0 w : World} {B k : Nat} (h : Rdr w0 w B k) {g p : Nat} (hg : g ≠ B) (hg0 : w0.heap.size ≤ g) (v : Value) : Rdr w0 (w.setCell ⟨g, p, none⟩ v) B k := by
  obtain ⟨a, len, cap, zs, q, hr, hp, hh, hb, hB⟩ := h
  exact ⟨a, len, cap, zs, q, hr, hp, (Below.heap_setCell w ⟨g, p, none⟩ v B (fun e => hg e.symm)).trans hh, hb.setCell (p := ⟨g, p, none⟩) hg0 v, hB⟩
theorem MatAt.names {w : World} {B0 B1 : Nat} {a : Option Addr} {n : Nat} {A : Nat → Option Addr} {L C : Nat → Nat} {X : Nat → Nat → Int} (h : MatAt w B0 B1 a n A L C X) {A' : Nat → Option Addr} (hA : ∀ j, j < n → A' j = A j) : MatAt w B0 B1 a n A' L C X := by
  refine ⟨fun j hj => ?_, fun j hj i hi => ?_, fun j hj j' hj' => ?_⟩
  · rw [hA j hj]; exact h.top j hj
  · rw [hA j hj]; exact h.row j hj i hi
  · rw [hA j hj, hA j' hj']; exact h.apart j hj j' hj'

/-- while a memory is drawn: the reader, and twelve rows of four words in blocks B0 to B1-1 behind it -/
structure MemRel (w0 w : World) (B B0 B1 k : Nat) (b o : Nat) (G P C : Nat → Nat) (wr : World) : Prop where
  rdr : Rdr w0 wr B k
  grown : w.grownBy wr (some B)
  mat : ∃ X, MatAt wr B0 B1 (some ⟨b, o, none⟩) 12 (fun j => some ⟨G j, P j, none⟩) (fun _ => 4) C X
  b0 : B < B0 ∧ w.heap.size ≤ B0 ∧ w0.heap.size ≤ B0
  b1 : B1 ≤ wr.heap.size

theorem MemRel.mono {w0 w : World} {B B0 B1 k k' b o : Nat} {G P C : Nat → Nat} {wr : World} (h : MemRel w0 w B B0 B1 k b o G P C wr) (hk : k ≤ k') : MemRel w0 w B B0 B1 k' b o G P C wr :=
  ⟨rdr_mono h.rdr hk, h.grown, h.mat, h.b0, h.b1⟩
/-- the reader goes on, and new blocks come -/
theorem MemRel.go {w0 w : World} {B B0 B1 k k' b o : Nat} {G P C : Nat → Nat} {wr w' : World} (h : MemRel w0 w B B0 B1 k b o G P C wr) (hR : Rdr w0 w' B k') (hg : wr.grownBy w' (some B)) : MemRel w0 w B B0 B1 k' b o G P C w' := by
  obtain ⟨X, hX⟩ := h.mat
  refine ⟨hR, gtrans h.grown hg, ⟨X, hX.of_blocks fun c h0 h1 => hg.block c (by have := h.b1; omega) (fun e => by injection e with e; have := h.b0.1; omega)⟩, h.b0, Nat.le_trans h.b1 hg.size⟩
theorem MemRel.store {w0 w : World} {B B0 B1 k b o : Nat} {G P C : Nat → Nat} {wr : World} (h : MemRel w0 w B B0 B1 k b o G P C wr) {i j : Nat} (hi : i < 12) (hj : j < 4) (x : Int) :
    MemRel w0 w B B0 B1 k b o G P C (wr.setCell ⟨G i, P i + j, none⟩ (.int .i64 x)) := by
  obtain ⟨X, hX⟩ := h.mat
  obtain ⟨g, p, e, hg0, hg1, _⟩ := hX.row i hi j hj
  injection e with e
  injection e with e1 e2
  subst e1
  have hb := h.b0
  refine ⟨rdr_store h.rdr (by omega) (by omega) _, ⟨h.grown.os, h.grown.tape, h.grown.output, by simpa [World.setCell] using h.grown.size, fun c hc hne => ?_⟩, ⟨_, hX.store hi hj rfl x⟩, h.b0, by simpa [World.setCell] using h.b1⟩
  exact (Below.heap_setCell wr ⟨G i, P i + j, none⟩ _ c (by show c ≠ G i; omega)).trans (h.grown.block c hc hne)
theorem MemRel.top {w0 w : World} {B B0 B1 k b o : Nat} {G P C : Nat → Nat} {wr : World} (h : MemRel w0 w B B0 B1 k b o G P C wr) {i : Nat} (hi : i < 12) :
    wr.cell? ⟨b, o + i, none⟩ = some (.slice (some ⟨G i, P i, none⟩) 4 (C i)) ∧ wr.frozen? ⟨b, o + i, none⟩ = false ∧ B < b ∧ b < wr.heap.size ∧ 4 ≤ C i ∧ C i ≤ maxLen := by
  obtain ⟨X, hX⟩ := h.mat
  obtain ⟨b', o', e, h0, h1, hc, hl, hm, hf⟩ := hX.top i hi
  injection e with e
  injection e with e1 e2
  subst e1
  subst e2
  have := h.b0
  have := h.b1
  exact ⟨hc, hf, by omega, by omega, hl, hm⟩
theorem MemRel.row {w0 w : World} {B B0 B1 k b o : Nat} {G P C : Nat → Nat} {wr : World} (h : MemRel w0 w B B0 B1 k b o G P C wr) {i j : Nat} (hi : i < 12) (hj : j < 4) :
    ∃ x, wr.cell? ⟨G i, P i + j, none⟩ = some (.int .i64 x) ∧ wr.frozen? ⟨G i, P i + j, none⟩ = false ∧ B < G i ∧ G i < wr.heap.size := by
  obtain ⟨X, hX⟩ := h.mat
  obtain ⟨g, p, e, h0, h1, hc, hf, _⟩ := hX.row i hi j hj
  injection e with e
  injection e with e1 e2
  subst e1
  subst e2
  have := h.b0
  have := h.b1
  exact ⟨_, hc, hf, by omega, by omega⟩
theorem grown_undrew {w w' : World} {r : Option Nat} (h : w.drew.grownBy w' r) : w.grownBy w' r := ⟨h.os, h.tape, h.output, h.size, h.block⟩
theorem grown_at {B : Nat} {w w' : World} (h : w.grownBy w' (some B)) {g : Nat} (h1 : B < g) (h2 : g < w.heap.size) : (∀ o, w'.cell? ⟨g, o, none⟩ = w.cell? ⟨g, o, none⟩) ∧ ∀ o, w'.frozen? ⟨g, o, none⟩ = w.frozen? ⟨g, o, none⟩ :=
  have hb := h.block g h2 (fun e => by injection e with e; omega)
  ⟨fun o => World.cell?_of_block hb, fun o => World.frozen?_of_block hb⟩


theorem mem_start {w0 w w1 : World} {B k : Nat} {v : Value} (hR : Rdr w0 w B k) (hm : MatW w1 w.heap.size w1.heap.size v zeros) (hb : Below w.heap.size w w1) :
    ∃ (b o cap : Nat) (G P C : Nat → Nat), v = .slice (some ⟨b, o, none⟩) 12 cap ∧ 12 ≤ cap ∧ cap ≤ maxLen ∧ MemRel w0 w B w.heap.size w1.heap.size k b o G P C w1 := by
  obtain ⟨a, cap, A, C, rfl, h1, h2, hX⟩ := hm
  have hz : zeros.length = 12 := by simp [zeros]
  rw [hz] at h1 hX ⊢
  obtain ⟨b, o, rfl, _⟩ := hX.top 0 (by omega)
  have each : ∀ j, j < 12 → ∃ gp : Nat × Nat, A j = some ⟨gp.1, gp.2, none⟩ := fun j hj => by
    obtain ⟨g, p, e, _⟩ := hX.row j hj 0 (by rw [zeros_get hj]; simp)
    exact ⟨(g, p), e⟩
  obtain ⟨F, hF⟩ : ∃ F : Nat → Nat × Nat, ∀ j, j < 12 → A j = some ⟨(F j).1, (F j).2, none⟩ := ⟨fun j => if hj : j < 12 then (each j hj).choose else (0, 0), fun j hj => by simp only [hj, dif_pos]; exact (each j hj).choose_spec⟩
  have hX2 := (hX.names (A' := fun j => some ⟨(F j).1, (F j).2, none⟩) (fun j hj => (hF j hj).symm)).congr (L' := fun _ => 4) (X' := fun j i => (zeros.getD j []).getD i 0) rfl (fun j hj => by rw [zeros_get hj]; rfl) (fun _ _ _ _ => rfl)
  have hlt := rdr_lt hR
  obtain ⟨ra, len, rcap, zs, p, hr, hp, hh, hbb, hB⟩ := hR
  refine ⟨b, o, cap, fun j => (F j).1, fun j => (F j).2, C, rfl, h1, h2, ⟨⟨ra, len, rcap, zs, p, hr, hp, (hb.block B hlt).trans hh, Below.trans hbb (hb.mono hbb.size), hB⟩, ⟨hb.os, hb.tape, hb.output, hb.size, fun c hc _ => hb.block c hc⟩, ⟨_, hX2⟩, ⟨hlt, Nat.le_refl _, hbb.size⟩, Nat.le_refl _⟩⟩

/-- a drawn memory: at most twelve rows of at most four words, in blocks of their own -/
def DrewMem (w0 : World) (B k : Nat) (w : World) (e : Ending) (w' : World) : Prop :=
  ∃ v xss, e = .returned v ∧ MatW w' w.heap.size w'.heap.size v xss ∧ xss.length ≤ 12 ∧ (∀ j, j < xss.length → (xss.getD j []).length ≤ 4) ∧ Rdr w0 w' B k ∧ w.grownBy w' (some B)

/-- a matrix as a list of lists -/
theorem MatAt.list {w : World} {B0 B1 B2 : Nat} {a : Option Addr} {n cap : Nat} {A : Nat → Option Addr} {L C : Nat → Nat} {X : Nat → Nat → Int} (h : MatAt w B0 B1 a n A L C X) (hB : B1 ≤ B2) (hc : n ≤ cap) (hm : cap ≤ maxLen) (h12 : n ≤ 12) (hL : ∀ j, j < n → L j ≤ 4) :
    ∃ xss, MatW w B0 B2 (.slice a n cap) xss ∧ xss.length ≤ 12 ∧ ∀ j, j < xss.length → (xss.getD j []).length ≤ 4 := by
  have hg : ∀ j, j < n → ((List.range n).map fun j => (List.range (L j)).map (X j)).getD j [] = (List.range (L j)).map (X j) := fun j hj => by rw [getD_lt (by simpa using hj)]; simp
  refine ⟨(List.range n).map fun j => (List.range (L j)).map (X j), ⟨a, cap, A, C, by simp, by simpa using hc, hm, ?_⟩, by simpa using h12, fun j hj => ?_⟩
  · refine (h.mono hB).congr (by simp) (fun j hj => ?_) (fun j hj i hi => ?_)
    · rw [hg j hj]; simp
    · rw [hg j hj, getD_lt (by simpa using hi)]; simp
  · have hj' : j < n := by simpa using hj
    rw [hg j hj']; simpa using hL j hj'
theorem drewMem_mk {w0 w wr : World} {B B1 k k' b o cap : Nat} {G P C : Nat → Nat} (hk : k ≤ k') (h : MemRel w0 w B w.heap.size B1 k b o G P C wr) (h1 : 12 ≤ cap) (h2 : cap ≤ maxLen) :
    DrewMem w0 B k' w (.returned (.slice (some ⟨b, o, none⟩) 12 cap)) wr := by
  obtain ⟨X, hX⟩ := h.mat
  obtain ⟨xss, h3, h4, h5⟩ := hX.list h.b1 h1 h2 (Nat.le_refl _) (fun _ _ => Nat.le_refl _)
  exact ⟨_, xss, rfl, h3, h4, h5, rdr_mono h.rdr hk, h.grown⟩
theorem drewMem_cut {w0 w wr : World} {B B1 k k' b o cap n : Nat} {G P C : Nat → Nat} (hk : k ≤ k') (h : MemRel w0 w B w.heap.size B1 k b o G P C wr) (h1 : 12 ≤ cap) (h2 : cap ≤ maxLen) (hn : n < 12) :
    DrewMem w0 B k' w (.returned (.slice (some ⟨b, o, none⟩) n cap)) wr := by
  obtain ⟨X, hX⟩ := h.mat
  have hX2 : MatAt wr w.heap.size B1 (some ⟨b, o, none⟩) n (fun j => some ⟨G j, P j, none⟩) (fun _ => 4) C X :=
    ⟨fun j hj => hX.top j (by omega), fun j hj => hX.row j (by omega), fun j hj j' hj' => hX.apart j (by omega) j' (by omega)⟩
  obtain ⟨xss, h3, h4, h5⟩ := hX2.list h.b1 (cap := cap) (by omega) h2 (by omega) (fun _ _ => Nat.le_refl _)
  exact ⟨_, xss, rfl, h3, h4, h5, rdr_mono h.rdr hk, h.grown⟩

theorem drewMem_short {w0 w wr : World} {B B1 k k' b o cap i m : Nat} {G P C : Nat → Nat} (hk : k ≤ k') (h : MemRel w0 w B w.heap.size B1 k b o G P C wr) (h1 : 12 ≤ cap) (h2 : cap ≤ maxLen) (hi : i < 12) (hm : m ≤ 4) :
    DrewMem w0 B k' w (.returned (.slice (some ⟨b, o, none⟩) 12 cap)) (wr.setCell ⟨b, o + i, none⟩ (.slice (some ⟨G i, P i, none⟩) m (C i))) := by
  obtain ⟨X, hX⟩ := h.mat
  have hb := (h.top (i := 0) (by omega)).2.2.1
  have hs : (wr.setCell ⟨b, o + i, none⟩ (.slice (some ⟨G i, P i, none⟩) m (C i))).heap.size = wr.heap.size := by simp [World.setCell]
  have hbw : w.heap.size ≤ b := by
    obtain ⟨b', o', e, h0, _⟩ := hX.top 0 (by omega)
    injection e with e; injection e with e1 _; subst e1; exact h0
  have hX2 : MatAt (wr.setCell ⟨b, o + i, none⟩ (.slice (some ⟨G i, P i, none⟩) m (C i))) w.heap.size B1 (some ⟨b, o, none⟩) 12 (fun j => some ⟨G j, P j, none⟩) (fun j => if j = i then m else 4) C X := by
    refine ⟨fun j hj => ?_, fun j hj q hq => ?_, fun j hj j' hj' hne h3 h4 g p g' p' ee ee' => ?_⟩
    · obtain ⟨b', o', e, h0, h3, hc, hl, hcm, hf⟩ := hX.top j hj
      injection e with e
      injection e with e1 e2
      subst e1
      subst e2
      by_cases hji : j = i
      · subst hji
        simp only [if_true]
        exact ⟨b, o, rfl, h0, h3, cell_set_same hc, by omega, hcm, (frozen_set _).trans hf⟩
      · simp only [if_neg hji]
        exact ⟨b, o, rfl, h0, h3, (cell_set_other (.inr (by omega))).trans hc, hl, hcm, (frozen_set _).trans hf⟩
    · have hq4 : q < 4 := by
        by_cases hji : j = i
        · simp only [hji, if_true] at hq; omega
        · simpa only [if_neg hji] using hq
      obtain ⟨g, p, e, h0, h3, hc, hf, hne⟩ := hX.row j hj q hq4
      exact ⟨g, p, e, h0, h3, (cell_set_other (.inl (hne b o rfl).symm)).trans hc, (frozen_set _).trans hf, hne⟩
    · have a1 := hX.apart j hj j' hj' hne (by omega) (by omega) g p g' p' ee ee'
      have l1 : (if j = i then m else 4) ≤ 4 := by split <;> omega
      have l2 : (if j' = i then m else 4) ≤ 4 := by split <;> omega
      rcases a1 with a1 | a1 | a1
      · exact .inl a1
      · exact .inr (.inl (by omega))
      · exact .inr (.inr (by omega))
  obtain ⟨xss, h3, h4, h5⟩ := hX2.list (B2 := wr.heap.size) h.b1 h1 h2 (Nat.le_refl _) (fun j _ => by split <;> omega)
  refine ⟨_, xss, rfl, by rw [hs]; exact h3, h4, h5, rdr_store (rdr_mono h.rdr hk) (by omega) (by have := h.b0; omega) _, ⟨h.grown.os, h.grown.tape, h.grown.output, by rw [hs]; exact h.grown.size, fun c hc hne => ?_⟩⟩
  exact (Below.heap_setCell wr ⟨b, o + i, none⟩ _ c (by show c ≠ b; omega)).trans (h.grown.block c hc hne)
theorem only_cells {B : Nat} {w w' : World} (h : Only B w w') : ∀ b o, B < b → w'.cell? ⟨b, o, none⟩ = w.cell? ⟨b, o, none⟩ := fun b o hb => h.cell (by omega)
theorem only_size {B : Nat} {w w' : World} (h : Only B w w') : w'.heap.size = w.heap.size := h.2.2.2.1
theorem pair_get (m : Int) (h0 : 0 ≤ m) (h1 : m < 2) : ∃ x, [Value.int .i64 (-1), .int .i64 10000][m.toNat]'(by simp; omega) = .int .i64 x := by
  have hm : m = 0 ∨ m = 1 := by omega
  rcases hm with rfl | rfl
  · exact ⟨-1, rfl⟩
  · exact ⟨10000, rfl⟩

set_option maxHeartbeats 4000000 in
theorem mem_any (w0 w : World) (B k : Nat) (hR : Rdr w0 w B k) (hk : k ≤ 800000) :
    Calls Try.prog 100 #[.pointer (some ⟨B, 0, none⟩)] w (DrewMem w0 B (k + 400) w) := by
  go_enter Try.func100, Try.ntmps100
  go_wp2_with fail
  refine (l2New_any w).mono ?_
  rintro e w1 ⟨v, rfl, hm, hb⟩
  obtain ⟨b, o, cap, G, P, C, rfl, hc1, hc2, hrel⟩ := mem_start hR hm hb
  generalize w1.heap.size = B1 at hrel
  clear hm hb hR
  go_wp2_with fail
  refine (pick_any w0 _ B _ _ hrel.rdr (by omega) (by omega)).mono ?_
  rintro e w2 ⟨N, hN0, hN1, rfl, hR2, hO2⟩
  have hrel2 := hrel.go hR2 hO2.grown
  clear hrel hR2 hO2
  go_wp2_with fail
  go_loopw [5] (fun i wr => ∃ j : Nat, (j : Int) ≤ N ∧ i = .int .i64 j ∧ MemRel w0 w B w.heap.size B1 (k + 1 + 5 * j) b o G P C wr) (fun i _ => 30 - (intOf i).toNat)
  case atStart => exact ⟨0, by omega, rfl, hrel2⟩
  case round =>
    clear hrel2
    obtain ⟨j, hj, rfl, hrel⟩ := hrel
    by_cases hlt : (j : Int) < N
    · have HREL := Lib.hid hrel
      have hR0 := Lib.hid (rdr_drew hrel.rdr)
      have hbb : B < b := (hrel.top (i := 0) (by omega)).2.2.1
      have hbs : b < wr.heap.size := (hrel.top (i := 0) (by omega)).2.2.2.1
      clear hrel
      go_wp2_with fail
      go_region_with (first
        | (go_at_call_of 63 (Value.int .i64 12); refine (pick_any w0 _ B _ _ hR0.out (by omega) (by omega)).mono ?_; rintro e w5 ⟨m12, h0, h1, rfl, hR5, hO5⟩; have HR5 := Lib.hid hR5; have HG5 := Lib.hid (grown_undrew hO5.grown); have q5b := (hO5.cell (w := wr.drew) (b := b) (o := o + m12.toNat) (by omega)); have t5 := (HREL.out.top (i := m12.toNat) (by omega)).1; clear hR5 hO5)
        | (go_at_call_of 63 (Value.int .i64 4); refine (pick_any w0 _ B _ _ HR5.out (by omega) (by omega)).mono ?_; rintro e w6 ⟨m4, h40, h41, rfl, hR6, hO6⟩; have HR6 := Lib.hid hR6; have HG6 := Lib.hid (gtrans HG5.out hO6.grown); have q6b := (hO6.cell (b := b) (o := o + m12.toNat) (by omega)); clear hR6 hO6)
        | (go_at_call 119; refine (entry_any w0 _ B _ HR6.out (by omega)).mono ?_; rintro e w7 ⟨f, hf, rfl, hR7, hg7⟩; have HR7 := Lib.hid hR7; have HG7 := Lib.hid (gtrans HG6.out hg7); have HREL7 := Lib.hid (HREL.out.go HR7.out HG7.out); have q7b := ((grown_at HG7.out hbb hbs).1 (o + m12.toNat)); obtain ⟨x7, hx7, hf7, _, _⟩ := HREL7.out.row (i := m12.toNat) (j := m4.toNat) (by omega) (by omega); clear hR7 hg7))
      all_goals
        have HST := Lib.hid ((HREL7.out.store (i := m12.toNat) (j := m4.toNat) (by omega) (by omega) (if f < 0 then 0 else f)).mono (k' := k + 1 + 5 * (j + 1)) (by omega))
        clear q5b q6b q7b t5 hx7 hf7
        go_wp2_with fail
        go_roundw
        case rel => exact ⟨j + 1, by omega, by go_num, HST.out⟩
        case measure => simp [intOf]; omega
    · have hge : decide ((j : Int) < N) = false := by simpa using hlt
      have hj30 : (j : Int) ≤ 30 := by omega
      have hkk : k + 1 + 5 * j ≤ 900000 := by omega
      have hk4 : k + 1 + 5 * j + 20 ≤ k + 400 := by omega
      generalize k + 1 + 5 * j = k2 at hrel hkk hk4
      go_wp2_with fail
      refine (pick_any w0 _ B _ _ hrel.rdr (by omega) (by omega)).mono ?_
      rintro e w3 ⟨mk, hk0, hk1, rfl, hR3, hO3⟩
      have hrel3 := hrel.go hR3 hO3.grown
      clear hrel hR3 hO3
      go_wp2_with fail
      refine (pick_any w0 _ B _ _ hrel3.rdr (by omega) (by omega)).mono ?_
      rintro e w4 ⟨ms, hs0, hs1, rfl, hR4, hO4⟩
      have hrel4 := hrel3.go hR4 hO4.grown
      clear hrel3 hR4 hO4
      have HREL := Lib.hid hrel4
      have hbb : B < b := (hrel4.top (i := 0) (by omega)).2.2.1
      have hbs : b < w4.heap.size := (hrel4.top (i := 0) (by omega)).2.2.2.1
      have t4 := (hrel4.top (i := mk.toNat) (by omega)).1
      have hR0 := Lib.hid (rdr_drew hrel4.rdr)
      have hBs := rdr_lt hrel4.rdr
      have hC4 := (hrel4.top (i := mk.toNat) (by omega)).2.2.2.2.1
      have hCm := (hrel4.top (i := mk.toNat) (by omega)).2.2.2.2.2
      have f4 := (hrel4.top (i := mk.toNat) (by omega)).2.1
      clear hrel4
      by_cases e0 : ms = 0
      · subst e0
        obtain ⟨_, _, _, hGB, hGs⟩ := HREL.out.row (i := mk.toNat) (j := 0) (by omega) (by omega)
        have hGs1 : G mk.toNat < w4.heap.size + 1 := by omega
        have hbs1 : b < w4.heap.size + 1 := by omega
        have hGne : (G mk.toNat = w4.heap.size) = False := by simp; omega
        have hbne : (b = w4.heap.size) = False := by simp; omega
        have hBs1 : B < w4.heap.size + 1 := by omega
        go_wp2_with fail
        go_region_with (first
          | (go_at_call_of 63 (Value.int .i64 4); (first | refine (pick_any w0 _ B _ _ hR0.out (by omega) (by omega)).mono ?_ | refine (pick_any w0 _ B _ _ (rdr_alloc hR0.out _) (by omega) (by omega)).mono ?_); rintro e w5 ⟨m4, h40, h41, rfl, hR5, hO5⟩; have HREL5 := Lib.hid (HREL.out.go hR5 (by first | exact grown_undrew hO5.grown | exact grown_undrew (gtrans (galloc _ _ _) hO5.grown))); have hc5 := only_cells hO5; have hs5 := only_size hO5; clear hR5 hO5)
          | (go_at_call_of 63 (Value.int .i64 2); (first | refine (pick_any w0 _ B _ _ HREL5.out.rdr (by omega) (by omega)).mono ?_ | refine (pick_any w0 _ B _ _ (rdr_alloc HREL5.out.rdr _) (by omega) (by omega)).mono ?_); rintro e w6 ⟨m2, h20, h21, rfl, hR6, hO6⟩; have HREL6 := Lib.hid (HREL5.out.go hR6 (by first | exact hO6.grown | exact gtrans (galloc _ _ _) hO6.grown)); have hc6 := only_cells hO6; have hs6 := only_size hO6; obtain ⟨x6, hx6, hf6, _, hg6⟩ := HREL6.out.row (i := mk.toNat) (j := m4.toNat) (by omega) (by omega); obtain ⟨x4, hx4, hf4, _, _⟩ := HREL.out.row (i := mk.toNat) (j := m4.toNat) (by omega) (by omega); obtain ⟨x2, hv2⟩ := pair_get m2 h20 h21; clear hR6 hO6))
        all_goals
          have HST := HREL6.out.store (i := mk.toNat) (j := m4.toNat) (by omega) (by omega) x2
          have HE1 := Lib.hid (drewMem_mk (k' := k + 400) (by omega) HST hc1 hc2)
          have HE2 := Lib.hid (fun ob => drewMem_mk (k' := k + 400) (by omega) (HST.go (rdr_alloc HST.rdr ob) (galloc _ ob _)) hc1 hc2)
          clear hc5 hs5 hc6 hs6 hx6 hf6 hx4 hf4 hv2 t4 f4 HST
          go_wp2_with fail
          go_ret
          first
            | exact HE1.out
            | exact HE2.out _
      have e0' : (ms == 0) = false := by simpa using e0
      by_cases e1 : ms = 1
      · subst e1
        have hb4 : (4 : Int) ≤ (C mk.toNat : Int) := by omega
        unfold maxLen at hCm
        go_wp2_with fail
        go_region_with (go_at_call_of 63 (Value.int .i64 4); refine (pick_any w0 _ B _ _ hR0.out (by omega) (by omega)).mono ?_; rintro e w5 ⟨m4, h40, h41, rfl, hR5, hO5⟩; have HREL5 := Lib.hid (HREL.out.go hR5 (grown_undrew hO5.grown)); have q5b := (HREL5.out.top (i := mk.toNat) (by omega)).1; have f5b := (HREL5.out.top (i := mk.toNat) (by omega)).2.1; have hmC : m4 ≤ (C mk.toNat : Int) := (by omega); clear hR5 hO5)
        all_goals
          have HE := Lib.hid (drewMem_short (k' := k + 400) (by omega) HREL5.out hc1 hc2 (i := mk.toNat) (m := m4.toNat) (by omega) (by omega))
          clear q5b f5b t4 f4
          go_wp2_with fail
          go_ret
          exact HE.out
      have e1' : (ms == 1) = false := by simpa using e1
      by_cases e2 : ms = 2
      · subst e2
        have hmk : mk ≤ (cap : Int) := by omega
        unfold maxLen at hc2
        go_wp2_with fail
        go_ret
        exact drewMem_cut (n := mk.toNat) (by omega) HREL.out hc1 (by unfold maxLen; omega) (by omega)
      have e2' : (ms == 2) = false := by simpa using e2
      go_wp2_with fail
      go_ret
      exact drewMem_mk (by omega) HREL.out hc1 hc2
end Go.Proofs.Yticnfekjbknomaa
/- What the draws of a memory with frames, places and words give; nothing that was there before the call changes. -/
namespace Go.Proofs.Yticnfekjbknomaa
open Go.ChangeShapes Go.WideShapes Go.ChangeAt Go.RowKit
set_option linter.unusedVariables false

def atP (f : Int) : Prop := -1 ≤ f ∧ f ≤ 4
def Small (xss : List (List Int)) : Prop := xss.length ≤ 12 ∧ ∀ j, j < xss.length → (xss.getD j []).length ≤ 4
theorem MatW.grown {B B0 B1 : Nat} {w w' : World} {v : Value} {xss : List (List Int)} (h : MatW w B0 B1 v xss) (hg : w.grownBy w' (some B)) (hB : B < B0) (h1 : B1 ≤ w.heap.size) : MatW w' B0 B1 v xss :=
  h.of_blocks (fun b h0 h2 => hg.block b (by omega) (fun e => by injection e with e; omega))

def DrewM0 (W : World) (e : Ending) (w' : World) : Prop := ∃ v xss, e = .returned v ∧ Rows2 w' v xss ∧ Small xss ∧ Below W.heap.size W w'
def DrewM1 (P : Int → Prop) (W : World) (e : Ending) (w' : World) : Prop := ∃ v xss f, P f ∧ e = .returned (.tuple #[v, .int .i64 f]) ∧ Rows2 w' v xss ∧ Small xss ∧ Below W.heap.size W w'
def DrewM2 (P : Int → Int → Prop) (W : World) (e : Ending) (w' : World) : Prop := ∃ v xss f t, P f t ∧ e = .returned (.tuple #[v, .int .i64 f, .int .i64 t]) ∧ Rows2 w' v xss ∧ Small xss ∧ Below W.heap.size W w'
def DrewM3 (P : Int → Int → Int → Prop) (W : World) (e : Ending) (w' : World) : Prop := ∃ v xss f t x, P f t x ∧ e = .returned (.tuple #[v, .int .i64 f, .int .i64 t, .int .i64 x]) ∧ Rows2 w' v xss ∧ Small xss ∧ Below W.heap.size W w'
theorem drewM1_mk {P : Int → Prop} {W w' : World} {v : Value} {xss : List (List Int)} {B B0 B1 k : Nat} {f : Int} (hP : P f) (hm : MatW w' B0 B1 v xss) (hs : Small xss) (hR : Rdr W w' B k) : DrewM1 P W (.returned (.tuple #[v, .int .i64 f])) w' :=
  ⟨v, xss, f, hP, rfl, hm.rows, hs, rdr_below hR⟩
theorem drewM2_mk {P : Int → Int → Prop} {W w' : World} {v : Value} {xss : List (List Int)} {B B0 B1 k : Nat} {f t : Int} (hP : P f t) (hm : MatW w' B0 B1 v xss) (hs : Small xss) (hR : Rdr W w' B k) : DrewM2 P W (.returned (.tuple #[v, .int .i64 f, .int .i64 t])) w' :=
  ⟨v, xss, f, t, hP, rfl, hm.rows, hs, rdr_below hR⟩
theorem drewM3_mk {P : Int → Int → Int → Prop} {W w' : World} {v : Value} {xss : List (List Int)} {B B0 B1 k : Nat} {f t x : Int} (hP : P f t x) (hm : MatW w' B0 B1 v xss) (hs : Small xss) (hR : Rdr W w' B k) : DrewM3 P W (.returned (.tuple #[v, .int .i64 f, .int .i64 t, .int .i64 x])) w' :=
  ⟨v, xss, f, t, x, hP, rfl, hm.rows, hs, rdr_below hR⟩
theorem results_tmp4 {fn : Func} {t u v x : Tmp} (h : fn.results = #[.tmp t, .tmp u, .tmp v, .tmp x]) (tmps : Array Value) (P : Program) (w : World) :
    (results fn tmps).run P w = .ok (.tuple #[tmps.getD t undef, tmps.getD u undef, tmps.getD v undef, tmps.getD x undef]) w := by simp [results, h]

theorem triple_get (m : Int) (h0 : 0 ≤ m) (h1 : m < 3) : ∃ x : Int, (-1 ≤ x ∧ x ≤ 10000) ∧ [Value.int .i64 (-1), .int .i64 10000, .int .i64 9999][m.toNat]'(by simp; omega) = .int .i64 x := by
  have hm : m = 0 ∨ m = 1 ∨ m = 2 := by omega
  rcases hm with rfl | rfl | rfl
  · exact ⟨-1, by omega, rfl⟩
  · exact ⟨10000, by omega, rfl⟩
  · exact ⟨9999, by omega, rfl⟩
theorem word_any {x : Int} (h0 : 0 ≤ x) (h1 : x < 100) : -1 ≤ x ∧ x ≤ 10000 := by omega
end Go.Proofs.Yticnfekjbknomaa
/- What the functions of entries and addresses return that later chapters use, for the program and for the reference. -/
namespace Go.Proofs.Yticnfekjbknomaa
open Go.ChangeShapes Go.WideShapes Go.ChangeAt Go.RowKit
set_option linter.unusedVariables false

theorem ret3e {k : IntKind} {x y : Int} {b c d : Bool} (h : x = y) (g : b = c) : Ending.returned (.tuple #[.int k x, .bool b, .bool d]) = .returned (.tuple #[.int k y, .bool c, .bool d]) := by rw [h, g]
theorem ret4e {k : IntKind} {x y z x' y' z' : Int} {d : Bool} (h : x = x') (g : y = y') (i : z = z') : Ending.returned (.tuple #[.int k x, .int k y, .int k z, .bool d]) = .returned (.tuple #[.int k x', .int k y', .int k z', .bool d]) := by rw [h, g, i]
theorem results_t4e {fn : Func} {t u v x : Tmp} (h : fn.results = #[.tmp t, .tmp u, .tmp v, .tmp x]) (tmps : Array Value) (P : Program) (w : World) :
    (results fn tmps).run P w = .ok (.tuple #[tmps.getD t undef, tmps.getD u undef, tmps.getD v undef, tmps.getD x undef]) w := by simp [results, h]
theorem tm_neg (n : Int) (h : n ≤ 0) : n.tmod 4 ≤ 0 := by
  obtain ⟨m, rfl⟩ : ∃ m : Int, n = -m := ⟨-n, by omega⟩
  rw [Int.neg_tmod]
  have := Int.tmod_nonneg (a := m) 4 (by omega)
  omega
theorem tm2_neg (n : Int) (h : n ≤ 0) : n.tmod 2 ≤ 0 := by
  obtain ⟨m, rfl⟩ : ∃ m : Int, n = -m := ⟨-n, by omega⟩
  rw [Int.neg_tmod]
  have := Int.tmod_nonneg (a := m) 2 (by omega)
  omega
def goodB (w : Int) : Prop := 0 < w ∧ w % 2 = 1 ∧ w < 48
theorem eI_yes (n : Int) (w : World) (h : goodB n) :
    Calls Try.prog 26 #[.int .i64 n] w fun e w' => e = .returned (.tuple #[.int .i64 (n / 4), .bool (decide (n % 4 = 3)), .bool true]) ∧ w = w' := by
  obtain ⟨h0, h1, h2⟩ := h
  have hc : n % 4 = 1 ∨ n % 4 = 3 := by omega
  have h3 : 0 ≤ n := by omega
  have h4 : n / 4 < 12 := by omega
  have hz : (n == 0) = false := by simp; omega
  have hk : (n % 2 == 1) = true := by simpa using h1
  clear h1
  rcases hc with hc | hc
  · have e1 : (n % 4 == 1) = true := by simpa using hc
    have e3 : (n % 4 == 3) = false := by simp; omega
    have HC := Lib.hid hc
    clear hc
    go_enter Try.func26, Try.ntmps26
    go_wp2
    go_ret3
    exact ⟨ret3e rfl (by have := HC.out; simp; omega), rfl⟩
  · have e1 : (n % 4 == 1) = false := by simp; omega
    have e3 : (n % 4 == 3) = true := by simpa using hc
    have HC := Lib.hid hc
    clear hc
    go_enter Try.func26, Try.ntmps26
    go_wp2
    go_ret3
    exact ⟨ret3e rfl (by have := HC.out; simp; omega), rfl⟩
theorem eI_no (n : Int) (w : World) (hn : ¬ goodB n) (hm : -9223372036854775808 ≤ n) (hM : n ≤ 9223372036854775807) :
    Calls Try.prog 26 #[.int .i64 n] w fun e w' => e = .returned (.tuple #[.int .i64 0, .bool false, .bool false]) ∧ w = w' := by
  unfold goodB at hn
  by_cases h0 : 0 < n
  · have h3 : 0 ≤ n := by omega
    have hz : (n == 0) = false := by simp; omega
    by_cases h1 : n % 2 = 1
    · have h2 : 48 ≤ n := by omega
      have h4 : decide (n / 4 < 12) = false := by simp; omega
      have h5 : decide (n < 48) = false := by simp; omega
      have hk : (n % 2 == 1) = true := by simpa using h1
      have hc : n % 4 = 1 ∨ n % 4 = 3 := by omega
      clear h1 hn
      rcases hc with hc | hc
      · have e1 : (n % 4 == 1) = true := by simpa using hc
        have e3 : (n % 4 == 3) = false := by simp; omega
        clear hc
        go_enter Try.func26, Try.ntmps26
        go_wp2
        go_ret3
        exact ⟨rfl, rfl⟩
      · have e1 : (n % 4 == 1) = false := by simp; omega
        have e3 : (n % 4 == 3) = true := by simpa using hc
        clear hc
        go_enter Try.func26, Try.ntmps26
        go_wp2
        go_ret3
        exact ⟨rfl, rfl⟩
    · have hk : (n % 2 == 1) = false := by simp; omega
      have e1 : (n % 4 == 1) = false := by simp; omega
      have e3 : (n % 4 == 3) = false := by simp; omega
      clear h1 hn
      go_enter Try.func26, Try.ntmps26
      go_wp2
      go_ret3
      exact ⟨rfl, rfl⟩
  · have hd : decide (0 < n) = false := by simpa using h0
    clear hn
    have ht := tm_neg n (by omega)
    have e1 : (n.tmod 4 == 1) = false := by simp; omega
    have e3 : (n.tmod 4 == 3) = false := by simp; omega
    have e5 : (n.tmod 2 == 1) = false := by have := tm2_neg n (by omega); simp; omega
    clear ht
    by_cases hz0 : n = 0
    · subst hz0
      go_enter Try.func26, Try.ntmps26
      go_wp2
      go_ret3
      exact ⟨rfl, rfl⟩
    · have hz : (n == 0) = false := by simpa using hz0
      have h6 : n < 0 := by omega
      go_enter Try.func26, Try.ntmps26
      go_wp2
      go_ret3
      exact ⟨rfl, rfl⟩
theorem eS_yes (n : Int) (w : World) (h : goodB n) :
    Calls Try.prog 124 #[.int .i64 n] w fun e w' => e = .returned (.tuple #[.int .i64 (n / 4), .bool (decide (n % 4 = 3)), .bool true]) ∧ w = w' := by
  obtain ⟨h0, h1, h2⟩ := h
  have hc : n % 4 = 1 ∨ n % 4 = 3 := by omega
  have h3 : 0 ≤ n := by omega
  have h4 : n / 4 < 12 := by omega
  have hz : (n == 0) = false := by simp; omega
  have hk : (n % 2 == 1) = true := by simpa using h1
  clear h1
  rcases hc with hc | hc
  · have e1 : (n % 4 == 1) = true := by simpa using hc
    have e3 : (n % 4 == 3) = false := by simp; omega
    have HC := Lib.hid hc
    clear hc
    go_enter Try.func124, Try.ntmps124
    go_wp2
    go_ret3
    exact ⟨ret3e rfl (by have := HC.out; simp; omega), rfl⟩
  · have e1 : (n % 4 == 1) = false := by simp; omega
    have e3 : (n % 4 == 3) = true := by simpa using hc
    have HC := Lib.hid hc
    clear hc
    go_enter Try.func124, Try.ntmps124
    go_wp2
    go_ret3
    exact ⟨ret3e rfl (by have := HC.out; simp; omega), rfl⟩
theorem eS_no (n : Int) (w : World) (hn : ¬ goodB n) (hm : -9223372036854775808 ≤ n) (hM : n ≤ 9223372036854775807) :
    Calls Try.prog 124 #[.int .i64 n] w fun e w' => e = .returned (.tuple #[.int .i64 0, .bool false, .bool false]) ∧ w = w' := by
  unfold goodB at hn
  by_cases h0 : 0 < n
  · have h3 : 0 ≤ n := by omega
    have hz : (n == 0) = false := by simp; omega
    by_cases h1 : n % 2 = 1
    · have h2 : 48 ≤ n := by omega
      have h4 : decide (n / 4 < 12) = false := by simp; omega
      have h5 : decide (n < 48) = false := by simp; omega
      have hk : (n % 2 == 1) = true := by simpa using h1
      have hc : n % 4 = 1 ∨ n % 4 = 3 := by omega
      clear h1 hn
      rcases hc with hc | hc
      · have e1 : (n % 4 == 1) = true := by simpa using hc
        have e3 : (n % 4 == 3) = false := by simp; omega
        clear hc
        go_enter Try.func124, Try.ntmps124
        go_wp2
        go_ret3
        exact ⟨rfl, rfl⟩
      · have e1 : (n % 4 == 1) = false := by simp; omega
        have e3 : (n % 4 == 3) = true := by simpa using hc
        clear hc
        go_enter Try.func124, Try.ntmps124
        go_wp2
        go_ret3
        exact ⟨rfl, rfl⟩
    · have hk : (n % 2 == 1) = false := by simp; omega
      have e1 : (n % 4 == 1) = false := by simp; omega
      have e3 : (n % 4 == 3) = false := by simp; omega
      clear h1 hn
      go_enter Try.func124, Try.ntmps124
      go_wp2
      go_ret3
      exact ⟨rfl, rfl⟩
  · have hd : decide (0 < n) = false := by simpa using h0
    clear hn
    have ht := tm_neg n (by omega)
    have e1 : (n.tmod 4 == 1) = false := by simp; omega
    have e3 : (n.tmod 4 == 3) = false := by simp; omega
    have e5 : (n.tmod 2 == 1) = false := by have := tm2_neg n (by omega); simp; omega
    clear ht
    by_cases hz0 : n = 0
    · subst hz0
      go_enter Try.func124, Try.ntmps124
      go_wp2
      go_ret3
      exact ⟨rfl, rfl⟩
    · have hz : (n == 0) = false := by simpa using hz0
      have h6 : n < 0 := by omega
      go_enter Try.func124, Try.ntmps124
      go_wp2
      go_ret3
      exact ⟨rfl, rfl⟩
end Go.Proofs.Yticnfekjbknomaa
/- What a walk through two tables finds, said of a memory's words; the reference's walk returns it. -/
namespace Go.Proofs.Yticnfekjbknomaa
open Go.ChangeShapes Go.WideShapes Go.ChangeAt Go.RowKit
set_option linter.unusedVariables false

theorem Rows2.word {w : World} {v : Value} {xss : List (List Int)} (h : Rows2 w v xss) (hm : memOk xss = true) {i j : Nat} (hi : i < 12) (hj : j < 4) :
    ∃ b o c g p d, v = .slice (some ⟨b, o, none⟩) 12 c ∧ w.cell? ⟨b, o + i, none⟩ = some (.slice (some ⟨g, p, none⟩) 4 d) ∧ w.cell? ⟨g, p + j, none⟩ = some (.int .i64 ((xss.getD i []).getD j 0)) := by
  obtain ⟨a, c, rfl, h1, h2, h3⟩ := h
  have hl := mem_len hm
  have hr := mem_row hm hi
  obtain ⟨b, o, u, rfl, hc, hu⟩ := h3 i (by omega)
  obtain ⟨ga, d, rfl, hg1, hg2, hg3⟩ := hu
  obtain ⟨g, p, rfl, hgc⟩ := hg3 j (by omega)
  rw [hr] at hc
  exact ⟨b, o, c, g, p, d, by rw [hl], hc, hgc⟩

instance (x : Int) : Decidable (goodB x) := by unfold goodB; infer_instance
/-- the word at a place of a frame -/
def wd (xss : List (List Int)) (i j : Nat) : Int := (xss.getD i []).getD j 0
/-- a place as a value -/
def plV (f t : Int) (b : Bool) : Value := .agg #[.int .i64 f, .int .i64 t, .bool b]
def top (xss : List (List Int)) (r a : Int) : Int := wd xss r.toNat (a / 16).toNat
def low (xss : List (List Int)) (r a : Int) : Int := wd xss (top xss r a / 4).toNat (a / 4 % 4).toNat
def wOk (xss : List (List Int)) (r a : Int) : Prop := memOk xss = true ∧ (0 ≤ r ∧ r < 12) ∧ 0 ≤ a ∧ a < 64
instance (xss : List (List Int)) (r a : Int) : Decidable (wOk xss r a) := by unfold wOk; infer_instance
/-- the frame, the place, whether it may be written, and the code -/
structure WV where
  f : Int
  t : Int
  b : Bool
  c : Int
def walkF (xss : List (List Int)) (r a : Int) : WV :=
  if wOk xss r a then
    if goodB (top xss r a) then
      if goodB (low xss r a) then ⟨low xss r a / 4, a % 4, decide (top xss r a % 4 = 3) && decide (low xss r a % 4 = 3), 0⟩
      else ⟨0, 0, false, 2⟩
    else ⟨0, 0, false, 1⟩
  else ⟨0, 0, false, 3⟩
/-- the call returns what the walk finds -/
def WalkRes (w : World) (p : WV) (e : Ending) (w' : World) : Prop := e = .returned (.tuple #[plV p.f p.t p.b, .int .i64 p.c]) ∧ Below w.heap.size w w'

theorem good_frame {x : Int} (h : goodB x) : 0 ≤ x / 4 ∧ x / 4 < 12 := by obtain ⟨h0, h1, h2⟩ := h; omega
theorem wd_bounds {xss : List (List Int)} (hm : memOk xss = true) {i j : Nat} (hi : i < 12) (hj : j < 4) : 0 ≤ wd xss i j ∧ wd xss i j ≤ 9999 := mem_word hm hi hj

end Go.Proofs.Yticnfekjbknomaa
/- What the draws of a memory with a frame and an address give; nothing that was there before the call changes. -/
namespace Go.Proofs.Yticnfekjbknomaa
open Go.ChangeShapes Go.WideShapes Go.ChangeAt Go.RowKit
set_option linter.unusedVariables false

def addrP (f : Int) : Prop := -1 ≤ f ∧ f ≤ 100
/-- a word of a valid memory, and what becomes of the memory where another is stored -/
theorem MatW.spot {w : World} {B0 B1 : Nat} {v : Value} {xss : List (List Int)} (h : MatW w B0 B1 v xss) (hm : memOk xss = true) {i j : Nat} (hi : i < 12) (hj : j < 4) :
    ∃ b o c g p d, v = .slice (some ⟨b, o, none⟩) 12 c ∧ B0 ≤ b ∧ b < B1 ∧ w.cell? ⟨b, o + i, none⟩ = some (.slice (some ⟨g, p, none⟩) 4 d) ∧ B0 ≤ g ∧ g < B1 ∧ b ≠ g ∧ w.cell? ⟨g, p + j, none⟩ = some (.int .i64 ((xss.getD i []).getD j 0)) ∧ w.frozen? ⟨g, p + j, none⟩ = false ∧
      ∀ (w' : World), (∀ q, B0 ≤ q → q < B1 → w'.heap[q]? = w.heap[q]?) → ∀ x : Int, MatW (w'.setCell ⟨g, p + j, none⟩ (.int .i64 x)) B0 B1 v (mput xss i j x) := by
  obtain ⟨a, cap, A, C, rfl, h1, h2, h3⟩ := h
  have hl := mem_len hm
  have hr := mem_row hm hi
  obtain ⟨b, o, rfl, hb0, hb1, hc, _⟩ := h3.top i (by omega)
  obtain ⟨g, p, hA, hg0, hg1, hgc, hgf, hne⟩ := h3.row i (by omega) j (by omega)
  simp only [hr] at hc
  rw [hA] at hc
  refine ⟨b, o, cap, g, p, _, by rw [hl], hb0, hb1, hc, hg0, hg1, hne b o rfl, hgc, hgf, fun w' e x => ⟨_, cap, A, C, by rw [mput_len], by rw [mput_len]; exact h1, h2, ?_⟩⟩
  exact ((h3.of_blocks e).store (by omega) (by omega) hA x).congr (mput_len _ _ _ _) (fun k _ => mput_row _ _ _ _ _) (fun k _ m _ => mput_get _ _ _ _ _ _ (by omega) (by omega))
theorem small_mput {xss : List (List Int)} {i j : Nat} {x : Int} (h : Small xss) : Small (mput xss i j x) :=
  ⟨by rw [mput_len]; exact h.1, fun k hk => by rw [mput_row]; rw [mput_len] at hk; exact h.2 k hk⟩
theorem l1Put_any (w : World) (f : Int) (b : Bool) (h0 : 0 ≤ f) (h1 : f < 12) :
    Calls Try.prog 103 #[.int .i64 f, .bool b] w fun e w' => e = .returned (.int .i64 (bif b then 4 * f + 3 else 4 * f + 1)) ∧ w = w' := by
  cases b
  all_goals
    go_enter Try.func103, Try.ntmps103
    go_wp2
    go_ret
    exact ⟨by simp, rfl⟩
/-- a memory, a frame and an address have been drawn -/
def wkP (f t : Int) : Prop := (-1 ≤ f ∧ f ≤ 100) ∧ -1 ≤ t ∧ t ≤ 100
theorem mput_ok3 {xss : List (List Int)} {i j : Nat} {x : Int} (h : memOk xss = true) (hi : i < 12) (hj : j < 4) (h0 : 0 ≤ x) (h1 : x ≤ 9999) : memOk (mput xss i j x) = true := by
  have hl := mem_len h
  have hw : ∀ k, k < 12 → wordsOk ((mput xss i j x).getD k []) = true := fun k hk => by
    unfold wordsOk
    refine decide_eq_true ⟨fun y hy => ?_, by rw [mput_row]; exact mem_row h hk⟩
    obtain ⟨m, hm, rfl⟩ := List.getElem_of_mem hy
    have hm4 : m < 4 := by rw [mput_row, mem_row h hk] at hm; exact hm
    rw [← getD_lt (d := 0) hm, mput_get _ _ _ _ _ _ (by omega) (by rw [mem_row h hi]; exact hj)]
    by_cases hh : k = i ∧ m = j
    · rw [if_pos hh]; exact ⟨h0, h1⟩
    · rw [if_neg hh]; exact mem_word h hk hm4
  unfold memOk
  refine decide_eq_true ⟨fun ys hys => ?_, by rw [mput_len]; exact hl⟩
  obtain ⟨k, hk, rfl⟩ := List.getElem_of_mem hys
  have := hw k (by rw [mput_len] at hk; omega)
  rwa [getD_lt hk] at this
theorem put_bounds {m : Nat} (hm : m < 12) (b : Bool) : 0 ≤ (bif b then 4 * (m : Int) + 3 else 4 * (m : Int) + 1) ∧ (bif b then 4 * (m : Int) + 3 else 4 * (m : Int) + 1) ≤ 9999 := by
  cases b <;> simp <;> omega
theorem Only.blocks {B B0 B1 : Nat} {w w' : World} (h : Only B w w') (hB : B < B0) : ∀ q, B0 ≤ q → q < B1 → w'.heap[q]? = w.heap[q]? := fun q h0 _ => h.2.2.2.2 q (by omega)

end Go.Proofs.Yticnfekjbknomaa
/- Rights as texts of letters, said of lists of bytes: what a right is, what includes what, and what the functions of chapter 11 answer. -/
namespace Go.Proofs.Yticnfekjbknomaa
set_option linter.unusedVariables false

abbrev Bs := List UInt8
def lok (b : UInt8) : Bool := decide (97 ≤ b.toNat) && decide (b.toNat ≤ 99)
def rv (s : Bs) : Bool := s.all lok && decide (s.length ≤ 4)
def cov (a b : Bs) : Bool := decide (a.length ≤ b.length) && (b.take a.length == a)
def rcov (a b : Bs) : Bool := rv a && (rv b && cov a b)
def bl (a b : Bs) : Bool := Op.bytesLess a b

theorem bl_nil (a : Bs) : bl a [] = false := by cases a <;> rfl
theorem bl_nil_cons (b : UInt8) (y : Bs) : bl [] (b :: y) = true := rfl
theorem bl_cons (a b : UInt8) (x y : Bs) : bl (a :: x) (b :: y) = (decide (a < b) || (a == b && bl x y)) := rfl
theorem bl_cons_iff {a b : UInt8} {x y : Bs} : bl (a :: x) (b :: y) = true ↔ a.toNat < b.toNat ∨ (a = b ∧ bl x y = true) := by
  rw [bl_cons]
  simp only [Bool.or_eq_true, decide_eq_true_eq, Bool.and_eq_true, beq_iff_eq, UInt8.lt_iff_toNat_lt]
theorem bl_irrefl : ∀ a : Bs, bl a a = false
  | [] => rfl
  | a :: x => by
    rw [Bool.eq_false_iff]
    intro h
    rcases bl_cons_iff.1 h with h | ⟨_, h⟩
    · omega
    · rw [bl_irrefl x] at h; cases h
theorem bl_trans : ∀ {a b c : Bs}, bl a b = true → bl b c = true → bl a c = true
  | _, [], _, h, _ => by rw [bl_nil] at h; cases h
  | _, _ :: _, [], _, h => by rw [bl_nil] at h; cases h
  | [], _ :: _, _ :: _, _, _ => rfl
  | a :: x, b :: y, c :: z, h1, h2 => by
    rw [bl_cons_iff] at h1 h2 ⊢
    rcases h1 with h1 | ⟨e1, h1⟩
    · rcases h2 with h2 | ⟨e2, h2⟩
      · left; omega
      · left; rw [← e2]; exact h1
    · rcases h2 with h2 | ⟨e2, h2⟩
      · left; rw [e1]; exact h2
      · right; exact ⟨e1.trans e2, bl_trans h1 h2⟩
theorem bl_asymm {a b : Bs} (h : bl a b = true) : bl b a = false := by
  rw [Bool.eq_false_iff]
  intro h2
  have := bl_trans h h2
  rw [bl_irrefl] at this; cases this
theorem bl_tri : ∀ {a b : Bs}, bl a b = false → bl b a = false → a = b
  | [], [], _, _ => rfl
  | [], _ :: _, h, _ => by cases h
  | _ :: _, [], _, h => by cases h
  | a :: x, b :: y, h1, h2 => by
    rw [Bool.eq_false_iff] at h1 h2
    have h1 := fun h => h1 (bl_cons_iff.2 h)
    have h2 := fun h => h2 (bl_cons_iff.2 h)
    have e : a = b := UInt8.toNat.inj (by
      have a1 : ¬ a.toNat < b.toNat := fun h => h1 (.inl h)
      have a2 : ¬ b.toNat < a.toNat := fun h => h2 (.inl h)
      omega)
    subst e
    have : x = y := bl_tri (by rw [Bool.eq_false_iff]; exact fun h => h1 (.inr ⟨rfl, h⟩)) (by rw [Bool.eq_false_iff]; exact fun h => h2 (.inr ⟨rfl, h⟩))
    rw [this]
theorem bl_ne {a b : Bs} (h : bl a b = true) : a ≠ b := fun e => by rw [e, bl_irrefl] at h; cases h

/-- the texts ascend -/
def Asc (xs : List Bs) : Prop := xs.Pairwise (fun a b => bl a b = true)
/-- all texts are rights, and each is above the one before -/
def rok (xs : List Bs) : Bool := decide (∀ j, j < xs.length → rv (xs.getD j []) = true ∧ (0 < j → bl (xs.getD (j - 1) []) (xs.getD j []) = true))
def rvs (xs : List Bs) : Bool := rok xs && decide (xs.length ≤ 6)
def may0 (xs : List Bs) (g : Bs) : Bool := xs.any (fun x => cov x g)
def rmay (xs : List Bs) (g : Bs) : Bool := rvs xs && (rv g && may0 xs g)
/-- how many texts are below s, in front -/
def cut (xs : List Bs) (s : Bs) : Nat := (xs.takeWhile (fun x => bl x s)).length
def ins (xs : List Bs) (s : Bs) : List Bs := xs.take (cut xs s) ++ s :: xs.drop (cut xs s)
def radd (xs : List Bs) (s : Bs) : List Bs × Bool :=
  if (rvs xs && rv s) = true then
    if s ∈ xs then (xs, true) else if 6 ≤ xs.length then (xs, false) else (ins xs s, true)
  else ([], false)
def drop0 (xs : List Bs) (s : Bs) : List Bs := xs.filter (fun x => !cov s x)
def rdrop (xs : List Bs) (s : Bs) : List Bs := if (rvs xs && rv s) = true then drop0 xs s else []

theorem rok_iff {xs : List Bs} : rok xs = true ↔ ∀ j, j < xs.length → rv (xs.getD j []) = true ∧ (0 < j → bl (xs.getD (j - 1) []) (xs.getD j []) = true) := by
  simp only [rok, decide_eq_true_eq]
theorem rok_asc {xs : List Bs} (h : rok xs = true) : Asc xs := by
  rw [rok_iff] at h
  have key : ∀ d i, i + d + 1 < xs.length → bl (xs.getD i []) (xs.getD (i + d + 1) []) = true := by
    intro d
    induction d with
    | zero => intro i hi; exact (h (i + 1) hi).2 (by omega)
    | succ d ih =>
      intro i hi
      exact bl_trans (ih i (by omega)) ((h (i + d + 1 + 1) (by omega)).2 (by omega))
  unfold Asc
  rw [List.pairwise_iff_getElem]
  intro i j hi hj hij
  have := key (j - i - 1) i (by omega)
  rw [show i + (j - i - 1) + 1 = j by omega, getD_lt hi, getD_lt hj] at this
  exact this
theorem rok_all {xs : List Bs} (h : rok xs = true) : ∀ x ∈ xs, rv x = true := by
  rw [rok_iff] at h
  intro x hx
  obtain ⟨i, hi, rfl⟩ := List.getElem_of_mem hx
  have := (h i hi).1
  rwa [getD_lt hi] at this
theorem rok_of {xs : List Bs} (h1 : Asc xs) (h2 : ∀ x ∈ xs, rv x = true) : rok xs = true := by
  rw [rok_iff]
  intro j hj
  refine ⟨h2 _ (by rw [getD_lt hj]; exact List.getElem_mem hj), fun h0 => ?_⟩
  rw [getD_lt hj, getD_lt (show j - 1 < xs.length by omega)]
  exact (List.pairwise_iff_getElem.1 h1) (j - 1) j (by omega) hj (by omega)
theorem rok_cases {xs : List Bs} : rok xs = true ↔ Asc xs ∧ ∀ x ∈ xs, rv x = true :=
  ⟨fun h => ⟨rok_asc h, rok_all h⟩, fun h => rok_of h.1 h.2⟩
theorem rvs_iff {xs : List Bs} : rvs xs = true ↔ (Asc xs ∧ ∀ x ∈ xs, rv x = true) ∧ xs.length ≤ 6 := by
  rw [rvs, Bool.and_eq_true, rok_cases, decide_eq_true_eq]
theorem rvs_len {xs : List Bs} (h : rvs xs = true) : xs.length ≤ 6 := (rvs_iff.1 h).2
theorem rvs_asc {xs : List Bs} (h : rvs xs = true) : Asc xs := (rvs_iff.1 h).1.1
theorem rvs_all {xs : List Bs} (h : rvs xs = true) : ∀ x ∈ xs, rv x = true := (rvs_iff.1 h).1.2
theorem rv_iff {s : Bs} : rv s = true ↔ (∀ b ∈ s, lok b = true) ∧ s.length ≤ 4 := by
  rw [rv, Bool.and_eq_true, List.all_eq_true, decide_eq_true_eq]
theorem rv_len {s : Bs} (h : rv s = true) : s.length ≤ 4 := (rv_iff.1 h).2

/-- ascending lists with the same members are the same -/
theorem asc_ext : ∀ {xs ys : List Bs}, Asc xs → Asc ys → (∀ z, z ∈ xs ↔ z ∈ ys) → xs = ys
  | [], [], _, _, _ => rfl
  | [], y :: ys, _, _, h => absurd ((h y).2 (List.mem_cons_self ..)) (List.not_mem_nil)
  | x :: xs, [], _, _, h => absurd ((h x).1 (List.mem_cons_self ..)) (List.not_mem_nil)
  | x :: xs, y :: ys, hx, hy, h => by
    have hx' := List.pairwise_cons.1 hx
    have hy' := List.pairwise_cons.1 hy
    have e : x = y := by
      rcases List.mem_cons.1 ((h x).1 (List.mem_cons_self ..)) with e | hm
      · exact e
      · rcases List.mem_cons.1 ((h y).2 (List.mem_cons_self ..)) with e | hm2
        · exact e.symm
        · have a := hy'.1 x hm
          have b := hx'.1 y hm2
          rw [bl_asymm a] at b; cases b
    subst e
    rw [asc_ext hx'.2 hy'.2 (fun z => ?_)]
    constructor
    · intro hz
      rcases List.mem_cons.1 ((h z).1 (List.mem_cons_of_mem _ hz)) with e | hm
      · subst e; exact absurd rfl (bl_ne (hx'.1 _ hz))
      · exact hm
    · intro hz
      rcases List.mem_cons.1 ((h z).2 (List.mem_cons_of_mem _ hz)) with e | hm
      · subst e; exact absurd rfl (bl_ne (hy'.1 _ hz))
      · exact hm
theorem asc_nodup {xs : List Bs} (h : Asc xs) : xs.Nodup := h.imp (fun hab => bl_ne hab)

theorem cut_le (xs : List Bs) (s : Bs) : cut xs s ≤ xs.length := by
  unfold cut
  exact (List.takeWhile_sublist _).length_le
theorem cut_cons (x : Bs) (xs : List Bs) (s : Bs) : cut (x :: xs) s = if bl x s = true then cut xs s + 1 else 0 := by
  unfold cut
  rw [List.takeWhile_cons]
  split <;> simp
theorem cut_below : ∀ {xs : List Bs} {s : Bs} {i : Nat}, i < cut xs s → bl (xs.getD i []) s = true
  | [], s, i, h => by simp [cut] at h
  | x :: xs, s, i, h => by
    rw [cut_cons] at h
    by_cases hx : bl x s = true
    · rw [if_pos hx] at h
      cases i with
      | zero => exact hx
      | succ i => exact cut_below (xs := xs) (by omega)
    · rw [if_neg hx] at h; omega
theorem cut_stop : ∀ {xs : List Bs} {s : Bs}, cut xs s < xs.length → bl (xs.getD (cut xs s) []) s = false
  | [], s, h => by simp at h
  | x :: xs, s, h => by
    rw [cut_cons] at h ⊢
    by_cases hx : bl x s = true
    · rw [if_pos hx] at h ⊢
      exact cut_stop (xs := xs) (by simp at h; omega)
    · rw [if_neg hx]
      simpa using hx
theorem cut_eq {xs : List Bs} {s : Bs} {k : Nat} (hk : k ≤ xs.length) (h1 : ∀ i, i < k → bl (xs.getD i []) s = true) (h2 : k < xs.length → bl (xs.getD k []) s = false) : k = cut xs s := by
  rcases Nat.lt_trichotomy k (cut xs s) with h | h | h
  · have a := cut_below h
    rw [h2 (Nat.lt_of_lt_of_le h (cut_le xs s))] at a; cases a
  · exact h
  · have a := h1 _ h
    rw [cut_stop (by omega)] at a; cases a
theorem ins_mem {xs : List Bs} {s z : Bs} : z ∈ ins xs s ↔ z = s ∨ z ∈ xs := by
  unfold ins
  rw [List.mem_append, List.mem_cons]
  constructor
  · rintro (h | h | h)
    · exact .inr (List.mem_of_mem_take h)
    · exact .inl h
    · exact .inr (List.mem_of_mem_drop h)
  · rintro (h | h)
    · exact .inr (.inl h)
    · rw [← List.take_append_drop (cut xs s) xs, List.mem_append] at h
      rcases h with h | h
      · exact .inl h
      · exact .inr (.inr h)
theorem ins_len {xs : List Bs} {s : Bs} : (ins xs s).length = xs.length + 1 := by
  have := cut_le xs s
  unfold ins
  simp only [List.length_append, List.length_take, List.length_cons, List.length_drop]
  omega
/-- a text that is there stands at its cut -/
theorem mem_cut {xs : List Bs} {s : Bs} (ha : Asc xs) : s ∈ xs ↔ cut xs s < xs.length ∧ xs.getD (cut xs s) [] = s := by
  constructor
  · intro h
    obtain ⟨i, hi, rfl⟩ := List.getElem_of_mem h
    have hp := List.pairwise_iff_getElem.1 ha
    have e : i = cut xs xs[i] := by
      refine cut_eq (by omega) (fun j hj => ?_) (fun _ => ?_)
      · rw [getD_lt (show j < xs.length by omega)]
        exact hp j i (by omega) hi hj
      · rw [getD_lt hi]; exact bl_irrefl _
    rw [← e]
    exact ⟨hi, getD_lt hi⟩
  · rintro ⟨h1, h2⟩
    rw [← h2, getD_lt h1]
    exact List.getElem_mem h1
theorem ins_asc {xs : List Bs} {s : Bs} (ha : Asc xs) (hn : s ∉ xs) : Asc (ins xs s) := by
  have hp := List.pairwise_iff_getElem.1 ha
  unfold Asc ins
  rw [List.pairwise_append]
  have low : ∀ a ∈ xs.take (cut xs s), bl a s = true := by
    intro a hm
    obtain ⟨i, hi, rfl⟩ := List.getElem_of_mem hm
    rw [List.length_take] at hi
    have := cut_below (xs := xs) (s := s) (i := i) (by omega)
    rw [getD_lt (by omega)] at this
    rw [List.getElem_take]; exact this
  have high : ∀ b ∈ xs.drop (cut xs s), bl s b = true := by
    intro b hm
    obtain ⟨i, hi, rfl⟩ := List.getElem_of_mem hm
    rw [List.length_drop] at hi
    have hst := cut_stop (xs := xs) (s := s) (by omega)
    rw [List.getElem_drop]
    have hc : bl s (xs.getD (cut xs s) []) = true := by
      cases hf : bl s (xs.getD (cut xs s) []) with
      | true => rfl
      | false => exact absurd ((mem_cut ha).2 ⟨by omega, bl_tri hst hf⟩) hn
    rcases Nat.eq_zero_or_pos i with h0 | h0
    · subst h0
      rw [getD_lt (by omega)] at hc
      simpa using hc
    · refine bl_trans hc ?_
      rw [getD_lt (by omega)]
      exact hp _ _ (by omega) (by omega) (by omega)
  refine ⟨ha.sublist (List.take_sublist ..), List.pairwise_cons.2 ⟨high, ha.sublist (List.drop_sublist ..)⟩, fun a hm b hb => ?_⟩
  rcases List.mem_cons.1 hb with e | hb
  · subst e; exact low a hm
  · exact bl_trans (low a hm) (high b hb)

theorem radd_bad {xs : List Bs} {s : Bs} (h : ¬ (rvs xs && rv s) = true) : radd xs s = ([], false) := if_neg h
theorem radd_there {xs : List Bs} {s : Bs} (h : (rvs xs && rv s) = true) (hm : s ∈ xs) : radd xs s = (xs, true) := by rw [radd, if_pos h, if_pos hm]
theorem radd_full {xs : List Bs} {s : Bs} (h : (rvs xs && rv s) = true) (hm : s ∉ xs) (hl : 6 ≤ xs.length) : radd xs s = (xs, false) := by rw [radd, if_pos h, if_neg hm, if_pos hl]
theorem radd_ins {xs : List Bs} {s : Bs} (h : (rvs xs && rv s) = true) (hm : s ∉ xs) (hl : ¬ 6 ≤ xs.length) : radd xs s = (ins xs s, true) := by rw [radd, if_pos h, if_neg hm, if_neg hl]
theorem ins_rvs {xs : List Bs} {s : Bs} (h : (rvs xs && rv s) = true) (hm : s ∉ xs) (hl : ¬ 6 ≤ xs.length) : rvs (ins xs s) = true := by
  rw [Bool.and_eq_true] at h
  refine rvs_iff.2 ⟨⟨ins_asc (rvs_asc h.1) hm, fun x hx => ?_⟩, by rw [ins_len]; omega⟩
  rcases ins_mem.1 hx with e | hx
  · rw [e]; exact h.2
  · exact rvs_all h.1 x hx
/-- what an addition that succeeds leads to -/
theorem radd_ok {xs : List Bs} {s : Bs} (h : (radd xs s).2 = true) : rvs (radd xs s).1 = true ∧ rv s = true ∧ s ∈ (radd xs s).1 ∧ ∀ x ∈ xs, x ∈ (radd xs s).1 := by
  by_cases hv : (rvs xs && rv s) = true
  · have hv' := hv
    rw [Bool.and_eq_true] at hv'
    by_cases hm : s ∈ xs
    · rw [radd_there hv hm]
      exact ⟨hv'.1, hv'.2, hm, fun x hx => hx⟩
    · by_cases hl : 6 ≤ xs.length
      · rw [radd_full hv hm hl] at h; cases h
      · rw [radd_ins hv hm hl]
        exact ⟨ins_rvs hv hm hl, hv'.2, ins_mem.2 (.inl rfl), fun x hx => ins_mem.2 (.inr hx)⟩
  · rw [radd_bad hv] at h; cases h
theorem radd_again {xs : List Bs} {s : Bs} (h : (radd xs s).2 = true) : radd (radd xs s).1 s = ((radd xs s).1, true) := by
  obtain ⟨h1, h2, h3, _⟩ := radd_ok h
  exact radd_there (by rw [h1, h2]; rfl) h3
theorem radd_len (xs : List Bs) (s : Bs) : (radd xs s).1.length ≤ 6 := by
  by_cases hv : (rvs xs && rv s) = true
  · have hv' := hv
    rw [Bool.and_eq_true] at hv'
    have := rvs_len hv'.1
    by_cases hm : s ∈ xs
    · rw [radd_there hv hm]; exact this
    · by_cases hl : 6 ≤ xs.length
      · rw [radd_full hv hm hl]; exact this
      · rw [radd_ins hv hm hl]
        show (ins xs s).length ≤ 6
        rw [ins_len]; omega
  · rw [radd_bad hv]; exact Nat.zero_le _

theorem cov_self (a : Bs) : cov a a = true := by simp [cov]
theorem cov_nil (b : Bs) : cov [] b = true := by simp [cov]
theorem cov_iff {a b : Bs} : cov a b = true ↔ a.length ≤ b.length ∧ b.take a.length = a := by
  rw [cov, Bool.and_eq_true, decide_eq_true_eq, beq_iff_eq]
theorem cov_anti {a b : Bs} (h1 : cov a b = true) (h2 : cov b a = true) : a = b := by
  rw [cov_iff] at h1 h2
  rw [← h1.2, show a.length = b.length by omega, List.take_length]
theorem cov_snoc {a g : Bs} {c : UInt8} (h : cov a g = true) : cov a (g ++ [c]) = true := by
  rw [cov_iff] at h ⊢
  refine ⟨by rw [List.length_append]; omega, ?_⟩
  rw [List.take_append_of_le_length h.1]
  exact h.2
theorem rv_nil : rv [] = true := rfl
theorem rv_take {s : Bs} (h : rv s = true) (n : Nat) : rv (s.take n) = true := by
  rw [rv_iff] at h ⊢
  refine ⟨fun b hb => h.1 b (List.mem_of_mem_take hb), ?_⟩
  rw [List.length_take]; omega
theorem rv_d (s : Bs) : rv (s ++ [100]) = false := by
  rw [Bool.eq_false_iff]
  intro h
  have := (rv_iff.1 h).1 100 (by simp)
  revert this
  decide

/-- rights without one of them are rights -/
theorem rvs_erase {xs : List Bs} (h : rvs xs = true) (k : Nat) : rvs (xs.take k ++ xs.drop (k + 1)) = true := by
  rw [rvs_iff] at h ⊢
  have hs : List.Sublist (xs.take k ++ xs.drop (k + 1)) xs := by
    have h1 : List.Sublist (xs.drop (k + 1)) (xs.drop k) := by
      rw [← List.drop_drop]; exact List.drop_sublist ..
    have h2 := (List.Sublist.refl (xs.take k)).append h1
    rwa [List.take_append_drop] at h2
  exact ⟨⟨h.1.1.sublist hs, fun x hx => h.1.2 x (hs.subset hx)⟩, Nat.le_trans hs.length_le h.2⟩
/-- one of them twice: no rights -/
theorem rvs_twice {xs : List Bs} {k : Nat} (hk : k < xs.length) : rvs (xs.take (k + 1) ++ xs.drop k) = false := by
  rw [Bool.eq_false_iff]
  intro h
  have hp := (rvs_iff.1 h).1.1
  have := (List.pairwise_append.1 hp).2.2 xs[k] (by
    rw [List.take_succ_eq_append_getElem hk]; exact List.mem_append.2 (.inr (List.mem_singleton.2 rfl))) xs[k] (by
    rw [List.drop_eq_getElem_cons hk]; exact List.mem_cons_self ..)
  rw [bl_irrefl] at this; cases this
end Go.Proofs.Yticnfekjbknomaa
/- Slices of texts: what they read as, and how that goes on from one world to the next. -/
namespace Go.Proofs.Yticnfekjbknomaa
open Go.ChangeShapes Go.WideShapes Go.ChangeAt Go.RowKit
set_option linter.unusedVariables false

/-- the slice v holds the texts xs -/
def Strs (w : World) (v : Value) (xs : List Bs) : Prop :=
  ∃ (a : Option Addr) (cap : Nat), v = .slice a xs.length cap ∧ xs.length ≤ cap ∧ cap ≤ maxLen ∧
    ∀ i, i < xs.length → ∃ b o, a = some ⟨b, o, none⟩ ∧ w.cell? ⟨b, o + i, none⟩ = some (.string ⟨(xs.getD i []).toArray⟩)
theorem Strs.below {w w' : World} {v : Value} {xs : List Bs} (h : Strs w v xs) (hb : Below w.heap.size w w') : Strs w' v xs := by
  obtain ⟨a, cap, rfl, h1, h2, h3⟩ := h
  refine ⟨a, cap, rfl, h1, h2, fun i hi => ?_⟩
  obtain ⟨b, o, rfl, hc⟩ := h3 i hi
  exact ⟨b, o, rfl, (hb.cell (p := ⟨b, o + i, none⟩) (cell_lt hc)).trans hc⟩
theorem Strs.drewN {w : World} {v : Value} {xs : List Bs} (h : Strs w v xs) (n : Nat) : Strs (w.drewN n) v xs := h

/-- a slice of texts in blocks from B0 to B1-1 -/
def StrsW (w : World) (B0 B1 : Nat) (v : Value) (xs : List Bs) : Prop :=
  ∃ (a : Option Addr) (cap : Nat), v = .slice a xs.length cap ∧ xs.length ≤ cap ∧ cap ≤ maxLen ∧
    ∀ i, i < xs.length → ∃ g p, a = some ⟨g, p, none⟩ ∧ B0 ≤ g ∧ g < B1 ∧ w.cell? ⟨g, p + i, none⟩ = some (.string ⟨(xs.getD i []).toArray⟩) ∧ w.frozen? ⟨g, p + i, none⟩ = false
theorem StrsW.strs {w : World} {B0 B1 : Nat} {v : Value} {xs : List Bs} (h : StrsW w B0 B1 v xs) : Strs w v xs := by
  obtain ⟨a, cap, rfl, h1, h2, h3⟩ := h
  refine ⟨a, cap, rfl, h1, h2, fun i hi => ?_⟩
  obtain ⟨g, p, e, _, _, hc, _⟩ := h3 i hi
  exact ⟨g, p, e, hc⟩
theorem StrsW.chg {lo hi B0 B1 : Nat} {w w' : World} {v : Value} {xs : List Bs} (h : StrsW w B0 B1 v xs) (c : Chg lo hi w w') (hB : B1 ≤ w.heap.size) (hh : B1 ≤ lo ∨ hi ≤ B0) : StrsW w' B0 B1 v xs := by
  obtain ⟨a, cap, rfl, h1, h2, h3⟩ := h
  refine ⟨a, cap, rfl, h1, h2, fun i hi => ?_⟩
  obtain ⟨g, p, e, hg0, hg1, hc, hf⟩ := h3 i hi
  have hb := c.block g (by omega) (by omega)
  exact ⟨g, p, e, hg0, hg1, (World.cell?_of_block hb).trans hc, (World.frozen?_of_block hb).trans hf⟩
theorem StrsW.below {B0 B1 : Nat} {w w' : World} {v : Value} {xs : List Bs} (h : StrsW w B0 B1 v xs) (c : Below w.heap.size w w') (hB : B1 ≤ w.heap.size) : StrsW w' B0 B1 v xs :=
  h.chg (Chg.of_below c) hB (.inr (Nat.zero_le _))
theorem StrsW.wide {B0 B1 C0 C1 : Nat} {w : World} {v : Value} {xs : List Bs} (h : StrsW w B0 B1 v xs) (h0 : C0 ≤ B0) (h1 : B1 ≤ C1) : StrsW w C0 C1 v xs := by
  obtain ⟨a, cap, e, h2, h3, h4⟩ := h
  refine ⟨a, cap, e, h2, h3, fun i hi => ?_⟩
  obtain ⟨g, p, e, hg0, hg1, r⟩ := h4 i hi
  exact ⟨g, p, e, by omega, by omega, r⟩
theorem StrsW.drewN {B0 B1 : Nat} {w : World} {v : Value} {xs : List Bs} (h : StrsW w B0 B1 v xs) (n : Nat) : StrsW (w.drewN n) B0 B1 v xs := h
/-- one of the texts is replaced -/
theorem StrsW.put {B0 B1 : Nat} {w : World} {a : Option Addr} {n cap : Nat} {xs : List Bs} (h : StrsW w B0 B1 (.slice a n cap) xs) {g p k : Nat} (ha : a = some ⟨g, p, none⟩) (hk : k < n) (t : Bs) :
    StrsW (w.setCell ⟨g, p + k, none⟩ (.string ⟨t.toArray⟩)) B0 B1 (.slice a n cap) (xs.set k t) := by
  obtain ⟨a', cap', e, h1, h2, h3⟩ := h
  injection e with e1 e2 e3
  subst e1
  subst e3
  subst e2
  subst ha
  refine ⟨_, cap, by rw [List.length_set], by rw [List.length_set]; exact h1, h2, fun i hi => ?_⟩
  rw [List.length_set] at hi
  obtain ⟨g', p', e, hg0, hg1, hc, hf⟩ := h3 i hi
  cases e
  refine ⟨g, p, rfl, hg0, hg1, ?_, (frozen_set _).trans hf⟩
  by_cases hik : i = k
  · subst hik
    rw [cell_set_same hc, getD_lt (by rw [List.length_set]; exact hi), List.getElem_set_self]
  · rw [cell_set_other (.inr (by omega)), hc, getD_lt hi, getD_lt (by rw [List.length_set]; exact hi), List.getElem_set_ne (by omega)]
theorem chg_set {lo hi : Nat} {w w' : World} (h : Chg lo hi w w') {g p : Nat} {v : Value} (h0 : lo ≤ g) (h1 : g < hi) : Chg lo hi w (w'.setCell ⟨g, p, none⟩ v) :=
  ⟨h.os, h.tape, h.output, by have := h.size; simpa [World.setCell] using this, fun b hb hh => (Below.heap_setCell w' ⟨g, p, none⟩ v b (by show b ≠ g; omega)).trans (h.block b hb hh)⟩
theorem chg_below {lo hi : Nat} {w w1 w2 : World} (h : Chg lo hi w w1) (hb : Below w1.heap.size w1 w2) : Chg lo hi w w2 :=
  ⟨hb.os.trans h.os, hb.tape.trans h.tape, hb.output.trans h.output, Nat.le_trans h.size hb.size, fun b hb' hh => (hb.block b (Nat.lt_of_lt_of_le hb' h.size)).trans (h.block b hb' hh)⟩
theorem chg_trans {lo hi : Nat} {w w1 w2 : World} (h : Chg lo hi w w1) (k : Chg lo hi w1 w2) : Chg lo hi w w2 :=
  ⟨k.os.trans h.os, k.tape.trans h.tape, k.output.trans h.output, Nat.le_trans h.size k.size, fun b hb hh => (k.block b (Nat.lt_of_lt_of_le hb h.size) hh).trans (h.block b hb hh)⟩

/-- a new slice of texts; nothing that was there changes -/
structure OwnS (w : World) (v : Value) (ys : List Bs) (w' : World) : Prop where
  own : w'.ownsRow w.heap.size 9 1 v ys.length (ys.map (fun s => .string ⟨s.toArray⟩))
  bel : Below w.heap.size w w'
theorem getD_map_str {ys : List Bs} {i : Nat} (hi : i < ys.length) : (ys.map (fun s : Bs => Value.string ⟨s.toArray⟩))[i]? = some (.string ⟨(ys.getD i []).toArray⟩) := by
  rw [List.getElem?_map, List.getElem?_eq_getElem hi, getD_lt hi]
  rfl
theorem StrsW.of_ownsRow {w : World} {B : Nat} {v : Value} {ys : List Bs} (h : w.ownsRow B 9 1 v ys.length (ys.map (fun s => .string ⟨s.toArray⟩))) : StrsW w B w.heap.size v ys := by
  rcases h.2 with ⟨e, hz⟩ | ⟨g, cap, cur, rfl, hb, hbl, hnc, hcm, hcs, htk⟩
  · refine ⟨none, 0, by rw [e, hz], by omega, Nat.zero_le _, fun i hi => by omega⟩
  · refine ⟨some ⟨g, 0, none⟩, cap, rfl, hnc, hcm, fun i hi => ⟨g, 0, rfl, hb, (Array.getElem?_eq_some_iff.1 hbl).1, ?_, ?_⟩⟩
    · have := h.cells (g := g) rfl i _ (getD_map_str hi)
      rw [add0] at this
      rw [Nat.zero_add]; exact this
    · simp [World.frozen?, hbl]
theorem OwnS.row {w w' : World} {v : Value} {ys : List Bs} (h : OwnS w v ys w') : StrsW w' w.heap.size w'.heap.size v ys := StrsW.of_ownsRow h.own
theorem OwnS.strs {w w' : World} {v : Value} {ys : List Bs} (h : OwnS w v ys w') : Strs w' v ys := h.row.strs
theorem OwnS.start (w : World) : OwnS w (.slice (some ⟨w.heap.size, 0, none⟩) 0 0) [] (w.alloc (.cells #[] 9)) :=
  ⟨World.ownsRow_made w #[] 0 (Nat.le_refl _) (Nat.zero_le _) rfl, (Below.refl _ _).alloc (Nat.le_refl _) _⟩
theorem OwnS.nil (w : World) : OwnS w (.slice none 0 0) [] w := ⟨World.ownsRow_nil _ _ _ _, Below.refl _ _⟩
theorem own_lowS {w : World} {B B' : Nat} {e : TypeId} {s : Nat} {v : Value} {n : Nat} {x : List Value} (h : w.ownsRow B e s v n x) (hB : B' ≤ B) : w.ownsRow B' e s v n x := by
  refine ⟨h.1, ?_⟩
  rcases h.2 with hn | ⟨g, cap, cur, e, hb, rest⟩
  · exact .inl hn
  · exact .inr ⟨g, cap, cur, e, by omega, rest⟩
theorem OwnS.from {w w1 w2 : World} {v : Value} {ys : List Bs} (h : OwnS w1 v ys w2) (hb : Below w.heap.size w w1) : OwnS w v ys w2 :=
  ⟨own_lowS h.own hb.size, hb.trans (h.bel.mono hb.size)⟩
theorem OwnS.grow {w wr w2 : World} {v v2 : Value} {ys zs : List Bs} {o : Obj} {n : Nat} (h : OwnS w v ys wr) (hn : n = ys.length + zs.length) (h2 : w2.ownsRow w.heap.size 9 1 v2 n (ys.map (fun s => .string ⟨s.toArray⟩) ++ zs.map (fun s => .string ⟨s.toArray⟩))) (hg : (wr.alloc o).grownBy w2 v.ownBlock) :
    OwnS w v2 (ys ++ zs) w2 := by
  subst hn
  exact ⟨by rw [List.length_append, List.map_append]; exact h2, (h.bel.alloc h.bel.size o).grown hg (by have := h.bel.size; simp; omega) (fun b hb => (h.own.lt b hb).1)⟩
/-- the call returns a new slice of texts; nothing that was there changes -/
def NewS (ys : List Bs) (w : World) (e : Ending) (w' : World) : Prop := ∃ v, e = .returned v ∧ StrsW w' w.heap.size w'.heap.size v ys ∧ Below w.heap.size w w'
theorem NewS.of_own {ys : List Bs} {w w' : World} {v : Value} (h : OwnS w v ys w') : NewS ys w (.returned v) w' := ⟨v, rfl, h.row, h.bel⟩
/-- a new slice of texts and a bool -/
def NewSB (ys : List Bs) (b : Bool) (w : World) (e : Ending) (w' : World) : Prop := ∃ v, e = .returned (.tuple #[v, .bool b]) ∧ StrsW w' w.heap.size w'.heap.size v ys ∧ Below w.heap.size w w'
end Go.Proofs.Yticnfekjbknomaa
/- Slices of what is known of frames (three cells each), said of a world's cells. -/
namespace Go.Proofs.Yticnfekjbknomaa
open Go.ChangeShapes Go.WideShapes Go.ChangeAt Go.RowKit
set_option linter.unusedVariables false

/-- what is known of a frame -/
structure IV where
  k : Int
  g : Bs
  r : Int
deriving DecidableEq
instance : Inhabited IV := ⟨⟨0, [], 0⟩⟩
def iz : IV := ⟨0, [], 0⟩
def ivC (x : IV) : List Value := [.int .i64 x.k, .string ⟨x.g.toArray⟩, .int .i64 x.r]
abbrev ivV (x : IV) : Value := .agg #[.int .i64 x.k, .string ⟨x.g.toArray⟩, .int .i64 x.r]
theorem iv_ext {x y : IV} : x = y ↔ x.k = y.k ∧ x.g = y.g ∧ x.r = y.r := by cases x; cases y; simp
/-- the three cells lie at offset o of block b -/
structure Tri (w : World) (b o : Nat) (x : IV) : Prop where
  c0 : w.cell? ⟨b, o, none⟩ = some (.int .i64 x.k)
  c1 : w.cell? ⟨b, o + 1, none⟩ = some (.string ⟨x.g.toArray⟩)
  c2 : w.cell? ⟨b, o + 2, none⟩ = some (.int .i64 x.r)
theorem Tri.block {w w' : World} {b o : Nat} {x : IV} (h : Tri w b o x) (e : w'.heap[b]? = w.heap[b]?) : Tri w' b o x :=
  ⟨(World.cell?_of_block e).trans h.c0, (World.cell?_of_block e).trans h.c1, (World.cell?_of_block e).trans h.c2⟩
theorem Tri.below {w w' : World} {B b o : Nat} {x : IV} (h : Tri w b o x) (hb : Below B w w') (hB : b < B) : Tri w' b o x := h.block (hb.block b hB)
theorem Tri.lt {w : World} {b o : Nat} {x : IV} (h : Tri w b o x) : b < w.heap.size := block_lt_of_cell h.c0
theorem Tri.drewN {w : World} {b o : Nat} {x : IV} (h : Tri w b o x) (n : Nat) : Tri (w.drewN n) b o x := ⟨h.c0, h.c1, h.c2⟩
theorem tri_new (w : World) (x : IV) (t : TypeId) : Tri (w.alloc (.cells #[.int .i64 x.k, .string ⟨x.g.toArray⟩, .int .i64 x.r] t)) w.heap.size 0 x := by
  have e := fun j => cell_of_row (w.alloc (.cells #[.int .i64 x.k, .string ⟨x.g.toArray⟩, .int .i64 x.r] t)) w.heap.size j _ _ (0, 0) (heap_alloc_new w _)
  exact ⟨(e 0).trans rfl, (e 1).trans rfl, (e 2).trans rfl⟩
/-- the slice v holds xs -/
def Is (w : World) (v : Value) (xs : List IV) : Prop :=
  ∃ (a : Option Addr) (cap : Nat), v = .slice a xs.length cap ∧ xs.length ≤ cap ∧ cap ≤ maxLen ∧
    ∀ i, i < xs.length → ∃ b o, a = some ⟨b, o, none⟩ ∧ Tri w b (o + i * 3) (xs.getD i iz)
theorem Is.below {w w' : World} {v : Value} {xs : List IV} (h : Is w v xs) (hb : Below w.heap.size w w') : Is w' v xs := by
  obtain ⟨a, cap, rfl, h1, h2, h3⟩ := h
  refine ⟨a, cap, rfl, h1, h2, fun i hi => ?_⟩
  obtain ⟨b, o, e, hc⟩ := h3 i hi
  exact ⟨b, o, e, hc.below hb hc.lt⟩
theorem Is.drewN {w : World} {v : Value} {xs : List IV} (h : Is w v xs) (n : Nat) : Is (w.drewN n) v xs := by
  obtain ⟨a, cap, e, h1, h2, h3⟩ := h
  refine ⟨a, cap, e, h1, h2, fun i hi => ?_⟩
  obtain ⟨b, o, e2, h4⟩ := h3 i hi
  exact ⟨b, o, e2, h4.drewN n⟩

/-- three cells that may be written -/
structure TriW (w : World) (b o : Nat) (x : IV) : Prop where
  at3 : Tri w b o x
  fr : ∀ j, j < 3 → w.frozen? ⟨b, o + j, none⟩ = false
theorem TriW.block {w w' : World} {b o : Nat} {x : IV} (h : TriW w b o x) (e : w'.heap[b]? = w.heap[b]?) : TriW w' b o x :=
  ⟨h.at3.block e, fun j hj => (World.frozen?_of_block e).trans (h.fr j hj)⟩
theorem TriW.there {w : World} {b o : Nat} {x : IV} (h : TriW w b o x) : w.there b o 3 := fun j hj => by
  refine ⟨?_, h.fr j hj⟩
  obtain rfl | rfl | rfl : j = 0 ∨ j = 1 ∨ j = 2 := by omega
  · rw [Nat.add_zero, h.at3.c0]; rfl
  · rw [h.at3.c1]; rfl
  · rw [h.at3.c2]; rfl
theorem TriW.stored {w : World} {b o : Nat} {x : IV} (h : w.there b o 3) : TriW (w.setCells b o (ivC x)) b o x := by
  have hr := World.rangeAt_setCells_same w b o (ivC x) h
  exact ⟨⟨hr 0 _ rfl, hr 1 _ rfl, hr 2 _ rfl⟩, fun j hj => by rw [World.frozen?_setCells]; exact (h j hj).2⟩
theorem TriW.apart {w : World} {b b' o o' : Nat} {x : IV} {vs : List Value} (h : TriW w b' o' x) (ha : b' ≠ b ∨ o' + 3 ≤ o ∨ o + vs.length ≤ o') : TriW (w.setCells b o vs) b' o' x := by
  have hr : w.rangeAt b' o' (ivC x) := fun j v hv => by
    have hj : j < 3 := (List.getElem?_eq_some_iff.1 hv).1
    obtain rfl | rfl | rfl : j = 0 ∨ j = 1 ∨ j = 2 := by omega
    · cases hv; exact h.at3.c0
    · cases hv; exact h.at3.c1
    · cases hv; exact h.at3.c2
  have h2 := World.rangeAt_setCells_apart hr b o vs ha
  exact ⟨⟨h2 0 _ rfl, h2 1 _ rfl, h2 2 _ rfl⟩, fun j hj => by rw [World.frozen?_setCells]; exact h.fr j hj⟩
/-- one of the fields is stored -/
theorem TriW.set0 {w : World} {b o : Nat} {x : IV} (h : TriW w b o x) (n : Int) : TriW (w.setCell ⟨b, o, none⟩ (.int .i64 n)) b o ⟨n, x.g, x.r⟩ :=
  ⟨⟨cell_set_same h.at3.c0, (cell_set_other (.inr (by omega))).trans h.at3.c1, (cell_set_other (.inr (by omega))).trans h.at3.c2⟩, fun j hj => (frozen_set _).trans (h.fr j hj)⟩
theorem TriW.set1 {w : World} {b o : Nat} {x : IV} (h : TriW w b o x) (s : Bs) : TriW (w.setCell ⟨b, o + 1, none⟩ (.string ⟨s.toArray⟩)) b o ⟨x.k, s, x.r⟩ :=
  ⟨⟨(cell_set_other (.inr (by omega))).trans h.at3.c0, cell_set_same h.at3.c1, (cell_set_other (.inr (by omega))).trans h.at3.c2⟩, fun j hj => (frozen_set _).trans (h.fr j hj)⟩
theorem TriW.set2 {w : World} {b o : Nat} {x : IV} (h : TriW w b o x) (n : Int) : TriW (w.setCell ⟨b, o + 2, none⟩ (.int .i64 n)) b o ⟨x.k, x.g, n⟩ :=
  ⟨⟨(cell_set_other (.inr (by omega))).trans h.at3.c0, (cell_set_other (.inr (by omega))).trans h.at3.c1, cell_set_same h.at3.c2⟩, fun j hj => (frozen_set _).trans (h.fr j hj)⟩
theorem TriW.off {w : World} {b o c p : Nat} {x : IV} (h : TriW w b o x) (hp : c ≠ b ∨ p < o ∨ o + 3 ≤ p) (u : Value) : TriW (w.setCell ⟨c, p, none⟩ u) b o x := by
  have ht : ∀ j, j < 3 → b ≠ c ∨ o + j ≠ p := fun j hj => by omega
  exact ⟨⟨(cell_set_other (ht 0 (by omega))).trans h.at3.c0, (cell_set_other (ht 1 (by omega))).trans h.at3.c1, (cell_set_other (ht 2 (by omega))).trans h.at3.c2⟩, fun j hj => (frozen_set _).trans (h.fr j hj)⟩
/-- a slice in blocks from B0 to B1-1 -/
def IsW (w : World) (B0 B1 : Nat) (v : Value) (xs : List IV) : Prop :=
  ∃ (a : Option Addr) (cap : Nat), v = .slice a xs.length cap ∧ xs.length ≤ cap ∧ cap ≤ maxLen ∧
    ∀ i, i < xs.length → ∃ g p, a = some ⟨g, p, none⟩ ∧ B0 ≤ g ∧ g < B1 ∧ TriW w g (p + i * 3) (xs.getD i iz)
theorem IsW.is {w : World} {B0 B1 : Nat} {v : Value} {xs : List IV} (h : IsW w B0 B1 v xs) : Is w v xs := by
  obtain ⟨a, cap, rfl, h1, h2, h3⟩ := h
  refine ⟨a, cap, rfl, h1, h2, fun i hi => ?_⟩
  obtain ⟨g, p, e, _, _, hf⟩ := h3 i hi
  exact ⟨g, p, e, hf.at3⟩
theorem IsW.chg {lo hi B0 B1 : Nat} {w w' : World} {v : Value} {xs : List IV} (h : IsW w B0 B1 v xs) (c : Chg lo hi w w') (hB : B1 ≤ w.heap.size) (hh : B1 ≤ lo ∨ hi ≤ B0) : IsW w' B0 B1 v xs := by
  obtain ⟨a, cap, rfl, h1, h2, h3⟩ := h
  refine ⟨a, cap, rfl, h1, h2, fun i hi => ?_⟩
  obtain ⟨g, p, e, hg0, hg1, hf⟩ := h3 i hi
  exact ⟨g, p, e, hg0, hg1, hf.block (c.block g (by omega) (by omega))⟩
theorem IsW.below {B0 B1 : Nat} {w w' : World} {v : Value} {xs : List IV} (h : IsW w B0 B1 v xs) (c : Below w.heap.size w w') (hB : B1 ≤ w.heap.size) : IsW w' B0 B1 v xs :=
  h.chg (Chg.of_below c) hB (.inr (Nat.zero_le _))
theorem IsW.wide {B0 B1 C0 C1 : Nat} {w : World} {v : Value} {xs : List IV} (h : IsW w B0 B1 v xs) (h0 : C0 ≤ B0) (h1 : B1 ≤ C1) : IsW w C0 C1 v xs := by
  obtain ⟨a, cap, e, h2, h3, h4⟩ := h
  refine ⟨a, cap, e, h2, h3, fun i hi => ?_⟩
  obtain ⟨g, p, e, hg0, hg1, r⟩ := h4 i hi
  exact ⟨g, p, e, by omega, by omega, r⟩
/-- one of them is replaced -/
theorem IsW.upd {B0 B1 : Nat} {w w' : World} {a : Option Addr} {n cap : Nat} {xs : List IV} (h : IsW w B0 B1 (.slice a n cap) xs) {g p k : Nat} (ha : a = some ⟨g, p, none⟩) (hk : k < n) {x : IV}
    (hx : TriW w' g (p + k * 3) x) (ho : ∀ i y, i ≠ k → TriW w g (p + i * 3) y → TriW w' g (p + i * 3) y) : IsW w' B0 B1 (.slice a n cap) (xs.set k x) := by
  obtain ⟨a', cap', e, h1, h2, h3⟩ := h
  injection e with e1 e2 e3
  subst e1
  subst e3
  subst e2
  subst ha
  refine ⟨_, cap, by rw [List.length_set], by rw [List.length_set]; exact h1, h2, fun i hi => ?_⟩
  rw [List.length_set] at hi
  obtain ⟨g', p', e, hg0, hg1, hf⟩ := h3 i hi
  cases e
  refine ⟨g, p, rfl, hg0, hg1, ?_⟩
  by_cases hik : i = k
  · subst hik
    rw [getD_lt (by rw [List.length_set]; exact hi), List.getElem_set_self]
    exact hx
  · have := ho i _ hik hf
    rwa [getD_lt (by rw [List.length_set]; exact hi), List.getElem_set_ne (by omega), ← getD_lt (d := iz) hi]
end Go.Proofs.Yticnfekjbknomaa
/- New slices of what is known of frames: how they grow, and what they read as. -/
namespace Go.Proofs.Yticnfekjbknomaa
open Go.ChangeShapes Go.WideShapes Go.ChangeAt Go.RowKit
set_option linter.unusedVariables false

theorem ivInfo : (Try.prog.info? 36).map (fun i => (i.zero, i.size, i.bytes)) = some (some (.agg #[.int .i64 0, .string ⟨#[]⟩, .int .i64 0]), 3, 32) := by kernel_rfl
/-- the cells, one behind the other -/
def isC (xs : List IV) : List Value := xs.flatMap ivC
theorem isC_app (xs ys : List IV) : isC (xs ++ ys) = isC xs ++ isC ys := by simp [isC]
theorem isC_len (xs : List IV) : (isC xs).length = xs.length * 3 := by
  induction xs with
  | nil => rfl
  | cons x xs ih => simp only [isC, List.flatMap_cons, List.length_append] at ih ⊢; rw [ih]; simp [ivC]; omega
theorem isC_get (xs : List IV) {i j : Nat} (hi : i < xs.length) (hj : j < 3) : (isC xs)[i * 3 + j]? = (ivC (xs.getD i iz))[j]? := by
  have e : xs = xs.take i ++ ([xs.getD i iz] ++ xs.drop (i + 1)) := by
    rw [← List.append_assoc, ← take_snoc_getD xs i iz hi, List.take_append_drop]
  have h1 : (isC (xs.take i)).length = i * 3 := by rw [isC_len, List.length_take]; omega
  have h2 : isC xs = isC (xs.take i) ++ (ivC (xs.getD i iz) ++ isC (xs.drop (i + 1))) := by
    conv => lhs; rw [e]
    simp [isC]
  rw [h2, List.getElem?_append_right (by omega), h1, Nat.add_sub_cancel_left, List.getElem?_append_left (by simp [ivC]; omega)]
theorem isC_one (xs : List IV) : ∀ u ∈ isC xs, u.oneCell' = true := by
  intro u hu
  obtain ⟨x, _, hx⟩ := List.mem_flatMap.1 hu
  simp only [ivC, List.mem_cons, List.not_mem_nil, or_false] at hx
  rcases hx with rfl | rfl | rfl <;> rfl
theorem is_cells {w : World} {b o : Nat} {xs : List IV} (h : ∀ i, i < xs.length → Tri w b (o + i * 3) (xs.getD i iz)) : ∀ j u, (isC xs)[j]? = some u → w.cell? ⟨b, o + j, none⟩ = some u := by
  intro j u hj
  have hjl : j < xs.length * 3 := by
    have := (List.getElem?_eq_some_iff.1 hj).1
    rwa [isC_len] at this
  have hi : j / 3 < xs.length := by omega
  have hq : j % 3 < 3 := by omega
  have e : j = j / 3 * 3 + j % 3 := by omega
  have hg := isC_get xs hi hq
  rw [← e, hj] at hg
  have ht := h _ hi
  have e2 : o + j = o + j / 3 * 3 + j % 3 := by omega
  rw [e2]
  obtain h0 | h0 | h0 : j % 3 = 0 ∨ j % 3 = 1 ∨ j % 3 = 2 := by omega
  · rw [h0] at hg ⊢; cases hg; exact ht.c0
  · rw [h0] at hg ⊢; cases hg; exact ht.c1
  · rw [h0] at hg ⊢; cases hg; exact ht.c2

/-- a new slice; nothing that was there changes -/
structure OwnV (w : World) (v : Value) (ys : List IV) (w' : World) : Prop where
  own : w'.ownsRow w.heap.size 36 3 v ys.length (isC ys)
  bel : Below w.heap.size w w'
theorem IsW.of_ownsRow {w : World} {B : Nat} {v : Value} {ys : List IV} (h : w.ownsRow B 36 3 v ys.length (isC ys)) : IsW w B w.heap.size v ys := by
  rcases h.2 with ⟨e, hz⟩ | ⟨g, cap, cur, rfl, hb, hbl, hnc, hcm, hcs, htk⟩
  · exact ⟨none, 0, by rw [e, hz], by omega, Nat.zero_le _, fun i hi => by omega⟩
  · refine ⟨some ⟨g, 0, none⟩, cap, rfl, hnc, hcm, fun i hi => ⟨g, 0, rfl, hb, (Array.getElem?_eq_some_iff.1 hbl).1, ?_, fun j hj => frozen_of_row w g _ cur _ hbl⟩⟩
    have hc : ∀ j v, j < 3 → (ivC (ys.getD i iz))[j]? = some v → w.cell? ⟨g, 0 + i * 3 + j, none⟩ = some v := fun j v hj hv => by
      have := h.cells (g := g) rfl (i * 3 + j) v (by rw [isC_get ys hi hj]; exact hv)
      rw [add0] at this
      rwa [Nat.zero_add]
    exact ⟨hc 0 _ (by omega) rfl, hc 1 _ (by omega) rfl, hc 2 _ (by omega) rfl⟩
theorem OwnV.row {w w' : World} {v : Value} {ys : List IV} (h : OwnV w v ys w') : IsW w' w.heap.size w'.heap.size v ys := IsW.of_ownsRow h.own
theorem OwnV.is {w w' : World} {v : Value} {ys : List IV} (h : OwnV w v ys w') : Is w' v ys := h.row.is
theorem OwnV.start (w : World) : OwnV w (.slice (some ⟨w.heap.size, 0, none⟩) 0 0) [] (w.alloc (.cells #[] 36)) :=
  ⟨World.ownsRow_made w #[] 0 (Nat.le_refl _) (Nat.zero_le _) rfl, (Below.refl _ _).alloc (Nat.le_refl _) _⟩
theorem OwnV.nil (w : World) : OwnV w (.slice none 0 0) [] w := ⟨World.ownsRow_nil _ _ _ _, Below.refl _ _⟩
theorem OwnV.from {w w1 w2 : World} {v : Value} {ys : List IV} (h : OwnV w1 v ys w2) (hb : Below w.heap.size w w1) : OwnV w v ys w2 :=
  ⟨own_lowS h.own hb.size, hb.trans (h.bel.mono hb.size)⟩
theorem OwnV.alloc {w w' : World} {v : Value} {ys : List IV} (h : OwnV w v ys w') (o : Obj) : OwnV w v ys (w'.alloc o) := ⟨h.own.alloc _, h.bel.alloc h.bel.size o⟩
/-- the call returns a new slice -/
def NewV (ys : List IV) (w : World) (e : Ending) (w' : World) : Prop := ∃ v, e = .returned v ∧ IsW w' w.heap.size w'.heap.size v ys ∧ Below w.heap.size w w'
/-- a new slice and a bool; a new slice, a number and a bool -/
def NewVB (ys : List IV) (b : Bool) (w : World) (e : Ending) (w' : World) : Prop := ∃ v, e = .returned (.tuple #[v, .bool b]) ∧ IsW w' w.heap.size w'.heap.size v ys ∧ Below w.heap.size w w'
def NewVIB (ys : List IV) (n : Int) (b : Bool) (w : World) (e : Ending) (w' : World) : Prop := ∃ v, e = .returned (.tuple #[v, .int .i64 n, .bool b]) ∧ IsW w' w.heap.size w'.heap.size v ys ∧ Below w.heap.size w w'
theorem isW_none {w : World} {B0 B1 : Nat} : IsW w B0 B1 (.slice none 0 0) [] := ⟨none, 0, rfl, Nat.le_refl _, Nat.zero_le _, fun i hi => by simp at hi⟩

/-- a slice that is nil has no room -/
def NilOkI (v : Value) : Prop := ∀ n c, v = .slice none n c → n = 0 ∧ c = 0
theorem nilOkI_some {a : Addr} {n c : Nat} : NilOkI (.slice (some a) n c) := fun _ _ e => by cases e
/-- 'append(s, x...)' where s owns its row -/
theorem wp_append_rowI {a : Act} {w : World} {K : Act → World → Prop} {Q : Exit → Act → World → Prop} {dst : Option Nat} {tt : TypeId} {pos : String} {after : Array Edge} {gd : Option (Nat × Bool)} (s x : Operand)
    (base : Nat) (v : Value) (ys : List IV) (hs : a.eval s = v) (hown : w.ownsRow base 36 3 v ys.length (isC ys)) (hbase : base ≤ w.heap.size) (xv : Value) (zs : List IV) (hx : a.eval x = xv) (hz : Is w xv zs) (hn : NilOkI xv) (hl : ys.length + zs.length ≤ 1000000)
    (h : ∀ v' w', w'.ownsRow base 36 3 v' (ys ++ zs).length (isC (ys ++ zs)) → (v' = .slice none 0 0 ↔ v = .slice none 0 0 ∧ zs.length = 0) → w.grownBy w' v.ownBlock → K (a.put dst v') w') :
    Oper.wp Try.prog { dst := dst, op := .call { callee := .builtin .append, args := #[s, x], argTypes := #[27, 27] }, type := tt, pos := pos, after := after, guard := gd } a w K Q := by
  obtain ⟨i0, hi, hz0, hz1, hz2⟩ := info_parts ivInfo
  obtain ⟨ad, cap, rfl, h1, h2, h3⟩ := hz
  cases ad with
  | none =>
    obtain ⟨e1, e2⟩ := hn _ _ rfl
    subst e2
    have hrun := run_append_owned_none (P := Try.prog) (w := w) base 27 tt 36 i0 3 Try.underlying27 hi v ys.length _ hown
    have hzs : zs = [] := List.length_eq_zero_iff.1 e1
    subst hzs
    have hk := h v w (by rw [List.append_nil]; exact hown) (by simp) (World.grownBy.refl w _)
    unfold Oper.wp
    simp [execOp, resolve, invoke, builtin, hs, hx, hrun, Result.andThen]
    exact hk
  | some ad =>
    have hnews : ∀ j u, (isC zs)[j]? = some u → w.cell? (ad.add j) = some u := by
      intro j u hj
      have hjl : j < zs.length * 3 := by
        have := (List.getElem?_eq_some_iff.1 hj).1
        rwa [isC_len] at this
      obtain ⟨b, o, e, _⟩ := h3 0 (by omega)
      cases e
      have hcs : ∀ i, i < zs.length → Tri w b (o + i * 3) (zs.getD i iz) := fun i hi => by
        obtain ⟨b', o', e', ht⟩ := h3 i hi
        cases e'
        exact ht
      rw [show (⟨b, o, none⟩ : Addr).add j = ⟨b, o + j, none⟩ from by unfold Addr.add; split <;> simp_all]
      exact is_cells hcs j u hj
    obtain ⟨v', w', hr, g2, g3, g4, g5⟩ := run_append_own_at (P := Try.prog) w base 27 tt 36 i0 (.agg #[.int .i64 0, .string ⟨#[]⟩, .int .i64 0]) 3 32 Try.underlying27 hi hz0 hz1 hz2 rfl (by decide) v ys.length _ hown ad zs.length cap (isC zs) (isC_len zs) hnews (isC_one zs) (by unfold maxLen; omega) (by omega) hbase
    have hk := h v' w' (by rw [List.length_append, isC_app]; exact g2) g4 g3
    unfold Oper.wp execOp
    simp only [resolve, invoke, builtin, Sem.run_bind, Sem.run_pure, Result.andThen_ok, List.map_toArray, List.map_cons, List.map_nil, hs, hx, hr]
    exact hk
/-- 'append(s, x...)' where s is new -/
theorem wp_append_is {a : Act} {w : World} {K : Act → World → Prop} {Q : Exit → Act → World → Prop} {dst : Option Nat} {tt : TypeId} {pos : String} {after : Array Edge} {gd : Option (Nat × Bool)} (s x : Operand)
    (W0 : World) (v : Value) (ys : List IV) (hs : a.eval s = v) (hown : OwnV W0 v ys w) (xv : Value) (zs : List IV) (hx : a.eval x = xv) (hz : Is w xv zs) (hn : NilOkI xv) (hl : ys.length + zs.length ≤ 1000000)
    (h : ∀ v' w', OwnV W0 v' (ys ++ zs) w' → (v' = .slice none 0 0 ↔ v = .slice none 0 0 ∧ zs.length = 0) → w.grownBy w' v.ownBlock → K (a.put dst v') w') :
    Oper.wp Try.prog { dst := dst, op := .call { callee := .builtin .append, args := #[s, x], argTypes := #[27, 27] }, type := tt, pos := pos, after := after, guard := gd } a w K Q :=
  wp_append_rowI s x W0.heap.size v ys hs hown.own hown.bel.size xv zs hx hz hn hl (fun v' w' h1 h2 h3 => h v' w' ⟨h1, hown.bel.grown h3 hown.bel.size (fun b hb => (hown.own.lt b hb).1)⟩ h2 h3)
theorem wpList_append_is {ops : Array Oper} {rest : List Oper} {a : Act} {w : World} {Q : Exit → Act → World → Prop} {dst : Option Nat} {tt : TypeId} {pos : String} {after : Array Edge} (s x : Operand)
    (W0 : World) (v : Value) (ys : List IV) (hs : a.eval s = v) (hown : OwnV W0 v ys w) (xv : Value) (zs : List IV) (hx : a.eval x = xv) (hz : Is w xv zs) (hn : NilOkI xv) (hl : ys.length + zs.length ≤ 1000000)
    (h : ∀ v' w', OwnV W0 v' (ys ++ zs) w' → (v' = .slice none 0 0 ↔ v = .slice none 0 0 ∧ zs.length = 0) → w.grownBy w' v.ownBlock → wpList Try.prog ops Q rest (a.put dst v') w') :
    wpList Try.prog ops Q ({ dst := dst, op := .call { callee := .builtin .append, args := #[s, x], argTypes := #[27, 27] }, type := tt, pos := pos, after := after, guard := none } :: rest) a w :=
  wpList_plain rfl fun K hK => wp_append_is s x W0 v ys hs hown xv zs hx hz hn hl (fun v' w' h1 h2 h3 => hK _ _ (h v' w' h1 h2 h3))
end Go.Proofs.Yticnfekjbknomaa
