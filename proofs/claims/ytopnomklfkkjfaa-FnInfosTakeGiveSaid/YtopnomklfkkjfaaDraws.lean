/- What the draws of entries and addresses give: numbers of the ranges that are named, whatever the code; nothing that was there before the call changes. -/
import Derived.Test.YtopnomklfkkjfaaDraw
import Derived.Test.YtopnomklfkkjfaaTo
import Derived.OwnWalk
import Derived.Deep.RegionWith
import Derived.Deep.RegionHeld3
namespace Go.Proofs.Ytopnomklfkkjfaa
open Go.ChangeShapes Go.WideShapes Go.ChangeAt Go.RowKit
set_option linter.unusedVariables false

theorem pick_any (w0 w : World) (B k : Nat) (n : Int) (hR : Rdr w0 w B k) (hk : k ≤ 1000000) (hn : 1 ≤ n) :
    Calls Try.prog 34 #[.pointer (some ⟨B, 0, none⟩), .int .i64 n] w (Picked n w0 B (k + 1) w) := by
  obtain ⟨a, len, cap, zs, p, hr, hp, hh, hb, hB⟩ := hR
  have hr' := hr
  rcases hr' with ⟨rfl, rfl, rfl, rfl⟩ | ⟨x, rfl, hl, hm, hz, hcell, hwz⟩
  · exact pick_empty w0 w B k n _ _ _ p hr hp hk hh hb hB hn
  · by_cases h0 : len = 0
    · subst h0
      exact pick_empty w0 w B k n _ _ _ p hr hp hk hh hb hB hn
    · obtain ⟨b, off, rfl, hcs⟩ := ints_at hcell (by omega)
      have hbl : b < w0.heap.size := cell_lt (hcs 0 (by omega))
      have hbB : b ≠ B := by omega
      have hat : ∀ j, j < zs.length → w.cell? ⟨b, off + j, none⟩ = some (.int .u8 (zs.getD j 0)) := fun j hj => (hb.cell (p := ⟨b, off + j, none⟩) hbl).trans (hcs j hj)
      by_cases h1 : p < len
      · exact pick_near w0 w B k n b off len cap zs p _ hr hp hk hh hb hB hn h1 hbB (hat p (by omega)) (byte_bd hwz p).1 (byte_bd hwz p).2
      · have i1 : p % len < len := Nat.mod_lt _ (by omega)
        have i2 : (p * 7 + 3) % len < len := Nat.mod_lt _ (by omega)
        exact pick_far w0 w B k n b off len cap zs p _ _ hr hp hk hh hb hB hn (by omega) (by omega) hbB (hat _ (by omega)) (hat _ (by omega)) (byte_bd hwz _).1 (byte_bd hwz _).2 (byte_bd hwz _).1 (byte_bd hwz _).2

theorem rdr_alloc {w0 w : World} {B k : Nat} (h : Rdr w0 w B k) (o : Obj) : Rdr w0 (w.alloc o) B k := by
  obtain ⟨a, len, cap, zs, p, hr, hp, hh, hb, hB⟩ := h
  have hlt : B < w.heap.size := by
    rcases Nat.lt_or_ge B w.heap.size with h' | h'
    · exact h'
    · rw [Array.getElem?_eq_none h'] at hh; cases hh
  exact ⟨a, len, cap, zs, p, hr, hp, (Below.heap_alloc w o B hlt).trans hh, hb.alloc hb.size o, hB⟩
theorem rdr_lt {w0 w : World} {B k : Nat} (h : Rdr w0 w B k) : B < w.heap.size := by
  obtain ⟨a, len, cap, zs, p, hr, hp, hh, hb, hB⟩ := h
  rcases Nat.lt_or_ge B w.heap.size with h' | h'
  · exact h'
  · rw [Array.getElem?_eq_none h'] at hh; cases hh
theorem rdr_drewN {w0 w : World} {B k : Nat} (h : Rdr w0 w B k) (d : Nat) : Rdr w0 (w.drewN d) B k := by
  obtain ⟨a, len, cap, zs, p, hr, hp, hh, hb, hB⟩ := h
  exact ⟨a, len, cap, zs, p, hr, hp, hh, ⟨hb.os, hb.tape, hb.output, hb.size, hb.block⟩, hB⟩
theorem rdr_mono {w0 w : World} {B k k' : Nat} (h : Rdr w0 w B k) (hk : k ≤ k') : Rdr w0 w B k' := by
  obtain ⟨a, len, cap, zs, p, hr, hp, hh, hb, hB⟩ := h
  exact ⟨a, len, cap, zs, p, hr, by omega, hh, hb, hB⟩
theorem rdr_below {w0 w : World} {B k : Nat} (h : Rdr w0 w B k) : Below w0.heap.size w0 w := by
  obtain ⟨a, len, cap, zs, p, hr, hp, hh, hb, hB⟩ := h
  exact hb
theorem Only.grown {B : Nat} {w w' : World} (h : Only B w w') : w.grownBy w' (some B) :=
  ⟨h.1, h.2.1, h.2.2.1, by rw [h.2.2.2.1]; exact Nat.le_refl _, fun i hi hne => h.2.2.2.2 i (fun e => hne (by rw [e]))⟩
theorem Only.cell {B : Nat} {w w' : World} (h : Only B w w') {b o : Nat} (hb : b ≠ B) : w'.cell? ⟨b, o, none⟩ = w.cell? ⟨b, o, none⟩ := World.cell?_of_block (h.2.2.2.2 b hb)

theorem gtrans {B : Nat} {a b c : World} (h : a.grownBy b (some B)) (k : b.grownBy c (some B)) : a.grownBy c (some B) :=
  ⟨k.os.trans h.os, k.tape.trans h.tape, k.output.trans h.output, Nat.le_trans h.size k.size, fun i hi hne => (k.block i (Nat.lt_of_lt_of_le hi h.size) hne).trans (h.block i hi hne)⟩
theorem new_cell {w : World} {cs : Array Value} {t : TypeId} {j : Nat} {v : Value} (h : cs[j]? = some v) : (w.alloc (.cells cs t)).cell? ⟨w.heap.size, j, none⟩ = some v := by
  have e : (w.alloc (.cells cs t)).heap[w.heap.size]? = some (.cells cs t) := by
    show (w.heap.push _)[w.heap.size]? = _
    simp
  unfold World.cell?
  rw [e]
  exact h
theorem galloc (w : World) (o : Obj) (B : Nat) : w.grownBy (w.alloc o) (some B) := World.grownBy_alloc w o (some B)

/-- a number with P has been drawn: the reader has been asked at most k times; nothing else that was there has changed -/
def Drew (P : Int → Prop) (w0 : World) (B k : Nat) (w : World) (e : Ending) (w' : World) : Prop :=
  ∃ f : Int, P f ∧ e = .returned (.int .i64 f) ∧ Rdr w0 w' B k ∧ w.grownBy w' (some B)
theorem drew_mk {P : Int → Prop} {w0 : World} {B k k' : Nat} {w w' : World} {f : Int} (hP : P f) (hR : Rdr w0 w' B k') (hk : k' ≤ k) (hg : w.grownBy w' (some B)) :
    Drew P w0 B k w (.returned (.int .i64 f)) w' := ⟨f, hP, rfl, rdr_mono hR hk, hg⟩

def frameP (f : Int) : Prop := -1 ≤ f ∧ f ≤ 100
def entryP (f : Int) : Prop := -1 ≤ f ∧ f ≤ 9999
theorem below_mk {w0 w : World} {B k : Nat} (h : Rdr w0 w B k) : Below w0.heap.size w0 w := rdr_below h

/-- the reader is new: block 'w.heap.size' -/
theorem open_any (w : World) (a : Option Addr) (len cap : Nat) (zs : List Int) (hr : Row .u8 w a len cap zs) :
    Calls Try.prog 32 #[.slice a len cap] w fun e w' => e = .returned (.pointer (some ⟨w.heap.size, 0, none⟩)) ∧ Rdr w w' w.heap.size 0 := by
  have hlm : len ≤ 9223372036854775807 ∧ len ≤ cap ∧ cap ≤ 9223372036854775807 := by
    rcases hr with ⟨_, rfl, rfl, _⟩ | ⟨x, _, hl, hm, _⟩
    · omega
    · unfold maxLen at hm; omega
  obtain ⟨hlm, hlc, hcm⟩ := hlm
  by_cases hl : 2000 < len
  · have hl' : (2000 : Int) < (len : Int) := by omega
    rcases hr with ⟨rfl, rfl, rfl, _⟩ | ⟨x, rfl, hlx, hm, hz, hcell, hwz⟩
    · omega
    have hR : Rdr w (w.alloc (.cells #[.slice (some x) 2000 cap, .int .i64 0] 73)) w.heap.size 0 :=
      ⟨some x, 2000, cap, zs, 0, .inr ⟨x, rfl, by omega, hm, hz, hcell, hwz⟩, Nat.le_refl _, by show (w.heap.push _)[w.heap.size]? = _; simp, (Below.refl _ _).alloc (Nat.le_refl _) _, Nat.le_refl _⟩
    go_enter Try.func32, Try.ntmps32
    go_wp2_with fail
    go_ret
    exact ⟨rfl, hR⟩
  · have hl' : (len : Int) ≤ 2000 := by omega
    have hl2 : decide ((2000 : Int) < (len : Int)) = false := by simp; omega
    have hl3 : decide (2000 < len) = false := by simp; omega
    have hR : Rdr w (w.alloc (.cells #[.slice a len cap, .int .i64 0] 73)) w.heap.size 0 :=
      ⟨a, len, cap, zs, 0, hr, Nat.le_refl _, by show (w.heap.push _)[w.heap.size]? = _; simp, (Below.refl _ _).alloc (Nat.le_refl _) _, Nat.le_refl _⟩
    go_enter Try.func32, Try.ntmps32
    go_wp2_with fail
    go_ret
    exact ⟨rfl, hR⟩

end Go.Proofs.Ytopnomklfkkjfaa
