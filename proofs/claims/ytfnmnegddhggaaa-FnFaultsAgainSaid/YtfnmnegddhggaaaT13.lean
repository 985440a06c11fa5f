/- What the proofs stand on, part 13. -/
import Derived.Test.YtfnmnegddhggaaaRows
import Derived.Test.YtfnmnegddhggaaaT1
import Derived.Test.YtfnmnegddhggaaaT2
import Derived.Test.YtfnmnegddhggaaaT4
import Derived.Test.YtfnmnegddhggaaaT5
import Derived.Test.YtfnmnegddhggaaaT6
import Derived.Test.YtfnmnegddhggaaaT8
import Derived.Test.YtfnmnegddhggaaaT9
import Derived.Test.YtfnmnegddhggaaaT10
import Derived.Test.YtfnmnegddhggaaaT11
import Derived.Test.YtfnmnegddhggaaaT12
set_option linter.unusedSimpArgs false
set_option linter.unusedVariables false
namespace Go.Proofs.Ytfnmnegddhggaaa
open Go.ChangeShapes Go.WideShapes Go.ChangeAt Go.RowKit
set_option linter.unusedVariables false
def off (L : Nat → Nat) : Nat → Nat
  | 0 => 0
  | j + 1 => off L j + L j
end Go.Proofs.Ytfnmnegddhggaaa
namespace Go.Proofs.Ytfnmnegddhggaaa
open Go.ChangeShapes Go.WideShapes Go.ChangeAt Go.RowKit
set_option linter.unusedVariables false
def Row (k : IntKind) (w : World) (a : Option Addr) (len cap : Nat) (zs : List Int) : Prop :=
  (a = none ∧ len = 0 ∧ cap = 0 ∧ zs = []) ∨
  ∃ x, a = some x ∧ len ≤ cap ∧ cap ≤ maxLen ∧ zs.length = cap ∧ (∀ i, i < zs.length → w.cell? (x.add i) = some (.int k (zs.getD i 0))) ∧ ∀ n ∈ zs, (Lit.int k n).wf = true
def Rdr (w0 w : World) (B k : Nat) : Prop :=
  ∃ (a : Option Addr) (len cap : Nat) (zs : List Int) (p : Nat), Row .u8 w0 a len cap zs ∧ p ≤ k ∧
    w.heap[B]? = some (.cells #[.slice a len cap, .int .i64 p] 50 (0, 0)) ∧ Below w0.heap.size w0 w ∧ w0.heap.size ≤ B
def Only (B : Nat) (w w' : World) : Prop := w'.os = w.os ∧ w'.tape = w.tape ∧ w'.output = w.output ∧ w'.heap.size = w.heap.size ∧ ∀ i, i ≠ B → w'.heap[i]? = w.heap[i]?
def Picked (n : Int) (w0 : World) (B k : Nat) (w : World) (e : Ending) (w' : World) : Prop :=
  ∃ m : Int, 0 ≤ m ∧ m < n ∧ e = .returned (.int .i64 m) ∧ Rdr w0 w' B k ∧ Only B w w'
theorem xor_nn (E : Int) (h0 : 0 ≤ E) (h1 : E < 1000000000000) : 0 ≤ bits .xor .i64 E (E / 64) := by
  obtain ⟨X, rfl⟩ : ∃ X : Nat, E = X := ⟨E.toNat, by omega⟩
  have hd : ((X : Int) / 64) = ((X / 64 : Nat) : Int) := by omega
  rw [hd]
  have hx : X ^^^ (X / 64) < 2 ^ 40 := Nat.xor_lt_two_pow (by omega) (by omega)
  have k1 : (BitVec.ofInt 64 (X : Int)).toNat = X := by
    rw [BitVec.ofInt_natCast, BitVec.toNat_ofNat]; exact Nat.mod_eq_of_lt (by omega)
  have k2 : (BitVec.ofInt 64 ((X / 64 : Nat) : Int)).toNat = X / 64 := by
    rw [BitVec.ofInt_natCast, BitVec.toNat_ofNat]; exact Nat.mod_eq_of_lt (by omega)
  show 0 ≤ IntKind.i64.wrap ((BitVec.ofInt 64 (X : Int) ^^^ BitVec.ofInt 64 ((X / 64 : Nat) : Int)).toNat : Int)
  rw [BitVec.toNat_xor, k1, k2]
  have := IntWalk.i64_in ((X ^^^ (X / 64) : Nat) : Int) (by omega)
  rw [this]
  omega
theorem two_cell0 {w : World} {B : Nat} {u v : Value} {t : TypeId} (h : w.heap[B]? = some (.cells #[u, v] t (0, 0))) : w.cell? ⟨B, 0, none⟩ = some u := by simp [World.cell?, h]
theorem two_cell1 {w : World} {B : Nat} {u v : Value} {t : TypeId} (h : w.heap[B]? = some (.cells #[u, v] t (0, 0))) : w.cell? ⟨B, 1, none⟩ = some v := by simp [World.cell?, h]
theorem two_free {w : World} {B : Nat} {u v : Value} {t : TypeId} {o : Nat} (h : w.heap[B]? = some (.cells #[u, v] t (0, 0))) : w.frozen? ⟨B, o, none⟩ = false := by simp [World.frozen?, h]
theorem two_set1 {w : World} {B : Nat} {u v x : Value} {t : TypeId} (h : w.heap[B]? = some (.cells #[u, v] t (0, 0))) : (w.setCell ⟨B, 1, none⟩ x).heap[B]? = some (.cells #[u, x] t (0, 0)) := by
  simp only [World.setCell, Array.getElem?_modify, h]
  rfl
theorem only_set {w : World} {B o : Nat} {x : Value} {d : Nat} : Only B w ((w.setCell ⟨B, o, none⟩ x).drewN d) :=
  ⟨rfl, rfl, rfl, by simp [World.setCell], fun i hi => by simpa using Below.heap_setCell w ⟨B, o, none⟩ x i hi⟩
theorem rdr_set {w0 w : World} {B k : Nat} {a : Option Addr} {len cap : Nat} {zs : List Int} {p : Nat} (hr : Row .u8 w0 a len cap zs) (hp : p ≤ k)
    (h : w.heap[B]? = some (.cells #[.slice a len cap, .int .i64 p] 50 (0, 0))) (hb : Below w0.heap.size w0 w) (hB : w0.heap.size ≤ B) (d : Nat) :
    Rdr w0 ((w.setCell ⟨B, 1, none⟩ (.int .i64 ((p : Int) + 1))).drewN d) B (k + 1) :=
  ⟨a, len, cap, zs, p + 1, hr, by omega, by simpa using two_set1 h, (by have := hb.setCell (p := ⟨B, 1, none⟩) hB (.int .i64 ((p : Int) + 1)); exact ⟨this.os, this.tape, this.output, this.size, this.block⟩), hB⟩
theorem picked_mk {w0 w : World} {B k : Nat} {a : Option Addr} {len cap : Nat} {zs : List Int} {p : Nat} (hr : Row .u8 w0 a len cap zs) (hp : p ≤ k)
    (h : w.heap[B]? = some (.cells #[.slice a len cap, .int .i64 p] 50 (0, 0))) (hb : Below w0.heap.size w0 w) (hB : w0.heap.size ≤ B) (d : Nat) {n m : Int} (h0 : 0 ≤ m) (h1 : m < n) :
    Picked n w0 B (k + 1) w (.returned (.int .i64 m)) ((w.setCell ⟨B, 1, none⟩ (.int .i64 ((p : Int) + 1))).drewN d) :=
  ⟨m, h0, h1, rfl, rdr_set hr hp h hb hB d, only_set⟩
theorem byte_bd {zs : List Int} (hw : ∀ n ∈ zs, (Lit.int .u8 n).wf = true) (i : Nat) : 0 ≤ zs.getD i 0 ∧ zs.getD i 0 ≤ 255 := by
  by_cases h : i < zs.length
  · have e : zs.getD i 0 = zs[i] := by simp [List.getD, h]
    have := hw zs[i] (List.getElem_mem h)
    rw [e]
    simpa [Lit.wf, IntKind.min, IntKind.max, IntKind.signed, IntKind.bits] using this
  · have e : zs.getD i 0 = 0 := by simp [List.getD, List.getElem?_eq_none (Nat.le_of_not_lt h)]
    omega
theorem mod_lo {a n : Int} (h : 0 ≤ a) : 0 ≤ a.tmod n := Int.tmod_nonneg n h
theorem mod_hi {a n : Int} (h : 0 ≤ a) (hn : 1 ≤ n) : a.tmod n < n := Int.tmod_lt_of_pos a (by omega)
theorem pick_empty (w0 w : World) (B k : Nat) (n : Int) (a : Option Addr) (cap : Nat) (zs : List Int) (p : Nat) (hr : Row .u8 w0 a 0 cap zs) (hp : p ≤ k) (hk : k ≤ 1000000)
    (h : w.heap[B]? = some (.cells #[.slice a 0 cap, .int .i64 p] 50 (0, 0))) (hb : Below w0.heap.size w0 w) (hB : w0.heap.size ≤ B) (hn : 1 ≤ n) :
    Calls Try.prog 54 #[.pointer (some ⟨B, 0, none⟩), .int .i64 n] w (Picked n w0 B (k + 1) w) := by
  have c0 := two_cell0 h
  have c1 := two_cell1 h
  have f1 : w.frozen? ⟨B, 1, none⟩ = false := two_free h
  have hp' : (p : Int) ≤ 1000000 := by omega
  have hd : decide (n < 1) = false := by simp; omega
  have H := Lib.hid h
  clear h
  go_enter Try.func54, Try.ntmps54
  go_wp2
  go_ret
  exact picked_mk hr hp H.out hb hB 0 (by omega) (by omega)
theorem pick_near (w0 w : World) (B k : Nat) (n : Int) (b off len cap : Nat) (zs : List Int) (p : Nat) (c : Int) (hr : Row .u8 w0 (some ⟨b, off, none⟩) len cap zs) (hp : p ≤ k) (hk : k ≤ 1000000)
    (h : w.heap[B]? = some (.cells #[.slice (some ⟨b, off, none⟩) len cap, .int .i64 p] 50 (0, 0))) (hb : Below w0.heap.size w0 w) (hB : w0.heap.size ≤ B) (hn : 1 ≤ n)
    (hlen : p < len) (hbB : b ≠ B) (hc : w.cell? ⟨b, off + p, none⟩ = some (.int .u8 c)) (hz0 : 0 ≤ c) (hz1 : c ≤ 255) :
    Calls Try.prog 54 #[.pointer (some ⟨B, 0, none⟩), .int .i64 n] w (Picked n w0 B (k + 1) w) := by
  have c0 := two_cell0 h
  have c1 := two_cell1 h
  have f1 : w.frozen? ⟨B, 1, none⟩ = false := two_free h
  have hp' : (p : Int) ≤ 1000000 := by omega
  have hd : decide (n < 1) = false := by simp; omega
  have hl0 : ((len : Int) == 0) = false := by simp; omega
  have hl1 : (p : Int) < (len : Int) := by omega
  have hc' : (w.setCell ⟨B, 1, none⟩ (.int .i64 ((p : Int) + 1))).cell? ⟨b, off + p, none⟩ = some (.int .u8 c) := by
    rw [World.cell?_of_block (Below.heap_setCell w ⟨B, 1, none⟩ _ b hbB)]; exact hc
  have hm0 : 0 ≤ c % n := Int.emod_nonneg _ (by omega)
  have hm1 : c % n < n := Int.emod_lt_of_pos _ (by omega)
  have hnz : (n == 0) = false := by simp; omega
  have H := Lib.hid h
  clear h
  go_enter Try.func54, Try.ntmps54
  go_wp2
  go_ret
  exact picked_mk hr hp H.out hb hB 0 hm0 hm1
theorem pick_far (w0 w : World) (B k : Nat) (n : Int) (b off len cap : Nat) (zs : List Int) (p : Nat) (x y : Int) (hr : Row .u8 w0 (some ⟨b, off, none⟩) len cap zs) (hp : p ≤ k) (hk : k ≤ 1000000)
    (h : w.heap[B]? = some (.cells #[.slice (some ⟨b, off, none⟩) len cap, .int .i64 p] 50 (0, 0))) (hb : Below w0.heap.size w0 w) (hB : w0.heap.size ≤ B) (hn : 1 ≤ n)
    (hlen : len ≤ p) (hl : 0 < len) (hbB : b ≠ B) (hx : w.cell? ⟨b, off + p % len, none⟩ = some (.int .u8 x)) (hy : w.cell? ⟨b, off + (p * 7 + 3) % len, none⟩ = some (.int .u8 y))
    (hx0 : 0 ≤ x) (hx1 : x ≤ 255) (hy0 : 0 ≤ y) (hy1 : y ≤ 255) :
    Calls Try.prog 54 #[.pointer (some ⟨B, 0, none⟩), .int .i64 n] w (Picked n w0 B (k + 1) w) := by
  have c0 := two_cell0 h
  have c1 := two_cell1 h
  have f1 : w.frozen? ⟨B, 1, none⟩ = false := two_free h
  have hp' : (p : Int) ≤ 1000000 := by omega
  have hd : decide (n < 1) = false := by simp; omega
  have hl0 : ((len : Int) == 0) = false := by simp; omega
  have hl1 : decide ((p : Int) < (len : Int)) = false := by simp; omega
  have hl2 : decide (p < len) = false := by simp; omega
  have hx' : (w.setCell ⟨B, 1, none⟩ (.int .i64 ((p : Int) + 1))).cell? ⟨b, off + p % len, none⟩ = some (.int .u8 x) := by
    rw [World.cell?_of_block (Below.heap_setCell w ⟨B, 1, none⟩ _ b hbB)]; exact hx
  have hy' : (w.setCell ⟨B, 1, none⟩ (.int .i64 ((p : Int) + 1))).cell? ⟨b, off + (p * 7 + 3) % len, none⟩ = some (.int .u8 y) := by
    rw [World.cell?_of_block (Below.heap_setCell w ⟨B, 1, none⟩ _ b hbB)]; exact hy
  have hi1 : (p : Int) % (len : Int) < (len : Int) := Int.emod_lt_of_pos _ (by omega)
  have hi2 : 0 ≤ (p : Int) % (len : Int) := Int.emod_nonneg _ (by omega)
  have hq0 : 0 ≤ (p : Int) / (len : Int) := Int.ediv_nonneg (by omega) (by omega)
  have hq1 : (p : Int) / (len : Int) ≤ 1000000 := Int.le_trans (Int.ediv_le_self _ (by omega)) (by omega)
  have hj1 : ((p : Int) * 7 + 3) % (len : Int) < (len : Int) := Int.emod_lt_of_pos _ (by omega)
  have hj2 : 0 ≤ ((p : Int) * 7 + 3) % (len : Int) := Int.emod_nonneg _ (by omega)
  have hnz : (n == 0) = false := by simp; omega
  have H := Lib.hid h
  clear h
  go_enter Try.func54, Try.ntmps54
  go_wp2_with fail
  go_quiet (fail)
  go_wp2
  go_ret
  have hE := xor_nn (x * 131 + y * 1117 + (p : Int) * 29 + (p : Int) / (len : Int) * 53) (by omega) (by omega)
  refine picked_mk hr hp H.out hb hB _ (mod_lo hE) (mod_hi hE (by omega))
end Go.Proofs.Ytfnmnegddhggaaa
namespace Go.Proofs.Ytfnmnegddhggaaa
open Go.ChangeShapes Go.WideShapes Go.ChangeAt Go.RowKit
set_option linter.unusedVariables false
theorem pick_any (w0 w : World) (B k : Nat) (n : Int) (hR : Rdr w0 w B k) (hk : k ≤ 1000000) (hn : 1 ≤ n) :
    Calls Try.prog 54 #[.pointer (some ⟨B, 0, none⟩), .int .i64 n] w (Picked n w0 B (k + 1) w) := by
  obtain ⟨a, len, cap, zs, p, hr, hp, hh, hb, hB⟩ := hR
  have hr' := hr
  rcases hr' with ⟨rfl, rfl, rfl, rfl⟩ | ⟨x, rfl, hl, hm, hz, hcell, hwz⟩
  · exact pick_empty w0 w B k n _ _ _ p hr hp hk hh hb hB hn
  · by_cases h0 : len = 0
    · subst h0
      exact pick_empty w0 w B k n _ _ _ p hr hp hk hh hb hB hn
    · obtain ⟨b, off, rfl, hcs⟩ := ints_at hcell (by omega)
      have hbl : b < w0.heap.size := cell_lt (hcs 0 (by omega))
      have hbB : b ≠ B := by omega
      have hat : ∀ j, j < zs.length → w.cell? ⟨b, off + j, none⟩ = some (.int .u8 (zs.getD j 0)) := fun j hj => (hb.cell (p := ⟨b, off + j, none⟩) hbl).trans (hcs j hj)
      by_cases h1 : p < len
      · exact pick_near w0 w B k n b off len cap zs p _ hr hp hk hh hb hB hn h1 hbB (hat p (by omega)) (byte_bd hwz p).1 (byte_bd hwz p).2
      · have i1 : p % len < len := Nat.mod_lt _ (by omega)
        have i2 : (p * 7 + 3) % len < len := Nat.mod_lt _ (by omega)
        exact pick_far w0 w B k n b off len cap zs p _ _ hr hp hk hh hb hB hn (by omega) (by omega) hbB (hat _ (by omega)) (hat _ (by omega)) (byte_bd hwz _).1 (byte_bd hwz _).2 (byte_bd hwz _).1 (byte_bd hwz _).2
theorem rdr_alloc {w0 w : World} {B k : Nat} (h : Rdr w0 w B k) (o : Obj) : Rdr w0 (w.alloc o) B k := by
  obtain ⟨a, len, cap, zs, p, hr, hp, hh, hb, hB⟩ := h
  have hlt : B < w.heap.size := by
    rcases Nat.lt_or_ge B w.heap.size with h' | h'
    · exact h'
    · rw [Array.getElem?_eq_none h'] at hh; cases hh
  exact ⟨a, len, cap, zs, p, hr, hp, (Below.heap_alloc w o B hlt).trans hh, hb.alloc hb.size o, hB⟩
theorem rdr_lt {w0 w : World} {B k : Nat} (h : Rdr w0 w B k) : B < w.heap.size := by
  obtain ⟨a, len, cap, zs, p, hr, hp, hh, hb, hB⟩ := h
  rcases Nat.lt_or_ge B w.heap.size with h' | h'
  · exact h'
  · rw [Array.getElem?_eq_none h'] at hh; cases hh
theorem rdr_mono {w0 w : World} {B k k' : Nat} (h : Rdr w0 w B k) (hk : k ≤ k') : Rdr w0 w B k' := by
  obtain ⟨a, len, cap, zs, p, hr, hp, hh, hb, hB⟩ := h
  exact ⟨a, len, cap, zs, p, hr, by omega, hh, hb, hB⟩
theorem rdr_below {w0 w : World} {B k : Nat} (h : Rdr w0 w B k) : Below w0.heap.size w0 w := by
  obtain ⟨a, len, cap, zs, p, hr, hp, hh, hb, hB⟩ := h
  exact hb
theorem Only.grown {B : Nat} {w w' : World} (h : Only B w w') : w.grownBy w' (some B) :=
  ⟨h.1, h.2.1, h.2.2.1, by rw [h.2.2.2.1]; exact Nat.le_refl _, fun i hi hne => h.2.2.2.2 i (fun e => hne (by rw [e]))⟩
theorem Only.cell {B : Nat} {w w' : World} (h : Only B w w') {b o : Nat} (hb : b ≠ B) : w'.cell? ⟨b, o, none⟩ = w.cell? ⟨b, o, none⟩ := World.cell?_of_block (h.2.2.2.2 b hb)
theorem gtrans {B : Nat} {a b c : World} (h : a.grownBy b (some B)) (k : b.grownBy c (some B)) : a.grownBy c (some B) :=
  ⟨k.os.trans h.os, k.tape.trans h.tape, k.output.trans h.output, Nat.le_trans h.size k.size, fun i hi hne => (k.block i (Nat.lt_of_lt_of_le hi h.size) hne).trans (h.block i hi hne)⟩
theorem new_cell {w : World} {cs : Array Value} {t : TypeId} {j : Nat} {v : Value} (h : cs[j]? = some v) : (w.alloc (.cells cs t)).cell? ⟨w.heap.size, j, none⟩ = some v := by
  have e : (w.alloc (.cells cs t)).heap[w.heap.size]? = some (.cells cs t) := by
    show (w.heap.push _)[w.heap.size]? = _
    simp
  unfold World.cell?
  rw [e]
  exact h
theorem galloc (w : World) (o : Obj) (B : Nat) : w.grownBy (w.alloc o) (some B) := World.grownBy_alloc w o (some B)
theorem open_any (w : World) (a : Option Addr) (len cap : Nat) (zs : List Int) (hr : Row .u8 w a len cap zs) :
    Calls Try.prog 40 #[.slice a len cap] w fun e w' => e = .returned (.pointer (some ⟨w.heap.size, 0, none⟩)) ∧ Rdr w w' w.heap.size 0 := by
  have hlm : len ≤ 9223372036854775807 ∧ len ≤ cap ∧ cap ≤ 9223372036854775807 := by
    rcases hr with ⟨_, rfl, rfl, _⟩ | ⟨x, _, hl, hm, _⟩
    · omega
    · unfold maxLen at hm; omega
  obtain ⟨hlm, hlc, hcm⟩ := hlm
  by_cases hl : 2000 < len
  · have hl' : (2000 : Int) < (len : Int) := by omega
    rcases hr with ⟨rfl, rfl, rfl, _⟩ | ⟨x, rfl, hlx, hm, hz, hcell, hwz⟩
    · omega
    have hR : Rdr w (w.alloc (.cells #[.slice (some x) 2000 cap, .int .i64 0] 50)) w.heap.size 0 :=
      ⟨some x, 2000, cap, zs, 0, .inr ⟨x, rfl, by omega, hm, hz, hcell, hwz⟩, Nat.le_refl _, by show (w.heap.push _)[w.heap.size]? = _; simp, (Below.refl _ _).alloc (Nat.le_refl _) _, Nat.le_refl _⟩
    go_enter Try.func40, Try.ntmps40
    go_wp2_with fail
    go_ret
    exact ⟨rfl, hR⟩
  · have hl' : (len : Int) ≤ 2000 := by omega
    have hl2 : decide ((2000 : Int) < (len : Int)) = false := by simp; omega
    have hl3 : decide (2000 < len) = false := by simp; omega
    have hR : Rdr w (w.alloc (.cells #[.slice a len cap, .int .i64 0] 50)) w.heap.size 0 :=
      ⟨a, len, cap, zs, 0, hr, Nat.le_refl _, by show (w.heap.push _)[w.heap.size]? = _; simp, (Below.refl _ _).alloc (Nat.le_refl _) _, Nat.le_refl _⟩
    go_enter Try.func40, Try.ntmps40
    go_wp2_with fail
    go_ret
    exact ⟨rfl, hR⟩
end Go.Proofs.Ytfnmnegddhggaaa
namespace Go.Proofs.Ytfnmnegddhggaaa
open Go.ChangeShapes Go.WideShapes Go.ChangeAt Go.RowKit
set_option linter.unusedVariables false
set_option linter.unusedSimpArgs false
theorem rdr_otherN {w0 w : World} {B k X o : Nat} {v : Value} (h : Rdr w0 w B k) (hX : X ≠ B) (hX0 : w0.heap.size ≤ X) : Rdr w0 (w.setCell ⟨X, o, none⟩ v) B k := by
  obtain ⟨a, len, cap, zs, p, hr, hp, hh, hb, hB⟩ := h
  exact ⟨a, len, cap, zs, p, hr, hp, (Below.heap_setCell _ _ _ B (fun e => hX e.symm)).trans hh, hb.setCell hX0 _, hB⟩
theorem grown_setN {w w' : World} {B X o : Nat} {v : Value} (h : w.grownBy w' (some B)) (hX : w.heap.size ≤ X) : w.grownBy (w'.setCell ⟨X, o, none⟩ v) (some B) :=
  ⟨h.os, h.tape, h.output, by have := h.size; simpa using this, fun i hi hne => (Below.heap_setCell _ _ _ i (by simp; omega)).trans (h.block i hi hne)⟩
theorem own_pick {w w' w2 : World} {B : Nat} {v : Value} {ys : List Int} (h : w'.ownsRow w.heap.size 3 1 v ys.length (ys.map (.int .i64))) (hg : w'.grownBy w2 (some B)) (hB : B < w.heap.size) : w2.ownsRow w.heap.size 3 1 v ys.length (ys.map (.int .i64)) := by
  refine ⟨h.1, ?_⟩
  rcases h.2 with hn | ⟨g, cap, cur, e, hg', hbl, rest⟩
  · exact .inl hn
  · exact .inr ⟨g, cap, cur, e, hg', (hg.block g (Array.getElem?_eq_some_iff.1 hbl).1 (by intro e; injection e with e; omega)).trans hbl, rest⟩
structure OwnE (w0 : World) (B k : Nat) (w : World) (v : Value) (ys : List Int) (w' : World) : Prop where
  own : w'.ownsRow w.heap.size 3 1 v ys.length (ys.map (.int .i64))
  nn : v ≠ .slice none 0 0
  rdr : Rdr w0 w' B k
  grow : w.grownBy w' (some B)
  B0 : B < w.heap.size
theorem OwnE.start {w0 w : World} {B k : Nat} (hR : Rdr w0 w B k) : OwnE w0 B k w (.slice (some ⟨w.heap.size, 0, none⟩) 0 0) [] (w.alloc (.cells #[] 3)) :=
  ⟨World.ownsRow_made w #[] 0 (Nat.le_refl _) (Nat.zero_le _) rfl, (fun h => by cases h), rdr_alloc hR _, galloc _ _ _, rdr_lt hR⟩
theorem OwnE.drew {w0 w w' w2 : World} {B k k' : Nat} {v : Value} {ys : List Int} (h : OwnE w0 B k w v ys w') (hR : Rdr w0 w2 B k') (hg : w'.grownBy w2 (some B)) : OwnE w0 B k' w v ys w2 :=
  ⟨own_pick h.own hg h.B0, h.nn, hR, gtrans h.grow hg, h.B0⟩
theorem OwnE.mono {w0 w w' : World} {B k k' : Nat} {v : Value} {ys : List Int} (h : OwnE w0 B k w v ys w') (hk : k ≤ k') : OwnE w0 B k' w v ys w' := ⟨h.own, h.nn, rdr_mono h.rdr hk, h.grow, h.B0⟩
theorem OwnE.append {w0 w wr w2 : World} {B k : Nat} {v v2 : Value} {ys zs : List Int} (h : OwnE w0 B k w v ys wr) (h2 : w2.ownsRow w.heap.size 3 1 v2 (ys.length + zs.length) (ys.map (.int .i64) ++ zs.map (.int .i64))) (hg : wr.grownBy w2 v.ownBlock) (hnn : v2 = .slice none 0 0 → v = .slice none 0 0) :
    OwnE w0 B k w v2 (ys ++ zs) w2 := by
  have hob : ∀ b, v.ownBlock = some b → w.heap.size ≤ b := fun b hb => (h.own.lt b hb).1
  have hB0 := h.B0
  have hlt := rdr_lt h.rdr
  refine ⟨by rw [List.length_append, List.map_append]; exact h2, fun e => h.nn (hnn e), ?_, ?_, h.B0⟩
  · have hw0 := h.rdr
    obtain ⟨a, len, cap, zs, p, hr, hp, hh, hbb, hB⟩ := hw0
    refine ⟨a, len, cap, zs, p, hr, hp, (hg.block B hlt (fun e => by have := hob B e.symm; omega)).trans hh, hbb.grown hg hbb.size (fun b hb => by have := hob b hb; have := h.grow.size; omega), hB⟩
  · exact ⟨hg.os.trans h.grow.os, hg.tape.trans h.grow.tape, hg.output.trans h.grow.output, Nat.le_trans h.grow.size hg.size, fun i hi hne => (hg.block i (Nat.lt_of_lt_of_le hi h.grow.size) (fun e => by have := hob i e.symm; omega)).trans (h.grow.block i hi hne)⟩
theorem wpList_append_drawn {ops : Array Oper} {rest : List Oper} {a : Act} {Q : Exit → Act → World → Prop} {dst : Option Nat} {tt : TypeId} {pos : String} {after : Array Edge} (s x : Operand)
    (w0 : World) (B k : Nat) (w wr : World) (v : Value) (ys : List Int) (z : Int) (hown : OwnE w0 B k w v ys wr) (hl : ys.length ≤ 100000)
    (hs : a.eval s = v) (hx : a.eval x = .slice (some ⟨wr.heap.size, 0, none⟩) 1 1)
    (h : ∀ v' w', OwnE w0 B k w v' (ys ++ [z]) w' → wpList Try.prog ops Q rest (a.put dst v') w') :
    wpList Try.prog ops Q ({ dst := dst, op := .call { callee := .builtin .append, args := #[s, x], argTypes := #[23, 23] }, type := tt, pos := pos, after := after, guard := none } :: rest) a (wr.alloc (.cells #[.int .i64 z] 3)) := by
  obtain ⟨i0, hi, hz0, hz1, hz2⟩ := info_parts intInfo
  refine wpList_append_own _ rfl s x 23 rfl w.heap.size 3 i0 (.int .i64 0) 1 8 Try.underlying23 hi hz0 hz1 hz2 rfl (by decide) _ _ _ hs (hown.own.alloc _) ⟨wr.heap.size, 0, none⟩ 1 1 ([z].map (.int .i64)) hx (by simp) (cells_new _ _ _) (ints_one [z]) (by unfold maxLen; omega) (by omega) (by have := hown.grow.size; simp; omega) ?_
  intro v2 w2 hown2 hgrow2 hnn2
  have hk : OwnE w0 B k w v ys (wr.alloc (.cells #[.int .i64 z] 3)) := hown.drew (rdr_alloc hown.rdr _) (galloc _ _ _)
  exact h v2 w2 (hk.append (zs := [z]) hown2 hgrow2 (fun e => (hnn2.1 e).1))
structure RowE (w0 : World) (B k : Nat) (w : World) (v : Value) (ys : List Int) (w' : World) : Prop where
  row : IntsW w' w.heap.size w'.heap.size v ys
  form : ∃ g cap, v = .slice (some ⟨g, 0, none⟩) ys.length cap
  rdr : Rdr w0 w' B k
  grow : w.grownBy w' (some B)
  B0 : B < w.heap.size
theorem OwnE.rowE {w0 w w' : World} {B k : Nat} {v : Value} {ys : List Int} (h : OwnE w0 B k w v ys w') : RowE w0 B k w v ys w' := by
  rcases h.own.2 with ⟨e, _⟩ | ⟨g, cap, cur, rfl, hb, hbl, hnc, hcm, hcs, htk⟩
  · exact absurd e h.nn
  · refine ⟨⟨some ⟨g, 0, none⟩, cap, rfl, hnc, hcm, fun i hi => ⟨g, 0, rfl, hb, (Array.getElem?_eq_some_iff.1 hbl).1, ?_, frozen_of_row _ _ _ _ _ hbl⟩⟩, ⟨g, cap, rfl⟩, h.rdr, h.grow, h.B0⟩
    have := h.own.cells (g := g) rfl i (.int .i64 (ys.getD i 0)) (by rw [List.getElem?_map, List.getD_eq_getElem?_getD, List.getElem?_eq_getElem hi]; rfl)
    rwa [Addr.add_lit] at this
theorem RowE.drew {w0 w w1 w2 : World} {B k k' : Nat} {v : Value} {ys : List Int} (h : RowE w0 B k w v ys w1) (hR : Rdr w0 w2 B k') (hg : w1.grownBy w2 (some B)) : RowE w0 B k' w v ys w2 := by
  refine ⟨?_, h.form, hR, gtrans h.grow hg, h.B0⟩
  obtain ⟨a, cap, e, h2, h3, h4⟩ := h.row
  refine ⟨a, cap, e, h2, h3, fun i hi => ?_⟩
  obtain ⟨g, p, e, hg0, hg1, hc, hf⟩ := h4 i hi
  have eb := hg.block g hg1 (by have := h.B0; intro e; injection e with e; omega)
  exact ⟨g, p, e, hg0, Nat.lt_of_lt_of_le hg1 hg.size, (World.cell?_of_block (a := ⟨g, p + i, none⟩) eb).trans hc, (World.frozen?_of_block (a := ⟨g, p + i, none⟩) eb).trans hf⟩
theorem RowE.mono {w0 w w1 : World} {B k k' : Nat} {v : Value} {ys : List Int} (h : RowE w0 B k w v ys w1) (hk : k ≤ k') : RowE w0 B k' w v ys w1 := ⟨h.row, h.form, rdr_mono h.rdr hk, h.grow, h.B0⟩
theorem RowE.set {w0 w w1 : World} {B k g n cap i : Nat} {ys : List Int} (h : RowE w0 B k w (.slice (some ⟨g, 0, none⟩) n cap) ys w1) (hi : i < ys.length) (x : Int) : RowE w0 B k w (.slice (some ⟨g, 0, none⟩) n cap) (ys.set i x) (w1.setCell ⟨g, i, none⟩ (.int .i64 x)) := by
  have hr := h.row.set hi x
  rw [Nat.zero_add] at hr
  obtain ⟨a, c, e, h2, h3, h4⟩ := h.row
  obtain ⟨g', p, e', hg0, hg1, _⟩ := h4 i hi
  injection e with e1 e2 e3
  subst e1
  cases e'
  have hb := h.B0
  have hs := rdr_lt h.rdr
  have hw : w0.heap.size ≤ g := by
    obtain ⟨a', len, cap', zs, p', hr', hp, hh, hbb, hB⟩ := h.rdr
    omega
  exact ⟨by simpa [World.setCell] using hr, ⟨g, cap, by rw [List.length_set, e2]⟩, rdr_otherN h.rdr (by omega) hw, grown_setN h.grow hg0, h.B0⟩
theorem RowE.ints {w0 w w1 : World} {B k : Nat} {v : Value} {ys : List Int} (h : RowE w0 B k w v ys w1) : Ints w1 v ys := h.row.ints
def DrewT (w0 : World) (B k : Nat) (w : World) (e : Ending) (w' : World) : Prop := ∃ v ys, e = .returned v ∧ ys.length ≤ 25 ∧ RowE w0 B k w v ys w'
structure DTr (W : World) (v : Value) (ys : List Int) (w' : World) : Prop where
  ints : Ints w' v ys
  len : ys.length ≤ 25
  bel : Below W.heap.size W w'
  form : ∃ g cap, v = .slice (some ⟨g, 0, none⟩) ys.length cap
theorem DTr.of {W w1 w' : World} {B k : Nat} {v : Value} {ys : List Int} (h : RowE W B k w1 v ys w') (hl : ys.length ≤ 25) : DTr W v ys w' := ⟨h.ints, hl, rdr_below h.rdr, h.form⟩
end Go.Proofs.Ytfnmnegddhggaaa
namespace Go.Proofs.Ytfnmnegddhggaaa
open Go.ChangeShapes Go.WideShapes Go.ChangeAt Go.RowKit
set_option linter.unusedVariables false
set_option linter.unusedSimpArgs false
set_option maxRecDepth 100000 in
set_option maxHeartbeats 2000000 in
theorem trace_any (w0 w : World) (B k : Nat) (hR : Rdr w0 w B k) (hk : k ≤ 900000) :
    Calls Try.prog 39 #[.pointer (some ⟨B, 0, none⟩)] w (DrewT w0 B (k + 40) w) := by
  have HS := Lib.hid (OwnE.start hR)
  clear hR
  go_enter Try.func39, Try.ntmps39
  go_wp2_with fail
  refine (pick_any w0 _ B _ _ HS.out.rdr (by omega) (by omega)).mono ?_
  rintro e w1 ⟨mm, h0, h1, rfl, hR1, hO1⟩
  obtain ⟨m, rfl⟩ : ∃ m : Nat, mm = (m : Int) := ⟨mm.toNat, by omega⟩
  have HS1 := Lib.hid (HS.out.drew hR1 hO1.grown)
  have hm : m ≤ 25 := by omega
  clear HS hR1 hO1 h0 h1
  go_wp2_with fail
  refine (pick_any w0 _ B _ _ HS1.out.rdr (by omega) (by omega)).mono ?_
  rintro e w2 ⟨q, hq0, hq1, rfl, hR2, hO2⟩
  have HS2 := Lib.hid (HS1.out.drew hR2 hO2.grown)
  clear HS1 hR2 hO2
  by_cases hq : q = 0
  · subst hq
    clear hm hq0 hq1
    go_wp2_with fail
    refine (pick_any w0 _ B _ _ HS2.out.rdr (by omega) (by omega)).mono ?_
    rintro e w3 ⟨mm, h0, h1, rfl, hR3, hO3⟩
    have hw3 : IntKind.i64.wrap (23 + mm) = 23 + mm := by rw [IntKind.wrap_i64]; omega
    have HS3 := Lib.hid (HS2.out.drew hR3 hO3.grown)
    clear HS2 hR3 hO3
    obtain ⟨m, hm⟩ : ∃ m : Nat, 23 + mm = (m : Int) := ⟨(23 + mm).toNat, by omega⟩
    have hm25 : m ≤ 25 := by omega
    go_wp2_with fail
    try simp only [hm]
    clear hm hw3 h0 h1
    refine (pick_any w0 _ B _ _ HS3.out.rdr (by omega) (by omega)).mono ?_
    rintro e w5 ⟨pg, hp0, hp1, rfl, hR5, hO5⟩
    have HS5 := Lib.hid (HS3.out.drew hR5 hO5.grown)
    clear HS3 hR5 hO5
    have hw5 : IntKind.i64.wrap (2 + pg) = 2 + pg := by rw [IntKind.wrap_i64]; omega
    go_wp2_with fail
    go_loopw [3, 6] (fun c i wr => ∃ (j : Nat) (ys : List Int), j ≤ m ∧ i = .int .i64 j ∧ ys.length = j ∧ Hid (OwnE w0 B (k + 6 + j) w c ys wr)) (fun _ i _ => m - (intOf i).toNat)
    case atStart => exact ⟨0, [], Nat.zero_le _, rfl, rfl, Lib.hid (HS5.out.mono (by omega))⟩
    case round =>
      obtain ⟨j, ys, hj, rfl, hl, HREL⟩ := hrel
      have HL := Lib.hid hl
      clear hl
      by_cases hlt : j < m
      · have hlt' : (j : Int) < (m : Int) := by omega
        go_wp2_with fail
        refine (pick_any w0 _ B _ _ HREL.out.rdr (by omega) (by omega)).mono ?_
        rintro e w6 ⟨x, hx0, hx1, rfl, hR6, hO6⟩
        have HS6 := Lib.hid (HREL.out.drew hR6 hO6.grown)
        clear HREL hR6 hO6
        go_wp2_with (at_builtin; refine wpList_append_drawn (.tmp 24) (.tmp 28) w0 B _ w w6 _ ys x HS6.out (by have := HL.out; omega) rfl rfl ?_; intro v7 w7 hown7)
        have HE := Lib.hid hown7
        clear hown7 HS6
        go_wp2
        go_roundw
        case rel => exact ⟨j + 1, ys ++ [x], by omega, by go_num, by rw [List.length_append, HL.out]; rfl, Lib.hid (HE.out.mono (by omega))⟩
        case measure => simp [intOf]; omega
      · obtain rfl : j = m := by omega
        have HRW := Lib.hid HREL.out.rowE
        clear HREL
        obtain ⟨g, cap, hv⟩ := HRW.out.form
        subst hv
        rw [HL.out] at HRW ⊢
        by_cases h0 : j = 0
        · subst h0
          go_wp2_with fail
          go_ret
          exact ⟨_, ys, rfl, by rw [HL.out]; omega, HRW.out.mono (by omega)⟩
        · have h0' : (0 : Int) < (j : Int) := by omega
          go_wp2_with fail
          refine (pick_any w0 _ B _ _ HRW.out.rdr (by omega) (by omega)).mono ?_
          rintro e w8 ⟨q8, hq80, hq81, rfl, hR8, hO8⟩
          have HR8 := Lib.hid (HRW.out.drew hR8 hO8.grown)
          clear HRW hR8 hO8
          by_cases hq8 : q8 = 0
          · subst hq8
            go_wp2_with fail
            refine (pick_any w0 _ B _ _ HR8.out.rdr (by omega) (by omega)).mono ?_
            rintro e w9 ⟨q9, hq90, hq91, rfl, hR9, hO9⟩
            obtain ⟨i9, rfl⟩ : ∃ i9 : Nat, q9 = (i9 : Int) := ⟨q9.toNat, by omega⟩
            have HR9 := Lib.hid (HR8.out.drew hR9 hO9.grown)
            clear HR8 hR9 hO9
            have hi9 : (i9 : Int) < (j : Int) := hq91
            go_wp2_with fail
            have HRA := Lib.hid (HR9.out.drew (rdr_alloc HR9.out.rdr (.cells #[.int .i64 (-1), .int .i64 15, .int .i64 16] 3)) (galloc _ _ _))
            have hb9 := rdr_lt HR9.out.rdr
            refine (pick_any w0 _ B _ _ HRA.out.rdr (by omega) (by omega)).mono ?_
            rintro e wb ⟨qb, hqb0, hqb1, rfl, hRb, hOb⟩
            have HRB := Lib.hid (HRA.out.drew hRb hOb.grown)
            have hc : ∀ o, wb.cell? ⟨w9.heap.size, o, none⟩ = (w9.alloc (.cells #[.int .i64 (-1), .int .i64 15, .int .i64 16] 3)).cell? ⟨w9.heap.size, o, none⟩ := fun o => hOb.cell (by omega)
            obtain ⟨a9, c9, e9, r1, r2, r3⟩ := HRB.out.row
            have e9' : Value.slice (some ⟨g, 0, none⟩) j cap = .slice a9 ys.length c9 := e9
            injection e9' with e91 e92 e93
            subst e91
            obtain ⟨g', p', e', hg0, hg1, hcg, hfg⟩ := r3 i9 (by rw [← e92]; omega)
            cases e'
            rw [Nat.zero_add] at hcg hfg
            have hii : i9 < ys.length := by rw [← e92]; omega
            have HD := Lib.hid (fun x => (HRB.out.set hii x))
            have HLN := Lib.hid HL.out
            clear r3 HRA HR9 hRb hOb e9 e92 e93
            rcases (by omega : qb = 0 ∨ qb = 1 ∨ qb = 2) with rfl | rfl | rfl
            · have hc0 : wb.cell? ⟨w9.heap.size, 0, none⟩ = some (.int .i64 (-1)) := (hc 0).trans (new_cell rfl)
              clear hc
              go_wp2_with fail
              go_ret
              exact ⟨_, ys.set i9 (-1), rfl, by rw [List.length_set, HLN.out]; omega, (HD.out (-1)).mono (by omega)⟩
            · have hc1 : wb.cell? ⟨w9.heap.size, 1, none⟩ = some (.int .i64 15) := (hc 1).trans (new_cell rfl)
              clear hc
              go_wp2_with fail
              go_ret
              exact ⟨_, ys.set i9 15, rfl, by rw [List.length_set, HLN.out]; omega, (HD.out 15).mono (by omega)⟩
            · have hc2 : wb.cell? ⟨w9.heap.size, 2, none⟩ = some (.int .i64 16) := (hc 2).trans (new_cell rfl)
              clear hc
              go_wp2_with fail
              go_ret
              exact ⟨_, ys.set i9 16, rfl, by rw [List.length_set, HLN.out]; omega, (HD.out 16).mono (by omega)⟩
          · have hq8' : (q8 == 0) = false := by simpa using hq8
            go_wp2_with fail
            go_ret
            exact ⟨_, ys, rfl, by rw [HL.out]; omega, HR8.out.mono (by omega)⟩
  · have hq' : (q == 0) = false := by simpa using hq
    clear hq hq0 hq1
    go_wp2_with fail
    refine (pick_any w0 _ B _ _ HS2.out.rdr (by omega) (by omega)).mono ?_
    rintro e w5 ⟨pg, hp0, hp1, rfl, hR5, hO5⟩
    have HS5 := Lib.hid (HS2.out.drew hR5 hO5.grown)
    clear HS2 hR5 hO5
    have hw5 : IntKind.i64.wrap (2 + pg) = 2 + pg := by rw [IntKind.wrap_i64]; omega
    go_wp2_with fail
    go_loopw [3, 6] (fun c i wr => ∃ (j : Nat) (ys : List Int), j ≤ m ∧ i = .int .i64 j ∧ ys.length = j ∧ Hid (OwnE w0 B (k + 6 + j) w c ys wr)) (fun _ i _ => m - (intOf i).toNat)
    case atStart => exact ⟨0, [], Nat.zero_le _, rfl, rfl, Lib.hid (HS5.out.mono (by omega))⟩
    case round =>
      obtain ⟨j, ys, hj, rfl, hl, HREL⟩ := hrel
      have HL := Lib.hid hl
      clear hl
      by_cases hlt : j < m
      · have hlt' : (j : Int) < (m : Int) := by omega
        go_wp2_with fail
        refine (pick_any w0 _ B _ _ HREL.out.rdr (by omega) (by omega)).mono ?_
        rintro e w6 ⟨x, hx0, hx1, rfl, hR6, hO6⟩
        have HS6 := Lib.hid (HREL.out.drew hR6 hO6.grown)
        clear HREL hR6 hO6
        go_wp2_with (at_builtin; refine wpList_append_drawn (.tmp 24) (.tmp 28) w0 B _ w w6 _ ys x HS6.out (by have := HL.out; omega) rfl rfl ?_; intro v7 w7 hown7)
        have HE := Lib.hid hown7
        clear hown7 HS6
        go_wp2
        go_roundw
        case rel => exact ⟨j + 1, ys ++ [x], by omega, by go_num, by rw [List.length_append, HL.out]; rfl, Lib.hid (HE.out.mono (by omega))⟩
        case measure => simp [intOf]; omega
      · obtain rfl : j = m := by omega
        have HRW := Lib.hid HREL.out.rowE
        clear HREL
        obtain ⟨g, cap, hv⟩ := HRW.out.form
        subst hv
        rw [HL.out] at HRW ⊢
        by_cases h0 : j = 0
        · subst h0
          go_wp2_with fail
          go_ret
          exact ⟨_, ys, rfl, by rw [HL.out]; omega, HRW.out.mono (by omega)⟩
        · have h0' : (0 : Int) < (j : Int) := by omega
          go_wp2_with fail
          refine (pick_any w0 _ B _ _ HRW.out.rdr (by omega) (by omega)).mono ?_
          rintro e w8 ⟨q8, hq80, hq81, rfl, hR8, hO8⟩
          have HR8 := Lib.hid (HRW.out.drew hR8 hO8.grown)
          clear HRW hR8 hO8
          by_cases hq8 : q8 = 0
          · subst hq8
            go_wp2_with fail
            refine (pick_any w0 _ B _ _ HR8.out.rdr (by omega) (by omega)).mono ?_
            rintro e w9 ⟨q9, hq90, hq91, rfl, hR9, hO9⟩
            obtain ⟨i9, rfl⟩ : ∃ i9 : Nat, q9 = (i9 : Int) := ⟨q9.toNat, by omega⟩
            have HR9 := Lib.hid (HR8.out.drew hR9 hO9.grown)
            clear HR8 hR9 hO9
            have hi9 : (i9 : Int) < (j : Int) := hq91
            go_wp2_with fail
            have HRA := Lib.hid (HR9.out.drew (rdr_alloc HR9.out.rdr (.cells #[.int .i64 (-1), .int .i64 15, .int .i64 16] 3)) (galloc _ _ _))
            have hb9 := rdr_lt HR9.out.rdr
            refine (pick_any w0 _ B _ _ HRA.out.rdr (by omega) (by omega)).mono ?_
            rintro e wb ⟨qb, hqb0, hqb1, rfl, hRb, hOb⟩
            have HRB := Lib.hid (HRA.out.drew hRb hOb.grown)
            have hc : ∀ o, wb.cell? ⟨w9.heap.size, o, none⟩ = (w9.alloc (.cells #[.int .i64 (-1), .int .i64 15, .int .i64 16] 3)).cell? ⟨w9.heap.size, o, none⟩ := fun o => hOb.cell (by omega)
            obtain ⟨a9, c9, e9, r1, r2, r3⟩ := HRB.out.row
            have e9' : Value.slice (some ⟨g, 0, none⟩) j cap = .slice a9 ys.length c9 := e9
            injection e9' with e91 e92 e93
            subst e91
            obtain ⟨g', p', e', hg0, hg1, hcg, hfg⟩ := r3 i9 (by rw [← e92]; omega)
            cases e'
            rw [Nat.zero_add] at hcg hfg
            have hii : i9 < ys.length := by rw [← e92]; omega
            have HD := Lib.hid (fun x => (HRB.out.set hii x))
            have HLN := Lib.hid HL.out
            clear r3 HRA HR9 hRb hOb e9 e92 e93
            rcases (by omega : qb = 0 ∨ qb = 1 ∨ qb = 2) with rfl | rfl | rfl
            · have hc0 : wb.cell? ⟨w9.heap.size, 0, none⟩ = some (.int .i64 (-1)) := (hc 0).trans (new_cell rfl)
              clear hc
              go_wp2_with fail
              go_ret
              exact ⟨_, ys.set i9 (-1), rfl, by rw [List.length_set, HLN.out]; omega, (HD.out (-1)).mono (by omega)⟩
            · have hc1 : wb.cell? ⟨w9.heap.size, 1, none⟩ = some (.int .i64 15) := (hc 1).trans (new_cell rfl)
              clear hc
              go_wp2_with fail
              go_ret
              exact ⟨_, ys.set i9 15, rfl, by rw [List.length_set, HLN.out]; omega, (HD.out 15).mono (by omega)⟩
            · have hc2 : wb.cell? ⟨w9.heap.size, 2, none⟩ = some (.int .i64 16) := (hc 2).trans (new_cell rfl)
              clear hc
              go_wp2_with fail
              go_ret
              exact ⟨_, ys.set i9 16, rfl, by rw [List.length_set, HLN.out]; omega, (HD.out 16).mono (by omega)⟩
          · have hq8' : (q8 == 0) = false := by simpa using hq8
            go_wp2_with fail
            go_ret
            exact ⟨_, ys, rfl, by rw [HL.out]; omega, HR8.out.mono (by omega)⟩
end Go.Proofs.Ytfnmnegddhggaaa
namespace Go.Proofs.Ytfnmnegddhggaaa
open Go.ChangeShapes Go.WideShapes Go.ChangeAt Go.RowKit
set_option linter.unusedVariables false
theorem row_of_trod {H : Type} {enc : TypeId × Value → H} {P : Program} {w : World} {base : Nat} {held : Bool} {t e : TypeId} {fuel : Nat} {a : Option Addr} {len cap : Nat} {x : DataW H × List MemPlace}
    (ht : P.underlying t = some (.slice e)) (he : P.underlying e = some (.int .u8)) (ce : P.cellsOf e = 1)
    (h : DataW.trod enc P w base (fun _ => true) held fuel t (Value.slice a len cap).cells.toList = some x) : ∃ zs, Row .u8 w a len cap zs := by
  rcases open_ints ht he ce h with ⟨hcs, _⟩ | ⟨x, l, c, zs, hcs, _, hl, hm, hz, _, hcell, hwz⟩
  · simp [Value.cells] at hcs
    obtain ⟨rfl, rfl, rfl⟩ := hcs
    exact ⟨[], .inl ⟨rfl, rfl, rfl, rfl⟩⟩
  · simp [Value.cells] at hcs
    obtain ⟨rfl, rfl, rfl⟩ := hcs
    exact ⟨zs, .inr ⟨_, rfl, hl, hm, by simpa using hz, hcell, hwz⟩⟩
end Go.Proofs.Ytfnmnegddhggaaa
namespace Go.Proofs.Ytfnmnegddhggaaa
open Go.ChangeShapes Go.WideShapes Go.ChangeAt Go.RowKit
set_option linter.unusedVariables false
set_option linter.unusedSimpArgs false
theorem row_len {k : IntKind} {w : World} {a : Option Addr} {len cap : Nat} {zs : List Int} (hr : Row k w a len cap zs) : len ≤ 9223372036854775807 := by
  rcases hr with ⟨_, rfl, rfl, _⟩ | ⟨x, _, hl, hm, _⟩
  · omega
  · unfold maxLen at hm; omega
end Go.Proofs.Ytfnmnegddhggaaa
