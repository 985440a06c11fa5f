/- What the proofs stand on, part 11. -/
import Derived.Test.YtaalnjinocicgaaRows
import Derived.Test.YtaalnjinocicgaaW1
import Derived.Test.YtaalnjinocicgaaW3
import Derived.Test.YtaalnjinocicgaaW5
import Derived.Test.YtaalnjinocicgaaW6
import Derived.Test.YtaalnjinocicgaaW7
import Derived.Test.YtaalnjinocicgaaW8
import Derived.Test.YtaalnjinocicgaaW9
import Derived.Test.YtaalnjinocicgaaW10
set_option linter.unusedSimpArgs false
set_option linter.unusedVariables false
namespace Go.Proofs.Ytaalnjinocicgaa
open Go.ChangeShapes Go.WideShapes Go.ChangeAt Go.RowKit
set_option linter.unusedVariables false
theorem OwnI.grow {w wr w2 : World} {v v2 : Value} {ys zs : List Int} {o : Obj} {n : Nat} (h : OwnI w v ys wr) (hn : n = ys.length + zs.length) (h2 : w2.ownsRow w.heap.size 3 1 v2 n (ys.map (.int .i64) ++ zs.map (.int .i64))) (hg : (wr.alloc o).grownBy w2 v.ownBlock) (hnn : v2 = .slice none 0 0 → v = .slice none 0 0) :
    OwnI w v2 (ys ++ zs) w2 := by
  subst hn
  refine ⟨by rw [List.length_append, List.map_append]; exact h2, (h.bel.alloc h.bel.size o).grown hg (by have := h.bel.size; simp; omega) (fun b hb => (h.own.lt b hb).1), fun e => h.nn (hnn e)⟩
end Go.Proofs.Ytaalnjinocicgaa
namespace Go.Proofs.Ytaalnjinocicgaa
open Go.ChangeShapes Go.WideShapes Go.ChangeAt Go.RowKit
set_option linter.unusedVariables false
def Row (k : IntKind) (w : World) (a : Option Addr) (len cap : Nat) (zs : List Int) : Prop :=
  (a = none ∧ len = 0 ∧ cap = 0 ∧ zs = []) ∨
  ∃ x, a = some x ∧ len ≤ cap ∧ cap ≤ maxLen ∧ zs.length = cap ∧ (∀ i, i < zs.length → w.cell? (x.add i) = some (.int k (zs.getD i 0))) ∧ ∀ n ∈ zs, (Lit.int k n).wf = true
def Rdr (w0 w : World) (B k : Nat) : Prop :=
  ∃ (a : Option Addr) (len cap : Nat) (zs : List Int) (p : Nat), Row .u8 w0 a len cap zs ∧ p ≤ k ∧
    w.heap[B]? = some (.cells #[.slice a len cap, .int .i64 p] 74 (0, 0)) ∧ Below w0.heap.size w0 w ∧ w0.heap.size ≤ B
def Only (B : Nat) (w w' : World) : Prop := w'.os = w.os ∧ w'.tape = w.tape ∧ w'.output = w.output ∧ w'.heap.size = w.heap.size ∧ ∀ i, i ≠ B → w'.heap[i]? = w.heap[i]?
def Picked (n : Int) (w0 : World) (B k : Nat) (w : World) (e : Ending) (w' : World) : Prop :=
  ∃ m : Int, 0 ≤ m ∧ m < n ∧ e = .returned (.int .i64 m) ∧ Rdr w0 w' B k ∧ Only B w w'
theorem xor_nn (E : Int) (h0 : 0 ≤ E) (h1 : E < 1000000000000) : 0 ≤ bits .xor .i64 E (E / 64) := by
  obtain ⟨X, rfl⟩ : ∃ X : Nat, E = X := ⟨E.toNat, by omega⟩
  have hd : ((X : Int) / 64) = ((X / 64 : Nat) : Int) := by omega
  rw [hd]
  have hx : X ^^^ (X / 64) < 2 ^ 40 := Nat.xor_lt_two_pow (by omega) (by omega)
  have k1 : (BitVec.ofInt 64 (X : Int)).toNat = X := by
    rw [BitVec.ofInt_natCast, BitVec.toNat_ofNat]; exact Nat.mod_eq_of_lt (by omega)
  have k2 : (BitVec.ofInt 64 ((X / 64 : Nat) : Int)).toNat = X / 64 := by
    rw [BitVec.ofInt_natCast, BitVec.toNat_ofNat]; exact Nat.mod_eq_of_lt (by omega)
  show 0 ≤ IntKind.i64.wrap ((BitVec.ofInt 64 (X : Int) ^^^ BitVec.ofInt 64 ((X / 64 : Nat) : Int)).toNat : Int)
  rw [BitVec.toNat_xor, k1, k2]
  have := IntWalk.i64_in ((X ^^^ (X / 64) : Nat) : Int) (by omega)
  rw [this]
  omega
theorem two_cell0 {w : World} {B : Nat} {u v : Value} {t : TypeId} (h : w.heap[B]? = some (.cells #[u, v] t (0, 0))) : w.cell? ⟨B, 0, none⟩ = some u := by simp [World.cell?, h]
theorem two_cell1 {w : World} {B : Nat} {u v : Value} {t : TypeId} (h : w.heap[B]? = some (.cells #[u, v] t (0, 0))) : w.cell? ⟨B, 1, none⟩ = some v := by simp [World.cell?, h]
theorem two_free {w : World} {B : Nat} {u v : Value} {t : TypeId} {o : Nat} (h : w.heap[B]? = some (.cells #[u, v] t (0, 0))) : w.frozen? ⟨B, o, none⟩ = false := by simp [World.frozen?, h]
theorem two_set1 {w : World} {B : Nat} {u v x : Value} {t : TypeId} (h : w.heap[B]? = some (.cells #[u, v] t (0, 0))) : (w.setCell ⟨B, 1, none⟩ x).heap[B]? = some (.cells #[u, x] t (0, 0)) := by
  simp only [World.setCell, Array.getElem?_modify, h]
  rfl
theorem only_set {w : World} {B o : Nat} {x : Value} {d : Nat} : Only B w ((w.setCell ⟨B, o, none⟩ x).drewN d) :=
  ⟨rfl, rfl, rfl, by simp [World.setCell], fun i hi => by simpa using Below.heap_setCell w ⟨B, o, none⟩ x i hi⟩
theorem rdr_set {w0 w : World} {B k : Nat} {a : Option Addr} {len cap : Nat} {zs : List Int} {p : Nat} (hr : Row .u8 w0 a len cap zs) (hp : p ≤ k)
    (h : w.heap[B]? = some (.cells #[.slice a len cap, .int .i64 p] 74 (0, 0))) (hb : Below w0.heap.size w0 w) (hB : w0.heap.size ≤ B) (d : Nat) :
    Rdr w0 ((w.setCell ⟨B, 1, none⟩ (.int .i64 ((p : Int) + 1))).drewN d) B (k + 1) :=
  ⟨a, len, cap, zs, p + 1, hr, by omega, by simpa using two_set1 h, (by have := hb.setCell (p := ⟨B, 1, none⟩) hB (.int .i64 ((p : Int) + 1)); exact ⟨this.os, this.tape, this.output, this.size, this.block⟩), hB⟩
theorem picked_mk {w0 w : World} {B k : Nat} {a : Option Addr} {len cap : Nat} {zs : List Int} {p : Nat} (hr : Row .u8 w0 a len cap zs) (hp : p ≤ k)
    (h : w.heap[B]? = some (.cells #[.slice a len cap, .int .i64 p] 74 (0, 0))) (hb : Below w0.heap.size w0 w) (hB : w0.heap.size ≤ B) (d : Nat) {n m : Int} (h0 : 0 ≤ m) (h1 : m < n) :
    Picked n w0 B (k + 1) w (.returned (.int .i64 m)) ((w.setCell ⟨B, 1, none⟩ (.int .i64 ((p : Int) + 1))).drewN d) :=
  ⟨m, h0, h1, rfl, rdr_set hr hp h hb hB d, only_set⟩
theorem byte_bd {zs : List Int} (hw : ∀ n ∈ zs, (Lit.int .u8 n).wf = true) (i : Nat) : 0 ≤ zs.getD i 0 ∧ zs.getD i 0 ≤ 255 := by
  by_cases h : i < zs.length
  · have e : zs.getD i 0 = zs[i] := by simp [List.getD, h]
    have := hw zs[i] (List.getElem_mem h)
    rw [e]
    simpa [Lit.wf, IntKind.min, IntKind.max, IntKind.signed, IntKind.bits] using this
  · have e : zs.getD i 0 = 0 := by simp [List.getD, List.getElem?_eq_none (Nat.le_of_not_lt h)]
    omega
theorem mod_lo {a n : Int} (h : 0 ≤ a) : 0 ≤ a.tmod n := Int.tmod_nonneg n h
theorem mod_hi {a n : Int} (h : 0 ≤ a) (hn : 1 ≤ n) : a.tmod n < n := Int.tmod_lt_of_pos a (by omega)
theorem pick_empty (w0 w : World) (B k : Nat) (n : Int) (a : Option Addr) (cap : Nat) (zs : List Int) (p : Nat) (hr : Row .u8 w0 a 0 cap zs) (hp : p ≤ k) (hk : k ≤ 1000000)
    (h : w.heap[B]? = some (.cells #[.slice a 0 cap, .int .i64 p] 74 (0, 0))) (hb : Below w0.heap.size w0 w) (hB : w0.heap.size ≤ B) (hn : 1 ≤ n) :
    Calls Try.prog 37 #[.pointer (some ⟨B, 0, none⟩), .int .i64 n] w (Picked n w0 B (k + 1) w) := by
  have c0 := two_cell0 h
  have c1 := two_cell1 h
  have f1 : w.frozen? ⟨B, 1, none⟩ = false := two_free h
  have hp' : (p : Int) ≤ 1000000 := by omega
  have hd : decide (n < 1) = false := by simp; omega
  have H := Lib.hid h
  clear h
  go_enter Try.func37, Try.ntmps37
  go_wp2
  go_ret
  exact picked_mk hr hp H.out hb hB 0 (by omega) (by omega)
theorem pick_near (w0 w : World) (B k : Nat) (n : Int) (b off len cap : Nat) (zs : List Int) (p : Nat) (c : Int) (hr : Row .u8 w0 (some ⟨b, off, none⟩) len cap zs) (hp : p ≤ k) (hk : k ≤ 1000000)
    (h : w.heap[B]? = some (.cells #[.slice (some ⟨b, off, none⟩) len cap, .int .i64 p] 74 (0, 0))) (hb : Below w0.heap.size w0 w) (hB : w0.heap.size ≤ B) (hn : 1 ≤ n)
    (hlen : p < len) (hbB : b ≠ B) (hc : w.cell? ⟨b, off + p, none⟩ = some (.int .u8 c)) (hz0 : 0 ≤ c) (hz1 : c ≤ 255) :
    Calls Try.prog 37 #[.pointer (some ⟨B, 0, none⟩), .int .i64 n] w (Picked n w0 B (k + 1) w) := by
  have c0 := two_cell0 h
  have c1 := two_cell1 h
  have f1 : w.frozen? ⟨B, 1, none⟩ = false := two_free h
  have hp' : (p : Int) ≤ 1000000 := by omega
  have hd : decide (n < 1) = false := by simp; omega
  have hl0 : ((len : Int) == 0) = false := by simp; omega
  have hl1 : (p : Int) < (len : Int) := by omega
  have hc' : (w.setCell ⟨B, 1, none⟩ (.int .i64 ((p : Int) + 1))).cell? ⟨b, off + p, none⟩ = some (.int .u8 c) := by
    rw [World.cell?_of_block (Below.heap_setCell w ⟨B, 1, none⟩ _ b hbB)]; exact hc
  have hm0 : 0 ≤ c % n := Int.emod_nonneg _ (by omega)
  have hm1 : c % n < n := Int.emod_lt_of_pos _ (by omega)
  have hnz : (n == 0) = false := by simp; omega
  have H := Lib.hid h
  clear h
  go_enter Try.func37, Try.ntmps37
  go_wp2
  go_ret
  exact picked_mk hr hp H.out hb hB 0 hm0 hm1
theorem pick_far (w0 w : World) (B k : Nat) (n : Int) (b off len cap : Nat) (zs : List Int) (p : Nat) (x y : Int) (hr : Row .u8 w0 (some ⟨b, off, none⟩) len cap zs) (hp : p ≤ k) (hk : k ≤ 1000000)
    (h : w.heap[B]? = some (.cells #[.slice (some ⟨b, off, none⟩) len cap, .int .i64 p] 74 (0, 0))) (hb : Below w0.heap.size w0 w) (hB : w0.heap.size ≤ B) (hn : 1 ≤ n)
    (hlen : len ≤ p) (hl : 0 < len) (hbB : b ≠ B) (hx : w.cell? ⟨b, off + p % len, none⟩ = some (.int .u8 x)) (hy : w.cell? ⟨b, off + (p * 7 + 3) % len, none⟩ = some (.int .u8 y))
    (hx0 : 0 ≤ x) (hx1 : x ≤ 255) (hy0 : 0 ≤ y) (hy1 : y ≤ 255) :
    Calls Try.prog 37 #[.pointer (some ⟨B, 0, none⟩), .int .i64 n] w (Picked n w0 B (k + 1) w) := by
  have c0 := two_cell0 h
  have c1 := two_cell1 h
  have f1 : w.frozen? ⟨B, 1, none⟩ = false := two_free h
  have hp' : (p : Int) ≤ 1000000 := by omega
  have hd : decide (n < 1) = false := by simp; omega
  have hl0 : ((len : Int) == 0) = false := by simp; omega
  have hl1 : decide ((p : Int) < (len : Int)) = false := by simp; omega
  have hl2 : decide (p < len) = false := by simp; omega
  have hx' : (w.setCell ⟨B, 1, none⟩ (.int .i64 ((p : Int) + 1))).cell? ⟨b, off + p % len, none⟩ = some (.int .u8 x) := by
    rw [World.cell?_of_block (Below.heap_setCell w ⟨B, 1, none⟩ _ b hbB)]; exact hx
  have hy' : (w.setCell ⟨B, 1, none⟩ (.int .i64 ((p : Int) + 1))).cell? ⟨b, off + (p * 7 + 3) % len, none⟩ = some (.int .u8 y) := by
    rw [World.cell?_of_block (Below.heap_setCell w ⟨B, 1, none⟩ _ b hbB)]; exact hy
  have hi1 : (p : Int) % (len : Int) < (len : Int) := Int.emod_lt_of_pos _ (by omega)
  have hi2 : 0 ≤ (p : Int) % (len : Int) := Int.emod_nonneg _ (by omega)
  have hq0 : 0 ≤ (p : Int) / (len : Int) := Int.ediv_nonneg (by omega) (by omega)
  have hq1 : (p : Int) / (len : Int) ≤ 1000000 := Int.le_trans (Int.ediv_le_self _ (by omega)) (by omega)
  have hj1 : ((p : Int) * 7 + 3) % (len : Int) < (len : Int) := Int.emod_lt_of_pos _ (by omega)
  have hj2 : 0 ≤ ((p : Int) * 7 + 3) % (len : Int) := Int.emod_nonneg _ (by omega)
  have hnz : (n == 0) = false := by simp; omega
  have H := Lib.hid h
  clear h
  go_enter Try.func37, Try.ntmps37
  go_wp2_with fail
  go_quiet (fail)
  go_wp2
  go_ret
  have hE := xor_nn (x * 131 + y * 1117 + (p : Int) * 29 + (p : Int) / (len : Int) * 53) (by omega) (by omega)
  refine picked_mk hr hp H.out hb hB _ (mod_lo hE) (mod_hi hE (by omega))
end Go.Proofs.Ytaalnjinocicgaa
namespace Go.Proofs.Ytaalnjinocicgaa
open Go.ChangeShapes Go.WideShapes Go.ChangeAt Go.RowKit
set_option linter.unusedVariables false
theorem pick_any (w0 w : World) (B k : Nat) (n : Int) (hR : Rdr w0 w B k) (hk : k ≤ 1000000) (hn : 1 ≤ n) :
    Calls Try.prog 37 #[.pointer (some ⟨B, 0, none⟩), .int .i64 n] w (Picked n w0 B (k + 1) w) := by
  obtain ⟨a, len, cap, zs, p, hr, hp, hh, hb, hB⟩ := hR
  have hr' := hr
  rcases hr' with ⟨rfl, rfl, rfl, rfl⟩ | ⟨x, rfl, hl, hm, hz, hcell, hwz⟩
  · exact pick_empty w0 w B k n _ _ _ p hr hp hk hh hb hB hn
  · by_cases h0 : len = 0
    · subst h0
      exact pick_empty w0 w B k n _ _ _ p hr hp hk hh hb hB hn
    · obtain ⟨b, off, rfl, hcs⟩ := ints_at hcell (by omega)
      have hbl : b < w0.heap.size := cell_lt (hcs 0 (by omega))
      have hbB : b ≠ B := by omega
      have hat : ∀ j, j < zs.length → w.cell? ⟨b, off + j, none⟩ = some (.int .u8 (zs.getD j 0)) := fun j hj => (hb.cell (p := ⟨b, off + j, none⟩) hbl).trans (hcs j hj)
      by_cases h1 : p < len
      · exact pick_near w0 w B k n b off len cap zs p _ hr hp hk hh hb hB hn h1 hbB (hat p (by omega)) (byte_bd hwz p).1 (byte_bd hwz p).2
      · have i1 : p % len < len := Nat.mod_lt _ (by omega)
        have i2 : (p * 7 + 3) % len < len := Nat.mod_lt _ (by omega)
        exact pick_far w0 w B k n b off len cap zs p _ _ hr hp hk hh hb hB hn (by omega) (by omega) hbB (hat _ (by omega)) (hat _ (by omega)) (byte_bd hwz _).1 (byte_bd hwz _).2 (byte_bd hwz _).1 (byte_bd hwz _).2
theorem rdr_lt {w0 w : World} {B k : Nat} (h : Rdr w0 w B k) : B < w.heap.size := by
  obtain ⟨a, len, cap, zs, p, hr, hp, hh, hb, hB⟩ := h
  rcases Nat.lt_or_ge B w.heap.size with h' | h'
  · exact h'
  · rw [Array.getElem?_eq_none h'] at hh; cases hh
theorem rdr_mono {w0 w : World} {B k k' : Nat} (h : Rdr w0 w B k) (hk : k ≤ k') : Rdr w0 w B k' := by
  obtain ⟨a, len, cap, zs, p, hr, hp, hh, hb, hB⟩ := h
  exact ⟨a, len, cap, zs, p, hr, by omega, hh, hb, hB⟩
theorem rdr_below {w0 w : World} {B k : Nat} (h : Rdr w0 w B k) : Below w0.heap.size w0 w := by
  obtain ⟨a, len, cap, zs, p, hr, hp, hh, hb, hB⟩ := h
  exact hb
theorem Only.grown {B : Nat} {w w' : World} (h : Only B w w') : w.grownBy w' (some B) :=
  ⟨h.1, h.2.1, h.2.2.1, by rw [h.2.2.2.1]; exact Nat.le_refl _, fun i hi hne => h.2.2.2.2 i (fun e => hne (by rw [e]))⟩
theorem Only.cell {B : Nat} {w w' : World} (h : Only B w w') {b o : Nat} (hb : b ≠ B) : w'.cell? ⟨b, o, none⟩ = w.cell? ⟨b, o, none⟩ := World.cell?_of_block (h.2.2.2.2 b hb)
theorem gtrans {B : Nat} {a b c : World} (h : a.grownBy b (some B)) (k : b.grownBy c (some B)) : a.grownBy c (some B) :=
  ⟨k.os.trans h.os, k.tape.trans h.tape, k.output.trans h.output, Nat.le_trans h.size k.size, fun i hi hne => (k.block i (Nat.lt_of_lt_of_le hi h.size) hne).trans (h.block i hi hne)⟩
theorem new_cell {w : World} {cs : Array Value} {t : TypeId} {j : Nat} {v : Value} (h : cs[j]? = some v) : (w.alloc (.cells cs t)).cell? ⟨w.heap.size, j, none⟩ = some v := by
  have e : (w.alloc (.cells cs t)).heap[w.heap.size]? = some (.cells cs t) := by
    show (w.heap.push _)[w.heap.size]? = _
    simp
  unfold World.cell?
  rw [e]
  exact h
theorem open_any (w : World) (a : Option Addr) (len cap : Nat) (zs : List Int) (hr : Row .u8 w a len cap zs) :
    Calls Try.prog 35 #[.slice a len cap] w fun e w' => e = .returned (.pointer (some ⟨w.heap.size, 0, none⟩)) ∧ Rdr w w' w.heap.size 0 := by
  have hlm : len ≤ 9223372036854775807 ∧ len ≤ cap ∧ cap ≤ 9223372036854775807 := by
    rcases hr with ⟨_, rfl, rfl, _⟩ | ⟨x, _, hl, hm, _⟩
    · omega
    · unfold maxLen at hm; omega
  obtain ⟨hlm, hlc, hcm⟩ := hlm
  by_cases hl : 2000 < len
  · have hl' : (2000 : Int) < (len : Int) := by omega
    rcases hr with ⟨rfl, rfl, rfl, _⟩ | ⟨x, rfl, hlx, hm, hz, hcell, hwz⟩
    · omega
    have hR : Rdr w (w.alloc (.cells #[.slice (some x) 2000 cap, .int .i64 0] 74)) w.heap.size 0 :=
      ⟨some x, 2000, cap, zs, 0, .inr ⟨x, rfl, by omega, hm, hz, hcell, hwz⟩, Nat.le_refl _, by show (w.heap.push _)[w.heap.size]? = _; simp, (Below.refl _ _).alloc (Nat.le_refl _) _, Nat.le_refl _⟩
    go_enter Try.func35, Try.ntmps35
    go_wp2_with fail
    go_ret
    exact ⟨rfl, hR⟩
  · have hl' : (len : Int) ≤ 2000 := by omega
    have hl2 : decide ((2000 : Int) < (len : Int)) = false := by simp; omega
    have hl3 : decide (2000 < len) = false := by simp; omega
    have hR : Rdr w (w.alloc (.cells #[.slice a len cap, .int .i64 0] 74)) w.heap.size 0 :=
      ⟨a, len, cap, zs, 0, hr, Nat.le_refl _, by show (w.heap.push _)[w.heap.size]? = _; simp, (Below.refl _ _).alloc (Nat.le_refl _) _, Nat.le_refl _⟩
    go_enter Try.func35, Try.ntmps35
    go_wp2_with fail
    go_ret
    exact ⟨rfl, hR⟩
end Go.Proofs.Ytaalnjinocicgaa
namespace Go.Proofs.Ytaalnjinocicgaa
open Go.ChangeShapes Go.WideShapes Go.ChangeAt Go.RowKit
set_option linter.unusedVariables false
set_option linter.unusedSimpArgs false
def noRows : Rs := List.replicate 16 []
theorem noRows_get (k : Nat) : noRows.getD k [] = [] := by
  unfold noRows
  by_cases h : k < 16
  · rw [getD_lt (by simpa using h), List.getElem_replicate]
  · rw [List.getD_eq_getElem?_getD, List.getElem?_eq_none (by simpa using h)]; rfl
theorem noRows_len : noRows.length = 16 := by simp [noRows]
set_option maxRecDepth 100000 in
set_option maxHeartbeats 1000000 in
theorem l31New_any (w : World) : Calls Try.prog 50 #[] w (ToMat noRows w) := by
  obtain ⟨i1, hj, hy0, hy1, hy2⟩ := info_parts intsInfo
  have HJ := Lib.hid hj
  have HY0 := Lib.hid hy0
  have HY1 := Lib.hid hy1
  have HY2 := Lib.hid hy2
  clear hj hy0 hy1 hy2
  go_enter Try.func50, Try.ntmps50
  go_wp2
  go_loopw [1, 2] (fun u i wr => ∃ (k : Nat) (V : Nat → Value) (G : Nat → Nat), k ≤ 16 ∧ i = .int .i64 k ∧ u ≠ .slice none 0 0 ∧ CRel w noRows k u wr V G) (fun _ i _ => 16 - (intOf i).toNat)
  case atStart => exact ⟨0, _, _, Nat.zero_le _, rfl, (fun h => by cases h), CRel.start w noRows⟩
  case round =>
    obtain ⟨k, V, G, hk, rfl, hun, hrel⟩ := hrel
    by_cases hlt : k < 16
    · have hlt' : (k : Int) < 16 := by omega
      have hown1 : (wr.alloc (.cells #[] 3)).ownsRow wr.heap.size 3 1 (.slice (some ⟨wr.heap.size, 0, none⟩) ([] : List Int).length 0) ([] : List Int).length (([] : List Int).map (.int .i64)) := World.ownsRow_made wr #[] 0 (Nat.le_refl _) (Nat.zero_le _) rfl
      have hgrow1 : (wr.alloc (.cells #[] 3)).grownBy (wr.alloc (.cells #[] 3)) (some wr.heap.size) := ⟨rfl, rfl, rfl, Nat.le_refl _, fun _ _ _ => rfl⟩
      have hszr := hrel.bel.size
      go_wp2_with (at_builtin; refine wpList_append_own _ rfl (.tmp 8) (.tmp 10) 23 rfl w.heap.size 24 i1 (.slice none 0 0) 1 24 Try.underlying23 HJ.out HY0.out HY1.out HY2.out rfl (by decide) _ _ _ rfl (hrel.own_mid hgrow1) ⟨wr.heap.size + 1, 0, none⟩ 1 1 [.slice (some ⟨wr.heap.size, 0, none⟩) 0 0] rfl rfl (by have := cell_one_new (wr.alloc (.cells #[] 3)) (.slice (some ⟨wr.heap.size, 0, none⟩) 0 0) 24; simpa using this) (by intro u hu; simp at hu; subst hu; rfl) (by unfold maxLen; omega) (by omega) (by simp; omega) ?_; intro v2 w2 hown2 hgrow2 hnn2)
      have HREL : Hid (∃ V' G', CRel w noRows (k + 1) v2 w2 V' G') := Lib.hid (hrel.step (xs := []) (noRows_get k) ⟨_, _, rfl⟩ hown1 hgrow1 hown2 hgrow2)
      have hn2 : v2 ≠ .slice none 0 0 := fun e => hun (hnn2.1 e).1
      clear hown1 hgrow1 hown2 hgrow2 hrel hnn2
      go_wp2
      go_roundw
      case rel =>
        obtain ⟨V', G', hR⟩ := HREL.out
        exact ⟨k + 1, V', G', by omega, by go_num, hn2, hR⟩
      case measure => simp [intOf]; omega
    · have e : k = 16 := by omega
      subst e
      go_wp2
      go_ret
      exact ⟨_, rfl, hrel.mat noRows_len.symm hun, hrel.bel⟩
theorem grown_of_below {w w' : World} {B : Nat} (h : Below w.heap.size w w') : w.grownBy w' (some B) := ⟨h.os, h.tape, h.output, h.size, fun i hi _ => h.block i hi⟩
theorem rdr_of_below {w0 w w' : World} {B k : Nat} (h : Rdr w0 w B k) (hb : Below w.heap.size w w') : Rdr w0 w' B k := by
  have hlt := rdr_lt h
  obtain ⟨a, len, cap, zs, p, hr, hp, hh, hbb, hB⟩ := h
  exact ⟨a, len, cap, zs, p, hr, hp, (hb.block B hlt).trans hh, hbb.trans (hb.mono hbb.size), hB⟩
theorem mat_wide {w : World} {B0 B1 C0 C1 : Nat} {v : Value} {xss : Rs} (h : MatW w B0 B1 v xss) (h0 : C0 ≤ B0) (h1 : B1 ≤ C1) : MatW w C0 C1 v xss := by
  obtain ⟨a, cap, A, C, e, q1, q2, q3⟩ := h
  refine ⟨a, cap, A, C, e, q1, q2, ⟨fun j hj => ?_, fun j hj i hi => ?_, q3.apart⟩⟩
  · obtain ⟨b, o, e, r0, r1, r⟩ := q3.top j hj
    exact ⟨b, o, e, by omega, by omega, r⟩
  · obtain ⟨g, p, e, r0, r1, r⟩ := q3.row j hj i hi
    exact ⟨g, p, e, by omega, by omega, r⟩
theorem mat_take {w : World} {B0 B1 n cap k : Nat} {a : Option Addr} {xss : Rs} (h : MatW w B0 B1 (.slice a n cap) xss) (hk : k ≤ n) : MatW w B0 B1 (.slice a k cap) (xss.take k) := by
  obtain ⟨a', cap', A, C, e, q1, q2, q3⟩ := h
  injection e with e1 e2 e3
  subst e1
  subst e3
  have hl : (xss.take k).length = k := by rw [List.length_take]; omega
  have hg : ∀ j, j < k → (xss.take k).getD j [] = xss.getD j [] := fun j hj => by rw [List.getD_eq_getElem?_getD, List.getD_eq_getElem?_getD, List.getElem?_take, if_pos hj]
  refine ⟨a, cap, A, C, by rw [hl], by rw [hl]; omega, q2, ⟨fun j hj => ?_, fun j hj i hi => ?_, fun j hj j' hj' hne p0 p1 => ?_⟩⟩
  · rw [hl] at hj
    simp only [hg j hj]
    exact q3.top j (by omega)
  · rw [hl] at hj
    simp only [hg j hj] at hi ⊢
    exact q3.row j (by omega) i hi
  · rw [hl] at hj hj'
    simp only [hg j hj, hg j' hj'] at p0 p1 ⊢
    exact q3.apart j (by omega) j' (by omega) hne p0 p1
structure DSw (w0 : World) (B k : Nat) (w : World) (v : Value) (xss : Rs) (w' : World) : Prop where
  mat : MatW w' w.heap.size w'.heap.size v xss
  rdr : Rdr w0 w' B k
  grow : w.grownBy w' (some B)
  B0 : B < w.heap.size
theorem DSw.drew {w0 w w' w2 : World} {B k k' : Nat} {v : Value} {xss : Rs} (h : DSw w0 B k w v xss w') (hR : Rdr w0 w2 B k') (hg : w'.grownBy w2 (some B)) : DSw w0 B k' w v xss w2 :=
  ⟨mat_wide (h.mat.of_blocks (fun b h0 h1 => hg.block b h1 (by have := h.B0; intro e; injection e with e; omega))) (Nat.le_refl _) hg.size, hR, gtrans h.grow hg, h.B0⟩
theorem DSw.keep {w0 w w' w2 : World} {B k : Nat} {v : Value} {xss : Rs} (h : DSw w0 B k w v xss w') (hb : Below w'.heap.size w' w2) : DSw w0 B k w v xss w2 := h.drew (rdr_of_below h.rdr hb) (grown_of_below hb)
theorem DSw.mono {w0 w w' : World} {B k k' : Nat} {v : Value} {xss : Rs} (h : DSw w0 B k w v xss w') (hk : k ≤ k') : DSw w0 B k' w v xss w' := ⟨h.mat, rdr_mono h.rdr hk, h.grow, h.B0⟩
theorem DSw.new {w0 w w' w2 : World} {B k : Nat} {v u : Value} {xss yss : Rs} (h : DSw w0 B k w v xss w') (hb : Below w'.heap.size w' w2) (hm : MatW w2 w'.heap.size w2.heap.size u yss) : DSw w0 B k w u yss w2 :=
  ⟨mat_wide hm h.grow.size (Nat.le_refl _), rdr_of_below h.rdr hb, gtrans h.grow (grown_of_below hb), h.B0⟩
theorem DSw.set {w0 w w' w2 : World} {B k n cap b o i c : Nat} {xss : Rs} {ys : List Int} (h : DSw w0 B k w (.slice (some ⟨b, o, none⟩) n cap) xss w') (hb : Below w'.heap.size w' w2) (hi : i < n) (hg2 : w'.heap.size < w2.heap.size) (hlc : ys.length ≤ c) (hcm : c ≤ maxLen)
    (hY : ∀ m, m < ys.length → w2.cell? ⟨w'.heap.size, m, none⟩ = some (.int .i64 (ys.getD m 0)) ∧ w2.frozen? ⟨w'.heap.size, m, none⟩ = false) :
    DSw w0 B k w (.slice (some ⟨b, o, none⟩) n cap) (xss.set i ys) (w2.setCell ⟨b, o + i, none⟩ (.slice (some ⟨w'.heap.size, 0, none⟩) ys.length c)) := by
  have hs : (w2.setCell ⟨b, o + i, none⟩ (.slice (some ⟨w'.heap.size, 0, none⟩) ys.length c)).heap.size = w2.heap.size := by simp
  have hm := mat_set h.mat (w2 := w2) (i := i) (g := w'.heap.size) (ys := ys) (c := c) (fun k _ hk => hb.block k hk) hi (Nat.le_refl _) hg2 hlc hcm hY
  have hbw : w.heap.size ≤ b := by
    obtain ⟨a, cap', A, C, e, q1, q2, q3⟩ := h.mat
    injection e with e1 e2 e3
    obtain ⟨b', o', e, r0, _⟩ := q3.top i (by omega)
    rw [← e1] at e
    cases e
    exact r0
  have hB0 := h.B0
  refine ⟨by rw [hs]; exact hm, ?_, ⟨h.grow.os |> fun e => hb.os.trans e, hb.tape.trans h.grow.tape, hb.output.trans h.grow.output, by rw [hs]; exact Nat.le_trans h.grow.size hb.size, fun j hj hne => (Below.heap_setCell _ _ _ j (by show j ≠ b; omega)).trans ((hb.block j (Nat.lt_of_lt_of_le hj h.grow.size)).trans (h.grow.block j hj hne))⟩, hB0⟩
  have hR := rdr_of_below h.rdr hb
  obtain ⟨a, len, cap', zs, p, hr, hp, hh, hbb, hB⟩ := hR
  exact ⟨a, len, cap', zs, p, hr, hp, (Below.heap_setCell _ _ _ B (by show B ≠ b; omega)).trans hh, hbb.setCell (p := ⟨b, o + i, none⟩) (by
    have h1 := (rdr_below h.rdr).size
    have h2 := hB
    show w0.heap.size ≤ b
    omega) _, hB⟩
end Go.Proofs.Ytaalnjinocicgaa
namespace Go.Proofs.Ytaalnjinocicgaa
open Go.ChangeShapes Go.WideShapes Go.ChangeAt Go.RowKit
set_option linter.unusedVariables false
set_option linter.unusedSimpArgs false
theorem ints_new (w : World) (zs : List Int) (t : TypeId) (hl : zs.length ≤ 1000) : Ints (w.alloc (.cells (zs.map (Value.int .i64)).toArray t)) (.slice (some ⟨w.heap.size, 0, none⟩) zs.length zs.length) zs :=
  ⟨_, _, rfl, Nat.le_refl _, by unfold maxLen; omega, fun i hi => ⟨w.heap.size, 0, rfl, by
    rw [Nat.zero_add]
    have := cell_of_row (w.alloc (.cells (zs.map (Value.int .i64)).toArray t)) w.heap.size i _ _ (0, 0) (heap_alloc_new w _)
    rw [this]
    simp [hi, getD_lt hi]⟩⟩
def Sw4 (xss : Rs) : Prop := xss.length = 16 ∧ ∀ xs ∈ xss, xs.length ≤ 4
theorem Sw4.no : Sw4 noRows := ⟨noRows_len, fun xs hx => by unfold noRows at hx; rw [List.eq_of_mem_replicate hx]; exact Nat.zero_le _⟩
theorem Sw4.set {xss : Rs} (h : Sw4 xss) (i : Nat) {ys : List Int} (hy : ys.length ≤ 4) : Sw4 (xss.set i ys) :=
  ⟨by rw [List.length_set]; exact h.1, fun xs hx => by rcases List.mem_or_eq_of_mem_set hx with hx | rfl; exact h.2 xs hx; exact hy⟩
theorem Sw4.put {xss : Rs} (h : Sw4 xss) {ws : List Int} (hb : sputB xss ws = true) : Sw4 (sput xss ws) := by
  unfold sput
  rw [if_pos hb]
  refine h.set _ ?_
  unfold sputB at hb
  rw [Bool.and_eq_true, Bool.and_eq_true] at hb
  rw [words_len hb.2.1]
  exact Nat.le_refl _
def DrewSw (w0 : World) (B k : Nat) (w : World) (e : Ending) (w' : World) : Prop := ∃ v xss, e = .returned v ∧ (xss.length ≤ 16 ∧ ∀ xs ∈ xss, xs.length ≤ 4) ∧ DSw w0 B k w v xss w'
set_option maxRecDepth 100000 in
set_option maxHeartbeats 4000000 in
theorem swap_any (w0 w : World) (B k : Nat) (hR : Rdr w0 w B k) (hk : k ≤ 700000) :
    Calls Try.prog 36 #[.pointer (some ⟨B, 0, none⟩)] w (DrewSw w0 B (k + 100) w) := by
  have HRD := Lib.hid hR
  have HBW := Lib.hid (rdr_lt hR)
  clear hR
  go_enter Try.func36, Try.ntmps36
  go_wp2_with fail
  refine (l31New_any w).mono ?_
  rintro e w1 ⟨v1, rfl, hm1, hb1⟩
  have HS1 : Hid (DSw w0 B k w v1 noRows w1) := Lib.hid ⟨hm1, rdr_of_below HRD.out hb1, grown_of_below hb1, HBW.out⟩
  clear hm1 hb1
  go_wp2_with fail
  refine (pick_any w0 _ B _ _ HS1.out.rdr (by omega) (by omega)).mono ?_
  rintro e w2 ⟨m2, h20, h21, rfl, hR2, hO2⟩
  have HS2 := Lib.hid (HS1.out.drew hR2 hO2.grown)
  clear HS1 hR2 hO2
  go_wp2_with fail
  refine (pick_any w0 _ B _ _ HS2.out.rdr (by omega) (by omega)).mono ?_
  rintro e w3 ⟨m3, h30, h31, rfl, hR3, hO3⟩
  have HS3 := Lib.hid (HS2.out.drew hR3 hO3.grown)
  clear HS2 hR3 hO3
  obtain ⟨n, hn16, hnn⟩ : ∃ n : Nat, n ≤ 16 ∧ (if m3 = 0 then (16 : Int) else m2) = (n : Int) := ⟨(if m3 = 0 then (16 : Int) else m2).toNat, by split <;> omega, by split <;> omega⟩
  by_cases hm : m3 = 0
  · subst hm
    rw [if_pos rfl] at hnn
    obtain rfl : n = 16 := by omega
    clear hnn
    go_wp2
    go_loopw [3, 5] (fun c i wr => ∃ (j : Nat) (xss : Rs), j ≤ 16 ∧ i = .int .i64 j ∧ Hid (Sw4 xss) ∧ Hid (DSw w0 B (k + 2 + 2 * j) w c xss wr)) (fun _ i _ => 16 - (intOf i).toNat)
    case atStart => exact ⟨0, noRows, Nat.zero_le _, rfl, Lib.hid Sw4.no, HS3⟩
    case round =>
      obtain ⟨j, xss, hj, rfl, H4, HD⟩ := hrel
      by_cases hlt : j < 16
      · have hlt' : (j : Int) < 16 := by omega
        go_wp2_with fail
        refine (pick_any w0 _ B _ _ HD.out.rdr (by omega) (by omega)).mono ?_
        rintro e w4 ⟨a1, h40, h41, rfl, hR4, hO4⟩
        have HD4 := Lib.hid (HD.out.drew hR4 hO4.grown)
        clear HD hR4 hO4
        go_wp2_with fail
        refine (pick_any w0 _ B _ _ HD4.out.rdr (by omega) (by omega)).mono ?_
        rintro e w5 ⟨a2, h50, h51, rfl, hR5, hO5⟩
        have HD5 := Lib.hid (HD4.out.drew hR5 hO5.grown)
        clear HD4 hR5 hO5
        obtain ⟨w6, hw6⟩ : ∃ w6, w6 = w5.alloc (.cells #[.int .i64 a1, .int .i64 a2, .int .i64 0, .int .i64 7] 3) := ⟨_, rfl⟩
        have hb6 : Below w5.heap.size w5 w6 := by rw [hw6]; exact (Below.refl _ _).alloc (Nat.le_refl _) _
        have HI6 : Hid (Ints w6 (.slice (some ⟨w5.heap.size, 0, none⟩) 4 4) [a1, a2, 0, 7]) := Lib.hid (by rw [hw6]; exact ints_new w5 [a1, a2, 0, 7] _ (by simp))
        have HD6 := Lib.hid (HD5.out.keep hb6)
        have HW6 := Lib.hid hw6
        clear hb6 hw6
        have HC := Lib.hid (sSwapPut_any w6 _ _ xss [a1, a2, 0, 7] HD6.out.mat.rows HI6.out)
        have HP4 := Lib.hid (fun h => H4.out.put (ws := [a1, a2, 0, 7]) h)
        generalize sput xss [a1, a2, 0, 7] = yss at HC HP4
        generalize sputN xss [a1, a2, 0, 7] = q at HC
        generalize sputB xss [a1, a2, 0, 7] = b at HC HP4
        cases b with
        | true =>
          go_wp2_with fail
          rw [← HW6.out]
          refine HC.out.mono ?_
          rintro e w7 ⟨v7, rfl, hm7, hb7⟩
          have HD7 := Lib.hid ((HD6.out.new hb7 hm7).mono (show k + 2 + 2 * j + 1 + 1 ≤ k + 2 + 2 * (j + 1) by omega))
          have HS4 := Lib.hid (HP4.out (by first | trivial | rfl))
          clear hm7 hb7 HD6 HD5
          go_wp2
          go_roundw
          case rel => exact ⟨j + 1, yss, by omega, by go_num, HS4, HD7⟩
          case measure => simp [intOf]; omega
        | false =>
          go_wp2_with fail
          rw [← HW6.out]
          refine HC.out.mono ?_
          rintro e w7 ⟨v7, rfl, hm7, hb7⟩
          have HD7 := Lib.hid ((HD6.out.keep hb7).mono (show k + 2 + 2 * j + 1 + 1 ≤ k + 2 + 2 * (j + 1) by omega))
          clear hm7 hb7 HD6 HD5
          go_wp2
          go_roundw
          case rel => exact ⟨j + 1, xss, by omega, by go_num, H4, HD7⟩
          case measure => simp [intOf]; omega
      · have ej : j = 16 := by omega
        have HD0 := Lib.hid (HD.out.mono (show k + 2 + 2 * j ≤ k + 40 by omega))
        clear ej
        go_wp2_with fail
        refine (pick_any w0 _ B _ _ HD0.out.rdr (by omega) (by omega)).mono ?_
        rintro e w4 ⟨a1, h40, h41, rfl, hR4, hO4⟩
        have HD4 := Lib.hid (HD0.out.drew hR4 hO4.grown)
        clear HD HD0 hR4 hO4
        obtain ⟨i, rfl⟩ : ∃ i : Nat, a1 = (i : Int) := ⟨a1.toNat, by omega⟩
        have hi16 : i < 16 := by omega
        go_wp2_with fail
        refine (pick_any w0 _ B _ _ HD4.out.rdr (by omega) (by omega)).mono ?_
        rintro e w5 ⟨a2, h50, h51, rfl, hR5, hO5⟩
        have HD5 := Lib.hid (HD4.out.drew hR5 hO5.grown)
        clear HD4 hR5 hO5
        obtain ⟨b1, o1, cap1, A1, C1, rfl, hq1, hq2, hq3, hq4, hq5, hq6⟩ := HD5.out.mat.top (i := i) (by rw [H4.out.1]; exact hi16)
        unfold maxLen at hq2
        rw [H4.out.1] at HD5 hq1 ⊢
        have hic : (i : Int) ≤ (cap1 : Int) := by omega
        clear hq3
        by_cases c0 : a2 = 0
        · subst c0
          have HN := Lib.hid ((HD5.out.set (w2 := w5.alloc (.cells #[.int .i64 1] 3)) (ys := [1]) (c := 1) ((Below.refl _ _).alloc (Nat.le_refl _) _) hi16 (by simp) (Nat.le_refl _) (by decide) (fun m hm => by
            have e : m = 0 := by simpa using hm
            subst e
            exact ⟨new_cell rfl, frozen_of_row _ _ _ _ _ (heap_alloc_new w5 _)⟩)).mono (show k + 40 + 1 + 1 ≤ k + 100 by omega))
          rw [World.setCell_alloc_past _ _ _ _ hq4] at HN
          have hcell : (w5.alloc (.cells #[.int .i64 1] 3)).cell? ⟨b1, o1 + i, none⟩ = some (.slice A1 (xss.getD i []).length C1) := (World.cell?_alloc_past _ _ _ hq4).trans hq5
          have hfz : (w5.alloc (.cells #[.int .i64 1] 3)).frozen? ⟨b1, o1 + i, none⟩ = false := (World.frozen?_of_block (Below.heap_alloc _ _ _ hq4)).trans hq6
          have HS4 := Lib.hid (H4.out.set i (ys := [1]) (by decide))
          clear hq5 hq6
          go_wp2_with fail
          go_ret
          exact ⟨_, xss.set i [1], rfl, ⟨Nat.le_of_eq HS4.out.1, HS4.out.2⟩, HN.out⟩
        have n0 : (a2 == 0) = false := by simpa using c0
        by_cases c1 : a2 = 1
        · subst c1
          have HT := Lib.hid (mat_take HD5.out.mat (k := i) (by omega))
          go_wp2_with fail
          go_ret
          exact ⟨_, xss.take i, rfl, ⟨by rw [List.length_take]; omega, fun xs hx => H4.out.2 xs (List.mem_of_mem_take hx)⟩, HT.out, rdr_mono HD5.out.rdr (by omega), HD5.out.grow, HD5.out.B0⟩
        have n1 : (a2 == 1) = false := by simpa using c1
        have HN := Lib.hid ((HD5.out.set (w2 := w5.alloc (.cells #[] 3)) (ys := []) (c := 0) ((Below.refl _ _).alloc (Nat.le_refl _) _) hi16 (by simp) (Nat.le_refl _) (by decide) (fun m hm => by simp at hm)).mono (show k + 40 + 1 + 1 ≤ k + 100 by omega))
        have HS4 := Lib.hid (H4.out.set i (ys := []) (by decide))
        have hcell : (w5.alloc (.cells #[] 3)).cell? ⟨b1, o1 + i, none⟩ = some (.slice A1 (xss.getD i []).length C1) := (World.cell?_alloc_past _ _ _ hq4).trans hq5
        have hfz : (w5.alloc (.cells #[] 3)).frozen? ⟨b1, o1 + i, none⟩ = false := (World.frozen?_of_block (Below.heap_alloc _ _ _ hq4)).trans hq6
        rw [World.setCell_alloc_past _ _ _ _ hq4] at HN
        clear hq5 hq6
        by_cases c2 : a2 = 2
        · subst c2
          go_wp2_with fail
          go_ret
          exact ⟨_, xss.set i [], rfl, ⟨Nat.le_of_eq HS4.out.1, HS4.out.2⟩, HN.out⟩
        have n2 : (a2 == 2) = false := by simpa using c2
        by_cases c3 : a2 = 3
        · subst c3
          go_wp2_with fail
          go_ret
          exact ⟨_, xss.set i [], rfl, ⟨Nat.le_of_eq HS4.out.1, HS4.out.2⟩, HN.out⟩
        have n3 : (a2 == 3) = false := by simpa using c3
        clear hcell hfz HN HS4
        go_wp2_with fail
        go_ret
        exact ⟨_, xss, rfl, ⟨Nat.le_of_eq H4.out.1, H4.out.2⟩, HD5.out.mono (by omega)⟩
  · rw [if_neg hm] at hnn
    subst hnn
    have hm' : (m3 == 0) = false := by simpa using hm
    clear hm
    go_wp2
    go_loopw [3, 5] (fun c i wr => ∃ (j : Nat) (xss : Rs), j ≤ n ∧ i = .int .i64 j ∧ Hid (Sw4 xss) ∧ Hid (DSw w0 B (k + 2 + 2 * j) w c xss wr)) (fun _ i _ => n - (intOf i).toNat)
    case atStart => exact ⟨0, noRows, Nat.zero_le _, rfl, Lib.hid Sw4.no, HS3⟩
    case round =>
      obtain ⟨j, xss, hj, rfl, H4, HD⟩ := hrel
      by_cases hlt : j < n
      · have hlt' : (j : Int) < (n : Int) := by omega
        go_wp2_with fail
        refine (pick_any w0 _ B _ _ HD.out.rdr (by omega) (by omega)).mono ?_
        rintro e w4 ⟨a1, h40, h41, rfl, hR4, hO4⟩
        have HD4 := Lib.hid (HD.out.drew hR4 hO4.grown)
        clear HD hR4 hO4
        go_wp2_with fail
        refine (pick_any w0 _ B _ _ HD4.out.rdr (by omega) (by omega)).mono ?_
        rintro e w5 ⟨a2, h50, h51, rfl, hR5, hO5⟩
        have HD5 := Lib.hid (HD4.out.drew hR5 hO5.grown)
        clear HD4 hR5 hO5
        obtain ⟨w6, hw6⟩ : ∃ w6, w6 = w5.alloc (.cells #[.int .i64 a1, .int .i64 a2, .int .i64 0, .int .i64 7] 3) := ⟨_, rfl⟩
        have hb6 : Below w5.heap.size w5 w6 := by rw [hw6]; exact (Below.refl _ _).alloc (Nat.le_refl _) _
        have HI6 : Hid (Ints w6 (.slice (some ⟨w5.heap.size, 0, none⟩) 4 4) [a1, a2, 0, 7]) := Lib.hid (by rw [hw6]; exact ints_new w5 [a1, a2, 0, 7] _ (by simp))
        have HD6 := Lib.hid (HD5.out.keep hb6)
        have HW6 := Lib.hid hw6
        clear hb6 hw6
        have HC := Lib.hid (sSwapPut_any w6 _ _ xss [a1, a2, 0, 7] HD6.out.mat.rows HI6.out)
        have HP4 := Lib.hid (fun h => H4.out.put (ws := [a1, a2, 0, 7]) h)
        generalize sput xss [a1, a2, 0, 7] = yss at HC HP4
        generalize sputN xss [a1, a2, 0, 7] = q at HC
        generalize sputB xss [a1, a2, 0, 7] = b at HC HP4
        cases b with
        | true =>
          go_wp2_with fail
          rw [← HW6.out]
          refine HC.out.mono ?_
          rintro e w7 ⟨v7, rfl, hm7, hb7⟩
          have HD7 := Lib.hid ((HD6.out.new hb7 hm7).mono (show k + 2 + 2 * j + 1 + 1 ≤ k + 2 + 2 * (j + 1) by omega))
          have HS4 := Lib.hid (HP4.out (by first | trivial | rfl))
          clear hm7 hb7 HD6 HD5
          go_wp2
          go_roundw
          case rel => exact ⟨j + 1, yss, by omega, by go_num, HS4, HD7⟩
          case measure => simp [intOf]; omega
        | false =>
          go_wp2_with fail
          rw [← HW6.out]
          refine HC.out.mono ?_
          rintro e w7 ⟨v7, rfl, hm7, hb7⟩
          have HD7 := Lib.hid ((HD6.out.keep hb7).mono (show k + 2 + 2 * j + 1 + 1 ≤ k + 2 + 2 * (j + 1) by omega))
          clear hm7 hb7 HD6 HD5
          go_wp2
          go_roundw
          case rel => exact ⟨j + 1, xss, by omega, by go_num, H4, HD7⟩
          case measure => simp [intOf]; omega
      · have ej : j = n := by omega
        have HD0 := Lib.hid (HD.out.mono (show k + 2 + 2 * j ≤ k + 40 by omega))
        clear ej
        go_wp2_with fail
        refine (pick_any w0 _ B _ _ HD0.out.rdr (by omega) (by omega)).mono ?_
        rintro e w4 ⟨a1, h40, h41, rfl, hR4, hO4⟩
        have HD4 := Lib.hid (HD0.out.drew hR4 hO4.grown)
        clear HD HD0 hR4 hO4
        obtain ⟨i, rfl⟩ : ∃ i : Nat, a1 = (i : Int) := ⟨a1.toNat, by omega⟩
        have hi16 : i < 16 := by omega
        go_wp2_with fail
        refine (pick_any w0 _ B _ _ HD4.out.rdr (by omega) (by omega)).mono ?_
        rintro e w5 ⟨a2, h50, h51, rfl, hR5, hO5⟩
        have HD5 := Lib.hid (HD4.out.drew hR5 hO5.grown)
        clear HD4 hR5 hO5
        obtain ⟨b1, o1, cap1, A1, C1, rfl, hq1, hq2, hq3, hq4, hq5, hq6⟩ := HD5.out.mat.top (i := i) (by rw [H4.out.1]; exact hi16)
        unfold maxLen at hq2
        rw [H4.out.1] at HD5 hq1 ⊢
        have hic : (i : Int) ≤ (cap1 : Int) := by omega
        clear hq3
        by_cases c0 : a2 = 0
        · subst c0
          have HN := Lib.hid ((HD5.out.set (w2 := w5.alloc (.cells #[.int .i64 1] 3)) (ys := [1]) (c := 1) ((Below.refl _ _).alloc (Nat.le_refl _) _) hi16 (by simp) (Nat.le_refl _) (by decide) (fun m hm => by
            have e : m = 0 := by simpa using hm
            subst e
            exact ⟨new_cell rfl, frozen_of_row _ _ _ _ _ (heap_alloc_new w5 _)⟩)).mono (show k + 40 + 1 + 1 ≤ k + 100 by omega))
          rw [World.setCell_alloc_past _ _ _ _ hq4] at HN
          have hcell : (w5.alloc (.cells #[.int .i64 1] 3)).cell? ⟨b1, o1 + i, none⟩ = some (.slice A1 (xss.getD i []).length C1) := (World.cell?_alloc_past _ _ _ hq4).trans hq5
          have hfz : (w5.alloc (.cells #[.int .i64 1] 3)).frozen? ⟨b1, o1 + i, none⟩ = false := (World.frozen?_of_block (Below.heap_alloc _ _ _ hq4)).trans hq6
          have HS4 := Lib.hid (H4.out.set i (ys := [1]) (by decide))
          clear hq5 hq6
          go_wp2_with fail
          go_ret
          exact ⟨_, xss.set i [1], rfl, ⟨Nat.le_of_eq HS4.out.1, HS4.out.2⟩, HN.out⟩
        have n0 : (a2 == 0) = false := by simpa using c0
        by_cases c1 : a2 = 1
        · subst c1
          have HT := Lib.hid (mat_take HD5.out.mat (k := i) (by omega))
          go_wp2_with fail
          go_ret
          exact ⟨_, xss.take i, rfl, ⟨by rw [List.length_take]; omega, fun xs hx => H4.out.2 xs (List.mem_of_mem_take hx)⟩, HT.out, rdr_mono HD5.out.rdr (by omega), HD5.out.grow, HD5.out.B0⟩
        have n1 : (a2 == 1) = false := by simpa using c1
        have HN := Lib.hid ((HD5.out.set (w2 := w5.alloc (.cells #[] 3)) (ys := []) (c := 0) ((Below.refl _ _).alloc (Nat.le_refl _) _) hi16 (by simp) (Nat.le_refl _) (by decide) (fun m hm => by simp at hm)).mono (show k + 40 + 1 + 1 ≤ k + 100 by omega))
        have HS4 := Lib.hid (H4.out.set i (ys := []) (by decide))
        have hcell : (w5.alloc (.cells #[] 3)).cell? ⟨b1, o1 + i, none⟩ = some (.slice A1 (xss.getD i []).length C1) := (World.cell?_alloc_past _ _ _ hq4).trans hq5
        have hfz : (w5.alloc (.cells #[] 3)).frozen? ⟨b1, o1 + i, none⟩ = false := (World.frozen?_of_block (Below.heap_alloc _ _ _ hq4)).trans hq6
        rw [World.setCell_alloc_past _ _ _ _ hq4] at HN
        clear hq5 hq6
        by_cases c2 : a2 = 2
        · subst c2
          go_wp2_with fail
          go_ret
          exact ⟨_, xss.set i [], rfl, ⟨Nat.le_of_eq HS4.out.1, HS4.out.2⟩, HN.out⟩
        have n2 : (a2 == 2) = false := by simpa using c2
        by_cases c3 : a2 = 3
        · subst c3
          go_wp2_with fail
          go_ret
          exact ⟨_, xss.set i [], rfl, ⟨Nat.le_of_eq HS4.out.1, HS4.out.2⟩, HN.out⟩
        have n3 : (a2 == 3) = false := by simpa using c3
        clear hcell hfz HN HS4
        go_wp2_with fail
        go_ret
        exact ⟨_, xss, rfl, ⟨Nat.le_of_eq H4.out.1, H4.out.2⟩, HD5.out.mono (by omega)⟩
end Go.Proofs.Ytaalnjinocicgaa
namespace Go.Proofs.Ytaalnjinocicgaa
open Go.ChangeShapes Go.WideShapes Go.ChangeAt Go.RowKit
set_option linter.unusedVariables false
set_option linter.unusedSimpArgs false
structure DS (W : World) (v : Value) (xss : Rs) (w' : World) : Prop where
  rows : Rows2 w' v xss
  len : xss.length ≤ 16 ∧ ∀ xs ∈ xss, xs.length ≤ 4
  bel : Below W.heap.size W w'
theorem DS.of {W w1 w' : World} {k : Nat} {v : Value} {xss : Rs} (h : DSw W W.heap.size k w1 v xss w') (hl : xss.length ≤ 16 ∧ ∀ xs ∈ xss, xs.length ≤ 4) : DS W v xss w' := ⟨h.mat.rows, hl, rdr_below h.rdr⟩
end Go.Proofs.Ytaalnjinocicgaa
namespace Go.Proofs.Ytaalnjinocicgaa
set_option linter.unusedVariables false
set_option linter.unusedSimpArgs false
theorem row_len {k : IntKind} {w : World} {a : Option Addr} {len cap : Nat} {zs : List Int} (hr : Row k w a len cap zs) : len ≤ 9223372036854775807 := by
  rcases hr with ⟨_, rfl, rfl, _⟩ | ⟨x, _, hl, hm, _⟩
  · omega
  · unfold maxLen at hm; omega
end Go.Proofs.Ytaalnjinocicgaa
namespace Go.Proofs.Ytaalnjinocicgaa
open Go.ChangeShapes Go.WideShapes Go.ChangeAt Go.RowKit
set_option linter.unusedVariables false
theorem row_of_trod {H : Type} {enc : TypeId × Value → H} {P : Program} {w : World} {base : Nat} {held : Bool} {t e : TypeId} {fuel : Nat} {a : Option Addr} {len cap : Nat} {x : DataW H × List MemPlace}
    (ht : P.underlying t = some (.slice e)) (he : P.underlying e = some (.int .u8)) (ce : P.cellsOf e = 1)
    (h : DataW.trod enc P w base (fun _ => true) held fuel t (Value.slice a len cap).cells.toList = some x) : ∃ zs, Row .u8 w a len cap zs := by
  rcases open_ints ht he ce h with ⟨hcs, _⟩ | ⟨x, l, c, zs, hcs, _, hl, hm, hz, _, hcell, hwz⟩
  · simp [Value.cells] at hcs
    obtain ⟨rfl, rfl, rfl⟩ := hcs
    exact ⟨[], .inl ⟨rfl, rfl, rfl, rfl⟩⟩
  · simp [Value.cells] at hcs
    obtain ⟨rfl, rfl, rfl⟩ := hcs
    exact ⟨zs, .inr ⟨_, rfl, hl, hm, by simpa using hz, hcell, hwz⟩⟩
end Go.Proofs.Ytaalnjinocicgaa
