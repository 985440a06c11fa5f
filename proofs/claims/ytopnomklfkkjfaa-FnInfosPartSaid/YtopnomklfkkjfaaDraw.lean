/- What the reader of a code picks: a number from 0 to n-1, whatever the code; only the reader's own block changes. -/
import Derived.Test.YtopnomklfkkjfaaRows
import Derived.WalkKit
import Derived.ProofKit
import Derived.OpenShut
import Derived.Tactics
import Derived.Below
import Derived.Lib.Hide
import Derived.Deep.QuietTactic
import Derived.BigQuiet
import Derived.Outline
import Derived.Deep.Draws
namespace Go.Proofs.Ytopnomklfkkjfaa
open Go.ChangeShapes Go.WideShapes Go.ChangeAt Go.RowKit
set_option linter.unusedVariables false

/-- a slice of numbers that lies in 'w', or nil -/
def Row (k : IntKind) (w : World) (a : Option Addr) (len cap : Nat) (zs : List Int) : Prop :=
  (a = none ∧ len = 0 ∧ cap = 0 ∧ zs = []) ∨
  ∃ x, a = some x ∧ len ≤ cap ∧ cap ≤ maxLen ∧ zs.length = cap ∧ (∀ i, i < zs.length → w.cell? (x.add i) = some (.int k (zs.getD i 0))) ∧ ∀ n ∈ zs, (Lit.int k n).wf = true

/-- the reader in block B has been asked at most k times; what was there before is as it was -/
def Rdr (w0 w : World) (B k : Nat) : Prop :=
  ∃ (a : Option Addr) (len cap : Nat) (zs : List Int) (p : Nat), Row .u8 w0 a len cap zs ∧ p ≤ k ∧
    w.heap[B]? = some (.cells #[.slice a len cap, .int .i64 p] 73 (0, 0)) ∧ Below w0.heap.size w0 w ∧ w0.heap.size ≤ B

/-- nothing but block B has changed -/
def Only (B : Nat) (w w' : World) : Prop := w'.os = w.os ∧ w'.tape = w.tape ∧ w'.output = w.output ∧ w'.heap.size = w.heap.size ∧ ∀ i, i ≠ B → w'.heap[i]? = w.heap[i]?

def Picked (n : Int) (w0 : World) (B k : Nat) (w : World) (e : Ending) (w' : World) : Prop :=
  ∃ m : Int, 0 ≤ m ∧ m < n ∧ e = .returned (.int .i64 m) ∧ Rdr w0 w' B k ∧ Only B w w'

theorem xor_nn (E : Int) (h0 : 0 ≤ E) (h1 : E < 1000000000000) : 0 ≤ bits .xor .i64 E (E / 64) := by
  obtain ⟨X, rfl⟩ : ∃ X : Nat, E = X := ⟨E.toNat, by omega⟩
  have hd : ((X : Int) / 64) = ((X / 64 : Nat) : Int) := by omega
  rw [hd]
  have hx : X ^^^ (X / 64) < 2 ^ 40 := Nat.xor_lt_two_pow (by omega) (by omega)
  have k1 : (BitVec.ofInt 64 (X : Int)).toNat = X := by
    rw [BitVec.ofInt_natCast, BitVec.toNat_ofNat]; exact Nat.mod_eq_of_lt (by omega)
  have k2 : (BitVec.ofInt 64 ((X / 64 : Nat) : Int)).toNat = X / 64 := by
    rw [BitVec.ofInt_natCast, BitVec.toNat_ofNat]; exact Nat.mod_eq_of_lt (by omega)
  show 0 ≤ IntKind.i64.wrap ((BitVec.ofInt 64 (X : Int) ^^^ BitVec.ofInt 64 ((X / 64 : Nat) : Int)).toNat : Int)
  rw [BitVec.toNat_xor, k1, k2]
  have := IntWalk.i64_in ((X ^^^ (X / 64) : Nat) : Int) (by omega)
  rw [this]
  omega

theorem two_cell0 {w : World} {B : Nat} {u v : Value} {t : TypeId} (h : w.heap[B]? = some (.cells #[u, v] t (0, 0))) : w.cell? ⟨B, 0, none⟩ = some u := by simp [World.cell?, h]
theorem two_cell1 {w : World} {B : Nat} {u v : Value} {t : TypeId} (h : w.heap[B]? = some (.cells #[u, v] t (0, 0))) : w.cell? ⟨B, 1, none⟩ = some v := by simp [World.cell?, h]
theorem two_free {w : World} {B : Nat} {u v : Value} {t : TypeId} {o : Nat} (h : w.heap[B]? = some (.cells #[u, v] t (0, 0))) : w.frozen? ⟨B, o, none⟩ = false := by simp [World.frozen?, h]
theorem two_set1 {w : World} {B : Nat} {u v x : Value} {t : TypeId} (h : w.heap[B]? = some (.cells #[u, v] t (0, 0))) : (w.setCell ⟨B, 1, none⟩ x).heap[B]? = some (.cells #[u, x] t (0, 0)) := by
  simp only [World.setCell, Array.getElem?_modify, h]
  rfl
theorem only_set {w : World} {B o : Nat} {x : Value} {d : Nat} : Only B w ((w.setCell ⟨B, o, none⟩ x).drewN d) :=
  ⟨rfl, rfl, rfl, by simp [World.setCell], fun i hi => by simpa using Below.heap_setCell w ⟨B, o, none⟩ x i hi⟩

theorem rdr_set {w0 w : World} {B k : Nat} {a : Option Addr} {len cap : Nat} {zs : List Int} {p : Nat} (hr : Row .u8 w0 a len cap zs) (hp : p ≤ k)
    (h : w.heap[B]? = some (.cells #[.slice a len cap, .int .i64 p] 73 (0, 0))) (hb : Below w0.heap.size w0 w) (hB : w0.heap.size ≤ B) (d : Nat) :
    Rdr w0 ((w.setCell ⟨B, 1, none⟩ (.int .i64 ((p : Int) + 1))).drewN d) B (k + 1) :=
  ⟨a, len, cap, zs, p + 1, hr, by omega, by simpa using two_set1 h, (by have := hb.setCell (p := ⟨B, 1, none⟩) hB (.int .i64 ((p : Int) + 1)); exact ⟨this.os, this.tape, this.output, this.size, this.block⟩), hB⟩

theorem picked_mk {w0 w : World} {B k : Nat} {a : Option Addr} {len cap : Nat} {zs : List Int} {p : Nat} (hr : Row .u8 w0 a len cap zs) (hp : p ≤ k)
    (h : w.heap[B]? = some (.cells #[.slice a len cap, .int .i64 p] 73 (0, 0))) (hb : Below w0.heap.size w0 w) (hB : w0.heap.size ≤ B) (d : Nat) {n m : Int} (h0 : 0 ≤ m) (h1 : m < n) :
    Picked n w0 B (k + 1) w (.returned (.int .i64 m)) ((w.setCell ⟨B, 1, none⟩ (.int .i64 ((p : Int) + 1))).drewN d) :=
  ⟨m, h0, h1, rfl, rdr_set hr hp h hb hB d, only_set⟩

theorem byte_bd {zs : List Int} (hw : ∀ n ∈ zs, (Lit.int .u8 n).wf = true) (i : Nat) : 0 ≤ zs.getD i 0 ∧ zs.getD i 0 ≤ 255 := by
  by_cases h : i < zs.length
  · have e : zs.getD i 0 = zs[i] := by simp [List.getD, h]
    have := hw zs[i] (List.getElem_mem h)
    rw [e]
    simpa [Lit.wf, IntKind.min, IntKind.max, IntKind.signed, IntKind.bits] using this
  · have e : zs.getD i 0 = 0 := by simp [List.getD, List.getElem?_eq_none (Nat.le_of_not_lt h)]
    omega

theorem mod_lo {a n : Int} (h : 0 ≤ a) : 0 ≤ a.tmod n := Int.tmod_nonneg n h
theorem mod_hi {a n : Int} (h : 0 ≤ a) (hn : 1 ≤ n) : a.tmod n < n := Int.tmod_lt_of_pos a (by omega)

theorem pick_empty (w0 w : World) (B k : Nat) (n : Int) (a : Option Addr) (cap : Nat) (zs : List Int) (p : Nat) (hr : Row .u8 w0 a 0 cap zs) (hp : p ≤ k) (hk : k ≤ 1000000)
    (h : w.heap[B]? = some (.cells #[.slice a 0 cap, .int .i64 p] 73 (0, 0))) (hb : Below w0.heap.size w0 w) (hB : w0.heap.size ≤ B) (hn : 1 ≤ n) :
    Calls Try.prog 34 #[.pointer (some ⟨B, 0, none⟩), .int .i64 n] w (Picked n w0 B (k + 1) w) := by
  have c0 := two_cell0 h
  have c1 := two_cell1 h
  have f1 : w.frozen? ⟨B, 1, none⟩ = false := two_free h
  have hp' : (p : Int) ≤ 1000000 := by omega
  have hd : decide (n < 1) = false := by simp; omega
  have H := Lib.hid h
  clear h
  go_enter Try.func34, Try.ntmps34
  go_wp2
  go_ret
  exact picked_mk hr hp H.out hb hB 0 (by omega) (by omega)

theorem pick_near (w0 w : World) (B k : Nat) (n : Int) (b off len cap : Nat) (zs : List Int) (p : Nat) (c : Int) (hr : Row .u8 w0 (some ⟨b, off, none⟩) len cap zs) (hp : p ≤ k) (hk : k ≤ 1000000)
    (h : w.heap[B]? = some (.cells #[.slice (some ⟨b, off, none⟩) len cap, .int .i64 p] 73 (0, 0))) (hb : Below w0.heap.size w0 w) (hB : w0.heap.size ≤ B) (hn : 1 ≤ n)
    (hlen : p < len) (hbB : b ≠ B) (hc : w.cell? ⟨b, off + p, none⟩ = some (.int .u8 c)) (hz0 : 0 ≤ c) (hz1 : c ≤ 255) :
    Calls Try.prog 34 #[.pointer (some ⟨B, 0, none⟩), .int .i64 n] w (Picked n w0 B (k + 1) w) := by
  have c0 := two_cell0 h
  have c1 := two_cell1 h
  have f1 : w.frozen? ⟨B, 1, none⟩ = false := two_free h
  have hp' : (p : Int) ≤ 1000000 := by omega
  have hd : decide (n < 1) = false := by simp; omega
  have hl0 : ((len : Int) == 0) = false := by simp; omega
  have hl1 : (p : Int) < (len : Int) := by omega
  have hc' : (w.setCell ⟨B, 1, none⟩ (.int .i64 ((p : Int) + 1))).cell? ⟨b, off + p, none⟩ = some (.int .u8 c) := by
    rw [World.cell?_of_block (Below.heap_setCell w ⟨B, 1, none⟩ _ b hbB)]; exact hc
  have hm0 : 0 ≤ c % n := Int.emod_nonneg _ (by omega)
  have hm1 : c % n < n := Int.emod_lt_of_pos _ (by omega)
  have hnz : (n == 0) = false := by simp; omega
  have H := Lib.hid h
  clear h
  go_enter Try.func34, Try.ntmps34
  go_wp2
  go_ret
  exact picked_mk hr hp H.out hb hB 0 hm0 hm1

theorem pick_far (w0 w : World) (B k : Nat) (n : Int) (b off len cap : Nat) (zs : List Int) (p : Nat) (x y : Int) (hr : Row .u8 w0 (some ⟨b, off, none⟩) len cap zs) (hp : p ≤ k) (hk : k ≤ 1000000)
    (h : w.heap[B]? = some (.cells #[.slice (some ⟨b, off, none⟩) len cap, .int .i64 p] 73 (0, 0))) (hb : Below w0.heap.size w0 w) (hB : w0.heap.size ≤ B) (hn : 1 ≤ n)
    (hlen : len ≤ p) (hl : 0 < len) (hbB : b ≠ B) (hx : w.cell? ⟨b, off + p % len, none⟩ = some (.int .u8 x)) (hy : w.cell? ⟨b, off + (p * 7 + 3) % len, none⟩ = some (.int .u8 y))
    (hx0 : 0 ≤ x) (hx1 : x ≤ 255) (hy0 : 0 ≤ y) (hy1 : y ≤ 255) :
    Calls Try.prog 34 #[.pointer (some ⟨B, 0, none⟩), .int .i64 n] w (Picked n w0 B (k + 1) w) := by
  have c0 := two_cell0 h
  have c1 := two_cell1 h
  have f1 : w.frozen? ⟨B, 1, none⟩ = false := two_free h
  have hp' : (p : Int) ≤ 1000000 := by omega
  have hd : decide (n < 1) = false := by simp; omega
  have hl0 : ((len : Int) == 0) = false := by simp; omega
  have hl1 : decide ((p : Int) < (len : Int)) = false := by simp; omega
  have hl2 : decide (p < len) = false := by simp; omega
  have hx' : (w.setCell ⟨B, 1, none⟩ (.int .i64 ((p : Int) + 1))).cell? ⟨b, off + p % len, none⟩ = some (.int .u8 x) := by
    rw [World.cell?_of_block (Below.heap_setCell w ⟨B, 1, none⟩ _ b hbB)]; exact hx
  have hy' : (w.setCell ⟨B, 1, none⟩ (.int .i64 ((p : Int) + 1))).cell? ⟨b, off + (p * 7 + 3) % len, none⟩ = some (.int .u8 y) := by
    rw [World.cell?_of_block (Below.heap_setCell w ⟨B, 1, none⟩ _ b hbB)]; exact hy
  have hi1 : (p : Int) % (len : Int) < (len : Int) := Int.emod_lt_of_pos _ (by omega)
  have hi2 : 0 ≤ (p : Int) % (len : Int) := Int.emod_nonneg _ (by omega)
  have hq0 : 0 ≤ (p : Int) / (len : Int) := Int.ediv_nonneg (by omega) (by omega)
  have hq1 : (p : Int) / (len : Int) ≤ 1000000 := Int.le_trans (Int.ediv_le_self _ (by omega)) (by omega)
  have hj1 : ((p : Int) * 7 + 3) % (len : Int) < (len : Int) := Int.emod_lt_of_pos _ (by omega)
  have hj2 : 0 ≤ ((p : Int) * 7 + 3) % (len : Int) := Int.emod_nonneg _ (by omega)
  have hnz : (n == 0) = false := by simp; omega
  have H := Lib.hid h
  clear h
  go_enter Try.func34, Try.ntmps34
  go_wp2_with fail
  go_quiet (fail)
  go_wp2
  go_ret
  have hE := xor_nn (x * 131 + y * 1117 + (p : Int) * 29 + (p : Int) / (len : Int) * 53) (by omega) (by omega)
  refine picked_mk hr hp H.out hb hB _ (mod_lo hE) (mod_hi hE (by omega))
end Go.Proofs.Ytopnomklfkkjfaa
