/- What the proofs stand on, part 14. -/
import Derived.Test.YtachiggolgdocaaRows
import Derived.Test.YtachiggolgdocaaM1
import Derived.Test.YtachiggolgdocaaM3
import Derived.Test.YtachiggolgdocaaM6
import Derived.Test.YtachiggolgdocaaM7
import Derived.Test.YtachiggolgdocaaM10
import Derived.Test.YtachiggolgdocaaM11
import Derived.Test.YtachiggolgdocaaM12
set_option linter.unusedSimpArgs false
set_option linter.unusedVariables false
namespace Go.Proofs.Ytachiggolgdocaa
open Go.ChangeShapes Go.WideShapes Go.ChangeAt Go.RowKit
set_option linter.unusedVariables false
def Row (k : IntKind) (w : World) (a : Option Addr) (len cap : Nat) (zs : List Int) : Prop :=
  (a = none ∧ len = 0 ∧ cap = 0 ∧ zs = []) ∨
  ∃ x, a = some x ∧ len ≤ cap ∧ cap ≤ maxLen ∧ zs.length = cap ∧ (∀ i, i < zs.length → w.cell? (x.add i) = some (.int k (zs.getD i 0))) ∧ ∀ n ∈ zs, (Lit.int k n).wf = true
def Rdr (w0 w : World) (B k : Nat) : Prop :=
  ∃ (a : Option Addr) (len cap : Nat) (zs : List Int) (p : Nat), Row .u8 w0 a len cap zs ∧ p ≤ k ∧
    w.heap[B]? = some (.cells #[.slice a len cap, .int .i64 p] 70 (0, 0)) ∧ Below w0.heap.size w0 w ∧ w0.heap.size ≤ B
def Only (B : Nat) (w w' : World) : Prop := w'.os = w.os ∧ w'.tape = w.tape ∧ w'.output = w.output ∧ w'.heap.size = w.heap.size ∧ ∀ i, i ≠ B → w'.heap[i]? = w.heap[i]?
def Picked (n : Int) (w0 : World) (B k : Nat) (w : World) (e : Ending) (w' : World) : Prop :=
  ∃ m : Int, 0 ≤ m ∧ m < n ∧ e = .returned (.int .i64 m) ∧ Rdr w0 w' B k ∧ Only B w w'
theorem xor_nn (E : Int) (h0 : 0 ≤ E) (h1 : E < 1000000000000) : 0 ≤ bits .xor .i64 E (E / 64) := by
  obtain ⟨X, rfl⟩ : ∃ X : Nat, E = X := ⟨E.toNat, by omega⟩
  have hd : ((X : Int) / 64) = ((X / 64 : Nat) : Int) := by omega
  rw [hd]
  have hx : X ^^^ (X / 64) < 2 ^ 40 := Nat.xor_lt_two_pow (by omega) (by omega)
  have k1 : (BitVec.ofInt 64 (X : Int)).toNat = X := by
    rw [BitVec.ofInt_natCast, BitVec.toNat_ofNat]; exact Nat.mod_eq_of_lt (by omega)
  have k2 : (BitVec.ofInt 64 ((X / 64 : Nat) : Int)).toNat = X / 64 := by
    rw [BitVec.ofInt_natCast, BitVec.toNat_ofNat]; exact Nat.mod_eq_of_lt (by omega)
  show 0 ≤ IntKind.i64.wrap ((BitVec.ofInt 64 (X : Int) ^^^ BitVec.ofInt 64 ((X / 64 : Nat) : Int)).toNat : Int)
  rw [BitVec.toNat_xor, k1, k2]
  have := IntWalk.i64_in ((X ^^^ (X / 64) : Nat) : Int) (by omega)
  rw [this]
  omega
theorem two_cell0 {w : World} {B : Nat} {u v : Value} {t : TypeId} (h : w.heap[B]? = some (.cells #[u, v] t (0, 0))) : w.cell? ⟨B, 0, none⟩ = some u := by simp [World.cell?, h]
theorem two_cell1 {w : World} {B : Nat} {u v : Value} {t : TypeId} (h : w.heap[B]? = some (.cells #[u, v] t (0, 0))) : w.cell? ⟨B, 1, none⟩ = some v := by simp [World.cell?, h]
theorem two_free {w : World} {B : Nat} {u v : Value} {t : TypeId} {o : Nat} (h : w.heap[B]? = some (.cells #[u, v] t (0, 0))) : w.frozen? ⟨B, o, none⟩ = false := by simp [World.frozen?, h]
theorem two_set1 {w : World} {B : Nat} {u v x : Value} {t : TypeId} (h : w.heap[B]? = some (.cells #[u, v] t (0, 0))) : (w.setCell ⟨B, 1, none⟩ x).heap[B]? = some (.cells #[u, x] t (0, 0)) := by
  simp only [World.setCell, Array.getElem?_modify, h]
  rfl
theorem only_set {w : World} {B o : Nat} {x : Value} {d : Nat} : Only B w ((w.setCell ⟨B, o, none⟩ x).drewN d) :=
  ⟨rfl, rfl, rfl, by simp [World.setCell], fun i hi => by simpa using Below.heap_setCell w ⟨B, o, none⟩ x i hi⟩
theorem rdr_set {w0 w : World} {B k : Nat} {a : Option Addr} {len cap : Nat} {zs : List Int} {p : Nat} (hr : Row .u8 w0 a len cap zs) (hp : p ≤ k)
    (h : w.heap[B]? = some (.cells #[.slice a len cap, .int .i64 p] 70 (0, 0))) (hb : Below w0.heap.size w0 w) (hB : w0.heap.size ≤ B) (d : Nat) :
    Rdr w0 ((w.setCell ⟨B, 1, none⟩ (.int .i64 ((p : Int) + 1))).drewN d) B (k + 1) :=
  ⟨a, len, cap, zs, p + 1, hr, by omega, by simpa using two_set1 h, (by have := hb.setCell (p := ⟨B, 1, none⟩) hB (.int .i64 ((p : Int) + 1)); exact ⟨this.os, this.tape, this.output, this.size, this.block⟩), hB⟩
theorem picked_mk {w0 w : World} {B k : Nat} {a : Option Addr} {len cap : Nat} {zs : List Int} {p : Nat} (hr : Row .u8 w0 a len cap zs) (hp : p ≤ k)
    (h : w.heap[B]? = some (.cells #[.slice a len cap, .int .i64 p] 70 (0, 0))) (hb : Below w0.heap.size w0 w) (hB : w0.heap.size ≤ B) (d : Nat) {n m : Int} (h0 : 0 ≤ m) (h1 : m < n) :
    Picked n w0 B (k + 1) w (.returned (.int .i64 m)) ((w.setCell ⟨B, 1, none⟩ (.int .i64 ((p : Int) + 1))).drewN d) :=
  ⟨m, h0, h1, rfl, rdr_set hr hp h hb hB d, only_set⟩
theorem byte_bd {zs : List Int} (hw : ∀ n ∈ zs, (Lit.int .u8 n).wf = true) (i : Nat) : 0 ≤ zs.getD i 0 ∧ zs.getD i 0 ≤ 255 := by
  by_cases h : i < zs.length
  · have e : zs.getD i 0 = zs[i] := by simp [List.getD, h]
    have := hw zs[i] (List.getElem_mem h)
    rw [e]
    simpa [Lit.wf, IntKind.min, IntKind.max, IntKind.signed, IntKind.bits] using this
  · have e : zs.getD i 0 = 0 := by simp [List.getD, List.getElem?_eq_none (Nat.le_of_not_lt h)]
    omega
theorem mod_lo {a n : Int} (h : 0 ≤ a) : 0 ≤ a.tmod n := Int.tmod_nonneg n h
theorem mod_hi {a n : Int} (h : 0 ≤ a) (hn : 1 ≤ n) : a.tmod n < n := Int.tmod_lt_of_pos a (by omega)
theorem pick_empty (w0 w : World) (B k : Nat) (n : Int) (a : Option Addr) (cap : Nat) (zs : List Int) (p : Nat) (hr : Row .u8 w0 a 0 cap zs) (hp : p ≤ k) (hk : k ≤ 1000000)
    (h : w.heap[B]? = some (.cells #[.slice a 0 cap, .int .i64 p] 70 (0, 0))) (hb : Below w0.heap.size w0 w) (hB : w0.heap.size ≤ B) (hn : 1 ≤ n) :
    Calls Try.prog 47 #[.pointer (some ⟨B, 0, none⟩), .int .i64 n] w (Picked n w0 B (k + 1) w) := by
  have c0 := two_cell0 h
  have c1 := two_cell1 h
  have f1 : w.frozen? ⟨B, 1, none⟩ = false := two_free h
  have hp' : (p : Int) ≤ 1000000 := by omega
  have hd : decide (n < 1) = false := by simp; omega
  have H := Lib.hid h
  clear h
  go_enter Try.func47, Try.ntmps47
  go_wp2
  go_ret
  exact picked_mk hr hp H.out hb hB 0 (by omega) (by omega)
theorem pick_near (w0 w : World) (B k : Nat) (n : Int) (b off len cap : Nat) (zs : List Int) (p : Nat) (c : Int) (hr : Row .u8 w0 (some ⟨b, off, none⟩) len cap zs) (hp : p ≤ k) (hk : k ≤ 1000000)
    (h : w.heap[B]? = some (.cells #[.slice (some ⟨b, off, none⟩) len cap, .int .i64 p] 70 (0, 0))) (hb : Below w0.heap.size w0 w) (hB : w0.heap.size ≤ B) (hn : 1 ≤ n)
    (hlen : p < len) (hbB : b ≠ B) (hc : w.cell? ⟨b, off + p, none⟩ = some (.int .u8 c)) (hz0 : 0 ≤ c) (hz1 : c ≤ 255) :
    Calls Try.prog 47 #[.pointer (some ⟨B, 0, none⟩), .int .i64 n] w (Picked n w0 B (k + 1) w) := by
  have c0 := two_cell0 h
  have c1 := two_cell1 h
  have f1 : w.frozen? ⟨B, 1, none⟩ = false := two_free h
  have hp' : (p : Int) ≤ 1000000 := by omega
  have hd : decide (n < 1) = false := by simp; omega
  have hl0 : ((len : Int) == 0) = false := by simp; omega
  have hl1 : (p : Int) < (len : Int) := by omega
  have hc' : (w.setCell ⟨B, 1, none⟩ (.int .i64 ((p : Int) + 1))).cell? ⟨b, off + p, none⟩ = some (.int .u8 c) := by
    rw [World.cell?_of_block (Below.heap_setCell w ⟨B, 1, none⟩ _ b hbB)]; exact hc
  have hm0 : 0 ≤ c % n := Int.emod_nonneg _ (by omega)
  have hm1 : c % n < n := Int.emod_lt_of_pos _ (by omega)
  have hnz : (n == 0) = false := by simp; omega
  have H := Lib.hid h
  clear h
  go_enter Try.func47, Try.ntmps47
  go_wp2
  go_ret
  exact picked_mk hr hp H.out hb hB 0 hm0 hm1
theorem pick_far (w0 w : World) (B k : Nat) (n : Int) (b off len cap : Nat) (zs : List Int) (p : Nat) (x y : Int) (hr : Row .u8 w0 (some ⟨b, off, none⟩) len cap zs) (hp : p ≤ k) (hk : k ≤ 1000000)
    (h : w.heap[B]? = some (.cells #[.slice (some ⟨b, off, none⟩) len cap, .int .i64 p] 70 (0, 0))) (hb : Below w0.heap.size w0 w) (hB : w0.heap.size ≤ B) (hn : 1 ≤ n)
    (hlen : len ≤ p) (hl : 0 < len) (hbB : b ≠ B) (hx : w.cell? ⟨b, off + p % len, none⟩ = some (.int .u8 x)) (hy : w.cell? ⟨b, off + (p * 7 + 3) % len, none⟩ = some (.int .u8 y))
    (hx0 : 0 ≤ x) (hx1 : x ≤ 255) (hy0 : 0 ≤ y) (hy1 : y ≤ 255) :
    Calls Try.prog 47 #[.pointer (some ⟨B, 0, none⟩), .int .i64 n] w (Picked n w0 B (k + 1) w) := by
  have c0 := two_cell0 h
  have c1 := two_cell1 h
  have f1 : w.frozen? ⟨B, 1, none⟩ = false := two_free h
  have hp' : (p : Int) ≤ 1000000 := by omega
  have hd : decide (n < 1) = false := by simp; omega
  have hl0 : ((len : Int) == 0) = false := by simp; omega
  have hl1 : decide ((p : Int) < (len : Int)) = false := by simp; omega
  have hl2 : decide (p < len) = false := by simp; omega
  have hx' : (w.setCell ⟨B, 1, none⟩ (.int .i64 ((p : Int) + 1))).cell? ⟨b, off + p % len, none⟩ = some (.int .u8 x) := by
    rw [World.cell?_of_block (Below.heap_setCell w ⟨B, 1, none⟩ _ b hbB)]; exact hx
  have hy' : (w.setCell ⟨B, 1, none⟩ (.int .i64 ((p : Int) + 1))).cell? ⟨b, off + (p * 7 + 3) % len, none⟩ = some (.int .u8 y) := by
    rw [World.cell?_of_block (Below.heap_setCell w ⟨B, 1, none⟩ _ b hbB)]; exact hy
  have hi1 : (p : Int) % (len : Int) < (len : Int) := Int.emod_lt_of_pos _ (by omega)
  have hi2 : 0 ≤ (p : Int) % (len : Int) := Int.emod_nonneg _ (by omega)
  have hq0 : 0 ≤ (p : Int) / (len : Int) := Int.ediv_nonneg (by omega) (by omega)
  have hq1 : (p : Int) / (len : Int) ≤ 1000000 := Int.le_trans (Int.ediv_le_self _ (by omega)) (by omega)
  have hj1 : ((p : Int) * 7 + 3) % (len : Int) < (len : Int) := Int.emod_lt_of_pos _ (by omega)
  have hj2 : 0 ≤ ((p : Int) * 7 + 3) % (len : Int) := Int.emod_nonneg _ (by omega)
  have hnz : (n == 0) = false := by simp; omega
  have H := Lib.hid h
  clear h
  go_enter Try.func47, Try.ntmps47
  go_wp2_with fail
  go_quiet (fail)
  go_wp2
  go_ret
  have hE := xor_nn (x * 131 + y * 1117 + (p : Int) * 29 + (p : Int) / (len : Int) * 53) (by omega) (by omega)
  refine picked_mk hr hp H.out hb hB _ (mod_lo hE) (mod_hi hE (by omega))
end Go.Proofs.Ytachiggolgdocaa
namespace Go.Proofs.Ytachiggolgdocaa
open Go.ChangeShapes Go.WideShapes Go.ChangeAt Go.RowKit
set_option linter.unusedVariables false
theorem pick_any (w0 w : World) (B k : Nat) (n : Int) (hR : Rdr w0 w B k) (hk : k ≤ 1000000) (hn : 1 ≤ n) :
    Calls Try.prog 47 #[.pointer (some ⟨B, 0, none⟩), .int .i64 n] w (Picked n w0 B (k + 1) w) := by
  obtain ⟨a, len, cap, zs, p, hr, hp, hh, hb, hB⟩ := hR
  have hr' := hr
  rcases hr' with ⟨rfl, rfl, rfl, rfl⟩ | ⟨x, rfl, hl, hm, hz, hcell, hwz⟩
  · exact pick_empty w0 w B k n _ _ _ p hr hp hk hh hb hB hn
  · by_cases h0 : len = 0
    · subst h0
      exact pick_empty w0 w B k n _ _ _ p hr hp hk hh hb hB hn
    · obtain ⟨b, off, rfl, hcs⟩ := ints_at hcell (by omega)
      have hbl : b < w0.heap.size := cell_lt (hcs 0 (by omega))
      have hbB : b ≠ B := by omega
      have hat : ∀ j, j < zs.length → w.cell? ⟨b, off + j, none⟩ = some (.int .u8 (zs.getD j 0)) := fun j hj => (hb.cell (p := ⟨b, off + j, none⟩) hbl).trans (hcs j hj)
      by_cases h1 : p < len
      · exact pick_near w0 w B k n b off len cap zs p _ hr hp hk hh hb hB hn h1 hbB (hat p (by omega)) (byte_bd hwz p).1 (byte_bd hwz p).2
      · have i1 : p % len < len := Nat.mod_lt _ (by omega)
        have i2 : (p * 7 + 3) % len < len := Nat.mod_lt _ (by omega)
        exact pick_far w0 w B k n b off len cap zs p _ _ hr hp hk hh hb hB hn (by omega) (by omega) hbB (hat _ (by omega)) (hat _ (by omega)) (byte_bd hwz _).1 (byte_bd hwz _).2 (byte_bd hwz _).1 (byte_bd hwz _).2
theorem rdr_alloc {w0 w : World} {B k : Nat} (h : Rdr w0 w B k) (o : Obj) : Rdr w0 (w.alloc o) B k := by
  obtain ⟨a, len, cap, zs, p, hr, hp, hh, hb, hB⟩ := h
  have hlt : B < w.heap.size := by
    rcases Nat.lt_or_ge B w.heap.size with h' | h'
    · exact h'
    · rw [Array.getElem?_eq_none h'] at hh; cases hh
  exact ⟨a, len, cap, zs, p, hr, hp, (Below.heap_alloc w o B hlt).trans hh, hb.alloc hb.size o, hB⟩
theorem rdr_lt {w0 w : World} {B k : Nat} (h : Rdr w0 w B k) : B < w.heap.size := by
  obtain ⟨a, len, cap, zs, p, hr, hp, hh, hb, hB⟩ := h
  rcases Nat.lt_or_ge B w.heap.size with h' | h'
  · exact h'
  · rw [Array.getElem?_eq_none h'] at hh; cases hh
theorem rdr_mono {w0 w : World} {B k k' : Nat} (h : Rdr w0 w B k) (hk : k ≤ k') : Rdr w0 w B k' := by
  obtain ⟨a, len, cap, zs, p, hr, hp, hh, hb, hB⟩ := h
  exact ⟨a, len, cap, zs, p, hr, by omega, hh, hb, hB⟩
theorem rdr_below {w0 w : World} {B k : Nat} (h : Rdr w0 w B k) : Below w0.heap.size w0 w := by
  obtain ⟨a, len, cap, zs, p, hr, hp, hh, hb, hB⟩ := h
  exact hb
theorem Only.grown {B : Nat} {w w' : World} (h : Only B w w') : w.grownBy w' (some B) :=
  ⟨h.1, h.2.1, h.2.2.1, by rw [h.2.2.2.1]; exact Nat.le_refl _, fun i hi hne => h.2.2.2.2 i (fun e => hne (by rw [e]))⟩
theorem Only.cell {B : Nat} {w w' : World} (h : Only B w w') {b o : Nat} (hb : b ≠ B) : w'.cell? ⟨b, o, none⟩ = w.cell? ⟨b, o, none⟩ := World.cell?_of_block (h.2.2.2.2 b hb)
theorem gtrans {B : Nat} {a b c : World} (h : a.grownBy b (some B)) (k : b.grownBy c (some B)) : a.grownBy c (some B) :=
  ⟨k.os.trans h.os, k.tape.trans h.tape, k.output.trans h.output, Nat.le_trans h.size k.size, fun i hi hne => (k.block i (Nat.lt_of_lt_of_le hi h.size) hne).trans (h.block i hi hne)⟩
theorem galloc (w : World) (o : Obj) (B : Nat) : w.grownBy (w.alloc o) (some B) := World.grownBy_alloc w o (some B)
theorem open_any (w : World) (a : Option Addr) (len cap : Nat) (zs : List Int) (hr : Row .u8 w a len cap zs) :
    Calls Try.prog 39 #[.slice a len cap] w fun e w' => e = .returned (.pointer (some ⟨w.heap.size, 0, none⟩)) ∧ Rdr w w' w.heap.size 0 := by
  have hlm : len ≤ 9223372036854775807 ∧ len ≤ cap ∧ cap ≤ 9223372036854775807 := by
    rcases hr with ⟨_, rfl, rfl, _⟩ | ⟨x, _, hl, hm, _⟩
    · omega
    · unfold maxLen at hm; omega
  obtain ⟨hlm, hlc, hcm⟩ := hlm
  by_cases hl : 2000 < len
  · have hl' : (2000 : Int) < (len : Int) := by omega
    rcases hr with ⟨rfl, rfl, rfl, _⟩ | ⟨x, rfl, hlx, hm, hz, hcell, hwz⟩
    · omega
    have hR : Rdr w (w.alloc (.cells #[.slice (some x) 2000 cap, .int .i64 0] 70)) w.heap.size 0 :=
      ⟨some x, 2000, cap, zs, 0, .inr ⟨x, rfl, by omega, hm, hz, hcell, hwz⟩, Nat.le_refl _, by show (w.heap.push _)[w.heap.size]? = _; simp, (Below.refl _ _).alloc (Nat.le_refl _) _, Nat.le_refl _⟩
    go_enter Try.func39, Try.ntmps39
    go_wp2_with fail
    go_ret
    exact ⟨rfl, hR⟩
  · have hl' : (len : Int) ≤ 2000 := by omega
    have hl2 : decide ((2000 : Int) < (len : Int)) = false := by simp; omega
    have hl3 : decide (2000 < len) = false := by simp; omega
    have hR : Rdr w (w.alloc (.cells #[.slice a len cap, .int .i64 0] 70)) w.heap.size 0 :=
      ⟨a, len, cap, zs, 0, hr, Nat.le_refl _, by show (w.heap.push _)[w.heap.size]? = _; simp, (Below.refl _ _).alloc (Nat.le_refl _) _, Nat.le_refl _⟩
    go_enter Try.func39, Try.ntmps39
    go_wp2_with fail
    go_ret
    exact ⟨rfl, hR⟩
end Go.Proofs.Ytachiggolgdocaa
namespace Go.Proofs.Ytachiggolgdocaa
open Go.ChangeShapes Go.WideShapes Go.ChangeAt Go.RowKit
set_option linter.unusedVariables false
theorem own_grown {w w' : World} {B base : Nat} {e : TypeId} {s : Nat} {v : Value} {n : Nat} {x : List Value} (h : w.ownsRow base e s v n x) (hg : w.grownBy w' (some B)) (hB : B < base) : w'.ownsRow base e s v n x := by
  refine ⟨h.1, ?_⟩
  rcases h.2 with hn | ⟨g, cap, cur, e, hb, hbl, rest⟩
  · exact .inl hn
  · exact .inr ⟨g, cap, cur, e, hb, (hg.block g (Array.getElem?_eq_some_iff.1 hbl).1 (by simp; omega)).trans hbl, rest⟩
theorem grown_of_below {w w' : World} {B : Nat} (h : Below w.heap.size w w') : w.grownBy w' (some B) := ⟨h.os, h.tape, h.output, h.size, fun i hi _ => h.block i hi⟩
theorem rdr_of_below {w0 w w' : World} {B k : Nat} (h : Rdr w0 w B k) (hb : Below w.heap.size w w') : Rdr w0 w' B k := by
  have hlt := rdr_lt h
  obtain ⟨a, len, cap, zs, p, hr, hp, hh, hbb, hB⟩ := h
  exact ⟨a, len, cap, zs, p, hr, hp, (hb.block B hlt).trans hh, hbb.trans (hb.mono hbb.size), hB⟩
end Go.Proofs.Ytachiggolgdocaa
namespace Go.Proofs.Ytachiggolgdocaa
open Go.ChangeShapes Go.WideShapes Go.ChangeAt Go.RowKit
set_option linter.unusedVariables false
theorem row_of_trod {H : Type} {enc : TypeId × Value → H} {P : Program} {w : World} {base : Nat} {held : Bool} {t e : TypeId} {fuel : Nat} {a : Option Addr} {len cap : Nat} {x : DataW H × List MemPlace}
    (ht : P.underlying t = some (.slice e)) (he : P.underlying e = some (.int .u8)) (ce : P.cellsOf e = 1)
    (h : DataW.trod enc P w base (fun _ => true) held fuel t (Value.slice a len cap).cells.toList = some x) : ∃ zs, Row .u8 w a len cap zs := by
  rcases open_ints ht he ce h with ⟨hcs, _⟩ | ⟨x, l, c, zs, hcs, _, hl, hm, hz, _, hcell, hwz⟩
  · simp [Value.cells] at hcs
    obtain ⟨rfl, rfl, rfl⟩ := hcs
    exact ⟨[], .inl ⟨rfl, rfl, rfl, rfl⟩⟩
  · simp [Value.cells] at hcs
    obtain ⟨rfl, rfl, rfl⟩ := hcs
    exact ⟨zs, .inr ⟨_, rfl, hl, hm, by simpa using hz, hcell, hwz⟩⟩
end Go.Proofs.Ytachiggolgdocaa
namespace Go.Proofs.Ytachiggolgdocaa
open Go.ChangeShapes Go.WideShapes Go.ChangeAt Go.RowKit
set_option linter.unusedVariables false
theorem rdr_other {w0 w : World} {B k X o : Nat} {v : Value} (h : Rdr w0 w B k) (hX : X ≠ B) (hX0 : w0.heap.size ≤ X) : Rdr w0 (w.setCell ⟨X, o, none⟩ v) B k := by
  obtain ⟨a, len, cap, zs, p, hr, hp, hh, hb, hB⟩ := h
  exact ⟨a, len, cap, zs, p, hr, hp, (Below.heap_setCell _ _ _ B (fun e => hX e.symm)).trans hh, hb.setCell hX0 _, hB⟩
theorem grown_set {w w' : World} {B X o : Nat} {v : Value} (h : w.grownBy w' (some B)) (hX : w.heap.size ≤ X) : w.grownBy (w'.setCell ⟨X, o, none⟩ v) (some B) :=
  ⟨h.os, h.tape, h.output, by have := h.size; simpa using this, fun i hi hne => (Below.heap_setCell _ _ _ i (by simp; omega)).trans (h.block i hi hne)⟩
structure ISt (w0 : World) (B k : Nat) (w : World) (X : Nat) (x : IV) (w' : World) : Prop where
  rdr : Rdr w0 w' B k
  grow : w.grownBy w' (some B)
  x3 : TriW w' X 0 x
  res : w'.there w.heap.size 0 3
  X0 : w.heap.size < X
  X1 : X < w'.heap.size
  B0 : B < w.heap.size
  W0 : w0.heap.size ≤ w.heap.size
theorem ISt.picked {w0 w w1 w2 : World} {B k k' X : Nat} {x : IV} (h : ISt w0 B k w X x w1) (hR : Rdr w0 w2 B k') (hO : Only B w1 w2) : ISt w0 B k' w X x w2 :=
  ⟨hR, gtrans h.grow hO.grown, h.x3.block (hO.2.2.2.2 X (by have := h.X0; have := h.B0; omega)), there_blocks h.res (hO.2.2.2.2 _ (by have := h.B0; omega)), h.X0, by rw [hO.2.2.2.1]; exact h.X1, h.B0, h.W0⟩
theorem ISt.drewn {w0 w w1 w2 : World} {B k k' X : Nat} {x : IV} (h : ISt w0 B k w X x w1) (hR : Rdr w0 w2 B k') (hg : w1.grownBy w2 (some B)) : ISt w0 B k' w X x w2 :=
  ⟨hR, gtrans h.grow hg, h.x3.block (hg.block X h.X1 (by simp; have := h.X0; have := h.B0; omega)), there_blocks h.res (hg.block _ (by have := h.X1; have := h.X0; omega) (by simp; have := h.B0; omega)), h.X0, Nat.lt_of_lt_of_le h.X1 hg.size, h.B0, h.W0⟩
theorem tri_set {w : World} {X : Nat} {x y : IV} {i : Nat} {v : Value} (h : TriW w X 0 x) (hi : i < 3) (hv : (ivC y)[i]? = some v) (hy : ∀ j, j ≠ i → (ivC y)[j]? = (ivC x)[j]?) : TriW (w.setCell ⟨X, i, none⟩ v) X 0 y := by
  have hr : w.rangeAt X 0 (ivC x) := fun j u hu => by
    have hj : j < 3 := (List.getElem?_eq_some_iff.1 hu).1
    obtain rfl | rfl | rfl : j = 0 ∨ j = 1 ∨ j = 2 := by omega
    · cases hu; exact h.at3.c0
    · cases hu; exact h.at3.c1
    · cases hu; exact h.at3.c2
  have hn : (w.setCell ⟨X, i, none⟩ v).rangeAt X 0 (ivC y) := fun j u hu => by
    have hj : j < 3 := (List.getElem?_eq_some_iff.1 hu).1
    rw [Nat.zero_add]
    by_cases e : j = i
    · subst e
      rw [hv] at hu
      injection hu with hu
      subst hu
      obtain ⟨u0, hu0⟩ : ∃ u0, (ivC x)[j]? = some u0 := ⟨_, List.getElem?_eq_getElem (by show j < 3; omega)⟩
      have := hr j u0 hu0
      rw [Nat.zero_add] at this
      exact cell_set_same this
    · rw [cell_set_other (.inr (by omega))]
      have := hr j u (by rw [← hy j e]; exact hu)
      rwa [Nat.zero_add] at this
  exact ⟨⟨hn 0 _ rfl, hn 1 _ rfl, hn 2 _ rfl⟩, fun j hj => by rw [frozen_set]; exact h.fr j hj⟩
theorem ISt.set {w0 w w1 : World} {B k X : Nat} {x y : IV} {i : Nat} {v : Value} (h : ISt w0 B k w X x w1) (hi : i < 3) (hv : (ivC y)[i]? = some v) (hy : ∀ j, j ≠ i → (ivC y)[j]? = (ivC x)[j]?) : ISt w0 B k w X y (w1.setCell ⟨X, i, none⟩ v) :=
  ⟨rdr_other h.rdr (by have := h.X0; have := h.B0; omega) (by have := h.X0; have := h.W0; omega), grown_set h.grow (by have := h.X0; omega), tri_set h.x3 hi hv hy,
    there_blocks h.res (Below.heap_setCell _ _ _ _ (by simp; have := h.X0; omega)), h.X0, by have := h.X1; simpa using this, h.B0, h.W0⟩
theorem ISt.start {w0 w w3 : World} {B k : Nat} {x : IV} {t : TypeId} (hR : Rdr w0 w3 B k) (hB : B < w.heap.size) (hW : w0.heap.size ≤ w.heap.size) (hg : w.grownBy w3 (some B)) (hr : w3.there w.heap.size 0 3) (hs : w.heap.size < w3.heap.size) :
    ISt w0 B k w w3.heap.size x (w3.alloc (.cells #[.int .i64 x.k, .int .i64 x.g, .int .i64 x.r] t)) :=
  ⟨rdr_alloc hR _, gtrans hg (galloc _ _ _), ⟨⟨new_cell rfl, new_cell rfl, new_cell rfl⟩, fun j hj => frozen_of_row _ _ _ _ _ (heap_alloc_new w3 _)⟩,
    there_blocks hr (Below.heap_alloc _ _ _ hs), hs, by simp, hB, hW⟩
theorem ISt.final {w0 w w1 : World} {B k X : Nat} {x : IV} (h : ISt w0 B k w X x w1) (vs : List Value) : Rdr w0 (w1.setCells w.heap.size 0 vs) B k ∧ w.grownBy (w1.setCells w.heap.size 0 vs) (some B) := by
  have hB0 := h.B0
  have hW0 := h.W0
  refine ⟨?_, (os_setCells _ _ _ _).trans h.grow.os, (tape_setCells _ _ _ _).trans h.grow.tape, (output_setCells _ _ _ _).trans h.grow.output, by rw [size_setCells]; exact h.grow.size, fun i hi hne => (heap_setCells_other w1 _ _ _ _ _ (by omega)).trans (h.grow.block i hi hne)⟩
  obtain ⟨a, len, cap, zs, p, hr, hp, hh, hb, hB⟩ := h.rdr
  exact ⟨a, len, cap, zs, p, hr, hp, (heap_setCells_other w1 _ _ _ _ _ (by omega)).trans hh, Below.setCells (Below.refl _ _) _ hW0 _ _ _ hb, hB⟩
structure OwnBI (w0 : World) (B k : Nat) (w : World) (v : Value) (ys : List IV) (w' : World) : Prop where
  own : w'.ownsRow w.heap.size 25 3 v ys.length (isC ys)
  nn : v ≠ .slice none 0 0
  rdr : Rdr w0 w' B k
  grow : w.grownBy w' (some B)
  B0 : B < w.heap.size
theorem OwnBI.is {w0 w w' : World} {B k : Nat} {v : Value} {ys : List IV} (h : OwnBI w0 B k w v ys w') : Is w' v ys := (IsW.of_ownsRow h.own).is
theorem OwnBI.row {w0 w w' : World} {B k : Nat} {v : Value} {ys : List IV} (h : OwnBI w0 B k w v ys w') : IsW w' w.heap.size w'.heap.size v ys := IsW.of_ownsRow h.own
theorem OwnBI.start {w0 w : World} {B k : Nat} (hR : Rdr w0 w B k) : OwnBI w0 B k w (.slice (some ⟨w.heap.size, 0, none⟩) 0 0) [] (w.alloc (.cells #[] 25)) :=
  ⟨World.ownsRow_made w #[] 0 (Nat.le_refl _) (Nat.zero_le _) rfl, (fun h => by cases h), rdr_alloc hR _, galloc _ _ _, rdr_lt hR⟩
theorem OwnBI.drew {w0 w w' w2 : World} {B k k' : Nat} {v : Value} {ys : List IV} (h : OwnBI w0 B k w v ys w') (hR : Rdr w0 w2 B k') (hg : w'.grownBy w2 (some B)) : OwnBI w0 B k' w v ys w2 :=
  ⟨own_grown h.own hg h.B0, h.nn, hR, gtrans h.grow hg, h.B0⟩
theorem OwnBI.keep {w0 w w1 w2 : World} {B k : Nat} {v : Value} {ys : List IV} (h : OwnBI w0 B k w v ys w1) (hb : Below w1.heap.size w1 w2) : OwnBI w0 B k w v ys w2 :=
  h.drew (rdr_of_below h.rdr hb) (grown_of_below hb)
theorem OwnBI.append {w0 w wr w2 : World} {B k : Nat} {v v2 : Value} {ys zs : List IV} (h : OwnBI w0 B k w v ys wr) (h2 : w2.ownsRow w.heap.size 25 3 v2 (ys ++ zs).length (isC (ys ++ zs))) (hg : wr.grownBy w2 v.ownBlock) (hnn : v2 = .slice none 0 0 → v = .slice none 0 0) :
    OwnBI w0 B k w v2 (ys ++ zs) w2 := by
  have hob : ∀ b, v.ownBlock = some b → w.heap.size ≤ b := fun b hb => (h.own.lt b hb).1
  have hB0 := h.B0
  have hlt := rdr_lt h.rdr
  refine ⟨h2, fun e => h.nn (hnn e), ?_, ?_, h.B0⟩
  · have hw0 := h.rdr
    obtain ⟨a, len, cap, zs, p, hr, hp, hh, hbb, hB⟩ := hw0
    refine ⟨a, len, cap, zs, p, hr, hp, (hg.block B hlt (fun e => by have := hob B e.symm; omega)).trans hh, hbb.grown hg hbb.size (fun b hb => by have := hob b hb; have := h.grow.size; omega), hB⟩
  · exact ⟨hg.os.trans h.grow.os, hg.tape.trans h.grow.tape, hg.output.trans h.grow.output, Nat.le_trans h.grow.size hg.size, fun i hi hne => (hg.block i (Nat.lt_of_lt_of_le hi h.grow.size) (fun e => by have := hob i e.symm; omega)).trans (h.grow.block i hi hne)⟩
theorem OwnBI.form {w0 w w' : World} {B k : Nat} {v : Value} {ys : List IV} (h : OwnBI w0 B k w v ys w') : ∃ g cap, v = .slice (some ⟨g, 0, none⟩) ys.length cap ∧ ys.length ≤ cap ∧ cap ≤ maxLen ∧ w.heap.size ≤ g := by
  rcases h.own.2 with ⟨e, _⟩ | ⟨g, cap, cur, e, hb, _, hnc, hcm, _⟩
  · exact absurd e h.nn
  · exact ⟨g, cap, e, hnc, hcm, hb⟩
theorem OwnBI.mono {w0 w w' : World} {B k k' : Nat} {v : Value} {ys : List IV} (h : OwnBI w0 B k w v ys w') (hk : k ≤ k') : OwnBI w0 B k' w v ys w' := ⟨h.own, h.nn, rdr_mono h.rdr hk, h.grow, h.B0⟩
theorem wpList_append_rowI {ops : Array Oper} {rest : List Oper} {a : Act} {w : World} {Q : Exit → Act → World → Prop} {dst : Option Nat} {tt : TypeId} {pos : String} {after : Array Edge} (s x : Operand)
    (base : Nat) (v : Value) (ys : List IV) (hs : a.eval s = v) (hown : w.ownsRow base 25 3 v ys.length (isC ys)) (hbase : base ≤ w.heap.size) (xv : Value) (zs : List IV) (hx : a.eval x = xv) (hz : Is w xv zs) (hn : NilOkI xv) (hl : ys.length + zs.length ≤ 1000000)
    (h : ∀ v' w', w'.ownsRow base 25 3 v' (ys ++ zs).length (isC (ys ++ zs)) → (v' = .slice none 0 0 ↔ v = .slice none 0 0 ∧ zs.length = 0) → w.grownBy w' v.ownBlock → wpList Try.prog ops Q rest (a.put dst v') w') :
    wpList Try.prog ops Q ({ dst := dst, op := .call { callee := .builtin .append, args := #[s, x], argTypes := #[23, 23] }, type := tt, pos := pos, after := after, guard := none } :: rest) a w :=
  wpList_plain rfl fun K hK => wp_append_rowI s x base v ys hs hown hbase xv zs hx hz hn hl (fun v' w' h1 h2 h3 => hK _ _ (h v' w' h1 h2 h3))
structure RowBI (w0 : World) (B k : Nat) (w : World) (v : Value) (ys : List IV) (w' : World) : Prop where
  row : IsW w' w.heap.size w'.heap.size v ys
  form : ∃ g cap, v = .slice (some ⟨g, 0, none⟩) ys.length cap
  rdr : Rdr w0 w' B k
  grow : w.grownBy w' (some B)
  B0 : B < w.heap.size
theorem OwnBI.rowB {w0 w w' : World} {B k : Nat} {v : Value} {ys : List IV} (h : OwnBI w0 B k w v ys w') : RowBI w0 B k w v ys w' :=
  ⟨h.row, by obtain ⟨g, cap, e, _⟩ := h.form; exact ⟨g, cap, e⟩, h.rdr, h.grow, h.B0⟩
theorem RowBI.drew {w0 w w1 w2 : World} {B k k' : Nat} {v : Value} {ys : List IV} (h : RowBI w0 B k w v ys w1) (hR : Rdr w0 w2 B k') (hg : w1.grownBy w2 (some B)) : RowBI w0 B k' w v ys w2 := by
  refine ⟨?_, h.form, hR, gtrans h.grow hg, h.B0⟩
  obtain ⟨a, cap, e, h2, h3, h4⟩ := h.row
  refine ⟨a, cap, e, h2, h3, fun i hi => ?_⟩
  obtain ⟨g, p, e, hg0, hg1, hf⟩ := h4 i hi
  exact ⟨g, p, e, hg0, Nat.lt_of_lt_of_le hg1 hg.size, hf.block (hg.block g hg1 (by have := h.B0; intro e; injection e with e; omega))⟩
theorem RowBI.mono {w0 w w1 : World} {B k k' : Nat} {v : Value} {ys : List IV} (h : RowBI w0 B k w v ys w1) (hk : k ≤ k') : RowBI w0 B k' w v ys w1 := ⟨h.row, h.form, rdr_mono h.rdr hk, h.grow, h.B0⟩
def DrewIV (w0 : World) (B k : Nat) (w : World) (e : Ending) (w' : World) : Prop := ∃ x : IV, e = .returned (ivV x) ∧ Rdr w0 w' B k ∧ w.grownBy w' (some B)
set_option maxRecDepth 100000 in
set_option maxHeartbeats 4000000 in
theorem mail_any (w0 w : World) (B k : Nat) (hR : Rdr w0 w B k) (hk : k ≤ 800000) :
    Calls Try.prog 41 #[.pointer (some ⟨B, 0, none⟩)] w (DrewIV w0 B (k + 12) w) := by
  have hlt := rdr_lt hR
  have hw0 := (rdr_below hR).size
  go_enter Try.func41, Try.ntmps41
  go_wp2_with fail
  refine (pick_any w0 _ B k _ (rdr_alloc hR _) (by omega) (by omega)).mono ?_
  rintro e w1 ⟨m1, h10, h11, rfl, hR1, hO1⟩
  have HR1 : Hid (w1.there w.heap.size 0 3) := Lib.hid (there_blocks (there_row (heap_alloc_new w _) (by simp)) (hO1.2.2.2.2 _ (by omega)))
  have HS1 : Hid (w1.heap.size = w.heap.size + 1) := Lib.hid (by rw [hO1.2.2.2.1]; simp)
  have HG1 : Hid (w.grownBy w1 (some B)) := Lib.hid (gtrans (galloc w _ _) hO1.grown)
  clear hO1 hR
  go_wp2_with fail
  refine (pick_any w0 _ B _ _ hR1 (by omega) (by omega)).mono ?_
  rintro e w2 ⟨m2, h20, h21, rfl, hR2, hO2⟩
  have HR2 : Hid (w2.there w.heap.size 0 3) := Lib.hid (there_blocks HR1.out (hO2.2.2.2.2 _ (by omega)))
  have HS2 : Hid (w2.heap.size = w.heap.size + 1) := Lib.hid (by rw [hO2.2.2.2.1, HS1.out])
  have HG2 : Hid (w.grownBy w2 (some B)) := Lib.hid (gtrans HG1.out hO2.grown)
  clear hO2 hR1 HR1 HS1 HG1
  go_wp2_with fail
  refine (pick_any w0 _ B _ _ hR2 (by omega) (by omega)).mono ?_
  rintro e w3 ⟨m3, h30, h31, rfl, hR3, hO3⟩
  have HR3 : Hid (w3.there w.heap.size 0 3) := Lib.hid (there_blocks HR2.out (hO3.2.2.2.2 _ (by omega)))
  have HS3 : Hid (w.heap.size < w3.heap.size) := Lib.hid (by rw [hO3.2.2.2.1, HS2.out]; omega)
  have HG3 : Hid (w.grownBy w3 (some B)) := Lib.hid (gtrans HG2.out hO3.grown)
  clear hO3 hR2 HR2 HS2 HG2
  obtain ⟨q, hq⟩ : ∃ q, q = m3 * 4 := ⟨_, rfl⟩
  have hqw : IntKind.i64.wrap (m3 * 4) = q := by rw [← hq, IntKind.wrap_i64]; omega
  have HSX := Lib.hid (ISt.start (x := ⟨m1, m2, q⟩) (t := 25) hR3 hlt hw0 HG3.out HR3.out HS3.out)
  clear hq hR3 HG3 HR3 hlt
  go_wp2_with fail
  obtain ⟨X, hX⟩ : ∃ X, w3.heap.size = X := ⟨_, rfl⟩
  obtain ⟨wA, hA⟩ : ∃ wA, w3.alloc (.cells #[.int .i64 m1, .int .i64 m2, .int .i64 q] 25) = wA := ⟨_, rfl⟩
  simp only [hA, hX] at HSX ⊢
  clear hA hX hqw HS3 hw0
  refine (pick_any w0 _ B _ _ HSX.out.rdr (by omega) (by omega)).mono ?_
  rintro e w6 ⟨m6, h60, h61, rfl, hR6, hO6⟩
  have HS6 := Lib.hid (HSX.out.picked hR6 hO6)
  clear hR6 hO6 HSX
  by_cases hm0 : m6 = 0
  · subst hm0
    go_wp2_with fail
    refine (pick_any w0 _ B _ _ (rdr_alloc HS6.out.rdr _) (by omega) (by omega)).mono ?_
    rintro e w7 ⟨m7, h70, h71, rfl, hR7, hO7⟩
    have HS7 := Lib.hid (HS6.out.drewn hR7 (gtrans (galloc _ _ _) hO7.grown))
    have hBX := HS6.out.B0
    have hsz := Nat.le_of_lt (Nat.lt_trans HS6.out.X0 HS6.out.X1)
    have hc : ∀ o, w7.cell? ⟨w6.heap.size, o, none⟩ = (w6.alloc (.cells #[.int .i64 (-1), .int .i64 3] 3)).cell? ⟨w6.heap.size, o, none⟩ := fun o => hO7.cell (by omega)
    obtain ⟨y0, y1, y2⟩ := HS7.out.x3.at3
    have yf := HS7.out.x3.fr 1 (by omega)
    simp only [Nat.zero_add] at y0 y1 y2 yf
    obtain ⟨n7, rfl⟩ : ∃ n7 : Nat, m7 = (n7 : Int) := ⟨m7.toNat, by omega⟩
    have hv : ∃ z, w7.cell? ⟨w6.heap.size, n7, none⟩ = some (.int .i64 z) := by
      have hmm : n7 = 0 ∨ n7 = 1 := by omega
      rcases hmm with rfl | rfl
      · exact ⟨_, (hc 0).trans (new_cell rfl)⟩
      · exact ⟨_, (hc 1).trans (new_cell rfl)⟩
    obtain ⟨z, hz⟩ := hv
    have HS9 := Lib.hid (HS7.out.set (y := ⟨m1, z, q⟩) (i := 1) (v := .int .i64 z) (by omega) rfl (fun j hj => by
      obtain rfl | rfl | rfl | h4 : j = 0 ∨ j = 1 ∨ j = 2 ∨ 3 ≤ j := by omega
      all_goals first | rfl | (exact absurd rfl hj) | (rw [List.getElem?_eq_none (by exact h4), List.getElem?_eq_none (by exact h4)])))
    clear hc HS7 hR7 hO7 HS6
    go_wp2_with ((with_reducible refine store_is 25 (.tmp 2) (.tmp 30) ?_); refine store_arr 25 (.tmp 2) (.tmp 30) w.heap.size 0 #[.int .i64 m1, .int .i64 z, .int .i64 q] rfl rfl HS9.out.res info_iv (ivBits ⟨m1, z, q⟩) ?_)
    try simp only [Act.put]
    refine bodyPost_ret (results_one_mid rfl _ _ w.heap.size 0 [.int .i64 m1, .int .i64 z, .int .i64 q] _ rfl (World.rangeAt_setCells_same _ _ _ _ HS9.out.res) Try.underlying25 rfl (by kernel_rfl)) rfl ?_
    exact ⟨⟨m1, z, q⟩, rfl, rdr_mono (HS9.out.final _).1 (by omega), (HS9.out.final _).2⟩
  have hn0 : (m6 == 0) = false := by simpa using hm0
  by_cases hm1 : m6 = 1
  · subst hm1
    go_wp2_with fail
    refine (pick_any w0 _ B _ _ (rdr_alloc HS6.out.rdr _) (by omega) (by omega)).mono ?_
    rintro e w7 ⟨m7, h70, h71, rfl, hR7, hO7⟩
    have HS7 := Lib.hid (HS6.out.drewn hR7 (gtrans (galloc _ _ _) hO7.grown))
    have hBX := HS6.out.B0
    have hsz := Nat.le_of_lt (Nat.lt_trans HS6.out.X0 HS6.out.X1)
    have hc : ∀ o, w7.cell? ⟨w6.heap.size, o, none⟩ = (w6.alloc (.cells #[.int .i64 (-1), .int .i64 9999, .int .i64 10000] 3)).cell? ⟨w6.heap.size, o, none⟩ := fun o => hO7.cell (by omega)
    obtain ⟨y0, y1, y2⟩ := HS7.out.x3.at3
    have yf := HS7.out.x3.fr 2 (by omega)
    simp only [Nat.zero_add] at y0 y1 y2 yf
    obtain ⟨n7, rfl⟩ : ∃ n7 : Nat, m7 = (n7 : Int) := ⟨m7.toNat, by omega⟩
    have hv : ∃ z, w7.cell? ⟨w6.heap.size, n7, none⟩ = some (.int .i64 z) := by
      have hmm : n7 = 0 ∨ n7 = 1 ∨ n7 = 2 := by omega
      rcases hmm with rfl | rfl | rfl
      · exact ⟨_, (hc 0).trans (new_cell rfl)⟩
      · exact ⟨_, (hc 1).trans (new_cell rfl)⟩
      · exact ⟨_, (hc 2).trans (new_cell rfl)⟩
    obtain ⟨z, hz⟩ := hv
    have HS9 := Lib.hid (HS7.out.set (y := ⟨m1, m2, z⟩) (i := 2) (v := .int .i64 z) (by omega) rfl (fun j hj => by
      obtain rfl | rfl | rfl | h4 : j = 0 ∨ j = 1 ∨ j = 2 ∨ 3 ≤ j := by omega
      all_goals first | rfl | (exact absurd rfl hj) | (rw [List.getElem?_eq_none (by exact h4), List.getElem?_eq_none (by exact h4)])))
    clear hc HS7 hR7 hO7 HS6
    go_wp2_with ((with_reducible refine store_is 25 (.tmp 2) (.tmp 30) ?_); refine store_arr 25 (.tmp 2) (.tmp 30) w.heap.size 0 #[.int .i64 m1, .int .i64 m2, .int .i64 z] rfl rfl HS9.out.res info_iv (ivBits ⟨m1, m2, z⟩) ?_)
    try simp only [Act.put]
    refine bodyPost_ret (results_one_mid rfl _ _ w.heap.size 0 [.int .i64 m1, .int .i64 m2, .int .i64 z] _ rfl (World.rangeAt_setCells_same _ _ _ _ HS9.out.res) Try.underlying25 rfl (by kernel_rfl)) rfl ?_
    exact ⟨⟨m1, m2, z⟩, rfl, rdr_mono (HS9.out.final _).1 (by omega), (HS9.out.final _).2⟩
  have hn1 : (m6 == 1) = false := by simpa using hm1
  have HS9 := HS6
  obtain ⟨y0, y1, y2⟩ := HS6.out.x3.at3
  simp only [Nat.zero_add] at y0 y1 y2
  go_wp2_with ((with_reducible refine store_is 25 (.tmp 2) (.tmp 30) ?_); refine store_arr 25 (.tmp 2) (.tmp 30) w.heap.size 0 #[.int .i64 m1, .int .i64 m2, .int .i64 q] rfl rfl HS9.out.res info_iv (ivBits ⟨m1, m2, q⟩) ?_)
  try simp only [Act.put]
  refine bodyPost_ret (results_one_mid rfl _ _ w.heap.size 0 [.int .i64 m1, .int .i64 m2, .int .i64 q] _ rfl (World.rangeAt_setCells_same _ _ _ _ HS9.out.res) Try.underlying25 rfl (by kernel_rfl)) rfl ?_
  exact ⟨⟨m1, m2, q⟩, rfl, rdr_mono (HS9.out.final _).1 (by omega), (HS9.out.final _).2⟩
def DrewIs (w0 : World) (B k : Nat) (w : World) (e : Ending) (w' : World) : Prop := ∃ v ys, e = .returned v ∧ ys.length ≤ 9 ∧ RowBI w0 B k w v ys w'
set_option maxRecDepth 100000 in
set_option maxHeartbeats 4000000 in
theorem mails_any (w0 w : World) (B k : Nat) (hR : Rdr w0 w B k) (hk : k ≤ 700000) :
    Calls Try.prog 40 #[.pointer (some ⟨B, 0, none⟩)] w (DrewIs w0 B (k + 200) w) := by
  have HS := Lib.hid (OwnBI.start hR)
  clear hR
  go_enter Try.func40, Try.ntmps40
  go_wp2_with fail
  refine (pick_any w0 _ B _ _ HS.out.rdr (by omega) (by omega)).mono ?_
  rintro e w1 ⟨mm, h0, h1, rfl, hR1, hO1⟩
  obtain ⟨m, rfl⟩ : ∃ m : Nat, mm = (m : Int) := ⟨mm.toNat, by omega⟩
  have HS1 := Lib.hid (HS.out.drew hR1 hO1.grown)
  have hm9 : m ≤ 9 := by omega
  clear HS hR1 hO1 h0 h1
  go_wp2
  go_loopw [3, 5] (fun c i wr => ∃ (j : Nat) (ys : List IV), j ≤ m ∧ i = .int .i64 j ∧ ys.length = j ∧ Hid (OwnBI w0 B (k + 1 + 12 * j) w c ys wr)) (fun _ i _ => m - (intOf i).toNat)
  case atStart => exact ⟨0, [], Nat.zero_le _, rfl, rfl, HS1⟩
  case round =>
    obtain ⟨j, ys, hj, rfl, hl, HREL⟩ := hrel
    have HL := Lib.hid hl
    clear hl
    by_cases hlt : j < m
    · have hlt' : (j : Int) < (m : Int) := by omega
      go_wp2_with fail
      refine (mail_any w0 _ B _ HREL.out.rdr (by omega)).mono ?_
      rintro e w2 ⟨x, rfl, hR2, hg2⟩
      have HS2 := Lib.hid (HREL.out.drew hR2 hg2)
      clear HREL hR2 hg2
      have HS4 := Lib.hid (HS2.out.keep ((Below.refl w2.heap.size w2).alloc (Nat.le_refl _) (.cells #[.int .i64 x.k, .int .i64 x.g, .int .i64 x.r] 25)))
      go_wp2_with (at_builtin; refine wpList_append_rowI (.tmp 14) (.tmp 17) w.heap.size _ ys rfl HS4.out.own HS4.out.grow.size _ [x] rfl (is_one _ x) nilOkI_some (by have := HL.out; simp only [List.length_singleton]; omega) ?_; intro v2 w4 hown2 hnn2 hgrow2)
      have HE := Lib.hid (HS4.out.append (zs := [x]) hown2 hgrow2 (fun e => (hnn2.1 e).1))
      clear hown2 hgrow2 hnn2 HS4 HS2
      go_wp2
      go_roundw
      case rel => exact ⟨j + 1, ys ++ [x], by omega, by go_num, by rw [List.length_append, HL.out]; rfl, Lib.hid (HE.out.mono (by omega))⟩
      case measure => simp [intOf]; omega
    · have e12 : j = m := by omega
      subst e12
      go_wp2_with fail
      go_ret
      exact ⟨_, ys, rfl, by rw [HL.out]; exact hm9, (HREL.out.mono (by omega)).rowB⟩
structure DIs (W : World) (v : Value) (ys : List IV) (w' : World) : Prop where
  is : Is w' v ys
  len : ys.length ≤ 9
  bel : Below W.heap.size W w'
  form : ∃ g cap, v = .slice (some ⟨g, 0, none⟩) ys.length cap
theorem DIs.nil {W w' : World} {v : Value} {ys : List IV} (h : DIs W v ys w') : NilOkI v := by obtain ⟨g, c, rfl⟩ := h.form; exact nilOkI_some
end Go.Proofs.Ytachiggolgdocaa
namespace Go.Proofs.Ytachiggolgdocaa
open Go.ChangeShapes Go.WideShapes Go.ChangeAt Go.RowKit
set_option linter.unusedVariables false
theorem row_len {k : IntKind} {w : World} {a : Option Addr} {len cap : Nat} {zs : List Int} (hr : Row k w a len cap zs) : len ≤ 9223372036854775807 := by
  rcases hr with ⟨_, rfl, _⟩ | ⟨_, _, hl, hm, _⟩
  · omega
  · unfold maxLen at hm; omega
end Go.Proofs.Ytachiggolgdocaa
