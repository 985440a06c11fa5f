/- What the proofs stand on, part 4. -/
import Derived.Test.YtfnmnegddhggaaaRows
import Derived.Test.YtfnmnegddhggaaaT1
import Derived.Test.YtfnmnegddhggaaaT2
set_option linter.unusedSimpArgs false
set_option linter.unusedVariables false
namespace Go.Proofs.Ytfnmnegddhggaaa
open Go.ChangeShapes Go.WideShapes Go.ChangeAt Go.RowKit
set_option linter.unusedVariables false
section
variable {P : Program}
theorem run_indexAt_part (t : TypeId) (n : Nat) (e : TypeId) (hu : P.underlying t = some (.array n e)) (hs : ∀ w, (sizeOf e).run P w = .ok 1 w) (hn : 1 < n)
    (b o : Nat) (k : Nat) (hk : k < n) (W : World) : (Instr.indexAt t (.pointer (some ⟨b, o, none⟩)) (.int .i64 k)).run P W = .ok (.pointer (some ⟨b, o + k, none⟩)) W := by
  have h1 : (0 : Int) ≤ (k : Int) ∧ (k : Int) < (n : Int) := by omega
  unfold Instr.indexAt
  simp only [asIntOf, Instr.sureAddr, Sem.run_bind, Sem.run_pure, Result.andThen_ok, run_underlying hu, hs, if_pos h1, Int.toNat_natCast, Nat.mul_one, Addr.add_mid]
end
end Go.Proofs.Ytfnmnegddhggaaa
namespace Go.Proofs.Ytfnmnegddhggaaa
open Go.ChangeShapes Go.WideShapes Go.ChangeAt Go.RowKit
set_option linter.unusedVariables false
def ftOk (xs : List Int) (f : Int) : Bool := trOk xs && inR f 1 12
end Go.Proofs.Ytfnmnegddhggaaa
namespace Go.Proofs.Ytfnmnegddhggaaa
open Go.ChangeShapes Go.WideShapes Go.ChangeAt Go.RowKit
set_option linter.unusedVariables false
theorem drop_get {xs : List Int} {k j : Nat} : (xs.drop k).getD j 0 = xs.getD (k + j) 0 := by
  simp [List.getD_eq_getElem?_getD, List.getElem?_drop]
end Go.Proofs.Ytfnmnegddhggaaa
namespace Go.Proofs.Ytfnmnegddhggaaa
set_option linter.unusedVariables false
set_option linter.unusedSimpArgs false
def fMiss (x : Int) (S : List Int) : Nat := if x ∈ S then 0 else 1
theorem fMiss_in {x : Int} {S : List Int} (h : x ∈ S) : fMiss x S = 0 := if_pos h
theorem fMiss_out {x : Int} {S : List Int} (h : x ∉ S) : fMiss x S = 1 := if_neg h
theorem fMiss_le (x : Int) (S : List Int) : fMiss x S ≤ 1 := by unfold fMiss; split <;> omega
end Go.Proofs.Ytfnmnegddhggaaa
namespace Go.Proofs.Ytfnmnegddhggaaa
open Go.ChangeShapes Go.WideShapes Go.ChangeAt Go.RowKit
set_option linter.unusedVariables false
theorem anyH_gen {P : Program} {md : Region.Mode} {ops : Array Oper} {Q : Exit → Act → World → Prop} {S : World → Prop} {fuel : Nat} {listed : Array Bool} {a : Act} (w : World) (h : ∀ w', w' = w → wpAnyH P md ops Q S fuel listed a w') : wpAnyH P md ops Q S fuel listed a w := h w rfl
end Go.Proofs.Ytfnmnegddhggaaa
namespace Go.Proofs.Ytfnmnegddhggaaa
open Go.ChangeShapes Go.WideShapes Go.ChangeAt Go.RowKit
set_option linter.unusedVariables false
set_option linter.unusedSimpArgs false
theorem slice_from {w : World} {v : Value} {xs : List Int} (h : Ints w v xs) (k : Nat) (hk : k ≤ xs.length) (u : Int) (hu : u = (k : Int)) :
    ∃ v', (∀ W : World, (Instr.sliceAt 23 v (some (.int .i64 u)) none none).run Try.prog W = .ok v' W) ∧ ∀ w', Ints w' v xs → Ints w' v' (xs.drop k) := by
  subst hu
  obtain ⟨a, c, rfl, h1, h2, h3⟩ := h
  have hk1 : (0 : Int) ≤ (k : Int) ∧ (k : Int) ≤ (xs.length : Int) := by omega
  refine ⟨.slice (if c = k then a else a.map (·.add k)) (xs.length - k) (c - k), fun W => ?_, fun w' hw => ?_⟩
  · unfold Instr.sliceAt
    simp only [Sem.run_bind, run_underlying Try.underlying23, Result.andThen_ok]
    unfold Instr.slice
    simp only [Sem.run_bind, run_underlying Try.underlying23, Result.andThen_ok, Instr.sliceBounds, Instr.sliceBound, asIntOf, Sem.run_pure, if_pos hk1, Int.toNat_natCast, Try.sizeOf3, Nat.mul_one]
  · obtain ⟨a', c', e, q1, q2, q3⟩ := hw
    injection e with e1 e2 e3
    subst e1
    subst e3
    refine ⟨_, _, by rw [List.length_drop], by rw [List.length_drop]; omega, by omega, fun i hi => ?_⟩
    rw [List.length_drop] at hi
    obtain ⟨b, o, rfl, hc⟩ := q3 (k + i) (by omega)
    refine ⟨b, o + k, ?_, ?_⟩
    · rw [if_neg (by omega)]
      simp [Addr.add_mid]
    · rw [drop_get, Nat.add_assoc]
      exact hc
end Go.Proofs.Ytfnmnegddhggaaa
namespace Go.Proofs.Ytfnmnegddhggaaa
open Go.ChangeShapes Go.WideShapes Go.ChangeAt Go.RowKit
set_option linter.unusedVariables false
set_option linter.unusedSimpArgs false
theorem ftOk_f {xs : List Int} {f : Int} (h : ftOk xs f = true) : ∃ F : Nat, f = (F : Int) ∧ 1 ≤ F ∧ F ≤ 12 := by
  unfold ftOk at h
  rw [Bool.and_eq_true] at h
  have := inR_iff.1 h.2
  exact ⟨f.toNat, by omega, by omega, by omega⟩
end Go.Proofs.Ytfnmnegddhggaaa
namespace Go.Proofs.Ytfnmnegddhggaaa
set_option linter.unusedVariables false
set_option linter.unusedSimpArgs false
def xUpd (c : Int → Int) (x v : Int) : Int → Int := fun y => if y = x then v else c y
def xMid (rule : List Int → (Int → Int) → List Int → Int) (f : Nat) (L : List Int) (c : Int → Int) (x : Int) (r : List Int) : List Int :=
  if x ∈ L then L else if L.length < f then L else L.erase (rule L c r)
def xNext (rule : List Int → (Int → Int) → List Int → Int) (f : Nat) (L : List Int) (c : Int → Int) (x : Int) (r : List Int) : List Int :=
  x :: (xMid rule f L c x r).erase x
def xCame (L : List Int) (c : Int → Int) (n : Nat) (x : Int) : Int → Int := if x ∈ L then c else xUpd c x ((n + 1 : Nat) : Int)
def xRun (rule : List Int → (Int → Int) → List Int → Int) (f : Nat) : List Int → (Int → Int) → Nat → List Int → Nat
  | _, _, n, [] => n
  | L, c, n, x :: r => xRun rule f (xNext rule f L c x r) (xCame L c n x) (n + fMiss x L) r
def XIn (rule : List Int → (Int → Int) → List Int → Int) : Prop := ∀ L c r, L ≠ [] → rule L c r ∈ L
theorem xMid_keep {rule : List Int → (Int → Int) → List Int → Int} {f : Nat} {L : List Int} {c : Int → Int} {x : Int} {r : List Int} : ∀ y ∈ xMid rule f L c x r, y ∈ L := fun y hy => by
  unfold xMid at hy
  split at hy
  · exact hy
  · split at hy
    · exact hy
    · exact List.mem_of_mem_erase hy
theorem xNext_sub {rule : List Int → (Int → Int) → List Int → Int} {f : Nat} {L : List Int} {c : Int → Int} {x : Int} {r : List Int} : ∀ y ∈ xNext rule f L c x r, y = x ∨ y ∈ L := fun y hy => by
  rcases List.mem_cons.1 hy with h | h
  · exact .inl h
  · exact .inr (xMid_keep y (List.mem_of_mem_erase h))
theorem xNext_len {rule : List Int → (Int → Int) → List Int → Int} (hr : XIn rule) {f : Nat} (hf : 0 < f) {L : List Int} {c : Int → Int} {x : Int} {r : List Int} (h : L.length ≤ f) :
    (xNext rule f L c x r).length = if x ∈ L then L.length else if L.length < f then L.length + 1 else L.length := by
  unfold xNext xMid
  split
  · rename_i hx
    have := List.length_pos_of_mem hx
    rw [List.length_cons, List.length_erase_of_mem hx]; omega
  · rename_i hx
    split
    · rw [List.length_cons, List.erase_of_not_mem hx]
    · rename_i hl
      have hne : L ≠ [] := by intro e; subst e; exact hl (by simpa using hf)
      have hm := hr L c r hne
      have := List.length_pos_of_mem hm
      rw [List.length_cons, List.erase_of_not_mem (fun h => hx (List.mem_of_mem_erase h)), List.length_erase_of_mem hm]; omega
theorem xNext_le {rule : List Int → (Int → Int) → List Int → Int} (hr : XIn rule) {f : Nat} (hf : 0 < f) {L : List Int} {c : Int → Int} {x : Int} {r : List Int} (h : L.length ≤ f) : (xNext rule f L c x r).length ≤ f := by
  rw [xNext_len hr hf h]
  split
  · exact h
  · split <;> omega
end Go.Proofs.Ytfnmnegddhggaaa
namespace Go.Proofs.Ytfnmnegddhggaaa
open Go.ChangeShapes Go.WideShapes Go.ChangeAt Go.RowKit
set_option linter.unusedVariables false
set_option linter.unusedSimpArgs false
theorem ftOk_tr {xs : List Int} {f : Int} (h : ftOk xs f = true) : trOk xs = true := by
  unfold ftOk at h
  rw [Bool.and_eq_true] at h
  exact h.1
end Go.Proofs.Ytfnmnegddhggaaa
namespace Go.Proofs.Ytfnmnegddhggaaa
open Go.ChangeShapes Go.WideShapes Go.ChangeAt Go.RowKit
set_option linter.unusedVariables false
set_option linter.unusedSimpArgs false
structure Kp (w : World) (kb : Nat) (p : Option Addr) (v : Value) (fr n : Int) (c : Int → Int) : Prop where
  c0 : w.cell? ⟨kb, 0, none⟩ = some (.pointer p)
  c1 : w.cell? ⟨kb, 1, none⟩ = some v
  c2 : w.cell? ⟨kb, 2, none⟩ = some (.int .i64 fr)
  c3 : w.cell? ⟨kb, 3, none⟩ = some (.int .i64 n)
  c4 : ∀ i : Nat, i < 16 → w.cell? ⟨kb, 4 + i, none⟩ = some (.int .i64 (c (i : Int)))
  fz : ∀ j, w.frozen? ⟨kb, j, none⟩ = false
theorem Kp.keep {w w' : World} {kb : Nat} {p : Option Addr} {v : Value} {fr n : Int} {c : Int → Int} (h : Kp w kb p v fr n c) (hb : w'.heap[kb]? = w.heap[kb]?) : Kp w' kb p v fr n c :=
  ⟨(World.cell?_of_block hb).trans h.c0, (World.cell?_of_block hb).trans h.c1, (World.cell?_of_block hb).trans h.c2, (World.cell?_of_block hb).trans h.c3, fun i hi => (World.cell?_of_block hb).trans (h.c4 i hi), fun j => (World.frozen?_of_block hb).trans (h.fz j)⟩
theorem Kp.lt {w : World} {kb : Nat} {p : Option Addr} {v : Value} {fr n : Int} {c : Int → Int} (h : Kp w kb p v fr n c) : kb < w.heap.size := block_lt_of_cell h.c0
theorem Kp.set0 {w : World} {kb : Nat} {p : Option Addr} {v : Value} {fr n : Int} {c : Int → Int} (h : Kp w kb p v fr n c) (q : Option Addr) : Kp (w.setCell ⟨kb, 0, none⟩ (.pointer q)) kb q v fr n c :=
  ⟨cell_set_same h.c0, (cell_set_other (.inr (by omega))).trans h.c1, (cell_set_other (.inr (by omega))).trans h.c2, (cell_set_other (.inr (by omega))).trans h.c3, fun i hi => (cell_set_other (.inr (by omega))).trans (h.c4 i hi), fun j => (frozen_set _).trans (h.fz j)⟩
theorem Kp.set1 {w : World} {kb : Nat} {p : Option Addr} {v : Value} {fr n : Int} {c : Int → Int} (h : Kp w kb p v fr n c) (v' : Value) : Kp (w.setCell ⟨kb, 1, none⟩ v') kb p v' fr n c :=
  ⟨(cell_set_other (.inr (by omega))).trans h.c0, cell_set_same h.c1, (cell_set_other (.inr (by omega))).trans h.c2, (cell_set_other (.inr (by omega))).trans h.c3, fun i hi => (cell_set_other (.inr (by omega))).trans (h.c4 i hi), fun j => (frozen_set _).trans (h.fz j)⟩
theorem Kp.set2 {w : World} {kb : Nat} {p : Option Addr} {v : Value} {fr n : Int} {c : Int → Int} (h : Kp w kb p v fr n c) (fr' : Int) : Kp (w.setCell ⟨kb, 2, none⟩ (.int .i64 fr')) kb p v fr' n c :=
  ⟨(cell_set_other (.inr (by omega))).trans h.c0, (cell_set_other (.inr (by omega))).trans h.c1, cell_set_same h.c2, (cell_set_other (.inr (by omega))).trans h.c3, fun i hi => (cell_set_other (.inr (by omega))).trans (h.c4 i hi), fun j => (frozen_set _).trans (h.fz j)⟩
theorem Kp.set3 {w : World} {kb : Nat} {p : Option Addr} {v : Value} {fr n : Int} {c : Int → Int} (h : Kp w kb p v fr n c) (n' : Int) : Kp (w.setCell ⟨kb, 3, none⟩ (.int .i64 n')) kb p v fr n' c :=
  ⟨(cell_set_other (.inr (by omega))).trans h.c0, (cell_set_other (.inr (by omega))).trans h.c1, (cell_set_other (.inr (by omega))).trans h.c2, cell_set_same h.c3, fun i hi => (cell_set_other (.inr (by omega))).trans (h.c4 i hi), fun j => (frozen_set _).trans (h.fz j)⟩
theorem Kp.set4 {w : World} {kb : Nat} {p : Option Addr} {v : Value} {fr n : Int} {c : Int → Int} (h : Kp w kb p v fr n c) {k : Nat} (hk : k < 16) (u : Int) : Kp (w.setCell ⟨kb, 4 + k, none⟩ (.int .i64 u)) kb p v fr n (xUpd c (k : Int) u) :=
  ⟨(cell_set_other (.inr (by omega))).trans h.c0, (cell_set_other (.inr (by omega))).trans h.c1, (cell_set_other (.inr (by omega))).trans h.c2, (cell_set_other (.inr (by omega))).trans h.c3, fun i hi => by
    by_cases hik : i = k
    · subst hik
      rw [cell_set_same (h.c4 i hi)]
      show _ = some (Value.int .i64 (if (i : Int) = (i : Int) then u else c i))
      rw [if_pos rfl]
    · rw [cell_set_other (.inr (by omega)), h.c4 i hi]
      show _ = some (Value.int .i64 (if (i : Int) = (k : Int) then u else c i))
      rw [if_neg (by omega)], fun j => (frozen_set _).trans (h.fz j)⟩
structure KSt (w0 : World) (kb : Nat) (L r : List Int) (fr n : Int) (c : Int → Int) (w : World) : Prop where
  pg : ∃ ns p v, Kp w kb p v fr n c ∧ Pg w ns p ∧ pgs ns = L ∧ (blk ns).Nodup ∧ kb ∉ blk ns ∧ (∀ b ∈ blk ns, w0.heap.size ≤ b) ∧ Ints w0 v r
  lo : w0.heap.size ≤ kb
  bel : Below w0.heap.size w0 w
theorem KSt.below {w0 : World} {kb : Nat} {L r : List Int} {fr n : Int} {c : Int → Int} {w w' : World} (h : KSt w0 kb L r fr n c w) (hb : Below w.heap.size w w') : KSt w0 kb L r fr n c w' := by
  obtain ⟨ns, p, v, hk, hp, hl, hn, hkb, hlo, hi⟩ := h.pg
  exact ⟨⟨ns, p, v, hk.keep (hb.block kb hk.lt), hp.keep (fun b hb' => hb.block b (hp.lt b hb')), hl, hn, hkb, hlo, hi⟩, h.lo, h.bel.trans (hb.mono h.bel.size)⟩
def ptrB : Value → Nat
  | .pointer (some a) => a.block + 1
  | _ => 0
def mP (bs : List Nat) (f : Value) : Nat := bs.length - bs.findIdx (fun b => decide (ptrB f = b + 1))
theorem mP_eq {w : World} {ns pre us : List (Nat × Int)} {q : Option Addr} (h : Pg w us q) (e : ns = pre ++ us) (hn : (blk ns).Nodup) : mP (blk ns) (.pointer q) = us.length := by
  have hl : (blk ns).length = pre.length + us.length := by rw [e]; simp [blk]
  unfold mP
  cases us with
  | nil =>
    obtain rfl : q = none := h
    rw [List.findIdx_eq_length.2 (fun x _ => by simp [ptrB])]
    simp
  | cons m us =>
    obtain ⟨rfl, _⟩ := h
    have hi : (blk ns).findIdx (fun b => decide (ptrB (.pointer (some ⟨m.1, 0, none⟩)) = b + 1)) = pre.length := by
      have e2 : blk ns = blk pre ++ m.1 :: blk us := by rw [e]; simp [blk]
      have hno : ∀ b ∈ blk pre, decide (ptrB (.pointer (some ⟨m.1, 0, none⟩)) = b + 1) = false := fun b hb => by
        rw [decide_eq_false_iff_not]
        intro hh
        have hh : m.1 + 1 = b + 1 := hh
        rw [e2, List.nodup_append] at hn
        exact hn.2.2 b hb m.1 (List.mem_cons_self ..) (by omega)
      have hlp : (blk pre).length = pre.length := by simp [blk]
      rw [e2, List.findIdx_append, List.findIdx_eq_length.2 hno, if_neg (by omega), List.findIdx_cons]
      have : decide (ptrB (.pointer (some ⟨m.1, 0, none⟩)) = m.1 + 1) = true := by rw [decide_eq_true_eq]; rfl
      rw [this, hlp]; simp
    rw [hi, hl]
    omega
def RuleC (gf : FuncId) (rule : List Int → (Int → Int) → List Int → Int) : Prop :=
  ∀ w0 kb L r fr n c w, KSt w0 kb L r fr n c w → L ≠ [] → (∀ y ∈ L, 0 ≤ y ∧ y ≤ 15) →
    Calls Try.prog gf #[.pointer (some ⟨kb, 0, none⟩)] w fun e w' => e = .returned (.int .i64 (rule L c r)) ∧ Below w.heap.size w w'
end Go.Proofs.Ytfnmnegddhggaaa
namespace Go.Proofs.Ytfnmnegddhggaaa
open Go.ChangeShapes Go.WideShapes Go.ChangeAt Go.RowKit
set_option linter.unusedVariables false
set_option linter.unusedSimpArgs false
theorem Kp.drew {w : World} {kb : Nat} {p : Option Addr} {v : Value} {fr n : Int} {c : Int → Int} (h : Kp w kb p v fr n c) : Kp w.drew kb p v fr n c := ⟨h.c0, h.c1, h.c2, h.c3, h.c4, h.fz⟩
def brL (rule : List Int → (Int → Int) → List Int → Int) (L r : List Int) (fr : Int) (c : Int → Int) : List Int := if 0 < fr then L else L.erase (rule L c r)
def brF (fr : Int) : Int := if 0 < fr then fr - 1 else fr
set_option maxRecDepth 100000 in
set_option maxHeartbeats 2000000 in
theorem ibring_any (gf : FuncId) (rule : List Int → (Int → Int) → List Int → Int) (hG : RuleC gf rule)
    (hcf : ∀ (args : Array Value) (w : World), (callFunc gf args).run Try.prog w = .ok (.enter gf args) w)
    (w0 : World) (kb : Nat) (L r : List Int) (fr : Int) (n : Nat) (c : Int → Int) (w : World) (xn : Nat) (h : KSt w0 kb L r fr (n : Int) c w) (hx : xn < 16) (hfr : 0 ≤ fr ∧ fr ≤ 12) (hn : n ≤ 100)
    (hne : fr ≤ 0 → L ≠ []) (hL : ∀ y ∈ L, 0 ≤ y ∧ y ≤ 15) :
    Calls Try.prog 60 #[.pointer (some ⟨kb, 0, none⟩), .int .i64 (xn : Int), .func (.func gf) #[.pointer (some ⟨kb, 0, none⟩)] #[]] w
      fun e w' => e = .returned (.tuple #[]) ∧ KSt w0 kb (brL rule L r fr c) r (brF fr) ((n + 1 : Nat) : Int) (xUpd c (xn : Int) ((n + 1 : Nat) : Int)) w' := by
  obtain ⟨ns, p, v, hk, hp, hl, hnd, hkb, hlo, hi⟩ := h.pg
  have HLO := Lib.hid h.lo
  have HBL := Lib.hid h.bel
  have HK := Lib.hid hk
  have HP := Lib.hid hp
  have HPL := Lib.hid hl
  have HND := Lib.hid hnd
  have HKB := Lib.hid hkb
  have HLB := Lib.hid hlo
  have HI := Lib.hid hi
  have hwn : IntKind.i64.wrap ((n : Int) + 1) = (n : Int) + 1 := by rw [IntKind.wrap_i64]; omega
  have hwf : IntKind.i64.wrap (fr - 1) = fr - 1 := by rw [IntKind.wrap_i64]; omega
  obtain ⟨c0, c1, c2, c3, c4, cf⟩ := hk
  have hc2 := c2
  have hf2 := cf 2
  have hix := fun W => run_indexAt_part (P := Try.prog) 53 16 3 Try.underlying53 Try.sizeOf3 (by omega) kb 4 xn hx W
  clear hp hl hnd hkb hlo hi c0 c1 c2 c3 c4 cf
  by_cases h0 : 0 < fr
  · have h0' : decide (0 < fr) = true := by simpa using h0
    have HF0 := Lib.hid h0
    have HK1 : Hid (Kp (w.setCell ⟨kb, 2, none⟩ (.int .i64 (fr - 1))) kb p v (fr - 1) (n : Int) c) := Lib.hid (HK.out.set2 _)
    have hc3 := HK1.out.c3
    have hf3 := HK1.out.fz 3
    have HK2 : Hid (Kp ((w.setCell ⟨kb, 2, none⟩ (.int .i64 (fr - 1))).setCell ⟨kb, 3, none⟩ (.int .i64 ((n : Int) + 1))) kb p v (fr - 1) ((n : Int) + 1) c) := Lib.hid (HK1.out.set3 _)
    have HBW2 : Hid (Below w0.heap.size w0 ((w.setCell ⟨kb, 2, none⟩ (.int .i64 (fr - 1))).setCell ⟨kb, 3, none⟩ (.int .i64 ((n : Int) + 1)))) := Lib.hid (Below.setCell (p := ⟨kb, 3, none⟩) (Below.setCell (p := ⟨kb, 2, none⟩) HBL.out HLO.out _) HLO.out _)
    have HP2 : Hid (Pg ((w.setCell ⟨kb, 2, none⟩ (.int .i64 (fr - 1))).setCell ⟨kb, 3, none⟩ (.int .i64 ((n : Int) + 1))) ns p) := Lib.hid ((HP.out.set HKB.out).set HKB.out)
    clear h0 h hne
    go_enter Try.func60, Try.ntmps60
    go_wp2_with fail
    refine wp_region_held_drew (S := fun w' => w'.cell? ⟨kb, 3, none⟩ = some (.int .i64 ((n : Int) + 1))) (by kernel_rfl) HK2.out.drew.c3 (fun hHeld => ?_)
    refine anyH_gen _ (fun AZ hgen => ?_)
    have HZ := Lib.hid (by rw [hgen]; exact ⟨HK2.out.drew, HP2.out.drew, Below.drew HBW2.out⟩ : Kp AZ kb p v (fr - 1) ((n : Int) + 1) c ∧ Pg AZ ns p ∧ Below w0.heap.size w0 AZ)
    rw [← hgen] at hHeld
    clear hgen
    have KS : Hid (Kp (AZ.setCell ⟨kb, 4 + xn, none⟩ (.int .i64 ((n : Int) + 1))) kb p v (fr - 1) ((n : Int) + 1) (xUpd c (xn : Int) ((n : Int) + 1))) := Lib.hid (HZ.out.1.set4 hx _)
    have HFIN : Hid (KSt w0 kb (brL rule L r fr c) r (brF fr) ((n + 1 : Nat) : Int) (xUpd c (xn : Int) ((n + 1 : Nat) : Int)) (AZ.setCell ⟨kb, 4 + xn, none⟩ (.int .i64 ((n : Int) + 1)))) := Lib.hid (by
      have e : ((n + 1 : Nat) : Int) = (n : Int) + 1 := by omega
      rw [e]
      exact ⟨⟨ns, p, v, by rw [show brF fr = fr - 1 from if_pos HF0.out]; exact KS.out, HZ.out.2.1.set HKB.out, by rw [show brL rule L r fr c = L from if_pos HF0.out]; exact HPL.out, HND.out, HKB.out, HLB.out, HI.out⟩, HLO.out, Below.setCell (p := ⟨kb, 4 + xn, none⟩) HZ.out.2.2 HLO.out _⟩)
    have z4 := HZ.out.1.c4 xn hx
    have zf := HZ.out.1.fz (4 + xn)
    refine wpAnyH_take (i := 0) (oi := { dst := some 35, op := .move (.tmp 0), type := _, pos := _, after := _, guard := none }) (v := .pointer (some ⟨kb, 0, none⟩)) rfl (by kernel_rfl) (by kernel_rfl) (by kernel_rfl) (fun _ _ _ h => h) (Or.inl ⟨by rfl, fun wh hSw => ?_⟩) hHeld ?_
    · (go_simp)
    try simp only [Act.put, List.setIfInBounds_toArray, List.set_cons_zero, List.set_cons_succ]
    refine wpAnyH_take (i := 1) (oi := { dst := some 36, op := .move (.tmp 1), type := _, pos := _, after := _, guard := none }) (v := .int .i64 (xn : Int)) rfl (by kernel_rfl) (by kernel_rfl) (by kernel_rfl) (fun _ _ _ h => h) (Or.inl ⟨by rfl, fun wh hSw => ?_⟩) hHeld ?_
    · (go_simp)
    try simp only [Act.put, List.setIfInBounds_toArray, List.set_cons_zero, List.set_cons_succ]
    refine wpAnyH_take (i := 2) (oi := { dst := some 37, op := .move (.tmp 0), type := _, pos := _, after := _, guard := none }) (v := .pointer (some ⟨kb, 0, none⟩)) rfl (by kernel_rfl) (by kernel_rfl) (by kernel_rfl) (fun _ _ _ h => h) (Or.inl ⟨by rfl, fun wh hSw => ?_⟩) hHeld ?_
    · (go_simp)
    try simp only [Act.put, List.setIfInBounds_toArray, List.set_cons_zero, List.set_cons_succ]
    refine wpAnyH_take (i := 3) (oi := { dst := some 38, op := .nilCheck (.tmp 37), type := _, pos := _, after := _, guard := none }) (v := .pointer (some ⟨kb, 0, none⟩)) rfl (by kernel_rfl) (by kernel_rfl) (by kernel_rfl) (fun _ _ _ h => h) (Or.inl ⟨by rfl, fun wh hSw => ?_⟩) hHeld ?_
    · (go_simp)
    try simp only [Act.put, List.setIfInBounds_toArray, List.set_cons_zero, List.set_cons_succ]
    refine wpAnyH_take (i := 4) (oi := { dst := some 39, op := .fieldAddr 55 (.tmp 38) 3, type := _, pos := _, after := _, guard := none }) (v := .pointer (some ⟨kb, 3, none⟩)) rfl (by kernel_rfl) (by kernel_rfl) (by kernel_rfl) (fun _ _ _ h => h) (Or.inl ⟨by rfl, fun wh hSw => ?_⟩) hHeld ?_
    · (go_simp)
    try simp only [Act.put, List.setIfInBounds_toArray, List.set_cons_zero, List.set_cons_succ]
    refine wpAnyH_take (i := 5) (oi := { dst := some 40, op := .load 3 (.tmp 39), type := _, pos := _, after := _, guard := none }) (v := .int .i64 ((n : Int) + 1)) rfl (by kernel_rfl) (by kernel_rfl) (by kernel_rfl) (fun _ _ _ h => h) (Or.inl ⟨by rfl, fun wh hSw => ?_⟩) hHeld ?_
    · (go_simp)
    try simp only [Act.put, List.setIfInBounds_toArray, List.set_cons_zero, List.set_cons_succ]
    refine wpAnyH_take (i := 6) (oi := { dst := some 41, op := .nilCheck (.tmp 35), type := _, pos := _, after := _, guard := none }) (v := .pointer (some ⟨kb, 0, none⟩)) rfl (by kernel_rfl) (by kernel_rfl) (by kernel_rfl) (fun _ _ _ h => h) (Or.inl ⟨by rfl, fun wh hSw => ?_⟩) hHeld ?_
    · (go_simp)
    try simp only [Act.put, List.setIfInBounds_toArray, List.set_cons_zero, List.set_cons_succ]
    refine wpAnyH_take (i := 7) (oi := { dst := some 42, op := .fieldAddr 55 (.tmp 41) 4, type := _, pos := _, after := _, guard := none }) (v := .pointer (some ⟨kb, 4, none⟩)) rfl (by kernel_rfl) (by kernel_rfl) (by kernel_rfl) (fun _ _ _ h => h) (Or.inl ⟨by rfl, fun wh hSw => ?_⟩) hHeld ?_
    · (go_simp)
    try simp only [Act.put, List.setIfInBounds_toArray, List.set_cons_zero, List.set_cons_succ]
    refine wpAnyH_take (i := 8) (oi := { dst := some 43, op := .indexAddr 53 (.tmp 42) (.tmp 36), type := _, pos := _, after := _, guard := none }) (v := .pointer (some ⟨kb, 4 + xn, none⟩)) rfl (by kernel_rfl) (by kernel_rfl) (by kernel_rfl) (fun _ _ _ h => h) (Or.inl ⟨by rfl, fun wh hSw => ?_⟩) hHeld ?_
    · (go_simp)
    try simp only [Act.put, List.setIfInBounds_toArray, List.set_cons_zero, List.set_cons_succ]
    refine wpAnyH_ready (rs := [9]) (by kernel_rfl) (by simp) ?_
    refine AllReadyH.cons (o := { dst := none, op := .store 3 (.tmp 43) (.tmp 40), type := _, pos := _, after := _, guard := none }) rfl (fun K hK => ?_) AllReadyH.nil
    go_simp
    refine hK.out _ _ ?_ (fun hHeld => ?_)
    · exact KS.out.c3
    clear hK K
    try simp only [Act.put, List.setIfInBounds_toArray, List.set_cons_zero, List.set_cons_succ]
    refine wpAnyH_done (by kernel_rfl) ?_ _
    go_wp2_with fail
    refine bodyPost_end (results_none rfl _ _ _) rfl ?_
    exact ⟨rfl, HFIN.out⟩
  · have h0' : decide (0 < fr) = false := by simpa using h0
    have HF0 := Lib.hid h0
    obtain ⟨l, hl⟩ : ∃ l, l = rule L c r := ⟨_, rfl⟩
    have HGC := Lib.hid (fun W hW => hG w0 kb L r fr (n : Int) c W hW (hne (by omega)) hL)
    rw [← hl] at HGC
    have HLE := Lib.hid hl
    clear h hne hl h0 hf2
    go_enter Try.func60, Try.ntmps60
    go_wp2_with fail
    refine wp_region_held_drew (S := fun _ => True) (by kernel_rfl) trivial (fun hHeld => ?_)
    refine anyH_gen _ (fun AZ0 hgen => ?_)
    have HZ0 := Lib.hid (by rw [hgen]; exact ⟨HK.out.drew, HP.out.drew, Below.drew HBL.out⟩ : Kp AZ0 kb p v fr (n : Int) c ∧ Pg AZ0 ns p ∧ Below w0.heap.size w0 AZ0)
    clear hgen
    have HKZ := Lib.hid HZ0.out.1
    have HPZ := Lib.hid HZ0.out.2.1
    have HWZ := Lib.hid HZ0.out.2.2
    refine wpAnyH_take (i := 0) (oi := { dst := some 18, op := .move (.tmp 0), type := _, pos := _, after := _, guard := none }) (v := .pointer (some ⟨kb, 0, none⟩)) rfl (by kernel_rfl) (by kernel_rfl) (by kernel_rfl) (fun _ _ _ h => h) (Or.inl ⟨by rfl, fun wh hSw => ?_⟩) hHeld ?_
    · (go_simp)
    try simp only [Act.put, List.setIfInBounds_toArray, List.set_cons_zero, List.set_cons_succ]
    refine wpAnyH_take (i := 1) (oi := { dst := some 19, op := .move (.tmp 0), type := _, pos := _, after := _, guard := none }) (v := .pointer (some ⟨kb, 0, none⟩)) rfl (by kernel_rfl) (by kernel_rfl) (by kernel_rfl) (fun _ _ _ h => h) (Or.inl ⟨by rfl, fun wh hSw => ?_⟩) hHeld ?_
    · (go_simp)
    try simp only [Act.put, List.setIfInBounds_toArray, List.set_cons_zero, List.set_cons_succ]
    refine wpAnyH_take (i := 2) (oi := { dst := some 20, op := .nilCheck (.tmp 19), type := _, pos := _, after := _, guard := none }) (v := .pointer (some ⟨kb, 0, none⟩)) rfl (by kernel_rfl) (by kernel_rfl) (by kernel_rfl) (fun _ _ _ h => h) (Or.inl ⟨by rfl, fun wh hSw => ?_⟩) hHeld ?_
    · (go_simp)
    try simp only [Act.put, List.setIfInBounds_toArray, List.set_cons_zero, List.set_cons_succ]
    refine wpAnyH_take (i := 3) (oi := { dst := some 21, op := .fieldAddr 55 (.tmp 20) 0, type := _, pos := _, after := _, guard := none }) (v := .pointer (some ⟨kb, 0, none⟩)) rfl (by kernel_rfl) (by kernel_rfl) (by kernel_rfl) (fun _ _ _ h => h) (Or.inl ⟨by rfl, fun wh hSw => ?_⟩) hHeld ?_
    · (go_simp)
    try simp only [Act.put, List.setIfInBounds_toArray, List.set_cons_zero, List.set_cons_succ]
    refine wpAnyH_take (i := 5) (oi := { dst := some 23, op := .move (.tmp 2), type := _, pos := _, after := _, guard := none }) (v := .func (.func gf) #[.pointer (some ⟨kb, 0, none⟩)] #[]) rfl (by kernel_rfl) (by kernel_rfl) (by kernel_rfl) (fun _ _ _ h => h) (Or.inl ⟨by rfl, fun wh hSw => ?_⟩) hHeld ?_
    · (go_simp)
    try simp only [Act.put, List.setIfInBounds_toArray, List.set_cons_zero, List.set_cons_succ]
    refine wpAnyH_ready (rs := [4, 6]) (by kernel_rfl) (by simp) ?_
    refine AllReadyH.cons (o := { dst := some 22, op := .load 38 (.tmp 21), type := _, pos := _, after := _, guard := none }) rfl (fun K hK => ?_) (AllReadyH.cons (o := { dst := some 24, op := .call { callee := .value (.tmp 23), args := #[], argTypes := #[] }, type := _, pos := _, after := _, guard := none }) rfl (fun K hK => ?_) AllReadyH.nil)
    · have z0 := HKZ.out.c0
      go_simp
      refine hK.out _ _ ?_ (fun hHeld => ?_)
      · trivial
      clear hK K
      try simp only [Act.put, List.setIfInBounds_toArray, List.set_cons_zero, List.set_cons_succ]
      clear hHeld
      refine wpAnyH_ready (rs := [6]) (by kernel_rfl) (by simp) ?_
      refine AllReadyH.cons (o := { dst := some 24, op := .call { callee := .value (.tmp 23), args := #[], argTypes := #[] }, type := _, pos := _, after := _, guard := none }) rfl (fun K hK => ?_) AllReadyH.nil
      go_simp
      refine (HGC.out AZ0 ⟨⟨ns, p, v, HKZ.out, HPZ.out, HPL.out, HND.out, HKB.out, HLB.out, HI.out⟩, HLO.out, HWZ.out⟩).mono ?_
      rintro e w2 ⟨rfl, hb2⟩
      have HB2 := Lib.hid hb2
      clear hb2
      refine hK.out _ _ ?_ (fun hHeld => ?_)
      · trivial
      clear hK K
      try simp only [Act.put, List.setIfInBounds_toArray, List.set_cons_zero, List.set_cons_succ]
      have HK2 := Lib.hid (HKZ.out.keep (HB2.out.block kb HKZ.out.lt))
      have HP2 := Lib.hid (HPZ.out.keep (fun b hb => HB2.out.block b (HPZ.out.lt b hb)))
      have HW2 := Lib.hid (HWZ.out.trans (HB2.out.mono HWZ.out.size))
      refine wpAnyH_ready (rs := [7]) (by kernel_rfl) (by simp) ?_
      refine AllReadyH.cons (o := { dst := some 25, op := .call { callee := .value (.func 56), args := #[.tmp 22, .tmp 24], argTypes := #[38, 3] }, type := _, pos := _, after := _, guard := none }) rfl (fun K hK => ?_) AllReadyH.nil
      go_simp
      refine (iwithout_any l ns w2 p HP2.out HND.out).mono ?_
      rintro e w3 ⟨q3, ns3, rfl, hp3, hs3, hg3, hc3, hz3⟩
      have HA3 := Lib.hid hp3
      have HS3 := Lib.hid hs3
      have HG3 := Lib.hid hg3
      have HC3 := Lib.hid hc3
      clear hp3 hs3 hg3 hc3 hz3
      refine hK.out _ _ ?_ (fun hHeld => ?_)
      · trivial
      clear hK K
      try simp only [Act.put, List.setIfInBounds_toArray, List.set_cons_zero, List.set_cons_succ]
      have HK3 := Lib.hid (HK2.out.keep (HC3.out.block kb HK2.out.lt HKB.out))
      have HW3 := Lib.hid (HC3.out.below HW2.out HW2.out.size HLB.out)
      refine wpAnyH_take (i := 8) (oi := { dst := some 26, op := .nilCheck (.tmp 18), type := _, pos := _, after := _, guard := none }) (v := .pointer (some ⟨kb, 0, none⟩)) rfl (by kernel_rfl) (by kernel_rfl) (by kernel_rfl) (fun _ _ _ h => h) (Or.inl ⟨by rfl, fun wh hSw => ?_⟩) hHeld ?_
      · (go_simp)
      try simp only [Act.put, List.setIfInBounds_toArray, List.set_cons_zero, List.set_cons_succ]
      refine wpAnyH_take (i := 9) (oi := { dst := some 27, op := .fieldAddr 55 (.tmp 26) 0, type := _, pos := _, after := _, guard := none }) (v := .pointer (some ⟨kb, 0, none⟩)) rfl (by kernel_rfl) (by kernel_rfl) (by kernel_rfl) (fun _ _ _ h => h) (Or.inl ⟨by rfl, fun wh hSw => ?_⟩) hHeld ?_
      · (go_simp)
      try simp only [Act.put, List.setIfInBounds_toArray, List.set_cons_zero, List.set_cons_succ]
      refine wpAnyH_ready (rs := [10]) (by kernel_rfl) (by simp) ?_
      refine AllReadyH.cons (o := { dst := none, op := .store 38 (.tmp 27) (.tmp 25), type := _, pos := _, after := _, guard := none }) rfl (fun K hK => ?_) AllReadyH.nil
      have z0 := HK3.out.c0
      have zf := HK3.out.fz 0
      go_simp
      refine hK.out _ _ ?_ (fun hHeld => ?_)
      · trivial
      clear hK K
      try simp only [Act.put, List.setIfInBounds_toArray, List.set_cons_zero, List.set_cons_succ]
      refine wpAnyH_done (by kernel_rfl) ?_ _
      clear hHeld
      have HKS : Hid (Kp (w3.setCell ⟨kb, 0, none⟩ (.pointer q3)) kb q3 v fr (n : Int) c) := Lib.hid (HK3.out.set0 _)
      have HK3 : Hid (Kp ((w3.setCell ⟨kb, 0, none⟩ (.pointer q3)).setCell ⟨kb, 3, none⟩ (.int .i64 ((n : Int) + 1))) kb q3 v fr ((n : Int) + 1) c) := Lib.hid (HKS.out.set3 _)
      have HNB : Hid (kb ∉ blk ns3) := Lib.hid (fun hh => HKB.out (HS3.out.subset hh))
      have HP3 : Hid (Pg ((w3.setCell ⟨kb, 0, none⟩ (.pointer q3)).setCell ⟨kb, 3, none⟩ (.int .i64 ((n : Int) + 1))) ns3 q3) := Lib.hid ((HG3.out.set HNB.out).set HNB.out)
      have HW3 : Hid (Below w0.heap.size w0 ((w3.setCell ⟨kb, 0, none⟩ (.pointer q3)).setCell ⟨kb, 3, none⟩ (.int .i64 ((n : Int) + 1)))) := Lib.hid (Below.setCell (p := ⟨kb, 3, none⟩) (Below.setCell (p := ⟨kb, 0, none⟩) HW3.out HLO.out _) HLO.out _)
      have y3 := HKS.out.c3
      have yf := HKS.out.fz 3
      go_wp2_with fail
      refine wp_region_held_drew (S := fun w' => w'.cell? ⟨kb, 3, none⟩ = some (.int .i64 ((n : Int) + 1))) (by kernel_rfl) HK3.out.drew.c3 (fun hHeld => ?_)
      refine anyH_gen _ (fun AZ hgen => ?_)
      have HZ := Lib.hid (by rw [hgen]; exact ⟨HK3.out.drew, HP3.out.drew, Below.drew HW3.out⟩ : Kp AZ kb q3 v fr ((n : Int) + 1) c ∧ Pg AZ ns3 q3 ∧ Below w0.heap.size w0 AZ)
      rw [← hgen] at hHeld
      clear hgen
      have KS : Hid (Kp (AZ.setCell ⟨kb, 4 + xn, none⟩ (.int .i64 ((n : Int) + 1))) kb q3 v fr ((n : Int) + 1) (xUpd c (xn : Int) ((n : Int) + 1))) := Lib.hid (HZ.out.1.set4 hx _)
      have HFIN : Hid (KSt w0 kb (brL rule L r fr c) r (brF fr) ((n + 1 : Nat) : Int) (xUpd c (xn : Int) ((n + 1 : Nat) : Int)) (AZ.setCell ⟨kb, 4 + xn, none⟩ (.int .i64 ((n : Int) + 1)))) := Lib.hid (by
        have e : ((n + 1 : Nat) : Int) = (n : Int) + 1 := by omega
        rw [e]
        exact ⟨⟨ns3, q3, v, by rw [show brF fr = fr from if_neg (by have := HF0.out; omega)]; exact KS.out, HZ.out.2.1.set HNB.out, by rw [show brL rule L r fr c = L.erase (rule L c r) from if_neg (by have := HF0.out; omega), HA3.out, HPL.out, HLE.out], HS3.out.nodup HND.out, HNB.out, fun b hb => HLB.out b (HS3.out.subset hb), HI.out⟩, HLO.out, Below.setCell (p := ⟨kb, 4 + xn, none⟩) HZ.out.2.2 HLO.out _⟩)
      have z4 := HZ.out.1.c4 xn hx
      have zf := HZ.out.1.fz (4 + xn)
      refine wpAnyH_take (i := 0) (oi := { dst := some 35, op := .move (.tmp 0), type := _, pos := _, after := _, guard := none }) (v := .pointer (some ⟨kb, 0, none⟩)) rfl (by kernel_rfl) (by kernel_rfl) (by kernel_rfl) (fun _ _ _ h => h) (Or.inl ⟨by rfl, fun wh hSw => ?_⟩) hHeld ?_
      · (go_simp)
      try simp only [Act.put, List.setIfInBounds_toArray, List.set_cons_zero, List.set_cons_succ]
      refine wpAnyH_take (i := 1) (oi := { dst := some 36, op := .move (.tmp 1), type := _, pos := _, after := _, guard := none }) (v := .int .i64 (xn : Int)) rfl (by kernel_rfl) (by kernel_rfl) (by kernel_rfl) (fun _ _ _ h => h) (Or.inl ⟨by rfl, fun wh hSw => ?_⟩) hHeld ?_
      · (go_simp)
      try simp only [Act.put, List.setIfInBounds_toArray, List.set_cons_zero, List.set_cons_succ]
      refine wpAnyH_take (i := 2) (oi := { dst := some 37, op := .move (.tmp 0), type := _, pos := _, after := _, guard := none }) (v := .pointer (some ⟨kb, 0, none⟩)) rfl (by kernel_rfl) (by kernel_rfl) (by kernel_rfl) (fun _ _ _ h => h) (Or.inl ⟨by rfl, fun wh hSw => ?_⟩) hHeld ?_
      · (go_simp)
      try simp only [Act.put, List.setIfInBounds_toArray, List.set_cons_zero, List.set_cons_succ]
      refine wpAnyH_take (i := 3) (oi := { dst := some 38, op := .nilCheck (.tmp 37), type := _, pos := _, after := _, guard := none }) (v := .pointer (some ⟨kb, 0, none⟩)) rfl (by kernel_rfl) (by kernel_rfl) (by kernel_rfl) (fun _ _ _ h => h) (Or.inl ⟨by rfl, fun wh hSw => ?_⟩) hHeld ?_
      · (go_simp)
      try simp only [Act.put, List.setIfInBounds_toArray, List.set_cons_zero, List.set_cons_succ]
      refine wpAnyH_take (i := 4) (oi := { dst := some 39, op := .fieldAddr 55 (.tmp 38) 3, type := _, pos := _, after := _, guard := none }) (v := .pointer (some ⟨kb, 3, none⟩)) rfl (by kernel_rfl) (by kernel_rfl) (by kernel_rfl) (fun _ _ _ h => h) (Or.inl ⟨by rfl, fun wh hSw => ?_⟩) hHeld ?_
      · (go_simp)
      try simp only [Act.put, List.setIfInBounds_toArray, List.set_cons_zero, List.set_cons_succ]
      refine wpAnyH_take (i := 5) (oi := { dst := some 40, op := .load 3 (.tmp 39), type := _, pos := _, after := _, guard := none }) (v := .int .i64 ((n : Int) + 1)) rfl (by kernel_rfl) (by kernel_rfl) (by kernel_rfl) (fun _ _ _ h => h) (Or.inl ⟨by rfl, fun wh hSw => ?_⟩) hHeld ?_
      · (go_simp)
      try simp only [Act.put, List.setIfInBounds_toArray, List.set_cons_zero, List.set_cons_succ]
      refine wpAnyH_take (i := 6) (oi := { dst := some 41, op := .nilCheck (.tmp 35), type := _, pos := _, after := _, guard := none }) (v := .pointer (some ⟨kb, 0, none⟩)) rfl (by kernel_rfl) (by kernel_rfl) (by kernel_rfl) (fun _ _ _ h => h) (Or.inl ⟨by rfl, fun wh hSw => ?_⟩) hHeld ?_
      · (go_simp)
      try simp only [Act.put, List.setIfInBounds_toArray, List.set_cons_zero, List.set_cons_succ]
      refine wpAnyH_take (i := 7) (oi := { dst := some 42, op := .fieldAddr 55 (.tmp 41) 4, type := _, pos := _, after := _, guard := none }) (v := .pointer (some ⟨kb, 4, none⟩)) rfl (by kernel_rfl) (by kernel_rfl) (by kernel_rfl) (fun _ _ _ h => h) (Or.inl ⟨by rfl, fun wh hSw => ?_⟩) hHeld ?_
      · (go_simp)
      try simp only [Act.put, List.setIfInBounds_toArray, List.set_cons_zero, List.set_cons_succ]
      refine wpAnyH_take (i := 8) (oi := { dst := some 43, op := .indexAddr 53 (.tmp 42) (.tmp 36), type := _, pos := _, after := _, guard := none }) (v := .pointer (some ⟨kb, 4 + xn, none⟩)) rfl (by kernel_rfl) (by kernel_rfl) (by kernel_rfl) (fun _ _ _ h => h) (Or.inl ⟨by rfl, fun wh hSw => ?_⟩) hHeld ?_
      · (go_simp)
      try simp only [Act.put, List.setIfInBounds_toArray, List.set_cons_zero, List.set_cons_succ]
      refine wpAnyH_ready (rs := [9]) (by kernel_rfl) (by simp) ?_
      refine AllReadyH.cons (o := { dst := none, op := .store 3 (.tmp 43) (.tmp 40), type := _, pos := _, after := _, guard := none }) rfl (fun K hK => ?_) AllReadyH.nil
      go_simp
      refine hK.out _ _ ?_ (fun hHeld => ?_)
      · exact KS.out.c3
      clear hK K
      try simp only [Act.put, List.setIfInBounds_toArray, List.set_cons_zero, List.set_cons_succ]
      refine wpAnyH_done (by kernel_rfl) ?_ _
      go_wp2_with fail
      refine bodyPost_end (results_none rfl _ _ _) rfl ?_
      exact ⟨rfl, HFIN.out⟩
    · go_simp
      refine (HGC.out AZ0 ⟨⟨ns, p, v, HKZ.out, HPZ.out, HPL.out, HND.out, HKB.out, HLB.out, HI.out⟩, HLO.out, HWZ.out⟩).mono ?_
      rintro e w5 ⟨rfl, hb5⟩
      have HB5 := Lib.hid hb5
      clear hb5
      refine hK.out _ _ ?_ (fun hHeld => ?_)
      · trivial
      clear hK K
      try simp only [Act.put, List.setIfInBounds_toArray, List.set_cons_zero, List.set_cons_succ]
      have HK5 := Lib.hid (HKZ.out.keep (HB5.out.block kb HKZ.out.lt))
      have HP5 := Lib.hid (HPZ.out.keep (fun b hb => HB5.out.block b (HPZ.out.lt b hb)))
      have HW5 := Lib.hid (HWZ.out.trans (HB5.out.mono HWZ.out.size))
      refine wpAnyH_ready (rs := [4]) (by kernel_rfl) (by simp) ?_
      refine AllReadyH.cons (o := { dst := some 22, op := .load 38 (.tmp 21), type := _, pos := _, after := _, guard := none }) rfl (fun K hK => ?_) AllReadyH.nil
      have z0 := HK5.out.c0
      go_simp
      refine hK.out _ _ ?_ (fun hHeld => ?_)
      · trivial
      clear hK K
      try simp only [Act.put, List.setIfInBounds_toArray, List.set_cons_zero, List.set_cons_succ]
      clear hHeld
      refine wpAnyH_ready (rs := [7]) (by kernel_rfl) (by simp) ?_
      refine AllReadyH.cons (o := { dst := some 25, op := .call { callee := .value (.func 56), args := #[.tmp 22, .tmp 24], argTypes := #[38, 3] }, type := _, pos := _, after := _, guard := none }) rfl (fun K hK => ?_) AllReadyH.nil
      go_simp
      refine (iwithout_any l ns w5 p HP5.out HND.out).mono ?_
      rintro e w7 ⟨q7, ns7, rfl, hp7, hs7, hg7, hc7, hz7⟩
      have HA7 := Lib.hid hp7
      have HS7 := Lib.hid hs7
      have HG7 := Lib.hid hg7
      have HC7 := Lib.hid hc7
      clear hp7 hs7 hg7 hc7 hz7
      refine hK.out _ _ ?_ (fun hHeld => ?_)
      · trivial
      clear hK K
      try simp only [Act.put, List.setIfInBounds_toArray, List.set_cons_zero, List.set_cons_succ]
      have HK7 := Lib.hid (HK5.out.keep (HC7.out.block kb HK5.out.lt HKB.out))
      have HW7 := Lib.hid (HC7.out.below HW5.out HW5.out.size HLB.out)
      refine wpAnyH_take (i := 8) (oi := { dst := some 26, op := .nilCheck (.tmp 18), type := _, pos := _, after := _, guard := none }) (v := .pointer (some ⟨kb, 0, none⟩)) rfl (by kernel_rfl) (by kernel_rfl) (by kernel_rfl) (fun _ _ _ h => h) (Or.inl ⟨by rfl, fun wh hSw => ?_⟩) hHeld ?_
      · (go_simp)
      try simp only [Act.put, List.setIfInBounds_toArray, List.set_cons_zero, List.set_cons_succ]
      refine wpAnyH_take (i := 9) (oi := { dst := some 27, op := .fieldAddr 55 (.tmp 26) 0, type := _, pos := _, after := _, guard := none }) (v := .pointer (some ⟨kb, 0, none⟩)) rfl (by kernel_rfl) (by kernel_rfl) (by kernel_rfl) (fun _ _ _ h => h) (Or.inl ⟨by rfl, fun wh hSw => ?_⟩) hHeld ?_
      · (go_simp)
      try simp only [Act.put, List.setIfInBounds_toArray, List.set_cons_zero, List.set_cons_succ]
      refine wpAnyH_ready (rs := [10]) (by kernel_rfl) (by simp) ?_
      refine AllReadyH.cons (o := { dst := none, op := .store 38 (.tmp 27) (.tmp 25), type := _, pos := _, after := _, guard := none }) rfl (fun K hK => ?_) AllReadyH.nil
      have z0 := HK7.out.c0
      have zf := HK7.out.fz 0
      go_simp
      refine hK.out _ _ ?_ (fun hHeld => ?_)
      · trivial
      clear hK K
      try simp only [Act.put, List.setIfInBounds_toArray, List.set_cons_zero, List.set_cons_succ]
      refine wpAnyH_done (by kernel_rfl) ?_ _
      clear hHeld
      have HKS : Hid (Kp (w7.setCell ⟨kb, 0, none⟩ (.pointer q7)) kb q7 v fr (n : Int) c) := Lib.hid (HK7.out.set0 _)
      have HK3 : Hid (Kp ((w7.setCell ⟨kb, 0, none⟩ (.pointer q7)).setCell ⟨kb, 3, none⟩ (.int .i64 ((n : Int) + 1))) kb q7 v fr ((n : Int) + 1) c) := Lib.hid (HKS.out.set3 _)
      have HNB : Hid (kb ∉ blk ns7) := Lib.hid (fun hh => HKB.out (HS7.out.subset hh))
      have HP3 : Hid (Pg ((w7.setCell ⟨kb, 0, none⟩ (.pointer q7)).setCell ⟨kb, 3, none⟩ (.int .i64 ((n : Int) + 1))) ns7 q7) := Lib.hid ((HG7.out.set HNB.out).set HNB.out)
      have HW3 : Hid (Below w0.heap.size w0 ((w7.setCell ⟨kb, 0, none⟩ (.pointer q7)).setCell ⟨kb, 3, none⟩ (.int .i64 ((n : Int) + 1)))) := Lib.hid (Below.setCell (p := ⟨kb, 3, none⟩) (Below.setCell (p := ⟨kb, 0, none⟩) HW7.out HLO.out _) HLO.out _)
      have y3 := HKS.out.c3
      have yf := HKS.out.fz 3
      go_wp2_with fail
      refine wp_region_held_drew (S := fun w' => w'.cell? ⟨kb, 3, none⟩ = some (.int .i64 ((n : Int) + 1))) (by kernel_rfl) HK3.out.drew.c3 (fun hHeld => ?_)
      refine anyH_gen _ (fun AZ hgen => ?_)
      have HZ := Lib.hid (by rw [hgen]; exact ⟨HK3.out.drew, HP3.out.drew, Below.drew HW3.out⟩ : Kp AZ kb q7 v fr ((n : Int) + 1) c ∧ Pg AZ ns7 q7 ∧ Below w0.heap.size w0 AZ)
      rw [← hgen] at hHeld
      clear hgen
      have KS : Hid (Kp (AZ.setCell ⟨kb, 4 + xn, none⟩ (.int .i64 ((n : Int) + 1))) kb q7 v fr ((n : Int) + 1) (xUpd c (xn : Int) ((n : Int) + 1))) := Lib.hid (HZ.out.1.set4 hx _)
      have HFIN : Hid (KSt w0 kb (brL rule L r fr c) r (brF fr) ((n + 1 : Nat) : Int) (xUpd c (xn : Int) ((n + 1 : Nat) : Int)) (AZ.setCell ⟨kb, 4 + xn, none⟩ (.int .i64 ((n : Int) + 1)))) := Lib.hid (by
        have e : ((n + 1 : Nat) : Int) = (n : Int) + 1 := by omega
        rw [e]
        exact ⟨⟨ns7, q7, v, by rw [show brF fr = fr from if_neg (by have := HF0.out; omega)]; exact KS.out, HZ.out.2.1.set HNB.out, by rw [show brL rule L r fr c = L.erase (rule L c r) from if_neg (by have := HF0.out; omega), HA7.out, HPL.out, HLE.out], HS7.out.nodup HND.out, HNB.out, fun b hb => HLB.out b (HS7.out.subset hb), HI.out⟩, HLO.out, Below.setCell (p := ⟨kb, 4 + xn, none⟩) HZ.out.2.2 HLO.out _⟩)
      have z4 := HZ.out.1.c4 xn hx
      have zf := HZ.out.1.fz (4 + xn)
      refine wpAnyH_take (i := 0) (oi := { dst := some 35, op := .move (.tmp 0), type := _, pos := _, after := _, guard := none }) (v := .pointer (some ⟨kb, 0, none⟩)) rfl (by kernel_rfl) (by kernel_rfl) (by kernel_rfl) (fun _ _ _ h => h) (Or.inl ⟨by rfl, fun wh hSw => ?_⟩) hHeld ?_
      · (go_simp)
      try simp only [Act.put, List.setIfInBounds_toArray, List.set_cons_zero, List.set_cons_succ]
      refine wpAnyH_take (i := 1) (oi := { dst := some 36, op := .move (.tmp 1), type := _, pos := _, after := _, guard := none }) (v := .int .i64 (xn : Int)) rfl (by kernel_rfl) (by kernel_rfl) (by kernel_rfl) (fun _ _ _ h => h) (Or.inl ⟨by rfl, fun wh hSw => ?_⟩) hHeld ?_
      · (go_simp)
      try simp only [Act.put, List.setIfInBounds_toArray, List.set_cons_zero, List.set_cons_succ]
      refine wpAnyH_take (i := 2) (oi := { dst := some 37, op := .move (.tmp 0), type := _, pos := _, after := _, guard := none }) (v := .pointer (some ⟨kb, 0, none⟩)) rfl (by kernel_rfl) (by kernel_rfl) (by kernel_rfl) (fun _ _ _ h => h) (Or.inl ⟨by rfl, fun wh hSw => ?_⟩) hHeld ?_
      · (go_simp)
      try simp only [Act.put, List.setIfInBounds_toArray, List.set_cons_zero, List.set_cons_succ]
      refine wpAnyH_take (i := 3) (oi := { dst := some 38, op := .nilCheck (.tmp 37), type := _, pos := _, after := _, guard := none }) (v := .pointer (some ⟨kb, 0, none⟩)) rfl (by kernel_rfl) (by kernel_rfl) (by kernel_rfl) (fun _ _ _ h => h) (Or.inl ⟨by rfl, fun wh hSw => ?_⟩) hHeld ?_
      · (go_simp)
      try simp only [Act.put, List.setIfInBounds_toArray, List.set_cons_zero, List.set_cons_succ]
      refine wpAnyH_take (i := 4) (oi := { dst := some 39, op := .fieldAddr 55 (.tmp 38) 3, type := _, pos := _, after := _, guard := none }) (v := .pointer (some ⟨kb, 3, none⟩)) rfl (by kernel_rfl) (by kernel_rfl) (by kernel_rfl) (fun _ _ _ h => h) (Or.inl ⟨by rfl, fun wh hSw => ?_⟩) hHeld ?_
      · (go_simp)
      try simp only [Act.put, List.setIfInBounds_toArray, List.set_cons_zero, List.set_cons_succ]
      refine wpAnyH_take (i := 5) (oi := { dst := some 40, op := .load 3 (.tmp 39), type := _, pos := _, after := _, guard := none }) (v := .int .i64 ((n : Int) + 1)) rfl (by kernel_rfl) (by kernel_rfl) (by kernel_rfl) (fun _ _ _ h => h) (Or.inl ⟨by rfl, fun wh hSw => ?_⟩) hHeld ?_
      · (go_simp)
      try simp only [Act.put, List.setIfInBounds_toArray, List.set_cons_zero, List.set_cons_succ]
      refine wpAnyH_take (i := 6) (oi := { dst := some 41, op := .nilCheck (.tmp 35), type := _, pos := _, after := _, guard := none }) (v := .pointer (some ⟨kb, 0, none⟩)) rfl (by kernel_rfl) (by kernel_rfl) (by kernel_rfl) (fun _ _ _ h => h) (Or.inl ⟨by rfl, fun wh hSw => ?_⟩) hHeld ?_
      · (go_simp)
      try simp only [Act.put, List.setIfInBounds_toArray, List.set_cons_zero, List.set_cons_succ]
      refine wpAnyH_take (i := 7) (oi := { dst := some 42, op := .fieldAddr 55 (.tmp 41) 4, type := _, pos := _, after := _, guard := none }) (v := .pointer (some ⟨kb, 4, none⟩)) rfl (by kernel_rfl) (by kernel_rfl) (by kernel_rfl) (fun _ _ _ h => h) (Or.inl ⟨by rfl, fun wh hSw => ?_⟩) hHeld ?_
      · (go_simp)
      try simp only [Act.put, List.setIfInBounds_toArray, List.set_cons_zero, List.set_cons_succ]
      refine wpAnyH_take (i := 8) (oi := { dst := some 43, op := .indexAddr 53 (.tmp 42) (.tmp 36), type := _, pos := _, after := _, guard := none }) (v := .pointer (some ⟨kb, 4 + xn, none⟩)) rfl (by kernel_rfl) (by kernel_rfl) (by kernel_rfl) (fun _ _ _ h => h) (Or.inl ⟨by rfl, fun wh hSw => ?_⟩) hHeld ?_
      · (go_simp)
      try simp only [Act.put, List.setIfInBounds_toArray, List.set_cons_zero, List.set_cons_succ]
      refine wpAnyH_ready (rs := [9]) (by kernel_rfl) (by simp) ?_
      refine AllReadyH.cons (o := { dst := none, op := .store 3 (.tmp 43) (.tmp 40), type := _, pos := _, after := _, guard := none }) rfl (fun K hK => ?_) AllReadyH.nil
      go_simp
      refine hK.out _ _ ?_ (fun hHeld => ?_)
      · exact KS.out.c3
      clear hK K
      try simp only [Act.put, List.setIfInBounds_toArray, List.set_cons_zero, List.set_cons_succ]
      refine wpAnyH_done (by kernel_rfl) ?_ _
      go_wp2_with fail
      refine bodyPost_end (results_none rfl _ _ _) rfl ?_
      exact ⟨rfl, HFIN.out⟩
end Go.Proofs.Ytfnmnegddhggaaa
namespace Go.Proofs.Ytfnmnegddhggaaa
open Go.ChangeShapes Go.WideShapes Go.ChangeAt Go.RowKit
set_option linter.unusedVariables false
set_option linter.unusedSimpArgs false
set_option maxRecDepth 100000 in
set_option maxHeartbeats 2000000 in
theorem iuse_any (gf : FuncId) (rule : List Int → (Int → Int) → List Int → Int) (hG : RuleC gf rule) (hr : XIn rule)
    (hcf : ∀ (args : Array Value) (w : World), (callFunc gf args).run Try.prog w = .ok (.enter gf args) w)
    (w0 : World) (kb f : Nat) (L r : List Int) (n : Nat) (c : Int → Int) (w : World) (xn : Nat) (h : KSt w0 kb L r ((f : Int) - (L.length : Int)) (n : Int) c w) (hx : xn < 16) (hf : 1 ≤ f ∧ f ≤ 12) (hlen : L.length ≤ f) (hn : n ≤ 24)
    (hL : ∀ y ∈ L, 0 ≤ y ∧ y ≤ 15) :
    Calls Try.prog 57 #[.pointer (some ⟨kb, 0, none⟩), .int .i64 (xn : Int), .func (.func gf) #[.pointer (some ⟨kb, 0, none⟩)] #[]] w
      fun e w' => e = .returned (.tuple #[]) ∧ KSt w0 kb (xNext rule f L c (xn : Int) r) r ((f : Int) - ((xNext rule f L c (xn : Int) r).length : Int)) ((n + fMiss (xn : Int) L : Nat) : Int) (xCame L c n (xn : Int)) w' := by
  have HLO := Lib.hid h.lo
  have HXL := Lib.hid (xNext_len hr (show 0 < f by omega) (c := c) (x := (xn : Int)) (r := r) hlen)
  obtain ⟨ns, p, v, hk, hp, hl, hnd, hkb, hlo, hi⟩ := h.pg
  have hc0 := hk.c0
  have HSP := Lib.hid (ispan_any w ns p (xn : Int) hp (by
    have h1 : (pgs ns).length = ns.length := List.length_map _
    rw [← h1, hl]; omega))
  rw [hl] at HSP
  have HST := Lib.hid h
  clear hk hp hl hnd hkb hlo hi
  by_cases hin : (xn : Int) ∈ L
  · have h0 : decide (lfind L (xn : Int) < 0) = false := by rw [decide_eq_false_iff_not]; exact fun hh => lfind_neg.1 hh hin
    have HIN := Lib.hid hin
    obtain ⟨s, hs⟩ : ∃ s, s = lfind L (xn : Int) := ⟨_, rfl⟩
    rw [← hs] at HSP h0
    clear hin h hs
    go_enter Try.func57, Try.ntmps57
    go_wp2_with fail
    refine HSP.out.mono ?_
    rintro e w' ⟨rfl, rfl⟩
    clear hc0
    obtain ⟨ns, p, v, hk, hp, hl, hnd, hkb, hlo, hi⟩ := HST.out.pg
    have z0 := hk.c0
    have HK := Lib.hid hk
    have HPL := Lib.hid hl
    have HKB := Lib.hid hkb
    have HLB := Lib.hid hlo
    have HI := Lib.hid hi
    have HU := Lib.hid (iused_any w ns p (xn : Int) hp hnd)
    clear hk hp hl hnd hkb hlo hi
    go_wp2_with fail
    refine HU.out.mono ?_
    rintro e w3 ⟨q3, ns3, rfl, hp3, hb3, hn3, hg3, hc3⟩
    have HK3 : Hid (Kp w3 kb p v ((f : Int) - (L.length : Int)) (n : Int) c) := Lib.hid (HK.out.keep (hc3.block kb HK.out.lt HKB.out))
    have HW3 : Hid (Below w0.heap.size w0 w3) := Lib.hid (hc3.below HST.out.bel HST.out.bel.size HLB.out)
    have HNB : Hid (kb ∉ blk ns3) := Lib.hid (fun hh => (hb3 kb hh).elim HKB.out (fun h => by have := HK.out.lt; omega))
    have HLB3 : Hid (∀ b ∈ blk ns3, w0.heap.size ≤ b) := Lib.hid (fun b hb => (hb3 b hb).elim (HLB.out b) (fun h => by have := HST.out.bel.size; omega))
    have HG3 := Lib.hid hg3
    have HP3 := Lib.hid hp3
    have HN3 := Lib.hid hn3
    have y0 := HK3.out.c0
    have yf := HK3.out.fz 0
    clear hp3 hb3 hn3 hg3 hc3 z0
    go_wp2_with fail
    refine bodyPost_end (results_none rfl _ _ _) rfl ?_
    refine ⟨rfl, ?_⟩
    rw [HXL.out, if_pos HIN.out, fMiss_in HIN.out, xCame, if_pos HIN.out, Nat.add_zero]
    exact ⟨⟨ns3, q3, v, HK3.out.set0 q3, HG3.out.set HNB.out, by rw [HP3.out, HPL.out]; rw [xNext, xMid, if_pos HIN.out], HN3.out, HNB.out, HLB3.out, HI.out⟩, HLO.out, Below.setCell (p := ⟨kb, 0, none⟩) HW3.out HLO.out _⟩
  · have h0 : decide (lfind L (xn : Int) < 0) = true := by rw [decide_eq_true_eq]; exact lfind_neg.2 hin
    have HIN := Lib.hid hin
    have HFR : Hid ((0 : Int) < (f : Int) - (L.length : Int) ↔ L.length < f) := Lib.hid (by omega)
    have HBR := Lib.hid (ibring_any gf rule hG hcf w0 kb L r ((f : Int) - (L.length : Int)) n c w xn h hx (by omega) (by omega) (fun hh e => by rw [e] at hh; simp at hh; omega) hL)
    have HLE := Lib.hid hlen
    obtain ⟨s, hs⟩ : ∃ s, s = lfind L (xn : Int) := ⟨_, rfl⟩
    rw [← hs] at HSP h0
    clear hin h hs HST hlen hL
    go_enter Try.func57, Try.ntmps57
    go_wp2_with fail
    refine HSP.out.mono ?_
    rintro e w' ⟨rfl, rfl⟩
    go_wp2_with fail
    refine HBR.out.mono ?_
    rintro e w1 ⟨rfl, hst1⟩
    have HST1 := Lib.hid hst1
    clear hst1 hc0
    obtain ⟨ns1, p1, v1, hk1, hp1, hl1, hnd1, hkb1, hlo1, hi1⟩ := HST1.out.pg
    have z01 := hk1.c0
    have HK1 := Lib.hid hk1
    have HPL1 := Lib.hid hl1
    have HKB1 := Lib.hid hkb1
    have HLB1 := Lib.hid hlo1
    have HI1 := Lib.hid hi1
    have HU1 := Lib.hid (iused_any w1 ns1 p1 (xn : Int) hp1 hnd1)
    clear hk1 hp1 hl1 hnd1 hkb1 hlo1 hi1
    go_wp2_with fail
    refine HU1.out.mono ?_
    rintro e w3 ⟨q3, ns3, rfl, hp3, hb3, hn3, hg3, hc3⟩
    have HK3 : Hid (Kp w3 kb p1 v1 (brF ((f : Int) - (L.length : Int))) ((n + 1 : Nat) : Int) (xUpd c (xn : Int) ((n + 1 : Nat) : Int))) := Lib.hid (HK1.out.keep (hc3.block kb HK1.out.lt HKB1.out))
    have HW3 : Hid (Below w0.heap.size w0 w3) := Lib.hid (hc3.below HST1.out.bel HST1.out.bel.size HLB1.out)
    have HNB : Hid (kb ∉ blk ns3) := Lib.hid (fun hh => (hb3 kb hh).elim HKB1.out (fun h => by have := HK1.out.lt; omega))
    have HLB3 : Hid (∀ b ∈ blk ns3, w0.heap.size ≤ b) := Lib.hid (fun b hb => (hb3 b hb).elim (HLB1.out b) (fun h => by have := HST1.out.bel.size; omega))
    have HG3 := Lib.hid hg3
    have HP3 := Lib.hid hp3
    have HN3 := Lib.hid hn3
    have y0 := HK3.out.c0
    have yf := HK3.out.fz 0
    clear hp3 hb3 hn3 hg3 hc3 z01
    go_wp2_with fail
    refine bodyPost_end (results_none rfl _ _ _) rfl ?_
    refine ⟨rfl, ?_⟩
    rw [show ((f : Int) - ((xNext rule f L c (xn : Int) r).length : Int)) = brF ((f : Int) - (L.length : Int)) from (by rw [HXL.out, if_neg HIN.out, brF]; by_cases hh : L.length < f <;> simp only [HFR.out, hh, if_true, if_false] <;> have := HLE.out <;> omega), fMiss_out HIN.out, xCame, if_neg HIN.out]
    exact ⟨⟨ns3, q3, v1, HK3.out.set0 q3, HG3.out.set HNB.out, by rw [HP3.out, HPL1.out]; rw [xNext, xMid, if_neg HIN.out, brL]; by_cases hh : L.length < f <;> simp only [HFR.out, hh, if_true, if_false], HN3.out, HNB.out, HLB3.out, HI1.out⟩, HLO.out, Below.setCell (p := ⟨kb, 0, none⟩) HW3.out HLO.out _⟩
def mL (kb : Nat) (w : World) : Nat := match w.cell? ⟨kb, 1, none⟩ with
  | some (.slice _ n _) => n
  | _ => 0
theorem mL_eq {w0 w : World} {kb : Nat} {L r : List Int} {fr n : Int} {c : Int → Int} (h : KSt w0 kb L r fr n c w) : mL kb w = r.length := by
  obtain ⟨ns, p, v, hk, _, _, _, _, _, hi⟩ := h.pg
  obtain ⟨a, ca, rfl, _⟩ := hi
  unfold mL
  rw [hk.c1]
structure KOk (f : Nat) (L r : List Int) (n : Nat) : Prop where
  len : L.length ≤ f
  pg : ∀ y ∈ L, 0 ≤ y ∧ y ≤ 15
  tr : ∀ y ∈ r, 0 ≤ y ∧ y ≤ 15
  le : n + r.length ≤ 24
theorem KOk.next {rule : List Int → (Int → Int) → List Int → Int} (hr : XIn rule) {f : Nat} (hf : 0 < f) {L r : List Int} {n : Nat} {c : Int → Int} {x : Int} (h : KOk f L (x :: r) n) : KOk f (xNext rule f L c x r) r (n + fMiss x L) :=
  ⟨xNext_le hr hf h.len, fun y hy => (xNext_sub y hy).elim (fun e => e ▸ h.tr x (List.mem_cons_self ..)) (h.pg y), fun y hy => h.tr y (List.mem_cons_of_mem _ hy), by have := h.le; have := fMiss_le x L; simp only [List.length_cons] at *; omega⟩
theorem slice_is {ops : Array Oper} {rest : List Oper} {a : Act} {w : World} {Q : Exit → Act → World → Prop} {dst : Option Nat} {tt : TypeId} {pos : String} {after : Array Edge} (ty : TypeId) (x lo : Operand) (h : wpList Try.prog ops Q ({ dst := dst, op := .slice ty x (some lo) none none, type := tt, pos := pos, after := after, guard := none } :: rest) a w) : wpList Try.prog ops Q ({ dst := dst, op := .slice ty x (some lo) none none, type := tt, pos := pos, after := after, guard := none } :: rest) a w := h
theorem wpList_slice_from {ops : Array Oper} {rest : List Oper} {a : Act} {w : World} {Q : Exit → Act → World → Prop} {dst : Option Nat} {tt : TypeId} {pos : String} {after : Array Edge} (ty : TypeId) (x lo : Operand) (v v' u : Value) (hx : a.eval x = v) (hlo : a.eval lo = u)
    (hr : (Instr.sliceAt ty v (some u) none none).run Try.prog w = .ok v' w) (h : wpList Try.prog ops Q rest (a.put dst v') w) : wpList Try.prog ops Q ({ dst := dst, op := .slice ty x (some lo) none none, type := tt, pos := pos, after := after, guard := none } :: rest) a w := by
  refine wpList_plain rfl fun K hK' => ?_
  unfold Oper.wp
  simp [execOp, hx, hlo, hr, Result.andThen]
  exact hK' _ _ h
set_option maxRecDepth 100000 in
set_option maxHeartbeats 2000000 in
theorem ifaultsBy_any (gf : FuncId) (rule : List Int → (Int → Int) → List Int → Int) (hG : RuleC gf rule) (hr : XIn rule)
    (hcf : ∀ (args : Array Value) (w : World), (callFunc gf args).run Try.prog w = .ok (.enter gf args) w)
    (w0 : World) (kb f : Nat) (L r : List Int) (n : Nat) (c : Int → Int) (w : World) (h : KSt w0 kb L r ((f : Int) - (L.length : Int)) (n : Int) c w) (hf : 1 ≤ f ∧ f ≤ 12) (hk : KOk f L r n) :
    Calls Try.prog 47 #[.pointer (some ⟨kb, 0, none⟩), .func (.func gf) #[.pointer (some ⟨kb, 0, none⟩)] #[]] w
      fun e w' => e = .returned (.int .i64 (xRun rule f L c n r : Nat)) ∧ Below w0.heap.size w0 w' := by
  obtain ⟨R, hR⟩ : ∃ R, R = xRun rule f L c n r := ⟨_, rfl⟩
  rw [← hR]
  have HR := Lib.hid hR
  have HST := Lib.hid h
  have HOK := Lib.hid hk
  have HF := Lib.hid hf
  have HUSE := Lib.hid (fun L r n c w xn h hx hl hn hL => iuse_any gf rule hG hr hcf w0 kb f L r n c w xn h hx hf hl hn hL)
  have HXI := Lib.hid hr
  clear hR h hk hf hG hr
  go_enter Try.func47, Try.ntmps47
  go_wp2
  go_loopw [5] (fun _ wr => ∃ (L r : List Int) (n : Nat) (c : Int → Int), Hid (KSt w0 kb L r ((f : Int) - (L.length : Int)) (n : Int) c wr) ∧ Hid (KOk f L r n) ∧ Hid (R = xRun rule f L c n r)) (fun _ wr => mL kb wr)
  case atStart => exact ⟨L, r, n, c, HST, HOK, HR⟩
  case round =>
    obtain ⟨L1, r1, n1, c1, HS1, HO1, HR1⟩ := hrel
    have HM1 := Lib.hid (mL_eq HS1.out)
    obtain ⟨ns, p, v, hk, hp, hl, hnd, hkb, hlo, hi⟩ := HS1.out.pg
    have HK := Lib.hid hk
    have HP := Lib.hid hp
    have HPL := Lib.hid hl
    have HND := Lib.hid hnd
    have HKB := Lib.hid hkb
    have HLB := Lib.hid hlo
    have HI := Lib.hid hi
    have HLO := Lib.hid HS1.out.lo
    have HIR := Lib.hid (Ints.below (B := 0) hi HS1.out.bel)
    obtain ⟨a, ca, rfl, hla, hma, -⟩ := hi
    have y1 := hk.c1
    have y3 := hk.c3
    have yf := hk.fz 1
    clear hk hp hl hnd hkb hlo
    cases r1 with
    | nil =>
      have HF1 : Hid (R = n1) := Lib.hid HR1.out
      go_wp2_with fail
      go_ret
      exact ⟨by rw [HF1.out]; rfl, HS1.out.bel⟩
    | cons x r2 =>
      have HXB := Lib.hid (HO1.out.tr x (List.mem_cons_self ..))
      obtain ⟨xn, rfl⟩ : ∃ xn : Nat, x = (xn : Int) := ⟨x.toNat, by have := HXB.out; omega⟩
      obtain ⟨ba, oa, rfl, hx0⟩ : ∃ ba oa, a = some ⟨ba, oa, none⟩ ∧ wr.cell? ⟨ba, oa, none⟩ = some (.int .i64 (xn : Int)) := by
        obtain ⟨a', ca', e, _, _, q3⟩ := HIR.out
        injection e with e1 e2 e3
        subst e1
        obtain ⟨b, o, e, hc⟩ := q3 0 (by simp)
        exact ⟨b, o, e, by rw [Nat.add_zero] at hc; exact hc⟩
      obtain ⟨v2, hsl, hiv⟩ := slice_from HI.out 1 (by simp) 1 rfl
      have HI2 : Hid (Ints w0 v2 r2) := Lib.hid (by have := hiv w0 HI.out; simpa using this)
      obtain ⟨a2, ca2, hv2, -, -, -⟩ := HI2.out
      subst hv2
      have HK2 : Hid (Kp (wr.setCell ⟨kb, 1, none⟩ (.slice a2 r2.length ca2)) kb p (.slice a2 r2.length ca2) ((f : Int) - (L1.length : Int)) (n1 : Int) c1) := Lib.hid (HK.out.set1 (.slice a2 r2.length ca2))
      have HST2 : Hid (KSt w0 kb L1 r2 ((f : Int) - (L1.length : Int)) (n1 : Int) c1 (wr.setCell ⟨kb, 1, none⟩ (.slice a2 r2.length ca2))) := Lib.hid ⟨⟨ns, p, (.slice a2 r2.length ca2), HK2.out, HP.out.set HKB.out, HPL.out, HND.out, HKB.out, HLB.out, HI2.out⟩, HLO.out, Below.setCell (p := ⟨kb, 1, none⟩) HS1.out.bel HLO.out _⟩
      have HC := Lib.hid (HUSE.out L1 r2 n1 c1 _ xn HST2.out (by have := HXB.out; omega) HO1.out.len (by have := HO1.out.le; simp only [List.length_cons] at this; omega) HO1.out.pg)
      have HO2 : Hid (KOk f (xNext rule f L1 c1 (xn : Int) r2) r2 (n1 + fMiss (xn : Int) L1)) := Lib.hid (HO1.out.next HXI.out (by have := HF.out; omega))
      have HR2 : Hid (R = xRun rule f (xNext rule f L1 c1 (xn : Int) r2) (xCame L1 c1 n1 (xn : Int)) (n1 + fMiss (xn : Int) L1) r2) := Lib.hid HR1.out
      have HSL := Lib.hid hsl
      clear hiv hla hma hsl
      go_wp2_with (first | ((with_reducible refine slice_is 23 (.tmp 22) (.const (.int .i64 1)) ?_); refine wpList_slice_from 23 (.tmp 22) (.const (.int .i64 1)) _ (.slice a2 r2.length ca2) _ rfl rfl (HSL.out _) ?_) | fail)
      refine HC.out.mono ?_
      rintro e w3 ⟨rfl, hst3⟩
      have HST3 := Lib.hid hst3
      have HM3 := Lib.hid (mL_eq hst3)
      clear hst3
      go_wp2_with fail
      go_roundw
      case rel => exact ⟨_, r2, _, _, HST3, HO2, HR2⟩
      case measure =>
        show mL kb w3 < mL kb wr
        rw [HM1.out, HM3.out]; simp
set_option maxRecDepth 100000 in
set_option maxHeartbeats 1000000 in
theorem ikeeperOf_any (w : World) (v : Value) (xs : List Int) (f : Int) (h : Ints w v xs) :
    Calls Try.prog 46 #[v, .int .i64 f] w fun e w' =>
      if ftOk xs f = true then e = .returned (.tuple #[.pointer (some ⟨w.heap.size, 0, none⟩), .bool true]) ∧ KSt w w.heap.size [] xs f 0 (fun _ => 0) w' else e = .returned (.tuple #[.pointer none, .bool false]) ∧ w = w' := by
  have HV := Lib.hid (iTraceValid_any w v xs h)
  have H := Lib.hid h
  clear h
  by_cases hk : ftOk xs f = true
  · simp only [hk, if_true]
    have hf := inR_iff.1 (by unfold ftOk at hk; rw [Bool.and_eq_true] at hk; exact hk.2)
    rw [ftOk_tr hk] at HV
    have h1 : decide (f < 1) = false := by simp; omega
    have h2 : decide (12 < f) = false := by simp; omega
    have HF : Hid (KSt w w.heap.size [] xs f 0 (fun _ => 0) (w.alloc (.cells #[.pointer none, v, .int .i64 f, .int .i64 0, .int .i64 0, .int .i64 0, .int .i64 0, .int .i64 0, .int .i64 0, .int .i64 0, .int .i64 0, .int .i64 0, .int .i64 0, .int .i64 0, .int .i64 0, .int .i64 0, .int .i64 0, .int .i64 0, .int .i64 0, .int .i64 0] 55))) := Lib.hid (by
      have e := fun j => cell_of_row (w.alloc (.cells #[.pointer none, v, .int .i64 f, .int .i64 0, .int .i64 0, .int .i64 0, .int .i64 0, .int .i64 0, .int .i64 0, .int .i64 0, .int .i64 0, .int .i64 0, .int .i64 0, .int .i64 0, .int .i64 0, .int .i64 0, .int .i64 0, .int .i64 0, .int .i64 0, .int .i64 0] 55)) w.heap.size j _ _ (0, 0) (heap_alloc_new w _)
      refine ⟨⟨[], none, v, ⟨(e 0).trans rfl, (e 1).trans rfl, (e 2).trans rfl, (e 3).trans rfl, fun i hi => (e (4 + i)).trans ?_, fun j => frozen_of_row _ _ j _ _ (heap_alloc_new w _)⟩, rfl, rfl, List.nodup_nil, by simp [blk], fun b hb => by simp [blk] at hb, H.out⟩, Nat.le_refl _, (Below.refl _ _).alloc (Nat.le_refl _) _⟩
      match i, hi with
      | 0, _ | 1, _ | 2, _ | 3, _ | 4, _ | 5, _ | 6, _ | 7, _ | 8, _ | 9, _ | 10, _ | 11, _ | 12, _ | 13, _ | 14, _ | 15, _ => rfl
      | n + 16, h => exact absurd h (by omega))
    clear hk hf
    obtain ⟨a, ca, rfl, -, -, -⟩ := H.out
    go_enter Try.func46, Try.ntmps46
    go_wp2_with fail
    refine HV.out.mono ?_
    rintro e w' ⟨rfl, rfl⟩
    go_wp2_with fail
    go_ret2
    exact ⟨rfl, HF.out⟩
  · simp only [hk]
    have hno : trOk xs = false ∨ (trOk xs = true ∧ (f < 1 ∨ (¬ f < 1 ∧ 12 < f))) := by
      cases ht : trOk xs with
      | false => exact .inl rfl
      | true =>
        refine .inr ⟨rfl, ?_⟩
        have : ¬ (1 ≤ f ∧ f ≤ 12) := fun hh => hk (by unfold ftOk; rw [ht, inR_iff.2 hh]; rfl)
        omega
    clear hk
    rcases hno with ht | ⟨ht, hf | ⟨hf1, hf2⟩⟩
    · rw [ht] at HV
      go_enter Try.func46, Try.ntmps46
      go_wp2_with fail
      refine HV.out.mono ?_
      rintro e w' ⟨rfl, rfl⟩
      go_wp2_with fail
      go_ret2
      exact ⟨rfl, by first | trivial | rfl⟩
    · rw [ht] at HV
      have h1 : decide (f < 1) = true := by simpa using hf
      go_enter Try.func46, Try.ntmps46
      go_wp2_with fail
      refine HV.out.mono ?_
      rintro e w' ⟨rfl, rfl⟩
      go_wp2_with fail
      go_ret2
      exact ⟨rfl, by first | trivial | rfl⟩
    · rw [ht] at HV
      have h1 : decide (f < 1) = false := by simpa using hf1
      have h2 : decide (12 < f) = true := by simpa using hf2
      go_enter Try.func46, Try.ntmps46
      go_wp2_with fail
      refine HV.out.mono ?_
      rintro e w' ⟨rfl, rfl⟩
      go_wp2_with fail
      go_ret2
      exact ⟨rfl, by first | trivial | rfl⟩
end Go.Proofs.Ytfnmnegddhggaaa
