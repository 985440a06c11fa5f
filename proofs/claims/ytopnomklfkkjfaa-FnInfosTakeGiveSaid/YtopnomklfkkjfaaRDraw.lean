/- What the draws of rights give; nothing that was there before the call changes. -/
import Derived.Test.YtopnomklfkkjfaaRSpec
import Derived.Test.YtopnomklfkkjfaaDraws
import Derived.Deep.RegionHeld
namespace Go.Proofs.Ytopnomklfkkjfaa
open Go.ChangeShapes Go.WideShapes Go.ChangeAt Go.RowKit
set_option linter.unusedVariables false

/-- a text with P has been drawn: the reader has been asked at most k times; nothing else that was there has changed -/
def DrewT (P : Bs → Prop) (w0 : World) (B k : Nat) (w : World) (e : Ending) (w' : World) : Prop :=
  ∃ t : Bs, P t ∧ e = .returned (.string ⟨t.toArray⟩) ∧ Rdr w0 w' B k ∧ w.grownBy w' (some B)
theorem of_any (w0 w : World) (B k : Nat) (g n c : Nat) (ts : List Bs) (hR : Rdr w0 w B k) (hk : k ≤ 950000) (hg : g ≠ B) (hN : n = ts.length) (h0 : 1 ≤ n) (h1 : n ≤ 100) (hc : n ≤ c) (hc2 : c ≤ 100)
    (h : ∀ i, i < n → w.cell? ⟨g, i, none⟩ = some (.string ⟨(ts.getD i []).toArray⟩)) :
    Calls Try.prog 51 #[.pointer (some ⟨B, 0, none⟩), .slice (some ⟨g, 0, none⟩) n c] w (DrewT (fun t => t ∈ ts) w0 B (k + 1) w) := by
  have H := Lib.hid h
  have HN := Lib.hid hN
  clear h hN
  go_enter Try.func51, Try.ntmps51
  go_wp2_with fail
  refine (pick_any w0 _ B k _ hR (by omega) (by omega)).mono ?_
  rintro e w1 ⟨m, h20, h21, rfl, hR1, hO1⟩
  obtain ⟨q, rfl⟩ : ∃ q : Nat, m = (q : Int) := ⟨m.toNat, by omega⟩
  have hq : q < n := by omega
  have hcell : w1.cell? ⟨g, q, none⟩ = some (.string ⟨(ts.getD q []).toArray⟩) := (hO1.cell hg).trans (H.out q hq)
  have HM : Hid (ts.getD q [] ∈ ts) := Lib.hid (by rw [getD_lt (by rw [← HN.out]; exact hq)]; exact List.getElem_mem _)
  generalize ts.getD q [] = t at hcell HM
  have HO := Lib.hid hO1
  clear hO1
  go_wp2_with fail
  go_ret
  exact ⟨t, HM.out, rfl, hR1, HO.out.grown⟩

def shortP (t : Bs) : Prop := t.length ≤ 10
theorem right_any (w0 w : World) (B k : Nat) (hR : Rdr w0 w B k) (hk : k ≤ 900000) :
    Calls Try.prog 35 #[.pointer (some ⟨B, 0, none⟩)] w (DrewT shortP w0 B (k + 2) w) := by
  go_enter Try.func35, Try.ntmps35
  go_wp2_with fail
  refine (pick_any w0 _ B k _ hR (by omega) (by omega)).mono ?_
  rintro e w1 ⟨m, h0, h1, rfl, hR1, hO1⟩
  have hB1 := rdr_lt hR1
  by_cases hm : m = 0
  · subst hm
    go_wp2_with fail
    refine (of_any w0 _ B _ w1.heap.size 4 4 ([[100], [65], [97, 98, 99, 97, 98], [97, 32, 98]] : List Bs) (rdr_alloc hR1 _) (by omega) (by omega) rfl (by omega) (by omega) (by omega) (by omega) (fun i hi => new_cell (by
      have hi' : i = 0 ∨ i = 1 ∨ i = 2 ∨ i = 3 := by omega
      rcases hi' with rfl | rfl | rfl | rfl <;> rfl))).mono ?_
    rintro e w2 ⟨t, ht, rfl, hR2, hg2⟩
    have hsh : shortP t := (show ∀ t ∈ ([[100], [65], [97, 98, 99, 97, 98], [97, 32, 98]] : List Bs), t.length ≤ 10 by decide) t ht
    have hg := gtrans hO1.grown (gtrans (galloc _ _ _) hg2)
    clear ht
    go_wp2_with fail
    go_ret
    exact ⟨t, hsh, rfl, rdr_mono hR2 (by omega), hg⟩
  · have hm' : (m == 0) = false := by simpa using hm
    go_wp2_with fail
    refine (of_any w0 _ B _ w1.heap.size 12 12 ([[], [97], [98], [99], [97, 98], [97, 97], [97, 98, 99], [98, 97], [98], [97], [97, 98, 99, 97], [97, 99]] : List Bs) (rdr_alloc hR1 _) (by omega) (by omega) rfl (by omega) (by omega) (by omega) (by omega) (fun i hi => new_cell (by
      have hi' : i = 0 ∨ i = 1 ∨ i = 2 ∨ i = 3 ∨ i = 4 ∨ i = 5 ∨ i = 6 ∨ i = 7 ∨ i = 8 ∨ i = 9 ∨ i = 10 ∨ i = 11 := by omega
      rcases hi' with rfl | rfl | rfl | rfl | rfl | rfl | rfl | rfl | rfl | rfl | rfl | rfl <;> rfl))).mono ?_
    rintro e w2 ⟨t, ht, rfl, hR2, hg2⟩
    have hsh : shortP t := (show ∀ t ∈ ([[], [97], [98], [99], [97, 98], [97, 97], [97, 98, 99], [98, 97], [98], [97], [97, 98, 99, 97], [97, 99]] : List Bs), t.length ≤ 10 by decide) t ht
    have hg := gtrans hO1.grown (gtrans (galloc _ _ _) hg2)
    clear ht
    go_wp2_with fail
    go_ret
    exact ⟨t, hsh, rfl, rdr_mono hR2 (by omega), hg⟩

def DrewR (W : World) (e : Ending) (w' : World) : Prop := ∃ t, shortP t ∧ e = .returned (.string ⟨t.toArray⟩) ∧ Below W.heap.size W w'
def DrewRR (W : World) (e : Ending) (w' : World) : Prop := ∃ t u : Bs, shortP t ∧ shortP u ∧ e = .returned (.tuple #[.string ⟨t.toArray⟩, .string ⟨u.toArray⟩]) ∧ Below W.heap.size W w'
/-- texts that are being drawn: they own blocks from base on; but for these and the reader's, nothing has changed -/
structure OwnBS (w0 : World) (B k : Nat) (w : World) (v : Value) (ys : List Bs) (w' : World) : Prop where
  own : w'.ownsRow w.heap.size 9 1 v ys.length (ys.map (fun s => .string ⟨s.toArray⟩))
  nn : v ≠ .slice none 0 0
  rdr : Rdr w0 w' B k
  grow : w.grownBy w' (some B)
  B0 : B < w.heap.size
theorem OwnBS.strs {w0 w w' : World} {B k : Nat} {v : Value} {ys : List Bs} (h : OwnBS w0 B k w v ys w') : Strs w' v ys := (StrsW.of_ownsRow h.own).strs
theorem OwnBS.start {w0 w : World} {B k : Nat} (hR : Rdr w0 w B k) : OwnBS w0 B k w (.slice (some ⟨w.heap.size, 0, none⟩) 0 0) [] (w.alloc (.cells #[] 9)) :=
  ⟨World.ownsRow_made w #[] 0 (Nat.le_refl _) (Nat.zero_le _) rfl, (fun h => by cases h), rdr_alloc hR _, galloc _ _ _, rdr_lt hR⟩
theorem own_grown {w w' : World} {B base : Nat} {e : TypeId} {s : Nat} {v : Value} {n : Nat} {x : List Value} (h : w.ownsRow base e s v n x) (hg : w.grownBy w' (some B)) (hB : B < base) : w'.ownsRow base e s v n x := by
  refine ⟨h.1, ?_⟩
  rcases h.2 with hn | ⟨g, cap, cur, e, hb, hbl, rest⟩
  · exact .inl hn
  · exact .inr ⟨g, cap, cur, e, hb, (hg.block g (Array.getElem?_eq_some_iff.1 hbl).1 (by simp; omega)).trans hbl, rest⟩
theorem OwnBS.drew {w0 w w' w2 : World} {B k k' : Nat} {v : Value} {ys : List Bs} (h : OwnBS w0 B k w v ys w') (hR : Rdr w0 w2 B k') (hg : w'.grownBy w2 (some B)) : OwnBS w0 B k' w v ys w2 :=
  ⟨own_grown h.own hg h.B0, h.nn, hR, gtrans h.grow hg, h.B0⟩
theorem grown_of_below {w w' : World} {B : Nat} (h : Below w.heap.size w w') : w.grownBy w' (some B) := ⟨h.os, h.tape, h.output, h.size, fun i hi _ => h.block i hi⟩
theorem rdr_of_below {w0 w w' : World} {B k : Nat} (h : Rdr w0 w B k) (hb : Below w.heap.size w w') : Rdr w0 w' B k := by
  have hlt := rdr_lt h
  obtain ⟨a, len, cap, zs, p, hr, hp, hh, hbb, hB⟩ := h
  exact ⟨a, len, cap, zs, p, hr, hp, (hb.block B hlt).trans hh, hbb.trans (hb.mono hbb.size), hB⟩
theorem OwnBS.next {w0 w w1 w2 : World} {B k : Nat} {v v2 : Value} {ys zs : List Bs} (h : OwnBS w0 B k w v ys w1) (h2 : OwnS w1 v2 zs w2) (hn : v2 ≠ .slice none 0 0) : OwnBS w0 B k w v2 zs w2 :=
  ⟨own_lowS h2.own h.grow.size, hn, rdr_of_below h.rdr h2.bel, gtrans h.grow (grown_of_below h2.bel), h.B0⟩
theorem OwnBS.keep {w0 w w1 w2 : World} {B k : Nat} {v : Value} {ys : List Bs} (h : OwnBS w0 B k w v ys w1) (hb : Below w1.heap.size w1 w2) : OwnBS w0 B k w v ys w2 :=
  h.drew (rdr_of_below h.rdr hb) (grown_of_below hb)
theorem OwnBS.append {w0 w wr w2 : World} {B k : Nat} {v v2 : Value} {ys zs : List Bs} (h : OwnBS w0 B k w v ys wr) (h2 : w2.ownsRow w.heap.size 9 1 v2 (ys ++ zs).length ((ys ++ zs).map (fun s => .string ⟨s.toArray⟩))) (hg : wr.grownBy w2 v.ownBlock) (hnn : v2 = .slice none 0 0 → v = .slice none 0 0) :
    OwnBS w0 B k w v2 (ys ++ zs) w2 := by
  have hob : ∀ b, v.ownBlock = some b → w.heap.size ≤ b := fun b hb => (h.own.lt b hb).1
  have hB0 := h.B0
  have hlt := rdr_lt h.rdr
  refine ⟨h2, fun e => h.nn (hnn e), ?_, ?_, h.B0⟩
  · have hw0 := h.rdr
    obtain ⟨a, len, cap, zs, p, hr, hp, hh, hbb, hB⟩ := hw0
    refine ⟨a, len, cap, zs, p, hr, hp, (hg.block B hlt (fun e => by have := hob B e.symm; omega)).trans hh, hbb.grown hg hbb.size (fun b hb => by have := hob b hb; have := h.grow.size; omega), hB⟩
  · exact ⟨hg.os.trans h.grow.os, hg.tape.trans h.grow.tape, hg.output.trans h.grow.output, Nat.le_trans h.grow.size hg.size, fun i hi hne => (hg.block i (Nat.lt_of_lt_of_le hi h.grow.size) (fun e => by have := hob i e.symm; omega)).trans (h.grow.block i hi hne)⟩
theorem OwnBS.form {w0 w w' : World} {B k : Nat} {v : Value} {ys : List Bs} (h : OwnBS w0 B k w v ys w') : ∃ g cap, v = .slice (some ⟨g, 0, none⟩) ys.length cap ∧ ys.length ≤ cap ∧ cap ≤ maxLen ∧ w.heap.size ≤ g := by
  rcases h.own.2 with ⟨e, _⟩ | ⟨g, cap, cur, e, hb, _, hnc, hcm, _⟩
  · exact absurd e h.nn
  · exact ⟨g, cap, e, hnc, hcm, hb⟩
theorem OwnBS.mono {w0 w w' : World} {B k k' : Nat} {v : Value} {ys : List Bs} (h : OwnBS w0 B k w v ys w') (hk : k ≤ k') : OwnBS w0 B k' w v ys w' := ⟨h.own, h.nn, rdr_mono h.rdr hk, h.grow, h.B0⟩
theorem shortP_short {ys : List Bs} (h : ∀ y ∈ ys, shortP y) : Short ys := fun y hy => by have := h y hy; unfold shortP at this; omega
theorem radd_mem {xs : List Bs} {s y : Bs} (h : y ∈ (radd xs s).1) : y ∈ xs ∨ y = s := by
  by_cases hv : (rvs xs && rv s) = true
  · by_cases hm : s ∈ xs
    · rw [radd_there hv hm] at h; exact .inl h
    · by_cases hl : 6 ≤ xs.length
      · rw [radd_full hv hm hl] at h; exact .inl h
      · rw [radd_ins hv hm hl] at h
        rcases ins_mem.1 h with h | h
        · exact .inr h
        · exact .inl h
  · rw [radd_bad hv] at h; cases h

theorem six_any {w0 w w1 : World} {B k : Nat} {v : Value} {ys : List Bs} (h : OwnBS w0 B k w v ys w1) : OwnBS w0 B k w (.slice (some ⟨w1.heap.size, 0, none⟩) 6 6) [[97], [97, 97], [97, 98], [98], [98, 97], [99]] (w1.alloc (.cells #[.string ⟨#[97]⟩, .string ⟨#[97, 97]⟩, .string ⟨#[97, 98]⟩, .string ⟨#[98]⟩, .string ⟨#[98, 97]⟩, .string ⟨#[99]⟩] 9)) :=
  ⟨World.ownsRow_lit w1 _ 6 h.grow.size (by decide) rfl, (fun h => by cases h), rdr_alloc h.rdr _, gtrans h.grow (galloc _ _ _), h.B0⟩
/-- rights have been drawn -/
def DrewSs (w0 : World) (B k : Nat) (w : World) (e : Ending) (w' : World) : Prop := ∃ v ys, e = .returned v ∧ (ys.length ≤ 8 ∧ ∀ y ∈ ys, shortP y) ∧ OwnBS w0 B k w v ys w'
/-- drawn rights, in a slice that is not nil; nothing that was there before has changed -/
structure DSs (W : World) (v : Value) (ys : List Bs) (w' : World) : Prop where
  strs : Strs w' v ys
  len : ys.length ≤ 8
  rng : ∀ y ∈ ys, shortP y
  bel : Below W.heap.size W w'
  form : ∃ g cap, v = .slice (some ⟨g, 0, none⟩) ys.length cap
theorem DSs.of {W w1 w' : World} {k : Nat} {v : Value} {ys : List Bs} (h : OwnBS W W.heap.size k w1 v ys w') (hl : ys.length ≤ 8 ∧ ∀ y ∈ ys, shortP y) : DSs W v ys w' := ⟨h.strs, hl.1, hl.2, rdr_below h.rdr, by obtain ⟨g, cap, e, _⟩ := h.form; exact ⟨g, cap, e⟩⟩
def DrewS0 (W : World) (e : Ending) (w' : World) : Prop := ∃ v ys, e = .returned v ∧ DSs W v ys w'
def DrewS1 (W : World) (e : Ending) (w' : World) : Prop := ∃ v ys x, shortP x ∧ e = .returned (.tuple #[v, .string ⟨x.toArray⟩]) ∧ DSs W v ys w'
end Go.Proofs.Ytopnomklfkkjfaa
