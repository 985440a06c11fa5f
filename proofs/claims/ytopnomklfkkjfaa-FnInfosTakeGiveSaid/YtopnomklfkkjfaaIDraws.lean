/- What the draws of lists of what is known of frames give; nothing that was there before the call changes. -/
import Derived.Test.YtopnomklfkkjfaaIDraw
import Derived.Deep.RegionHeld
namespace Go.Proofs.Ytopnomklfkkjfaa
open Go.ChangeShapes Go.WideShapes Go.ChangeAt Go.RowKit
set_option linter.unusedVariables false

/-- a list that is being drawn: it owns blocks from base on; but for these and the reader's, nothing has changed -/
structure OwnBI (w0 : World) (B k : Nat) (w : World) (v : Value) (ys : List IV) (w' : World) : Prop where
  own : w'.ownsRow w.heap.size 30 3 v ys.length (isC ys)
  nn : v ≠ .slice none 0 0
  rdr : Rdr w0 w' B k
  grow : w.grownBy w' (some B)
  B0 : B < w.heap.size
theorem OwnBI.is {w0 w w' : World} {B k : Nat} {v : Value} {ys : List IV} (h : OwnBI w0 B k w v ys w') : Is w' v ys := (IsW.of_ownsRow h.own).is
theorem OwnBI.row {w0 w w' : World} {B k : Nat} {v : Value} {ys : List IV} (h : OwnBI w0 B k w v ys w') : IsW w' w.heap.size w'.heap.size v ys := IsW.of_ownsRow h.own
theorem OwnBI.start {w0 w : World} {B k : Nat} (hR : Rdr w0 w B k) : OwnBI w0 B k w (.slice (some ⟨w.heap.size, 0, none⟩) 0 0) [] (w.alloc (.cells #[] 30)) :=
  ⟨World.ownsRow_made w #[] 0 (Nat.le_refl _) (Nat.zero_le _) rfl, (fun h => by cases h), rdr_alloc hR _, galloc _ _ _, rdr_lt hR⟩
theorem OwnBI.drew {w0 w w' w2 : World} {B k k' : Nat} {v : Value} {ys : List IV} (h : OwnBI w0 B k w v ys w') (hR : Rdr w0 w2 B k') (hg : w'.grownBy w2 (some B)) : OwnBI w0 B k' w v ys w2 :=
  ⟨own_grown h.own hg h.B0, h.nn, hR, gtrans h.grow hg, h.B0⟩
theorem OwnBI.keep {w0 w w1 w2 : World} {B k : Nat} {v : Value} {ys : List IV} (h : OwnBI w0 B k w v ys w1) (hb : Below w1.heap.size w1 w2) : OwnBI w0 B k w v ys w2 :=
  h.drew (rdr_of_below h.rdr hb) (grown_of_below hb)
theorem OwnBI.append {w0 w wr w2 : World} {B k : Nat} {v v2 : Value} {ys zs : List IV} (h : OwnBI w0 B k w v ys wr) (h2 : w2.ownsRow w.heap.size 30 3 v2 (ys ++ zs).length (isC (ys ++ zs))) (hg : wr.grownBy w2 v.ownBlock) (hnn : v2 = .slice none 0 0 → v = .slice none 0 0) :
    OwnBI w0 B k w v2 (ys ++ zs) w2 := by
  have hob : ∀ b, v.ownBlock = some b → w.heap.size ≤ b := fun b hb => (h.own.lt b hb).1
  have hB0 := h.B0
  have hlt := rdr_lt h.rdr
  refine ⟨h2, fun e => h.nn (hnn e), ?_, ?_, h.B0⟩
  · have hw0 := h.rdr
    obtain ⟨a, len, cap, zs, p, hr, hp, hh, hbb, hB⟩ := hw0
    refine ⟨a, len, cap, zs, p, hr, hp, (hg.block B hlt (fun e => by have := hob B e.symm; omega)).trans hh, hbb.grown hg hbb.size (fun b hb => by have := hob b hb; have := h.grow.size; omega), hB⟩
  · exact ⟨hg.os.trans h.grow.os, hg.tape.trans h.grow.tape, hg.output.trans h.grow.output, Nat.le_trans h.grow.size hg.size, fun i hi hne => (hg.block i (Nat.lt_of_lt_of_le hi h.grow.size) (fun e => by have := hob i e.symm; omega)).trans (h.grow.block i hi hne)⟩
theorem OwnBI.form {w0 w w' : World} {B k : Nat} {v : Value} {ys : List IV} (h : OwnBI w0 B k w v ys w') : ∃ g cap, v = .slice (some ⟨g, 0, none⟩) ys.length cap ∧ ys.length ≤ cap ∧ cap ≤ maxLen ∧ w.heap.size ≤ g := by
  rcases h.own.2 with ⟨e, _⟩ | ⟨g, cap, cur, e, hb, _, hnc, hcm, _⟩
  · exact absurd e h.nn
  · exact ⟨g, cap, e, hnc, hcm, hb⟩
theorem OwnBI.mono {w0 w w' : World} {B k k' : Nat} {v : Value} {ys : List IV} (h : OwnBI w0 B k w v ys w') (hk : k ≤ k') : OwnBI w0 B k' w v ys w' := ⟨h.own, h.nn, rdr_mono h.rdr hk, h.grow, h.B0⟩
theorem is_one (w : World) (x : IV) : Is (w.alloc (.cells #[.int .i64 x.k, .string ⟨x.g.toArray⟩, .int .i64 x.r] 30)) (.slice (some ⟨w.heap.size, 0, none⟩) 1 1) [x] :=
  ⟨_, 1, rfl, Nat.le_refl _, by decide, fun i hi => ⟨w.heap.size, 0, rfl, by
    have e : i = 0 := by simpa using hi
    subst e
    exact tri_new w x _⟩⟩
theorem wpList_append_rowI {ops : Array Oper} {rest : List Oper} {a : Act} {w : World} {Q : Exit → Act → World → Prop} {dst : Option Nat} {tt : TypeId} {pos : String} {after : Array Edge} (s x : Operand)
    (base : Nat) (v : Value) (ys : List IV) (hs : a.eval s = v) (hown : w.ownsRow base 30 3 v ys.length (isC ys)) (hbase : base ≤ w.heap.size) (xv : Value) (zs : List IV) (hx : a.eval x = xv) (hz : Is w xv zs) (hn : NilOkI xv) (hl : ys.length + zs.length ≤ 1000000)
    (h : ∀ v' w', w'.ownsRow base 30 3 v' (ys ++ zs).length (isC (ys ++ zs)) → (v' = .slice none 0 0 ↔ v = .slice none 0 0 ∧ zs.length = 0) → w.grownBy w' v.ownBlock → wpList Try.prog ops Q rest (a.put dst v') w') :
    wpList Try.prog ops Q ({ dst := dst, op := .call { callee := .builtin .append, args := #[s, x], argTypes := #[23, 23] }, type := tt, pos := pos, after := after, guard := none } :: rest) a w :=
  wpList_plain rfl fun K hK => wp_append_rowI s x base v ys hs hown hbase xv zs hx hz hn hl (fun v' w' h1 h2 h3 => hK _ _ (h v' w' h1 h2 h3))
/-- a list that has been drawn, in blocks of its own -/
structure RowBI (w0 : World) (B k : Nat) (w : World) (v : Value) (ys : List IV) (w' : World) : Prop where
  row : IsW w' w.heap.size w'.heap.size v ys
  form : ∃ g cap, v = .slice (some ⟨g, 0, none⟩) ys.length cap
  rdr : Rdr w0 w' B k
  grow : w.grownBy w' (some B)
  B0 : B < w.heap.size
theorem OwnBI.rowB {w0 w w' : World} {B k : Nat} {v : Value} {ys : List IV} (h : OwnBI w0 B k w v ys w') : RowBI w0 B k w v ys w' :=
  ⟨h.row, by obtain ⟨g, cap, e, _⟩ := h.form; exact ⟨g, cap, e⟩, h.rdr, h.grow, h.B0⟩
def DrewIs (w0 : World) (B k : Nat) (w : World) (e : Ending) (w' : World) : Prop := ∃ v ys, e = .returned v ∧ (ys.length ≤ 12 ∧ ∀ y ∈ ys, shI y) ∧ RowBI w0 B k w v ys w'
set_option maxRecDepth 100000 in
set_option maxHeartbeats 4000000 in
theorem infos_any (w0 w : World) (B k : Nat) (hR : Rdr w0 w B k) (hk : k ≤ 700000) :
    Calls Try.prog 33 #[.pointer (some ⟨B, 0, none⟩)] w (DrewIs w0 B (k + 200) w) := by
  have HS := Lib.hid (OwnBI.start hR)
  clear hR
  go_enter Try.func33, Try.ntmps33
  go_wp2
  go_loopw [3, 4] (fun c i wr => ∃ (j : Nat) (ys : List IV), j ≤ 12 ∧ i = .int .i64 j ∧ ys.length = j ∧ Hid (∀ y ∈ ys, shI y) ∧ Hid (OwnBI w0 B (k + 12 * j) w c ys wr)) (fun _ i _ => 12 - (intOf i).toNat)
  case atStart => exact ⟨0, [], Nat.zero_le _, rfl, rfl, Lib.hid (fun y hy => by cases hy), HS⟩
  case round =>
    obtain ⟨j, ys, hj, rfl, hl, HYS, HREL⟩ := hrel
    have HL := Lib.hid hl
    clear hl
    by_cases hlt : j < 12
    · have hlt' : (j : Int) < 12 := by omega
      go_wp2_with fail
      refine (info_any w0 _ B _ HREL.out.rdr (by omega)).mono ?_
      rintro e w2 ⟨x, hx, rfl, hR2, hg2⟩
      have HXP := Lib.hid hx
      have HS2 := Lib.hid (HREL.out.drew hR2 hg2)
      clear HREL hR2 hg2 hx
      have HS4 := Lib.hid (HS2.out.keep ((Below.refl w2.heap.size w2).alloc (Nat.le_refl _) (.cells #[.int .i64 x.k, .string ⟨x.g.toArray⟩, .int .i64 x.r] 30)))
      go_wp2_with (at_builtin; refine wpList_append_rowI (.tmp 10) (.tmp 13) w.heap.size _ ys rfl HS4.out.own HS4.out.grow.size _ [x] rfl (is_one _ x) nilOkI_some (by have := HL.out; simp only [List.length_singleton]; omega) ?_; intro v2 w4 hown2 hnn2 hgrow2)
      have HE := Lib.hid (HS4.out.append (zs := [x]) hown2 hgrow2 (fun e => (hnn2.1 e).1))
      clear hown2 hgrow2 hnn2 HS4 HS2
      go_wp2
      go_roundw
      case rel => exact ⟨j + 1, ys ++ [x], by omega, by go_num, by rw [List.length_append, HL.out]; rfl, Lib.hid (fun y hy => by
          rw [List.mem_append, List.mem_singleton] at hy
          rcases hy with hy | rfl
          · exact HYS.out y hy
          · exact HXP.out), Lib.hid (HE.out.mono (by omega))⟩
      case measure => simp [intOf]; omega
    · have e12 : j = 12 := by omega
      subst e12
      go_wp2_with fail
      refine (pick_any w0 _ B _ _ HREL.out.rdr (by omega) (by omega)).mono ?_
      rintro e w2 ⟨m2, h20, h21, rfl, hR2, hO2⟩
      have HS2 := Lib.hid (HREL.out.drew hR2 hO2.grown)
      clear HREL hR2 hO2
      by_cases hm : m2 = 0
      · subst hm
        go_wp2_with fail
        refine (pick_any w0 _ B _ _ HS2.out.rdr (by omega) (by omega)).mono ?_
        rintro e w3 ⟨m3, h30, h31, rfl, hR3, hO3⟩
        have HS3 := Lib.hid (HS2.out.drew hR3 hO3.grown)
        clear HS2 hR3 hO3
        obtain ⟨n3, rfl⟩ : ∃ n3 : Nat, m3 = (n3 : Int) := ⟨m3.toNat, by omega⟩
        obtain ⟨g, cap, rfl, hc1, hc2, hg0⟩ := HS3.out.form
        rw [HL.out] at HS3 hc1 ⊢
        unfold maxLen at hc2
        have hcc : (n3 : Int) ≤ (cap : Int) := by omega
        have hn12 : (n3 : Int) ≤ 12 := by omega
        have HP : Hid (IsW w3 w.heap.size w3.heap.size (.slice (some ⟨g, 0, none⟩) n3 cap) (ys.take n3)) := Lib.hid (by
          obtain ⟨a', cap', e, q1, q2, q3⟩ := HS3.out.row
          injection e with e1 e2 e3
          subst e1
          subst e3
          have hln : (ys.take n3).length = n3 := by rw [List.length_take, HL.out]; omega
          refine ⟨_, cap, by rw [hln], by rw [hln]; omega, q2, fun i hi => ?_⟩
          rw [hln] at hi
          obtain ⟨g', p', e, h1, h2, h3⟩ := q3 i (by rw [HL.out]; omega)
          rw [getD_lt (by rw [HL.out]; omega)] at h3
          refine ⟨g', p', e, h1, h2, ?_⟩
          rw [getD_lt (by rw [hln]; exact hi), List.getElem_take]
          exact h3)
        go_wp2_with fail
        go_ret
        exact ⟨_, ys.take n3, rfl, ⟨by rw [List.length_take]; omega, fun y hy => HYS.out y (List.mem_of_mem_take hy)⟩, HP.out, ⟨g, cap, by rw [List.length_take, HL.out, Nat.min_eq_left (by omega)]; rfl⟩, rdr_mono HS3.out.rdr (by omega), HS3.out.grow, HS3.out.B0⟩
      · have hm' : (m2 == 0) = false := by simpa using hm
        go_wp2_with fail
        go_ret
        exact ⟨_, ys, rfl, ⟨by rw [HL.out]; exact Nat.le_refl _, HYS.out⟩, (HS2.out.mono (by omega)).rowB⟩
end Go.Proofs.Ytopnomklfkkjfaa
