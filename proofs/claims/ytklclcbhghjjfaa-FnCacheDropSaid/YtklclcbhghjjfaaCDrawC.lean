/- What the draws of caches give, whatever the code. -/
import Derived.Test.YtklclcbhghjjfaaCDraw
namespace Go.Proofs.Ytklclcbhghjjfaa
open Go.ChangeShapes Go.WideShapes Go.ChangeAt Go.RowKit
set_option linter.unusedVariables false

/-- translations that are being drawn: they own blocks from base on; but for these and the reader's, nothing has changed -/
structure OwnB (w0 : World) (B k : Nat) (w : World) (v : Value) (ys : List CV) (w' : World) : Prop where
  own : w'.ownsRow w.heap.size 25 4 v ys.length (csC ys)
  nn : v ≠ .slice none 0 0
  rdr : Rdr w0 w' B k
  grow : w.grownBy w' (some B)
  B0 : B < w.heap.size
theorem OwnB.cs {w0 w w' : World} {B k : Nat} {v : Value} {ys : List CV} (h : OwnB w0 B k w v ys w') : Cs w' v ys := cs_of_own h.own
theorem OwnB.start {w0 w : World} {B k : Nat} (hR : Rdr w0 w B k) : OwnB w0 B k w (.slice (some ⟨w.heap.size, 0, none⟩) 0 0) [] (w.alloc (.cells #[] 25)) :=
  ⟨World.ownsRow_made w #[] 0 (Nat.le_refl _) (Nat.zero_le _) rfl, (fun h => by cases h), rdr_alloc hR _, galloc _ _ _, rdr_lt hR⟩
theorem own_grown {w w' : World} {B base : Nat} {e : TypeId} {s : Nat} {v : Value} {n : Nat} {x : List Value} (h : w.ownsRow base e s v n x) (hg : w.grownBy w' (some B)) (hB : B < base) : w'.ownsRow base e s v n x := by
  refine ⟨h.1, ?_⟩
  rcases h.2 with hn | ⟨g, cap, cur, e, hb, hbl, rest⟩
  · exact .inl hn
  · exact .inr ⟨g, cap, cur, e, hb, (hg.block g (Array.getElem?_eq_some_iff.1 hbl).1 (by simp; omega)).trans hbl, rest⟩
theorem OwnB.drew {w0 w w' w2 : World} {B k k' : Nat} {v : Value} {ys : List CV} (h : OwnB w0 B k w v ys w') (hR : Rdr w0 w2 B k') (hg : w'.grownBy w2 (some B)) : OwnB w0 B k' w v ys w2 :=
  ⟨own_grown h.own hg h.B0, h.nn, hR, gtrans h.grow hg, h.B0⟩
theorem grown_of_below {w w' : World} {B : Nat} (h : Below w.heap.size w w') : w.grownBy w' (some B) := ⟨h.os, h.tape, h.output, h.size, fun i hi _ => h.block i hi⟩
theorem rdr_of_below {w0 w w' : World} {B k : Nat} (h : Rdr w0 w B k) (hb : Below w.heap.size w w') : Rdr w0 w' B k := by
  have hlt := rdr_lt h
  obtain ⟨a, len, cap, zs, p, hr, hp, hh, hbb, hB⟩ := h
  exact ⟨a, len, cap, zs, p, hr, hp, (hb.block B hlt).trans hh, hbb.trans (hb.mono hbb.size), hB⟩
theorem OwnB.next {w0 w w1 w2 : World} {B k : Nat} {v v2 : Value} {ys zs : List CV} (h : OwnB w0 B k w v ys w1) (h2 : OwnC w1 v2 zs w2) : OwnB w0 B k w v2 zs w2 :=
  ⟨own_lowerC h2.own h.grow.size, h2.nn, rdr_of_below h.rdr h2.bel, gtrans h.grow (grown_of_below h2.bel), h.B0⟩
theorem OwnB.keep {w0 w w1 w2 : World} {B k : Nat} {v : Value} {ys : List CV} (h : OwnB w0 B k w v ys w1) (hb : Below w1.heap.size w1 w2) : OwnB w0 B k w v ys w2 :=
  h.drew (rdr_of_below h.rdr hb) (grown_of_below hb)
theorem OwnB.append {w0 w wr w2 : World} {B k : Nat} {v v2 : Value} {ys zs : List CV} {n : Nat} (h : OwnB w0 B k w v ys wr) (hn : n = ys.length + zs.length) (h2 : w2.ownsRow w.heap.size 25 4 v2 n (csC ys ++ csC zs)) (hg : wr.grownBy w2 v.ownBlock) (hnn : v2 = .slice none 0 0 → v = .slice none 0 0) :
    OwnB w0 B k w v2 (ys ++ zs) w2 := by
  subst hn
  have hob : ∀ b, v.ownBlock = some b → w.heap.size ≤ b := fun b hb => (h.own.lt b hb).1
  have hB0 := h.B0
  have hlt := rdr_lt h.rdr
  refine ⟨by rw [List.length_append, show csC (ys ++ zs) = csC ys ++ csC zs from by simp [csC]]; exact h2, fun e => h.nn (hnn e), ?_, ?_, h.B0⟩
  · have hw0 := h.rdr
    obtain ⟨a, len, cap, zs, p, hr, hp, hh, hbb, hB⟩ := hw0
    refine ⟨a, len, cap, zs, p, hr, hp, (hg.block B hlt (fun e => by have := hob B e.symm; omega)).trans hh, hbb.grown hg hbb.size (fun b hb => by have := hob b hb; have := h.grow.size; omega), hB⟩
  · exact ⟨hg.os.trans h.grow.os, hg.tape.trans h.grow.tape, hg.output.trans h.grow.output, Nat.le_trans h.grow.size hg.size, fun i hi hne => (hg.block i (Nat.lt_of_lt_of_le hi h.grow.size) (fun e => by have := hob i e.symm; omega)).trans (h.grow.block i hi hne)⟩
theorem OwnB.form {w0 w w' : World} {B k : Nat} {v : Value} {ys : List CV} (h : OwnB w0 B k w v ys w') : ∃ g cap, v = .slice (some ⟨g, 0, none⟩) ys.length cap ∧ ys.length ≤ cap ∧ cap ≤ maxLen ∧ w.heap.size ≤ g := by
  rcases h.own.2 with ⟨e, _⟩ | ⟨g, cap, cur, e, hb, _, hnc, hcm, _⟩
  · exact absurd e h.nn
  · exact ⟨g, cap, e, hnc, hcm, hb⟩
theorem OwnB.mono {w0 w w' : World} {B k k' : Nat} {v : Value} {ys : List CV} (h : OwnB w0 B k w v ys w') (hk : k ≤ k') : OwnB w0 B k' w v ys w' := ⟨h.own, h.nn, rdr_mono h.rdr hk, h.grow, h.B0⟩
theorem put_len (xs : List CV) (x : CV) (h : putB xs x = true) : (putF xs x).length ≤ 4 := by
  unfold putF
  rw [h]
  show (put4 xs x).length ≤ 4
  have h1 : cOk xs = true := by
    unfold putB at h
    simp at h
    exact h.1
  have h2 := cOk_len h1
  have h3 := oth_len xs x
  unfold put4 cut4
  rw [List.length_append]
  split
  · rw [List.length_drop]; simp; omega
  · simp; omega

theorem put_mem {xs : List CV} {x y : CV} (h : y ∈ putF xs x) : y ∈ xs ∨ y = x := by
  unfold putF at h
  cases hb : putB xs x
  · rw [hb] at h
    simp at h
  · rw [hb] at h
    replace h : y ∈ put4 xs x := h
    unfold put4 cut4 oth at h
    rw [List.mem_append, List.mem_singleton] at h
    rcases h with h | h
    · left
      split at h
      · exact (List.mem_filter.1 (List.mem_of_mem_drop h)).1
      · exact (List.mem_filter.1 h).1
    · exact .inr h
/-- a cache has been drawn -/
def DrewCs (w0 : World) (B k : Nat) (w : World) (e : Ending) (w' : World) : Prop := ∃ v ys, e = .returned v ∧ (ys.length ≤ 8 ∧ ∀ y ∈ ys, cvP y) ∧ OwnB w0 B k w v ys w'
set_option maxRecDepth 100000 in
set_option maxHeartbeats 4000000 in
theorem cache_any (w0 w : World) (B k : Nat) (hR : Rdr w0 w B k) (hk : k ≤ 700000) :
    Calls Try.prog 35 #[.pointer (some ⟨B, 0, none⟩)] w (DrewCs w0 B (k + 100) w) := by
  obtain ⟨i0, hi, hz0, hz1, hz2⟩ := info_parts cvInfo
  have HI := Lib.hid hi
  have HZ0 := Lib.hid hz0
  have HZ1 := Lib.hid hz1
  have HZ2 := Lib.hid hz2
  clear hi hz0 hz1 hz2
  have HS := Lib.hid (OwnB.start hR)
  have HB : Hid (B < w.heap.size) := Lib.hid (rdr_lt hR)
  clear hR
  go_enter Try.func35, Try.ntmps35
  go_wp2_with fail
  refine (pick_any w0 _ B _ _ HS.out.rdr (by omega) (by omega)).mono ?_
  rintro e w1 ⟨m, h0, h1, rfl, hR1, hO1⟩
  have HS1 := Lib.hid (HS.out.drew hR1 hO1.grown)
  clear HS hR1 hO1
  go_wp2_with fail
  go_loopw [3, 5, 6, 7] (fun c i x y wr => ∃ (j : Nat) (ys : List CV), (j : Int) ≤ m ∧ i = .int .i64 j ∧ (ys.length ≤ 4 ∧ Hid (∀ y ∈ ys, cvP y)) ∧ OwnB w0 B (k + 1 + 7 * j) w c ys wr) (fun _ i _ _ _ => m.toNat - (intOf i).toNat)
  case atStart => exact ⟨0, [], by omega, rfl, ⟨by simp, Lib.hid (fun y hy => by cases hy)⟩, HS1.out⟩
  case round =>
    obtain ⟨j, ys, hj, rfl, ⟨hl, HYS⟩, hrel⟩ := hrel
    have HREL := Lib.hid hrel
    clear hrel
    by_cases hlt : (j : Int) < m
    · go_wp2_with fail
      refine (cached_any w0 _ B _ HREL.out.rdr (by omega)).mono ?_
      rintro e w2 ⟨x, hx, rfl, hR2, hg2⟩
      have HS2 := Lib.hid (HREL.out.drew hR2 hg2)
      clear HREL hR2 hg2
      have HPB : Hid (∀ b, b = putB ys x → b = true → (putF ys x).length ≤ 4) := Lib.hid (fun b hb h => put_len ys x (by rw [← hb]; exact h))
      have HP := Lib.hid (cPut_any w2 _ ys x HS2.out.cs)
      obtain ⟨b, hb⟩ : ∃ b, b = putB ys x := ⟨_, rfl⟩
      rw [← hb] at HP
      have HL := Lib.hid (HPB.out b hb)
      clear hb HPB
      obtain ⟨zs, hzs⟩ : ∃ zs, zs = putF ys x := ⟨_, rfl⟩
      rw [← hzs] at HP HL
      have HZP : Hid (∀ y ∈ zs, cvP y) := Lib.hid (fun y hy => by
        rw [hzs] at hy
        rcases put_mem hy with hy | rfl
        · exact HYS.out y hy
        · exact hx)
      clear hzs
      unfold cvV
      unfold cvV at HP
      go_wp2_with fail
      refine HP.out.mono ?_
      rintro e w3 ⟨v3, rfl, h3⟩
      have HN := Lib.hid (HS2.out.next h3)
      have HK := Lib.hid (HS2.out.keep h3.bel)
      clear h3 HS2
      cases b
      · go_wp2_with fail
        go_roundw
        case rel => exact ⟨j + 1, ys, by omega, by go_num, ⟨hl, HYS⟩, HK.out.mono (by omega)⟩
        case measure => simp [intOf]; omega
      · go_wp2_with fail
        go_roundw
        case rel => exact ⟨j + 1, zs, by omega, by go_num, ⟨HL.out trivial, HZP⟩, HN.out.mono (by omega)⟩
        case measure => simp [intOf]; omega
    · have hjm : (j : Int) = m := by omega
      have hj5 : j ≤ 5 := by omega
      go_wp2_with fail
      refine (pick_any w0 _ B _ _ HREL.out.rdr (by omega) (by omega)).mono ?_
      rintro e w2 ⟨n, hn0, hn1, rfl, hR2, hO2⟩
      have HS2 := Lib.hid (HREL.out.drew hR2 hO2.grown)
      clear HREL hR2 hO2 hlt
      by_cases hn : n = 0
      · subst hn
        go_wp2_with fail
        refine (cached_any w0 _ B _ HS2.out.rdr (by omega)).mono ?_
        rintro e w3 ⟨x, hx, rfl, hR3, hg3⟩
        have HXP := Lib.hid hx
        clear hx
        have HS3 := Lib.hid (HS2.out.drew hR3 hg3)
        clear HS2 hR3 hg3
        unfold cvV
        go_wp2_with (at_builtin; refine wpList_append_own _ rfl (.tmp 29) (.tmp 32) 23 rfl w.heap.size 25 i0 (.agg #[.int .i64 0, .int .i64 0, .int .i64 0, .bool false]) 4 32 Try.underlying23 HI.out HZ0.out HZ1.out HZ2.out rfl (by decide) _ _ _ rfl (HS3.out.own.alloc _) ⟨w3.heap.size, 0, none⟩ 1 1 (cvC x) rfl rfl (cell_four_new _ _ _) (by intro u hu; simp [cvC] at hu; rcases hu with rfl | rfl | rfl | rfl <;> rfl) (by unfold maxLen; omega) (by omega) (by have := HS3.out.grow.size; simp; omega) ?_; intro v2 w4 hown2 hgrow2 hnn2)
        have HE := Lib.hid ((HS3.out.keep ((Below.refl _ _).alloc (Nat.le_refl _) _)).append (zs := [x]) rfl (by rw [show csC [x] = cvC x from by simp [csC]]; exact hown2) hgrow2 (fun e => (hnn2.1 e).1))
        clear hown2 hgrow2 hnn2
        go_wp2_with fail
        go_ret
        exact ⟨_, ys ++ [x], rfl, ⟨by simp; omega, fun y hy => by
          rw [List.mem_append, List.mem_singleton] at hy
          rcases hy with hy | rfl
          · exact HYS.out y hy
          · exact HXP.out⟩, HE.out.mono (by omega)⟩
      · have hne : (n == 0) = false := by simpa using hn
        by_cases hn1 : n = 1
        · clear hne hn
          subst hn1
          obtain ⟨g, cap, rfl, hc1, hc2, hg0⟩ := HS2.out.form
          have HCELL : Hid (∀ q u, (csC ys)[q]? = some u → w2.cell? ((⟨g, 0, none⟩ : Addr).add q) = some u) := Lib.hid (fun q u hu => by
            have := HS2.out.own.cells (g := g) rfl q u hu
            exact this)
          go_wp2_with (at_builtin; refine wpList_append_own _ rfl (.tmp 36) (.tmp 37) 23 rfl w.heap.size 25 i0 (.agg #[.int .i64 0, .int .i64 0, .int .i64 0, .bool false]) 4 32 Try.underlying23 HI.out HZ0.out HZ1.out HZ2.out rfl (by decide) _ _ _ rfl HS2.out.own ⟨g, 0, none⟩ ys.length cap (csC ys) rfl (csC_len ys) HCELL.out (csC_one ys) (by unfold maxLen; omega) (by omega) (by have := HS2.out.grow.size; omega) ?_; intro v2 w4 hown2 hgrow2 hnn2)
          have HE := Lib.hid (HS2.out.append (zs := ys) rfl hown2 hgrow2 (fun e => (hnn2.1 e).1))
          clear hown2 hgrow2 hnn2
          go_wp2_with fail
          go_ret
          exact ⟨_, ys ++ ys, rfl, ⟨by simp; omega, fun y hy => by
            rw [List.mem_append] at hy
            rcases hy with hy | hy <;> exact HYS.out y hy⟩, HE.out.mono (by omega)⟩
        · have hne1 : (n == 1) = false := by simpa using hn1
          go_wp2_with fail
          go_ret
          exact ⟨_, ys, rfl, ⟨by omega, HYS.out⟩, HS2.out.mono (by omega)⟩
end Go.Proofs.Ytklclcbhghjjfaa
