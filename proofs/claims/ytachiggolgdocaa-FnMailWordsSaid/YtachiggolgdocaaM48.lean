/- What the proofs stand on, part 48. -/
import Derived.Test.YtachiggolgdocaaRows
import Derived.Test.YtachiggolgdocaaM1
import Derived.Test.YtachiggolgdocaaM2
import Derived.Test.YtachiggolgdocaaM3
import Derived.Test.YtachiggolgdocaaM5
import Derived.Test.YtachiggolgdocaaM6
import Derived.Test.YtachiggolgdocaaM7
import Derived.Test.YtachiggolgdocaaM10
import Derived.Test.YtachiggolgdocaaM11
import Derived.Test.YtachiggolgdocaaM12
import Derived.Test.YtachiggolgdocaaM14
import Derived.Test.YtachiggolgdocaaM16
import Derived.Test.YtachiggolgdocaaM18
import Derived.Test.YtachiggolgdocaaM20
import Derived.Test.YtachiggolgdocaaM23
import Derived.Test.YtachiggolgdocaaM24
import Derived.Test.YtachiggolgdocaaM26
import Derived.Test.YtachiggolgdocaaM30
import Derived.Test.YtachiggolgdocaaM32
set_option linter.unusedSimpArgs false
set_option linter.unusedVariables false
namespace Go.Proofs.Ytachiggolgdocaa
open Go.ChangeShapes Go.WideShapes Go.ChangeAt Go.RowKit
set_option linter.unusedVariables false
def DrewI3 (W : World) (e : Ending) (w' : World) : Prop := ∃ v ys f t, e = .returned (.tuple #[v, .int .i64 f, .int .i64 t]) ∧ DIs W v ys w'
end Go.Proofs.Ytachiggolgdocaa
namespace Go.Proofs.Ytachiggolgdocaa
open Go.ChangeShapes Go.WideShapes Go.ChangeAt Go.RowKit
set_option linter.unusedVariables false
theorem results_three {fn : Func} {t u v : Tmp} (h : fn.results = #[.tmp t, .tmp u, .tmp v]) (tmps : Array Value) (P : Program) (w : World) :
    (results fn tmps).run P w = .ok (.tuple #[tmps.getD t undef, tmps.getD u undef, tmps.getD v undef]) w := by simp [results, h]
set_option maxRecDepth 100000 in
set_option maxHeartbeats 2000000 in
theorem drawMailWords_any (W : World) (a : Option Addr) (len cap : Nat) (zs : List Int) (hr : Row .u8 W a len cap zs) :
    Calls Try.prog 25 #[.slice a len cap] W (DrewI3 W) := by
  go_enter Try.func25, Try.ntmps25
  go_wp2_with fail
  refine (open_any W a len cap zs hr).mono ?_
  clear hr
  rintro e w1 ⟨rfl, hR1⟩
  go_wp2_with fail
  refine (mails_any W _ _ _ hR1 (by omega)).mono ?_
  rintro e w2 ⟨v, ys, rfl, hl, h⟩
  have H := Lib.hid h
  have HL := Lib.hid hl
  clear h hR1
  obtain ⟨g, cap2, rfl⟩ := H.out.form
  have hcc : ys.length ≤ cap2 ∧ cap2 ≤ 9223372036854775807 := by
    obtain ⟨a', c', e, h1, h2, _⟩ := H.out.row
    injection e with e1 e2 e3
    subst e3
    unfold maxLen at h2
    omega
  obtain ⟨n, hn⟩ : ∃ n, n = ys.length := ⟨_, rfl⟩
  rw [← hn] at H hl hcc ⊢
  have HN := Lib.hid hn
  have hcc1 := hcc.1
  have hcc2 := hcc.2
  clear hn hcc
  by_cases hz : n = 0
  · subst hz
    go_wp2_with fail
    refine (pick_any W _ _ _ _ H.out.rdr (by omega) (by omega)).mono ?_
    rintro e w3 ⟨m, h0, h1, rfl, hR3, hO3⟩
    have H3 := Lib.hid (H.out.drew hR3 hO3.grown)
    clear hR3 hO3
    go_wp2_with fail
    refine (pick_any W _ _ _ _ H3.out.rdr (by omega) (by omega)).mono ?_
    rintro e w4 ⟨q, hn0, hn1, rfl, hR4, hO4⟩
    have HD := Lib.hid (DIs.of (H3.out.drew hR4 hO4.grown) HL.out)
    clear hR4 hO4 H3 H
    go_wp2_with fail
    refine bodyPost_ret (results_three rfl _ _ _) rfl ?_
    exact ⟨_, ys, m, q, rfl, HD.out⟩
  · have hz' : (0 : Int) < (n : Int) := by omega
    go_wp2_with fail
    refine (pick_any W _ _ _ _ H.out.rdr (by omega) (by omega)).mono ?_
    rintro e w3 ⟨m, h0, h1, rfl, hR3, hO3⟩
    have H3 := Lib.hid (H.out.drew hR3 hO3.grown)
    clear hR3 hO3
    by_cases hm : 0 < m
    · go_wp2_with fail
      refine (pick_any W _ _ _ _ H3.out.rdr (by omega) (by omega)).mono ?_
      rintro e w4 ⟨q0, hq0, hq1, rfl, hR4, hO4⟩
      obtain ⟨q, rfl⟩ := Int.eq_ofNat_of_zero_le hq0
      have H4 := Lib.hid (H3.out.drew hR4 hO4.grown)
      clear hR4 hO4 H3 H
      have hqn : q < n := by omega
      obtain ⟨x, hx⟩ : ∃ x, x = ys.getD q iz := ⟨_, rfl⟩
      have hf : Tri w4 g (0 + q * 3) x := by
        obtain ⟨a', c', e, _, _, h3⟩ := H4.out.row
        injection e with e _ _
        obtain ⟨b, o, e2, _, _, h4⟩ := h3 q (by rw [← HN.out]; exact hqn)
        rw [← e] at e2
        injection e2 with e2
        injection e2 with e3 e4
        subst e3
        subst e4
        rw [hx]
        exact h4.at3
      obtain ⟨xe, xp, xf⟩ := x
      obtain ⟨y0, y1, y2⟩ := hf
      have HD0 := Lib.hid (((H4.out.row.is).below (w' := w4.alloc (.cells #[.int .i64 xe, .int .i64 xp, .int .i64 xf] 25)) ((Below.refl _ _).alloc (Nat.le_refl _) _)))
      have HD1 := Lib.hid ((rdr_below H4.out.rdr).alloc (rdr_below H4.out.rdr).size (.cells #[.int .i64 xe, .int .i64 xp, .int .i64 xf] 25))
      clear H4 hx
      simp only [Nat.zero_add] at y0 y1 y2
      go_wp2_with fail
      refine wp_region_held_drew (S := fun w' => Tri w' w4.heap.size 0 ⟨xe, xp, xf⟩) (by kernel_rfl) ⟨new_cell rfl, new_cell rfl, new_cell rfl⟩ (fun hHeld => ?_)
      refine wpAnyH_take (i := 0) (oi := { dst := some 28, op := .move (.tmp 6), type := _, pos := _, after := _, guard := none }) (v := .slice (some ⟨g, 0, none⟩) n cap2) rfl (by kernel_rfl) (by kernel_rfl) (by kernel_rfl) (fun _ _ _ h => h) (Or.inl ⟨by rfl, fun wh hSw => ?_⟩) hHeld ?_
      · (obtain ⟨s0, s1, s2⟩ := hSw; simp only [Nat.zero_add] at s0 s1 s2; go_simp)
      try simp only [Act.put, List.setIfInBounds_toArray, List.set_cons_zero, List.set_cons_succ]
      refine wpAnyH_take (i := 1) (oi := { dst := some 29, op := .fieldAddr 25 (.tmp 7) 0, type := _, pos := _, after := _, guard := none }) (v := .pointer (some ⟨w4.heap.size, 0, none⟩)) rfl (by kernel_rfl) (by kernel_rfl) (by kernel_rfl) (fun _ _ _ h => h) (Or.inl ⟨by rfl, fun wh hSw => ?_⟩) hHeld ?_
      · (obtain ⟨s0, s1, s2⟩ := hSw; simp only [Nat.zero_add] at s0 s1 s2; go_simp)
      try simp only [Act.put, List.setIfInBounds_toArray, List.set_cons_zero, List.set_cons_succ]
      refine wpAnyH_take (i := 2) (oi := { dst := some 30, op := .load 3 (.tmp 29), type := _, pos := _, after := _, guard := none }) (v := .int .i64 xe) rfl (by kernel_rfl) (by kernel_rfl) (by kernel_rfl) (fun _ _ _ h => h) (Or.inl ⟨by rfl, fun wh hSw => ?_⟩) hHeld ?_
      · (obtain ⟨s0, s1, s2⟩ := hSw; simp only [Nat.zero_add] at s0 s1 s2; go_simp)
      try simp only [Act.put, List.setIfInBounds_toArray, List.set_cons_zero, List.set_cons_succ]
      refine wpAnyH_take (i := 3) (oi := { dst := some 31, op := .fieldAddr 25 (.tmp 7) 1, type := _, pos := _, after := _, guard := none }) (v := .pointer (some ⟨w4.heap.size, 1, none⟩)) rfl (by kernel_rfl) (by kernel_rfl) (by kernel_rfl) (fun _ _ _ h => h) (Or.inl ⟨by rfl, fun wh hSw => ?_⟩) hHeld ?_
      · (obtain ⟨s0, s1, s2⟩ := hSw; simp only [Nat.zero_add] at s0 s1 s2; go_simp)
      try simp only [Act.put, List.setIfInBounds_toArray, List.set_cons_zero, List.set_cons_succ]
      refine wpAnyH_take (i := 4) (oi := { dst := some 32, op := .load 3 (.tmp 31), type := _, pos := _, after := _, guard := none }) (v := .int .i64 xp) rfl (by kernel_rfl) (by kernel_rfl) (by kernel_rfl) (fun _ _ _ h => h) (Or.inl ⟨by rfl, fun wh hSw => ?_⟩) hHeld ?_
      · (obtain ⟨s0, s1, s2⟩ := hSw; simp only [Nat.zero_add] at s0 s1 s2; go_simp)
      try simp only [Act.put, List.setIfInBounds_toArray, List.set_cons_zero, List.set_cons_succ]
      refine wpAnyH_take (i := 5) (oi := { dst := some 2, op := .assign (.tmp 28), type := _, pos := _, after := _, guard := none }) (v := .slice (some ⟨g, 0, none⟩) n cap2) rfl (by kernel_rfl) (by kernel_rfl) (by kernel_rfl) (fun _ _ _ h => h) (Or.inl ⟨by rfl, fun wh hSw => ?_⟩) hHeld ?_
      · (obtain ⟨s0, s1, s2⟩ := hSw; simp only [Nat.zero_add] at s0 s1 s2; go_simp)
      try simp only [Act.put, List.setIfInBounds_toArray, List.set_cons_zero, List.set_cons_succ]
      refine wpAnyH_take (i := 6) (oi := { dst := some 3, op := .assign (.tmp 30), type := _, pos := _, after := _, guard := none }) (v := .int .i64 xe) rfl (by kernel_rfl) (by kernel_rfl) (by kernel_rfl) (fun _ _ _ h => h) (Or.inl ⟨by rfl, fun wh hSw => ?_⟩) hHeld ?_
      · (obtain ⟨s0, s1, s2⟩ := hSw; simp only [Nat.zero_add] at s0 s1 s2; go_simp)
      try simp only [Act.put, List.setIfInBounds_toArray, List.set_cons_zero, List.set_cons_succ]
      refine wpAnyH_take (i := 7) (oi := { dst := some 4, op := .assign (.tmp 32), type := _, pos := _, after := _, guard := none }) (v := .int .i64 xp) rfl (by kernel_rfl) (by kernel_rfl) (by kernel_rfl) (fun _ _ _ h => h) (Or.inl ⟨by rfl, fun wh hSw => ?_⟩) hHeld ?_
      · (obtain ⟨s0, s1, s2⟩ := hSw; simp only [Nat.zero_add] at s0 s1 s2; go_simp)
      try simp only [Act.put, List.setIfInBounds_toArray, List.set_cons_zero, List.set_cons_succ]
      refine wpAnyH_done (by kernel_rfl) ?_ _
      go_wp2_with fail
      refine bodyPost_ret (results_three rfl _ _ _) rfl ?_
      exact ⟨_, ys, xe, xp, rfl, ⟨HD0.out.drewN 1, HL.out, HD1.out.drew, ⟨g, cap2, by rw [HN.out]; rfl⟩⟩⟩
    · have hm' : decide (0 < m) = false := by simpa using hm
      clear hm
      go_wp2_with fail
      refine (pick_any W _ _ _ _ H3.out.rdr (by omega) (by omega)).mono ?_
      rintro e w4 ⟨m2, h20, h21, rfl, hR4, hO4⟩
      have H4 := Lib.hid (H3.out.drew hR4 hO4.grown)
      clear hR4 hO4 H3 H
      go_wp2_with fail
      refine (pick_any W _ _ _ _ H4.out.rdr (by omega) (by omega)).mono ?_
      rintro e w5 ⟨n5, hn0, hn1, rfl, hR4, hO4⟩
      have HD := Lib.hid (DIs.of (H4.out.drew hR4 hO4.grown) HL.out)
      clear hR4 hO4 H4
      go_wp2_with fail
      refine bodyPost_ret (results_three rfl _ _ _) rfl ?_
      exact ⟨_, ys, m2, n5, rfl, HD.out⟩
end Go.Proofs.Ytachiggolgdocaa
namespace Go.Proofs.Ytachiggolgdocaa
open Go.ChangeShapes Go.WideShapes Go.ChangeAt Go.RowKit
set_option linter.unusedVariables false
theorem mws0_at {ys : List IV} {f t : Int} {k : Nat} (hk : k < ys.length) (h : msel f t (ys.getD k iz) = true) : (mws0 (ys.take k) f t).length < (mws0 ys f t).length ∧ (mws0 ys f t).getD (mws0 (ys.take k) f t).length 0 = (ys.getD k iz).r := by
  have e : mws0 ys f t = mws0 (ys.take k) f t ++ ((ys.getD k iz).r :: mws0 (ys.drop (k + 1)) f t) := by
    conv => lhs; rw [split_at hk]
    rw [mws0_app, mws0_app, mws0_one, if_pos h]
    rfl
  rw [e]
  refine ⟨by rw [List.length_append, List.length_cons]; omega, ?_⟩
  simp [List.getD_eq_getElem?_getD]
set_option maxRecDepth 100000 in
set_option maxHeartbeats 2000000 in
theorem mailWords_walk  (W : World) (a : Option Addr) (len cap : Nat) (zs : List Int) (hr : Row .u8 W a len cap zs) :
    Calls Try.prog 9 #[.slice a len cap] W fun e w' => e = .returned (.bool true) ∧ Below W.heap.size W w' := by
  have hm := row_len hr
  by_cases hL : 1048576 < len
  · have hL1 : (1048576 : Int) < (len : Int) := by omega
    clear hr
    go_enter Try.func9, Try.ntmps9
    go_wp2_with fail
    go_ret
    exact ⟨rfl, Below.refl _ _⟩
  have hL1 : decide ((1048576 : Int) < (len : Int)) = false := by simp; omega
  have hL2 : decide (1048576 < len) = false := by simp; omega
  go_enter Try.func9, Try.ntmps9
  go_wp2_with fail
  refine (drawMailWords_any W a len cap zs hr).mono ?_
  clear hr
  rintro e w1 ⟨v, ys, f, t, rfl, hd⟩
  have B1 := Lib.hid hd.bel
  have R1 := Lib.hid hd.is
  have hl9 := hd.len
  obtain ⟨g0, c2, hv⟩ := hd.form
  clear hd
  subst hv
  have HC := Lib.hid (imw_any w1 _ ys f t R1.out)
  have HS := Lib.hid (fun w h => sMailWords_any w (.slice (some ⟨g0, 0, none⟩) ys.length c2) ys f t h)
  have HV := Lib.hid (fun w h => sMailsValid_any w (.slice (some ⟨g0, 0, none⟩) ys.length c2) ys h)
  have HU8 : Hid ((mws ys f t).length ≤ 8) := Lib.hid mws_len
  have HUS : Hid (msok ys = true → mws ys f t = mws0 ys f t) := Lib.hid (fun h => by rw [mws, if_pos h])
  generalize mws ys f t = us at HC HS HU8 HUS
  generalize msok ys = q at HV HUS
  obtain ⟨n, hn⟩ : ∃ n, n = ys.length := ⟨_, rfl⟩
  rw [← hn] at HC HS R1 hl9 HV ⊢
  have HN := Lib.hid hn
  clear hn
  go_wp2_with fail
  refine HC.out.mono ?_
  rintro e w2 ⟨p2, rfl, hr2, hb2⟩
  have B2 := Lib.hid (B1.out.trans (hb2.mono B1.out.size))
  have R2 := Lib.hid (R1.out.below hb2)
  have U2 := Lib.hid hr2.ints
  clear hb2 hr2 HC R1 B1
  go_wp2_with fail
  refine (HS.out w2 R2.out).mono ?_
  rintro e w3 ⟨p3, rfl, hr3, hb3⟩
  have B3 := Lib.hid (B2.out.trans (hb3.mono B2.out.size))
  have R3 := Lib.hid (R2.out.below hb3)
  have U23 := Lib.hid (U2.out.below (B := 0) hb3)
  have U3 := Lib.hid hr3.ints
  clear hb3 hr3 HS R2 B2 U2
  go_wp2_with fail
  refine (sameN w3 p2 p3 us U23.out U3.out).mono ?_
  rintro e w4 ⟨rfl, hb4⟩
  have B4 := Lib.hid (B3.out.trans (hb4.mono B3.out.size))
  have R4 := Lib.hid (R3.out.below hb4)
  have U24 := Lib.hid (U23.out.below (B := 0) hb4)
  have U34 := Lib.hid (U3.out.below (B := 0) hb4)
  clear hb4 B3 U23 U3 R3
  go_wp2_with fail
  refine (HV.out w4 R4.out).mono ?_
  rintro e w5 ⟨rfl, hb5⟩
  have B5 := Lib.hid (B4.out.trans (hb5.mono B4.out.size))
  have R5 := Lib.hid (R4.out.below hb5)
  have U25 := Lib.hid (U24.out.below (B := 0) hb5)
  have U35 := Lib.hid (U34.out.below (B := 0) hb5)
  clear hb5 B4 U24 U34 R4
  cases q with
  | false =>
    go_wp2_with fail
    refine (sameN w5 p2 p3 us U25.out U35.out).mono ?_
    rintro e w6 ⟨rfl, hb6⟩
    have B6 := Lib.hid (B5.out.trans (hb6.mono B5.out.size))
    clear hb6
    go_wp2_with fail
    go_ret
    exact ⟨rfl, B6.out⟩
  | true =>
    have HUE := Lib.hid (HUS.out (by first | trivial | rfl))
    clear HUS U35
    obtain ⟨a2, cc, rfl, hu1, hu2, hu3⟩ := U25.out
    obtain ⟨L, hL⟩ : ∃ L, L = us.length := ⟨_, rfl⟩
    rw [← hL] at hu1 hu3 U25 HU8 ⊢
    have HU3 := Lib.hid hu3
    have HLL := Lib.hid hL
    unfold maxLen at hu2
    have hL8 := HU8.out
    clear hu3 hL HU8
    go_wp2
    go_loopw [8, 9] (fun s i wr => ∃ k : Nat, k ≤ n ∧ i = .int .i64 k ∧ s = .int .i64 ((mws0 (ys.take k) f t).length : Int) ∧ Hid (Below w5.heap.size w5 wr)) (fun _ i _ => n - (intOf i).toNat)
    case atStart => exact ⟨0, Nat.zero_le _, rfl, rfl, Lib.hid (Below.refl _ _)⟩
    case round =>
      obtain ⟨k, hk, rfl, rfl, HB⟩ := hrel
      by_cases hlt : k < n
      · have hlt' : (k : Int) < (n : Int) := by omega
        obtain ⟨y, hy⟩ : ∃ y, y = ys.getD k iz := ⟨_, rfl⟩
        have HT : Hid (Tri wr g0 (k * 3) y) := Lib.hid (by
          obtain ⟨a', c', e, _, _, h3⟩ := R5.out
          injection e with e _ _
          obtain ⟨b', o', e2, h4⟩ := h3 k (by rw [← HN.out]; exact hlt)
          rw [← e] at e2
          cases e2
          rw [Nat.zero_add] at h4
          rw [hy]
          exact h4.below HB.out h4.lt)
        have HSN := Lib.hid (mws0_snoc ys f t k (by rw [← HN.out]; exact hlt))
        have HAT : Hid (msel f t y = true → (mws0 (ys.take k) f t).length < L ∧ us.getD (mws0 (ys.take k) f t).length 0 = y.r) := Lib.hid (fun h => by rw [HLL.out, HUE.out, hy]; exact mws0_at (by rw [← HN.out]; exact hlt) (by rw [← hy]; exact h))
        rw [← hy] at HSN
        clear hy
        obtain ⟨s, hs⟩ : ∃ s, s = (mws0 (ys.take k) f t).length := ⟨_, rfl⟩
        rw [← hs] at HAT ⊢
        have HSS := Lib.hid hs
        clear hs
        obtain ⟨e0, e1, e2⟩ := HT.out
        by_cases h1 : y.k = f
        · have h1' : (y.k == f) = true := by simpa using h1
          by_cases h2 : y.g = t
          · have h2' : (y.g == t) = true := by simpa using h2
            have hsel : msel f t y = true := by unfold msel; rw [decide_eq_true h1, decide_eq_true h2]; rfl
            have hat := HAT.out hsel
            have hsL := hat.1
            obtain ⟨g2, o2, rfl, hc⟩ := HU3.out s hsL
            rw [hat.2] at hc
            have hcw : wr.cell? ⟨g2, o2 + s, none⟩ = some (.int .i64 y.r) := (World.cell?_of_block (HB.out.block g2 (block_lt_of_cell hc))).trans hc
            have HLEN : Hid ((mws0 (ys.take (k + 1)) f t).length = s + 1) := Lib.hid (by rw [HSN.out, if_pos hsel, List.length_append, ← HSS.out]; rfl)
            have hsl : ¬ (L : Int) ≤ (s : Int) := by omega
            have hsl2 : (s : Int) < (L : Int) := by omega
            have HCW := Lib.hid hcw
            clear h1 h2 hsel hat hc
            go_wp2_with fail
            refine wp_region_held_drew (S := fun w' => w'.cell? ⟨g2, o2 + s, none⟩ = some (.int .i64 y.r) ∧ Tri w' g0 (k * 3) y) (by kernel_rfl) ⟨HCW.out, HT.out.drewN 1⟩ (fun hHeld => ?_)
            refine wpAnyH_take (i := 0) (oi := { dst := some 61, op := .move (.tmp 8), type := _, pos := _, after := _, guard := none }) (v := .int .i64 (s : Int)) rfl (by kernel_rfl) (by kernel_rfl) (by kernel_rfl) (fun _ _ _ h => h) (Or.inl ⟨by rfl, fun wh hSw => ?_⟩) hHeld ?_
            · (obtain ⟨d, d0, d1, d2⟩ := hSw; go_simp)
            try simp only [Act.put, List.setIfInBounds_toArray, List.set_cons_zero, List.set_cons_succ]
            refine wpAnyH_take (i := 1) (oi := { dst := some 62, op := .move (.tmp 6), type := _, pos := _, after := _, guard := none }) (v := .slice (some ⟨g2, o2, none⟩) L cc) rfl (by kernel_rfl) (by kernel_rfl) (by kernel_rfl) (fun _ _ _ h => h) (Or.inl ⟨by rfl, fun wh hSw => ?_⟩) hHeld ?_
            · (obtain ⟨d, d0, d1, d2⟩ := hSw; go_simp)
            try simp only [Act.put, List.setIfInBounds_toArray, List.set_cons_zero, List.set_cons_succ]
            refine wpAnyH_take (i := 2) (oi := { dst := some 63, op := .call { callee := .builtin .len, args := #[.tmp 62], argTypes := #[31] }, type := _, pos := _, after := _, guard := none }) (v := .int .i64 (L : Int)) rfl (by kernel_rfl) (by kernel_rfl) (by kernel_rfl) (fun _ _ _ h => h) (Or.inl ⟨by rfl, fun wh hSw => ?_⟩) hHeld ?_
            · (obtain ⟨d, d0, d1, d2⟩ := hSw; go_simp)
            try simp only [Act.put, List.setIfInBounds_toArray, List.set_cons_zero, List.set_cons_succ]
            refine wpAnyH_take (i := 3) (oi := { dst := some 64, op := .binOp .geq 3 (.tmp 61) (.tmp 63) 3, type := _, pos := _, after := _, guard := none }) (v := .bool false) rfl (by kernel_rfl) (by kernel_rfl) (by kernel_rfl) (fun _ _ _ h => h) (Or.inl ⟨by rfl, fun wh hSw => ?_⟩) hHeld ?_
            · (obtain ⟨d, d0, d1, d2⟩ := hSw; go_simp)
            try simp only [Act.put, List.setIfInBounds_toArray, List.set_cons_zero, List.set_cons_succ]
            refine wpAnyH_take (i := 4) (oi := { dst := some 65, op := .move (.tmp 64), type := _, pos := _, after := _, guard := none }) (v := .bool false) rfl (by kernel_rfl) (by kernel_rfl) (by kernel_rfl) (fun _ _ _ h => h) (Or.inl ⟨by rfl, fun wh hSw => ?_⟩) hHeld ?_
            · (obtain ⟨d, d0, d1, d2⟩ := hSw; go_simp)
            try simp only [Act.put, List.setIfInBounds_toArray, List.set_cons_zero, List.set_cons_succ]
            refine wpAnyH_take (i := 5) (oi := { dst := some 66, op := .move (.tmp 6), type := _, pos := _, after := _, guard := some (4, false) }) (v := .slice (some ⟨g2, o2, none⟩) L cc) rfl (by kernel_rfl) (by kernel_rfl) (by kernel_rfl) (fun _ _ _ h => h) (Or.inl ⟨by rfl, fun wh hSw => ?_⟩) hHeld ?_
            · (obtain ⟨d, d0, d1, d2⟩ := hSw; go_simp)
            try simp only [Act.put, List.setIfInBounds_toArray, List.set_cons_zero, List.set_cons_succ]
            refine wpAnyH_take (i := 6) (oi := { dst := some 67, op := .move (.tmp 8), type := _, pos := _, after := _, guard := some (4, false) }) (v := .int .i64 (s : Int)) rfl (by kernel_rfl) (by kernel_rfl) (by kernel_rfl) (fun _ _ _ h => h) (Or.inl ⟨by rfl, fun wh hSw => ?_⟩) hHeld ?_
            · (obtain ⟨d, d0, d1, d2⟩ := hSw; go_simp)
            try simp only [Act.put, List.setIfInBounds_toArray, List.set_cons_zero, List.set_cons_succ]
            refine wpAnyH_take (i := 7) (oi := { dst := some 68, op := .indexAddr 31 (.tmp 66) (.tmp 67), type := _, pos := _, after := _, guard := some (4, false) }) (v := .pointer (some ⟨g2, o2 + s, none⟩)) rfl (by kernel_rfl) (by kernel_rfl) (by kernel_rfl) (fun _ _ _ h => h) (Or.inl ⟨by rfl, fun wh hSw => ?_⟩) hHeld ?_
            · (go_simp; try (intro hh; omega))
            try simp only [Act.put, List.setIfInBounds_toArray, List.set_cons_zero, List.set_cons_succ]
            refine wpAnyH_take (i := 8) (oi := { dst := some 69, op := .load 3 (.tmp 68), type := _, pos := _, after := _, guard := some (4, false) }) (v := .int .i64 y.r) rfl (by kernel_rfl) (by kernel_rfl) (by kernel_rfl) (fun _ _ _ h => h) (Or.inl ⟨by rfl, fun wh hSw => ?_⟩) hHeld ?_
            · (obtain ⟨d, d0, d1, d2⟩ := hSw; go_simp)
            try simp only [Act.put, List.setIfInBounds_toArray, List.set_cons_zero, List.set_cons_succ]
            refine wpAnyH_take (i := 9) (oi := { dst := some 70, op := .move (.tmp 3), type := _, pos := _, after := _, guard := some (4, false) }) (v := .slice (some ⟨g0, 0, none⟩) n c2) rfl (by kernel_rfl) (by kernel_rfl) (by kernel_rfl) (fun _ _ _ h => h) (Or.inl ⟨by rfl, fun wh hSw => ?_⟩) hHeld ?_
            · (obtain ⟨d, d0, d1, d2⟩ := hSw; go_simp)
            try simp only [Act.put, List.setIfInBounds_toArray, List.set_cons_zero, List.set_cons_succ]
            refine wpAnyH_take (i := 10) (oi := { dst := some 71, op := .move (.tmp 9), type := _, pos := _, after := _, guard := some (4, false) }) (v := .int .i64 (k : Int)) rfl (by kernel_rfl) (by kernel_rfl) (by kernel_rfl) (fun _ _ _ h => h) (Or.inl ⟨by rfl, fun wh hSw => ?_⟩) hHeld ?_
            · (obtain ⟨d, d0, d1, d2⟩ := hSw; go_simp)
            try simp only [Act.put, List.setIfInBounds_toArray, List.set_cons_zero, List.set_cons_succ]
            refine wpAnyH_take (i := 11) (oi := { dst := some 72, op := .indexAddr 23 (.tmp 70) (.tmp 71), type := _, pos := _, after := _, guard := some (4, false) }) (v := .pointer (some ⟨g0, k * 3, none⟩)) rfl (by kernel_rfl) (by kernel_rfl) (by kernel_rfl) (fun _ _ _ h => h) (Or.inl ⟨by rfl, fun wh hSw => ?_⟩) hHeld ?_
            · (go_simp; try (intro hh; omega))
            try simp only [Act.put, List.setIfInBounds_toArray, List.set_cons_zero, List.set_cons_succ]
            refine wpAnyH_take (i := 12) (oi := { dst := some 73, op := .fieldAddr 25 (.tmp 72) 2, type := _, pos := _, after := _, guard := some (4, false) }) (v := .pointer (some ⟨g0, k * 3 + 2, none⟩)) rfl (by kernel_rfl) (by kernel_rfl) (by kernel_rfl) (fun _ _ _ h => h) (Or.inl ⟨by rfl, fun wh hSw => ?_⟩) hHeld ?_
            · (obtain ⟨d, d0, d1, d2⟩ := hSw; go_simp)
            try simp only [Act.put, List.setIfInBounds_toArray, List.set_cons_zero, List.set_cons_succ]
            refine wpAnyH_take (i := 13) (oi := { dst := some 74, op := .load 3 (.tmp 73), type := _, pos := _, after := _, guard := some (4, false) }) (v := .int .i64 y.r) rfl (by kernel_rfl) (by kernel_rfl) (by kernel_rfl) (fun _ _ _ h => h) (Or.inl ⟨by rfl, fun wh hSw => ?_⟩) hHeld ?_
            · (obtain ⟨d, d0, d1, d2⟩ := hSw; go_simp)
            try simp only [Act.put, List.setIfInBounds_toArray, List.set_cons_zero, List.set_cons_succ]
            refine wpAnyH_take (i := 14) (oi := { dst := some 75, op := .binOp .neq 3 (.tmp 69) (.tmp 74) 3, type := _, pos := _, after := _, guard := some (4, false) }) (v := .bool false) rfl (by kernel_rfl) (by kernel_rfl) (by kernel_rfl) (fun _ _ _ h => h) (Or.inl ⟨by rfl, fun wh hSw => ?_⟩) hHeld ?_
            · (obtain ⟨d, d0, d1, d2⟩ := hSw; go_simp)
            try simp only [Act.put, List.setIfInBounds_toArray, List.set_cons_zero, List.set_cons_succ]
            refine wpAnyH_take (i := 15) (oi := { dst := some 76, op := .pick (.tmp 65) (.const (.bool true)) (.tmp 75), type := _, pos := _, after := _, guard := none }) (v := .bool false) rfl (by kernel_rfl) (by kernel_rfl) (by kernel_rfl) (fun _ _ _ h => h) (Or.inl ⟨by rfl, fun wh hSw => ?_⟩) hHeld ?_
            · (obtain ⟨d, d0, d1, d2⟩ := hSw; go_simp)
            try simp only [Act.put, List.setIfInBounds_toArray, List.set_cons_zero, List.set_cons_succ]
            refine wpAnyH_done (by kernel_rfl) ?_ _
            go_wp2
            go_roundw
            case rel => exact ⟨k + 1, by omega, by go_num, by rw [HLEN.out]; rfl, Lib.hid HB.out.drew⟩
            case measure => simp [intOf]; omega
          · have h2' : (y.g == t) = false := by simpa using h2
            have HLEN : Hid ((mws0 (ys.take (k + 1)) f t).length = s) := Lib.hid (by rw [HSN.out, if_neg (by unfold msel; rw [decide_eq_false h2, Bool.and_false]; exact Bool.noConfusion), List.append_nil, ← HSS.out])
            clear h1 h2 HSN HAT
            go_wp2
            go_roundw
            case rel => exact ⟨k + 1, by omega, by go_num, by rw [HLEN.out], HB⟩
            case measure => simp [intOf]; omega
        · have h1' : (y.k == f) = false := by simpa using h1
          have HLEN : Hid ((mws0 (ys.take (k + 1)) f t).length = s) := Lib.hid (by rw [HSN.out, if_neg (by unfold msel; rw [decide_eq_false h1, Bool.false_and]; exact Bool.noConfusion), List.append_nil, ← HSS.out])
          clear h1 HSN HAT
          go_wp2
          go_roundw
          case rel => exact ⟨k + 1, by omega, by go_num, by rw [HLEN.out], HB⟩
          case measure => simp [intOf]; omega
      · have e : k = n := by omega
        subst e
        have hE : (mws0 (ys.take k) f t).length = L := by rw [take_all HN.out, HLL.out, HUE.out]
        rw [hE]
        have hll : ((L : Int) == (L : Int)) = true := by simp
        go_wp2
        go_ret
        exact ⟨rfl, B5.out.trans (HB.out.mono B5.out.size)⟩
end Go.Proofs.Ytachiggolgdocaa
