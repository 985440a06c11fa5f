/- The walks of the exact statements of rights, out of contracts of the program. -/
import Derived.Test.YtjakelpdnmnofaaRSpec2
namespace Go.Proofs.Ytjakelpdnmnofaa
open Go.ChangeShapes Go.WideShapes Go.ChangeAt Go.RowKit
set_option linter.unusedVariables false

/-- the call answers a bool; nothing that was there changes -/
def BRes (b : Bool) (w : World) (e : Ending) (w' : World) : Prop := e = .returned (.bool b) ∧ Below w.heap.size w w'
/-- the program's functions answer as these do -/
abbrev IRV : Prop := ∀ (w : World) (s : Bs), s.length ≤ 2000000 → Calls Try.prog 19 #[.string ⟨s.toArray⟩] w (BRes (rv s) w)
abbrev IRCov : Prop := ∀ (w : World) (a b : Bs), a.length ≤ 2000000 → b.length ≤ 2000000 → Calls Try.prog 22 #[.string ⟨a.toArray⟩, .string ⟨b.toArray⟩] w (BRes (rcov a b) w)
abbrev IRVs : Prop := ∀ (w : World) (v : Value) (xs : List Bs), Strs w v xs → Short xs → Calls Try.prog 32 #[v] w (BRes (rvs xs) w)
abbrev IRMay : Prop := ∀ (w : World) (v : Value) (xs : List Bs) (g : Bs), Strs w v xs → Short xs → g.length ≤ 2000000 → Calls Try.prog 25 #[v, .string ⟨g.toArray⟩] w (BRes (rmay xs g) w)
abbrev IRAdd : Prop := ∀ (w : World) (v : Value) (xs : List Bs) (s : Bs), Strs w v xs → Short xs → s.length ≤ 2000000 → Calls Try.prog 29 #[v, .string ⟨s.toArray⟩] w (NewSB (radd xs s).1 (radd xs s).2 w)
abbrev IRDrop : Prop := ∀ (w : World) (v : Value) (xs : List Bs) (s : Bs), Strs w v xs → Short xs → s.length ≤ 2000000 → Calls Try.prog 34 #[v, .string ⟨s.toArray⟩] w (NewS (rdrop xs s) w)

theorem rdrop_len (xs : List Bs) (s : Bs) : (rdrop xs s).length ≤ 6 := by
  unfold rdrop
  split
  · rename_i h
    rw [Bool.and_eq_true] at h
    have := rvs_len h.1
    have := drop_len xs s
    omega
  · exact Nat.zero_le _
theorem eqS_same (w : World) (va vb : Value) (xs : List Bs) (ha : Strs w va xs) (hb : Strs w vb xs) :
    Calls Try.prog 39 #[va, vb] w fun e w' => e = .returned (.bool true) ∧ Chg 0 0 w w' := by
  refine (eqStringS_any w va vb xs xs ha hb).mono ?_
  rintro e w' ⟨rfl, n, rfl⟩
  rw [decide_eq_true (rfl : xs = xs)]
  exact ⟨rfl, Chg.of_drewN w n⟩
theorem Strs.chg0 {w w' : World} {v : Value} {xs : List Bs} (h : Strs w v xs) (c : Chg 0 0 w w') : Strs w' v xs :=
  h.below ⟨c.os, c.tape, c.output, c.size, fun b hb => c.block b hb (.inr (Nat.zero_le _))⟩
theorem neB (b : Bool) : (b != b) = false := by simp

theorem exRightValid_walk (hI : IRV) (W : World) (s : Bs) (hs : s.length ≤ maxLen) :
    Calls Try.prog 12 #[.string ⟨s.toArray⟩] W fun e w' => e = .returned (.bool true) ∧ Below W.heap.size W w' := by
  have HI := Lib.hid hI
  clear hI
  unfold maxLen at hs
  have hsl : (s.length : Int) ≤ 9223372036854775807 := by omega
  by_cases hlong : 1048576 < s.length
  · have hl1 : (1048576 : Int) < (s.length : Int) := by omega
    go_enter Try.func12, Try.ntmps12
    go_wp2_with fail
    go_ret
    exact ⟨rfl, Below.refl _ _⟩
  have hl1 : ¬ (1048576 : Int) < (s.length : Int) := by omega
  have HS := Lib.hid (sRightValid_any W s (by omega))
  have HP := Lib.hid (HI.out W s (by omega))
  obtain ⟨b, hb⟩ : ∃ b, b = rv s := ⟨_, rfl⟩
  rw [← hb] at HS HP
  clear hb
  have hbb := neB b
  go_enter Try.func12, Try.ntmps12
  go_wp2_with fail
  refine HS.out.mono ?_
  rintro e w' ⟨rfl, rfl⟩
  go_wp2_with fail
  refine HP.out.mono ?_
  rintro e w1 ⟨rfl, hb1⟩
  have B1 := Lib.hid hb1
  clear hb1
  go_wp2_with fail
  go_ret
  exact ⟨rfl, B1.out⟩
theorem exRightCovers_walk (hI : IRCov) (W : World) (a b : Bs) (ha : a.length ≤ maxLen) (hb : b.length ≤ maxLen) :
    Calls Try.prog 13 #[.string ⟨a.toArray⟩, .string ⟨b.toArray⟩] W fun e w' => e = .returned (.bool true) ∧ Below W.heap.size W w' := by
  have HI := Lib.hid hI
  clear hI
  unfold maxLen at ha hb
  have hal : (a.length : Int) ≤ 9223372036854775807 := by omega
  have hbl : (b.length : Int) ≤ 9223372036854775807 := by omega
  by_cases hlong : 1048576 < a.length
  · have hl1 : (1048576 : Int) < (a.length : Int) := by omega
    go_enter Try.func13, Try.ntmps13
    go_wp2_with fail
    go_ret
    exact ⟨rfl, Below.refl _ _⟩
  have hl1 : ¬ (1048576 : Int) < (a.length : Int) := by omega
  by_cases hlong2 : 1048576 < b.length
  · have hl2 : (1048576 : Int) < (b.length : Int) := by omega
    go_enter Try.func13, Try.ntmps13
    go_wp2_with fail
    go_ret
    exact ⟨rfl, Below.refl _ _⟩
  have hl2 : ¬ (1048576 : Int) < (b.length : Int) := by omega
  have HS := Lib.hid (sRightCovers_any W a b (by omega) (by omega))
  have HP := Lib.hid (HI.out W a b (by omega) (by omega))
  obtain ⟨r, hr⟩ : ∃ r, r = rcov a b := ⟨_, rfl⟩
  rw [← hr] at HS HP
  clear hr
  have hbb := neB r
  go_enter Try.func13, Try.ntmps13
  go_wp2_with fail
  refine HS.out.mono ?_
  rintro e w' ⟨rfl, rfl⟩
  go_wp2_with fail
  refine HP.out.mono ?_
  rintro e w1 ⟨rfl, hb1⟩
  have B1 := Lib.hid hb1
  clear hb1
  go_wp2_with fail
  go_ret
  exact ⟨rfl, B1.out⟩
set_option maxHeartbeats 400000 in
theorem exRightsValid_walk (hI : IRVs) (W : World) (v0 : Value) (xs : List Bs) (h : Strs W v0 xs) (hf : Fit xs) :
    Calls Try.prog 14 #[v0] W fun e w' => e = .returned (.bool true) ∧ Below W.heap.size W w' := by
  have HI := Lib.hid hI
  have H0 := Lib.hid h
  clear hI
  go_enter Try.func14, Try.ntmps14
  go_wp2_with fail
  refine (szStringS_any W v0 xs 1048576 h hf (by omega) (by omega)).mono ?_
  clear h
  rintro e w' ⟨r, hr, rfl, rfl⟩
  by_cases hr0 : r < 0
  · go_wp2_with fail
    go_ret
    exact ⟨rfl, Below.refl _ _⟩
  have hr1 : decide (r < 0) = false := by simpa using hr0
  have hbd : xs.length ≤ 1048576 ∧ totalS xs ≤ 1048576 := by rcases hr with h | h <;> omega
  have hn : xs.length ≤ 1048576 := hbd.1
  have HS : Hid (Short xs) := Lib.hid (fun x hx => by have := totalS_mem hx; omega)
  clear hr hbd hf hr0
  have HSP : Hid (∀ w v, Strs w v xs → Calls Try.prog 27 #[v] w (Reads (.bool (rvs xs)) w)) := Lib.hid (fun w v h => sRightsValid_any w v xs h HS.out)
  have HIM : Hid (∀ w v, Strs w v xs → Calls Try.prog 32 #[v] w (BRes (rvs xs) w)) := Lib.hid (fun w v h => HI.out w v xs h HS.out)
  obtain ⟨b, hb⟩ : ∃ b, b = rvs xs := ⟨_, rfl⟩
  rw [← hb] at HSP HIM
  clear hb HI
  have hbb := neB b
  go_wp2_with fail
  refine (toStringS_any W v0 xs H0.out hn).mono ?_
  rintro e w1 ⟨u1, rfl, ho1, hb1, -⟩
  have B1 := Lib.hid hb1
  have R1 := Lib.hid ho1.strs
  clear hb1 ho1
  go_wp2_with fail
  refine (HSP.out w1 u1 R1.out).mono ?_
  rintro e w2 ⟨rfl, n2, hw2⟩
  have C2 : Chg 0 0 w1 w2 := by rw [hw2]; exact Chg.of_drewN w1 n2
  have B2 := Lib.hid (Below.chg B1.out C2 B1.out.size (.inr rfl))
  clear C2 hw2 R1 B1
  go_wp2_with fail
  refine (toStringS_any w2 v0 xs (H0.out.below B2.out) hn).mono ?_
  rintro e w3 ⟨u3, rfl, ho3, hb3, -⟩
  have B3 := Lib.hid (B2.out.trans (hb3.mono B2.out.size))
  have R3 := Lib.hid ho3.strs
  clear hb3 ho3 B2
  go_wp2_with fail
  refine (HIM.out w3 u3 R3.out).mono ?_
  rintro e w4 ⟨rfl, hb4⟩
  have B4 := Lib.hid (B3.out.trans (hb4.mono B3.out.size))
  have R4 := Lib.hid (R3.out.below hb4)
  clear hb4 R3 B3
  go_wp2_with fail
  refine (toStringS_any w4 v0 xs (H0.out.below B4.out) hn).mono ?_
  rintro e w5 ⟨u5, rfl, ho5, hb5, -⟩
  have B5 := Lib.hid (B4.out.trans (hb5.mono B4.out.size))
  have R5 := Lib.hid ho5.strs
  have R45 := Lib.hid (R4.out.below hb5)
  clear hb5 ho5 R4 B4
  go_wp2_with fail
  refine (eqS_same w5 u3 u5 xs R45.out R5.out).mono ?_
  rintro e w6 ⟨rfl, C6⟩
  have B6 := Lib.hid (Below.chg B5.out C6 B5.out.size (.inr rfl))
  clear C6 B5 R5 R45
  go_wp2_with fail
  go_ret
  exact ⟨rfl, B6.out⟩
set_option maxHeartbeats 400000 in
theorem exRightsMay_walk (hI : IRMay) (W : World) (v0 : Value) (xs : List Bs) (s : Bs) (h : Strs W v0 xs) (hf : Fit xs) (hs : s.length ≤ maxLen) :
    Calls Try.prog 15 #[v0, .string ⟨s.toArray⟩] W fun e w' => e = .returned (.bool true) ∧ Below W.heap.size W w' := by
  have HI := Lib.hid hI
  have H0 := Lib.hid h
  clear hI
  unfold maxLen at hs
  have hsl : (s.length : Int) ≤ 9223372036854775807 := by omega
  by_cases hlong : 1048576 < s.length
  · have hl1 : (1048576 : Int) < (s.length : Int) := by omega
    go_enter Try.func15, Try.ntmps15
    go_wp2_with fail
    go_ret
    exact ⟨rfl, Below.refl _ _⟩
  have hl1 : ¬ (1048576 : Int) < (s.length : Int) := by omega
  have hsn : s.length ≤ 2000000 := by omega
  go_enter Try.func15, Try.ntmps15
  go_wp2_with fail
  refine (szStringS_any W v0 xs 1048576 h hf (by omega) (by omega)).mono ?_
  clear h
  rintro e w' ⟨r, hr, rfl, rfl⟩
  by_cases hr0 : r < 0
  · go_wp2_with fail
    go_ret
    exact ⟨rfl, Below.refl _ _⟩
  have hr1 : decide (r < 0) = false := by simpa using hr0
  have hbd : xs.length ≤ 1048576 ∧ totalS xs ≤ 1048576 := by rcases hr with h | h <;> omega
  have hn : xs.length ≤ 1048576 := hbd.1
  have HS : Hid (Short xs) := Lib.hid (fun x hx => by have := totalS_mem hx; omega)
  clear hr hbd hf hr0
  have HSP : Hid (∀ w v, Strs w v xs → Calls Try.prog 26 #[v, .string ⟨s.toArray⟩] w (Reads (.bool (rmay xs s)) w)) := Lib.hid (fun w v h => sRightsMay_any w v xs s h HS.out hsn)
  have HIM : Hid (∀ w v, Strs w v xs → Calls Try.prog 25 #[v, .string ⟨s.toArray⟩] w (BRes (rmay xs s) w)) := Lib.hid (fun w v h => HI.out w v xs s h HS.out hsn)
  obtain ⟨b, hb⟩ : ∃ b, b = rmay xs s := ⟨_, rfl⟩
  rw [← hb] at HSP HIM
  clear hb HI
  have hbb := neB b
  go_wp2_with fail
  refine (toStringS_any W v0 xs H0.out hn).mono ?_
  rintro e w1 ⟨u1, rfl, ho1, hb1, -⟩
  have B1 := Lib.hid hb1
  have R1 := Lib.hid ho1.strs
  clear hb1 ho1
  go_wp2_with fail
  refine (HSP.out w1 u1 R1.out).mono ?_
  rintro e w2 ⟨rfl, n2, hw2⟩
  have C2 : Chg 0 0 w1 w2 := by rw [hw2]; exact Chg.of_drewN w1 n2
  have B2 := Lib.hid (Below.chg B1.out C2 B1.out.size (.inr rfl))
  clear C2 hw2 R1 B1
  go_wp2_with fail
  refine (toStringS_any w2 v0 xs (H0.out.below B2.out) hn).mono ?_
  rintro e w3 ⟨u3, rfl, ho3, hb3, -⟩
  have B3 := Lib.hid (B2.out.trans (hb3.mono B2.out.size))
  have R3 := Lib.hid ho3.strs
  clear hb3 ho3 B2
  go_wp2_with fail
  refine (HIM.out w3 u3 R3.out).mono ?_
  rintro e w4 ⟨rfl, hb4⟩
  have B4 := Lib.hid (B3.out.trans (hb4.mono B3.out.size))
  have R4 := Lib.hid (R3.out.below hb4)
  clear hb4 R3 B3
  go_wp2_with fail
  refine (toStringS_any w4 v0 xs (H0.out.below B4.out) hn).mono ?_
  rintro e w5 ⟨u5, rfl, ho5, hb5, -⟩
  have B5 := Lib.hid (B4.out.trans (hb5.mono B4.out.size))
  have R5 := Lib.hid ho5.strs
  have R45 := Lib.hid (R4.out.below hb5)
  clear hb5 ho5 R4 B4
  go_wp2_with fail
  refine (eqS_same w5 u3 u5 xs R45.out R5.out).mono ?_
  rintro e w6 ⟨rfl, C6⟩
  have B6 := Lib.hid (Below.chg B5.out C6 B5.out.size (.inr rfl))
  clear C6 B5 R5 R45
  go_wp2_with fail
  go_ret
  exact ⟨rfl, B6.out⟩
end Go.Proofs.Ytjakelpdnmnofaa
