/- CachePut and CacheDrop of the reference. -/
import Derived.Test.YtklclcbhghjjfaaCPut
namespace Go.Proofs.Ytklclcbhghjjfaa
open Go.ChangeShapes Go.WideShapes Go.ChangeAt Go.RowKit
set_option linter.unusedVariables false

theorem cOk_len {xs : List CV} (h : cOk xs = true) : xs.length ≤ 4 := (of_decide_eq_true h).2
/-- what CacheDrop answers -/
def dropF (xs : List CV) (e : Int) : List CV := if cOk xs = true then drp xs e else []
set_option maxRecDepth 100000 in
theorem cDrop_any (w : World) (v : Value) (xs : List CV) (e : Int) (h : Cs w v xs) :
    Calls Try.prog 22 #[v, .int .i64 e] w (NewC (dropF xs e) w) := by
  have HV := Lib.hid (cValid_any w v xs h)
  have H := Lib.hid h
  clear h
  cases hok : cOk xs
  · rw [hok] at HV
    have HE : Hid (dropF xs e = []) := Lib.hid (by unfold dropF; rw [if_neg (by rw [hok]; simp)])
    rw [HE.out]
    clear hok
    go_enter Try.func22, Try.ntmps22
    go_wp2_with fail
    refine HV.out.mono ?_
    rintro e w1 ⟨rfl, hb1⟩
    have HB1 := Lib.hid hb1
    clear hb1
    go_wp2
    go_ret
    exact ⟨_, rfl, (OwnC.start w1).from HB1.out⟩
  · have hl := cOk_len hok
    rw [hok] at HV
    have HE : Hid (dropF xs e = drp xs e) := Lib.hid (by unfold dropF; rw [if_pos hok])
    rw [HE.out]
    clear hok
    go_enter Try.func22, Try.ntmps22
    go_wp2_with fail
    refine HV.out.mono ?_
    rintro e' w1 ⟨rfl, hb1⟩
    have HB1 := Lib.hid hb1
    have HD := Lib.hid (l4Drop_any w1 v xs e (H.out.below hb1) (by omega))
    clear hb1
    go_wp2_with fail
    refine HD.out.mono ?_
    rintro e' w2 ⟨v2, rfl, h2⟩
    have H2 := Lib.hid (h2.from HB1.out)
    clear h2
    go_wp2
    go_ret
    exact ⟨_, rfl, H2.out⟩
/-- what CachePut answers -/
def putB (xs : List CV) (x : CV) : Bool := cOk xs && cvOk x
def putF (xs : List CV) (x : CV) : List CV := bif putB xs x then put4 xs x else []
def PutRes (ys : List CV) (b : Bool) (w : World) (e : Ending) (w' : World) : Prop := ∃ v, e = .returned (.tuple #[v, .bool b]) ∧ OwnC w v ys w'
set_option maxRecDepth 100000 in
theorem cPut_any (w : World) (v : Value) (xs : List CV) (x : CV) (h : Cs w v xs) :
    Calls Try.prog 16 #[v, cvV x] w (PutRes (putF xs x) (putB xs x) w) := by
  obtain ⟨xe, xp, xf, xb⟩ := x
  obtain ⟨x, hx⟩ : ∃ x : CV, x = ⟨xe, xp, xf, xb⟩ := ⟨_, rfl⟩
  have H := Lib.hid h
  have HX := Lib.hid hx
  obtain ⟨w0, hw0⟩ : ∃ w0, w0 = w.alloc (.cells #[.int .i64 xe, .int .i64 xp, .int .i64 xf, .bool xb] 25) := ⟨_, rfl⟩
  have hB0 : Below w.heap.size w w0 := by rw [hw0]; exact (Below.refl _ _).alloc (Nat.le_refl _) _
  have hlt : w.heap.size < w0.heap.size := by rw [hw0]; simp
  have hF : ∀ W, Below w0.heap.size w0 W → Four W w.heap.size 0 ⟨xe, xp, xf, xb⟩ := fun W hb => by
    have e := fun j => cell_of_row w0 w.heap.size j _ _ (0, 0) (by rw [hw0]; exact heap_alloc_new w _)
    have h1 : Four w0 w.heap.size 0 ⟨xe, xp, xf, xb⟩ := ⟨(e 0).trans rfl, (e 1).trans rfl, (e 2).trans rfl, (e 3).trans rfl⟩
    exact h1.below hb hlt
  have HW0 := Lib.hid hw0
  have HB0 := Lib.hid hB0
  have HF := Lib.hid hF
  have HV := Lib.hid (cValid_any w0 v xs (h.below hB0))
  rw [← hx]
  obtain ⟨R, hR⟩ : ∃ R, R = PutRes (putF xs x) (putB xs x) w := ⟨_, rfl⟩
  have HR := Lib.hid hR
  rw [← hR, hx]
  clear hB0 hF hlt hR hw0 hx h
  cases hok : cOk xs
  · rw [hok] at HV
    have HRN : Hid (R = PutRes [] false w) := Lib.hid (by rw [HR.out]; unfold putF putB; rw [hok]; rfl)
    clear hok
    go_enter Try.func16, Try.ntmps16
    go_wp2_with fail
    rw [← HW0.out]
    refine HV.out.mono ?_
    rintro e w1 ⟨rfl, hb1⟩
    have HB1 := Lib.hid (HB0.out.trans (hb1.mono HB0.out.size))
    clear hb1
    go_wp2
    rw [HRN.out]
    exact ⟨_, rfl, (OwnC.start w1).from HB1.out⟩
  · have hl := cOk_len hok
    rw [hok] at HV
    cases hcv : cvOk x
    · have HRN : Hid (R = PutRes [] false w) := Lib.hid (by rw [HR.out]; unfold putF putB; rw [hok, hcv]; rfl)
      rw [HX.out] at hcv
      clear hok
      have HC := Lib.hid (fun W => l4Cached_any W ⟨xe, xp, xf, xb⟩)
      rw [hcv] at HC
      clear hcv
      go_enter Try.func16, Try.ntmps16
      go_wp2_with fail
      rw [← HW0.out]
      refine HV.out.mono ?_
      rintro e w1 ⟨rfl, hb1⟩
      obtain ⟨q0, q1, q2, q3⟩ := HF.out w1 hb1
      simp only [Nat.zero_add] at q1 q2 q3
      have HB1 := Lib.hid (HB0.out.trans (hb1.mono HB0.out.size))
      clear hb1
      go_wp2_with fail
      refine (HC.out _).mono ?_
      rintro e w2 ⟨rfl, hb2⟩
      have HB2 := Lib.hid (HB1.out.trans (hb2.mono HB1.out.size))
      clear hb2
      go_wp2
      rw [HRN.out]
      exact ⟨_, rfl, (OwnC.start w2).from HB2.out⟩
    · have HRN : Hid (R = PutRes (put4 xs x) true w) := Lib.hid (by rw [HR.out]; unfold putF putB; rw [hok, hcv]; rfl)
      rw [HX.out] at hcv
      clear hok
      have HC := Lib.hid (fun W => l4Cached_any W ⟨xe, xp, xf, xb⟩)
      rw [hcv] at HC
      clear hcv
      go_enter Try.func16, Try.ntmps16
      go_wp2_with fail
      rw [← HW0.out]
      refine HV.out.mono ?_
      rintro e w1 ⟨rfl, hb1⟩
      obtain ⟨q0, q1, q2, q3⟩ := HF.out w1 hb1
      simp only [Nat.zero_add] at q1 q2 q3
      have HB01 := Lib.hid hb1
      have HB1 := Lib.hid (HB0.out.trans (hb1.mono HB0.out.size))
      clear hb1
      go_wp2_with fail
      refine (HC.out _).mono ?_
      rintro e w2 ⟨rfl, hb2⟩
      obtain ⟨r0, r1, r2, r3⟩ := HF.out w2 (HB01.out.trans (hb2.mono HB01.out.size))
      simp only [Nat.zero_add] at r1 r2 r3
      have HB2 := Lib.hid (HB1.out.trans (hb2.mono HB1.out.size))
      have HP := Lib.hid (l4Put_any w2 v xs ⟨xe, xp, xf, xb⟩ (H.out.below HB2.out) (by omega))
      clear hb2
      go_wp2_with fail
      refine HP.out.mono ?_
      rintro e w3 ⟨v3, rfl, h3⟩
      have H3 := Lib.hid (h3.from HB2.out)
      clear h3
      go_wp2
      rw [HRN.out, HX.out]
      exact ⟨_, rfl, H3.out⟩
end Go.Proofs.Ytklclcbhghjjfaa
