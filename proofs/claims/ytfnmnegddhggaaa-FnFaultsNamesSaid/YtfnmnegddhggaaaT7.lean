/- What the proofs stand on, part 7. -/
import Derived.Test.YtfnmnegddhggaaaRows
import Derived.Test.YtfnmnegddhggaaaT1
import Derived.Test.YtfnmnegddhggaaaT2
import Derived.Test.YtfnmnegddhggaaaT3
import Derived.Test.YtfnmnegddhggaaaT4
set_option linter.unusedSimpArgs false
set_option linter.unusedVariables false
namespace Go.Proofs.Ytfnmnegddhggaaa
open Go.ChangeShapes Go.WideShapes Go.ChangeAt Go.RowKit
set_option linter.unusedVariables false
theorem l33Ok_any (w : World) (v : Value) (xs : List Int) (f : Int) (h : Ints w v xs) :
    Calls Try.prog 49 #[v, .int .i64 f] w fun e w' => e = .returned (.bool (ftOk xs f)) ∧ w = w' := by
  have HV := Lib.hid (sTraceValid_any w v xs h)
  have HI := Lib.hid (l6In_any w f 1 12)
  obtain ⟨c, hc⟩ : ∃ c, c = trOk xs := ⟨_, rfl⟩
  obtain ⟨d, hd⟩ : ∃ d, d = inR f 1 12 := ⟨_, rfl⟩
  rw [← hc] at HV
  rw [← hd] at HI
  have HR : Hid (ftOk xs f = (c && d)) := Lib.hid (by rw [ftOk, ← hc, ← hd])
  obtain ⟨r, hr⟩ : ∃ r, r = ftOk xs f := ⟨_, rfl⟩
  rw [← hr] at HR ⊢
  clear hc hd hr
  go_enter Try.func49, Try.ntmps49
  go_wp2_with fail
  refine HV.out.mono ?_
  rintro e w' ⟨rfl, rfl⟩
  cases c with
  | false =>
    go_wp2_with fail
    go_ret
    exact ⟨by rw [HR.out]; rfl, by first | trivial | rfl⟩
  | true =>
    go_wp2_with fail
    refine HI.out.mono ?_
    rintro e w' ⟨rfl, rfl⟩
    go_wp2_with fail
    go_ret
    exact ⟨by rw [HR.out]; rfl, by first | trivial | rfl⟩
end Go.Proofs.Ytfnmnegddhggaaa
