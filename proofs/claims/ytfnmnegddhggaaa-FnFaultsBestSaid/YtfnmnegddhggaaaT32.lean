/- What the proofs stand on, part 32. -/
import Derived.Test.YtfnmnegddhggaaaRows
import Derived.Test.YtfnmnegddhggaaaT1
import Derived.Test.YtfnmnegddhggaaaT2
import Derived.Test.YtfnmnegddhggaaaT3
import Derived.Test.YtfnmnegddhggaaaT4
import Derived.Test.YtfnmnegddhggaaaT5
import Derived.Test.YtfnmnegddhggaaaT6
import Derived.Test.YtfnmnegddhggaaaT7
import Derived.Test.YtfnmnegddhggaaaT8
import Derived.Test.YtfnmnegddhggaaaT9
import Derived.Test.YtfnmnegddhggaaaT10
import Derived.Test.YtfnmnegddhggaaaT11
import Derived.Test.YtfnmnegddhggaaaT12
import Derived.Test.YtfnmnegddhggaaaT13
import Derived.Test.YtfnmnegddhggaaaT15
import Derived.Test.YtfnmnegddhggaaaT16
import Derived.Test.YtfnmnegddhggaaaT17
import Derived.Test.YtfnmnegddhggaaaT18
import Derived.Test.YtfnmnegddhggaaaT20
import Derived.Test.YtfnmnegddhggaaaT26
import Derived.Test.YtfnmnegddhggaaaT28
set_option linter.unusedSimpArgs false
set_option linter.unusedVariables false
namespace Go.Proofs.Ytfnmnegddhggaaa
set_option linter.unusedVariables false
set_option linter.unusedSimpArgs false
theorem stepF_sub (f : Nat) (K : List Int) (x : Int) : ∀ y ∈ stepF f K x, y = x ∨ y ∈ K := fun y hy => by
  unfold stepF at hy
  split at hy
  · exact .inr hy
  · split at hy
    · rcases List.mem_append.1 (List.mem_of_mem_drop hy) with h | h
      · exact .inr h
      · exact .inl (by simpa using h)
    · rcases List.mem_append.1 hy with h | h
      · exact .inr h
      · exact .inl (by simpa using h)
theorem costF_run {f : Nat} (hf : 0 < f) : ∀ (l K : List Int), K.length ≤ f → FRun f K l (costF f K l)
  | [], _, _ => trivial
  | x :: r, K, hK => ⟨stepF f K x, _, stepF_len hK x, stepF_in hf K x, stepF_sub f K x, costF_run hf r _ (stepF_len hK x), Nat.le_refl _⟩
theorem costB_F {ev : List Int → List Int → Nat} (hev : FLate ev) {f : Nat} (hf : 0 < f) (l : List Int) : costB ev f [] l ≤ costF f [] l := costB_le hev hf l [] _ List.nodup_nil (Nat.zero_le _) (costF_run hf l [] (Nat.zero_le _))
end Go.Proofs.Ytfnmnegddhggaaa
namespace Go.Proofs.Ytfnmnegddhggaaa
open Go.ChangeShapes Go.WideShapes Go.ChangeAt Go.RowKit
set_option linter.unusedVariables false
set_option linter.unusedSimpArgs false
theorem drawFaultsBest_any (W : World) (a : Option Addr) (len cap : Nat) (zs : List Int) (hr : Row .u8 W a len cap zs) :
    Calls Try.prog 28 #[.slice a len cap] W (DT1 W) := by
  go_enter Try.func28, Try.ntmps28
  go_wp2_with fail
  refine (drawFaultsFirst_any W a len cap zs hr).mono ?_
  clear hr
  rintro e w1 ⟨v, ys, f, rfl, hf, hd⟩
  have HD := Lib.hid hd
  have HF := Lib.hid hf
  clear hd hf
  go_wp2_with fail
  go_ret2
  exact ⟨v, ys, f, rfl, HF.out, HD.out⟩
end Go.Proofs.Ytfnmnegddhggaaa
