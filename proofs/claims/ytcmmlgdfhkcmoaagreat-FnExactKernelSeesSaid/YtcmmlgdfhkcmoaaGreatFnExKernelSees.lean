/- The exact statement of KernelSees holds for every kernel and two numbers. -/
import Derived.Test.YtcmmlgdfhkcmoaaGreatRows
import Derived.Test.YtcmmlgdfhkcmoaaGreatKe1
import Derived.Test.YtcmmlgdfhkcmoaaGreatKe2
import Derived.Test.YtcmmlgdfhkcmoaaGreatKe3
import Derived.Test.YtcmmlgdfhkcmoaaGreatKe4
import Derived.Test.YtcmmlgdfhkcmoaaGreatKe5
import Derived.Test.YtcmmlgdfhkcmoaaGreatKe6
import Derived.Test.YtcmmlgdfhkcmoaaGreatKe7
import Derived.Test.YtcmmlgdfhkcmoaaGreatKe8
import Derived.Test.YtcmmlgdfhkcmoaaGreatKe9
import Derived.Test.YtcmmlgdfhkcmoaaGreatKe10
import Derived.Test.YtcmmlgdfhkcmoaaGreatKe12
import Derived.WalkKit
import Derived.ProofKit
import Derived.OpenShut
import Derived.ShutString
import Derived.ChangeOld
import Derived.Below
import Derived.Deep.Matrix
namespace Go.Proofs.YtcmmlgdfhkcmoaaGreat.fnExactKernelSees
open Go.ChangeShapes Go.WideShapes Go.ChangeAt Go.RowKit
set_option linter.unusedVariables false

theorem own : ownKnob Tryz.prog.godebug = none := by kernel_rfl
theorem laidOut : laidOutB Tryz.prog = true := by kernel_rfl

set_option maxRecDepth 100000 in
theorem lifted (os : Os) (started : os.Started) (H : Type) (enc : TypeId × Value → H) :
    ReturnsInHanded {} Tryz.checked os 14 .any (Rows.fnExactKernelSeesSpec.pre6 enc Tryz.prog Tryz.f14 Rows.fnExactKernelSeesRow.domain false) (Rows.fnExactKernelSeesSpec.post enc Tryz.prog Tryz.f14 false true false false) := by
  refine returnsInHanded_of_change (C := Tryz.checked) own started (by kernel_rfl) Tryz.func14
    (ChangeSpec.witness6 (enc := enc) (C := Tryz.checked) false ⟨#[], #[.agg #[.slice none 0 0, .slice none 0 0, .slice none 0 0, .slice none 0 0], .int .i64 0, .int .i64 0], []⟩ 8 (by kernel_rfl) (by kernel_rfl) (by kernel_rfl) (by kernel_rfl)) ?_
  intro W base args ds gs before hval0 hW hcnd _
  have hval : ∀ (j : Nat) t v, Tryz.f14.params[j]? = some t → args[j]? = some v → Value.okWide Tryz.prog W .any base t v := hval0
  have hW' := hW
  obtain ⟨p, q, hA0, hV, rfl, hfz, hnd⟩ := hW
  have hA : DataW.TrodAll enc Tryz.prog W 0 (fun _ => true) true Tryz.f14.params.toList args.toList ds p := hA0
  rw [Tryz.params14] at hA hval
  obtain ⟨v0, vs0, d0, ds0, p0, q0, hargs, rfl, rfl, h0, r0⟩ := trodAll_cons hA
  obtain ⟨v1, vs1, d1, ds1, p1, q1, rfl, rfl, rfl, h1, r1⟩ := trodAll_cons r0
  obtain ⟨v2, vs2, d2, ds2, p2, q2, rfl, rfl, rfl, h2, r2⟩ := trodAll_cons r1
  obtain ⟨rfl, rfl, rfl⟩ := trodAll_nil r2
  obtain rfl : args = #[v0, v1, v2] := by cases args; simp_all
  obtain ⟨rfl, rfl⟩ := trodVars_none hV
  obtain ⟨a1, rfl, rfl, rfl, w1⟩ := open_int Tryz.underlying3 (hval 1 3 v1 rfl rfl) h1
  obtain ⟨a2, rfl, rfl, rfl, w2⟩ := open_int Tryz.underlying3 (hval 2 3 v2 rfl rfl) h2
  have k0 := h0
  have lt0 : ∀ x ∈ p0, x.block < W.heap.size := by obtain ⟨m, hm⟩ := k0; exact DataW.trod_lt m _ _ _ hm
  obtain ⟨a0m, a0i, a0e, a0c, z0, rfl, w0, f0, g0⟩ := kV_of_trod (hval 0 72 v0 rfl rfl) h0
  clear hA0 hval0
  refine (exKernelSees_walk iksees_any W a0m a0i a0e a0c z0 a1 a2 w0 f0 g0).mono fun e W' ⟨he, bel⟩ => ?_
  subst he
  exact ⟨_, rfl, _, _, _, [], _, [], hW', trodAll_mk1 (shut_bool Tryz.underlying4 _), (trodAll_cons_mk (Below.trod laidOut (by kernel_rfl) (of_decide_eq_true (by kernel_rfl)) k0 bel lt0) (trodAll_cons_mk (shut_int Tryz.underlying3 w1) (trodAll_cons_mk (shut_int Tryz.underlying3 w2) trodAll_mk0))), rfl, bel.frame _, fun h => by cases h⟩

set_option maxRecDepth 1000000 in
set_option maxHeartbeats 0 in
theorem proved : Rows.FnExactKernelSeesSaid := by
  have h : Tryz.pinned.checked.prog.initOrder.toList = _ := String.toList_ofList
  generalize hc : Tryz.pinned.checked.prog.initOrder.toList = cs at h
  exact OpenClaim.holds_of_wide 14 Tryz.f14 rfl rfl rfl rfl rfl rfl rfl ⟨rfl, rfl, rfl, rfl, rfl⟩ rfl rfl rfl rfl rfl (by kernel_rfl) Tryz.func14
    (by
      unfold joinedFacts
      simp only [Bool.and_eq_true]
      and_intros
      all_goals first
        | (rw [Program.mayEnter, hc]; subst h; decide +kernel)
        | (rw [Program.liftsFinal, Program.headLifts, hc]; subst h; decide +kernel)
        | (rw [Program.make, hc]; subst h; decide +kernel)
        | kernel_rfl)
    (of_decide_eq_true (by kernel_rfl)) (by unfold Func.isWrapper; first | (rw [if_pos (by decide +kernel)]; kernel_rfl) | (rw [if_neg (by decide +kernel)]; exact ⟨rfl, rfl⟩))
    (fun os started H enc _ => lifted os started H enc)
end Go.Proofs.YtcmmlgdfhkcmoaaGreat.fnExactKernelSees
