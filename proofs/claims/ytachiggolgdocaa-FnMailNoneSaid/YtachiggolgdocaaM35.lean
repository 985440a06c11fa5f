/- What the proofs stand on, part 35. -/
import Derived.Test.YtachiggolgdocaaRows
import Derived.Test.YtachiggolgdocaaM1
import Derived.Test.YtachiggolgdocaaM2
import Derived.Test.YtachiggolgdocaaM3
import Derived.Test.YtachiggolgdocaaM4
import Derived.Test.YtachiggolgdocaaM5
import Derived.Test.YtachiggolgdocaaM6
import Derived.Test.YtachiggolgdocaaM7
import Derived.Test.YtachiggolgdocaaM8
import Derived.Test.YtachiggolgdocaaM9
import Derived.Test.YtachiggolgdocaaM10
import Derived.Test.YtachiggolgdocaaM11
import Derived.Test.YtachiggolgdocaaM12
import Derived.Test.YtachiggolgdocaaM13
import Derived.Test.YtachiggolgdocaaM14
import Derived.Test.YtachiggolgdocaaM15
import Derived.Test.YtachiggolgdocaaM16
import Derived.Test.YtachiggolgdocaaM17
import Derived.Test.YtachiggolgdocaaM18
import Derived.Test.YtachiggolgdocaaM19
import Derived.Test.YtachiggolgdocaaM20
import Derived.Test.YtachiggolgdocaaM23
import Derived.Test.YtachiggolgdocaaM25
import Derived.Test.YtachiggolgdocaaM26
import Derived.Test.YtachiggolgdocaaM29
set_option linter.unusedSimpArgs false
set_option linter.unusedVariables false
namespace Go.Proofs.Ytachiggolgdocaa
open Go.ChangeShapes Go.WideShapes Go.ChangeAt Go.RowKit
set_option linter.unusedVariables false
theorem mws0_none {zs : List IV} {f t : Int} (h : ∀ z ∈ zs, z.g ≠ t) : mws0 zs f t = [] := by
  unfold mws0
  rw [List.map_eq_nil_iff, List.filter_eq_nil_iff]
  intro z hz hh
  unfold msel at hh
  rw [Bool.and_eq_true, decide_eq_true_eq, decide_eq_true_eq] at hh
  exact h z hz hh.2
theorem take_none_to {ys : List IV} {t : Int} : ∀ z ∈ ys.take (mix ys t), z.g ≠ t := by
  intro z hz
  obtain ⟨i, hi, rfl⟩ := List.mem_iff_getElem.1 hz
  rw [List.length_take] at hi
  have := mix_before (xs := ys) (e := t) (i := i) (by omega)
  rwa [getD_lt (by have := mix_le ys t; omega), ← List.getElem_take (h := hz |> fun _ => by rw [List.length_take]; omega)] at this
theorem morder {ys : List IV} {t : Int} (h : mgot ys t = true) : mws ys (mtaken ys t).k t = (mtaken ys t).r :: mws (mrest ys t) (mtaken ys t).k t := by
  have hok := mrest_ok h
  obtain ⟨h1, h2, h3, h4⟩ := mgot_yes h
  have hg := mix_at h2
  have e : ∀ f, mws0 ys f t = (if msel f t (ys.getD (mix ys t) iz) = true then [(ys.getD (mix ys t) iz).r] else []) ++ mws0 (ys.drop (mix ys t + 1)) f t := fun f => by
    conv => lhs; rw [split_at h2]
    rw [mws0_app, mws0_app, mws0_none take_none_to, List.nil_append, mws0_one]
  rw [mws, mws, if_pos h1, if_pos hok, h3, h4, e, mws0_app, mws0_none take_none_to, List.nil_append, if_pos (by unfold msel; rw [hg]; simp)]
  rfl
end Go.Proofs.Ytachiggolgdocaa
