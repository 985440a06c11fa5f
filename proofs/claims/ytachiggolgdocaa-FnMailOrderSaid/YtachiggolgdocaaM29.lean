/- What the proofs stand on, part 29. -/
import Derived.Test.YtachiggolgdocaaRows
import Derived.Test.YtachiggolgdocaaM1
import Derived.Test.YtachiggolgdocaaM2
import Derived.Test.YtachiggolgdocaaM3
import Derived.Test.YtachiggolgdocaaM4
import Derived.Test.YtachiggolgdocaaM5
import Derived.Test.YtachiggolgdocaaM6
import Derived.Test.YtachiggolgdocaaM7
import Derived.Test.YtachiggolgdocaaM8
import Derived.Test.YtachiggolgdocaaM9
import Derived.Test.YtachiggolgdocaaM10
import Derived.Test.YtachiggolgdocaaM11
import Derived.Test.YtachiggolgdocaaM12
import Derived.Test.YtachiggolgdocaaM13
import Derived.Test.YtachiggolgdocaaM14
import Derived.Test.YtachiggolgdocaaM15
import Derived.Test.YtachiggolgdocaaM16
import Derived.Test.YtachiggolgdocaaM17
import Derived.Test.YtachiggolgdocaaM18
import Derived.Test.YtachiggolgdocaaM19
import Derived.Test.YtachiggolgdocaaM20
import Derived.Test.YtachiggolgdocaaM25
import Derived.Test.YtachiggolgdocaaM26
set_option linter.unusedSimpArgs false
set_option linter.unusedVariables false
namespace Go.Proofs.Ytachiggolgdocaa
open Go.ChangeShapes Go.WideShapes Go.ChangeAt Go.RowKit
set_option linter.unusedVariables false
theorem mrest_ok {ys : List IV} {t : Int} (h : mgot ys t = true) : msok (mrest ys t) = true := by
  obtain ⟨h1, h2, h3, _⟩ := mgot_yes h
  rw [msok_iff] at h1 ⊢
  rw [h3]
  refine ⟨fun z hz => ?_, by rw [List.length_append, List.length_take, List.length_drop]; omega⟩
  rcases List.mem_append.1 hz with hz | hz
  · exact h1.1 z (List.mem_of_mem_take hz)
  · exact h1.1 z (List.mem_of_mem_drop hz)
end Go.Proofs.Ytachiggolgdocaa
