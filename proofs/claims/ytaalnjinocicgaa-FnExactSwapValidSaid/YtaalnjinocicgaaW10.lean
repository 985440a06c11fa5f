/- What the proofs stand on, part 10. -/
import Derived.Test.YtaalnjinocicgaaRows
import Derived.Test.YtaalnjinocicgaaW1
set_option linter.unusedSimpArgs false
set_option linter.unusedVariables false
namespace Go.Proofs.Ytaalnjinocicgaa
open Go.ChangeShapes Go.WideShapes Go.ChangeAt Go.RowKit
set_option linter.unusedVariables false
set_option linter.unusedSimpArgs false
def BRes (b : Bool) (w : World) (e : Ending) (w' : World) : Prop := e = .returned (.bool b) ∧ Below w.heap.size w w'
end Go.Proofs.Ytaalnjinocicgaa
namespace Go.Proofs.Ytaalnjinocicgaa
set_option linter.unusedVariables false
set_option linter.unusedSimpArgs false
def ISV : Prop := ∀ w v xss, Rows2 w v xss → Calls Try.prog 19 #[v] w (BRes (swOk xss) w)
end Go.Proofs.Ytaalnjinocicgaa
namespace Go.Proofs.Ytaalnjinocicgaa
open Go.ChangeShapes Go.WideShapes Go.ChangeAt Go.RowKit
set_option linter.unusedVariables false
set_option linter.unusedSimpArgs false
set_option maxRecDepth 100000 in
set_option maxHeartbeats 2000000 in
theorem isv : ISV := fun w v xss h => by
  have HSO := Lib.hid (swapOf_any w v xss h)
  obtain ⟨Z, hZ⟩ : ∃ Z, Z = (cells Z0).toArray := ⟨_, rfl⟩
  have HAL : Hid (∀ w, (zeroValue 60).run Try.prog w = .ok (.agg Z) w) := Lib.hid (by rw [hZ]; exact Z0_zero)
  have HZS : Hid (Z.size = 97) := Lib.hid (by rw [hZ]; exact cells_size _)
  clear hZ
  obtain ⟨q, hq⟩ : ∃ q, q = swOk xss := ⟨_, rfl⟩
  rw [← hq] at HSO ⊢
  clear hq h
  go_enter Try.func19, Try.ntmps19
  go_wp2_with fail
  refine HSO.out.mono ?_
  rintro e w1 ⟨C, rfl, hone, hst, hb1⟩
  have HLV := Lib.hid (laid_var hb1 C Z HZS.out 60)
  have HONE := Lib.hid hone
  have HST := Lib.hid hst
  obtain ⟨L, hL⟩ : ∃ L, L = cells C := ⟨_, rfl⟩
  have HLE := Lib.hid hL
  have HLL : Hid (L.length = 97) := Lib.hid (by rw [hL]; exact cells_len _)
  have HLS : Hid (L.toArray.size = 97) := Lib.hid (by rw [hL]; exact cells_size _)
  have HLO : Hid (L.toArray.all (·.oneCell') = true) := Lib.hid (by rw [hL]; exact hone.all)
  rw [← hL] at HLV ⊢
  obtain ⟨w2, hw2⟩ : ∃ w2, (w1.alloc (.cells Z 60)).setCells w1.heap.size 0 L = w2 := ⟨_, rfl⟩
  obtain ⟨X, hX⟩ : ∃ X, w1.heap.size = X := ⟨_, rfl⟩
  have HW2 := Lib.hid hw2
  rw [hw2] at HLV
  have HXX := Lib.hid hX
  have HB1S := Lib.hid hb1.size
  clear hb1 hst hone hL hw2 hX
  go_wp2_with (first | ((with_reducible refine alloc_is 60 ?_); refine alloc_arr 60 Z HAL.out ?_; try simp only [Act.put, List.setIfInBounds_toArray, List.set_cons_zero, List.set_cons_succ]) | ((with_reducible refine store_is 60 (.tmp 3) (.tmp 8) ?_); refine store_arr 60 (.tmp 3) (.tmp 8) w1.heap.size 0 L.toArray rfl rfl (by rw [HLS.out]; exact HLV.out.2.2) (swap_info' HLL.out) HLO.out ?_; rw [show L.toArray.toList = L from rfl, HW2.out]) | fail)
  go_ret
  exact ⟨rfl, HLV.out.2.1⟩
end Go.Proofs.Ytaalnjinocicgaa
