/- The contracts of the program's walks and of the reference's, as the statements ask for them. -/
import Derived.Test.YtdockkmodjbfpaaImplX
import Derived.Test.YtdockkmodjbfpaaImplF
import Derived.Test.YtdockkmodjbfpaaExWalk
import Derived.Test.YtdockkmodjbfpaaExWalkTables
import Derived.Test.YtdockkmodjbfpaaExWalkFrames
namespace Go.Proofs.Ytdockkmodjbfpaa
open Go.ChangeShapes Go.WideShapes Go.ChangeAt Go.RowKit
set_option linter.unusedVariables false

theorem ivalid_any (w : World) (v : Value) (xss : List (List Int)) (h : Rows2 w v xss) :
    Calls Try.prog 17 #[v] w fun e w' => e = .returned (.bool (memOk xss)) ∧ Below w.heap.size w w' := by
  have hc := memoryOf_any h
  obtain ⟨b, hb⟩ : ∃ b, b = memOk xss := ⟨_, rfl⟩
  have hs : (bif memOk xss then (flatL xss).toArray else zero48).size = 48 := by
    cases hm : memOk xss
    · exact zero_size
    · simp [flat_len hm]
  have ho : (bif memOk xss then (flatL xss).toArray else zero48).all (·.oneCell') = true := by
    cases hm : memOk xss
    · exact zero_one
    · exact flat_one xss
  obtain ⟨cs, hcs⟩ : ∃ cs, cs = (bif memOk xss then (flatL xss).toArray else zero48) := ⟨_, rfl⟩
  rw [← hcs] at hc hs ho
  rw [← hb] at hc ⊢
  clear hcs hb h
  have HC := Lib.hid hc
  have HS := Lib.hid hs
  have HO := Lib.hid ho
  clear hc hs ho
  obtain ⟨z48, hz48⟩ : ∃ z, z = zero48 := ⟨_, rfl⟩
  have ZM := Lib.hid zero_mem
  have ZS := Lib.hid zero_size
  have ZO := Lib.hid zero_one
  rw [← hz48] at ZM ZS ZO
  clear hz48
  go_enter Try.func17, Try.ntmps17
  go_wp2_with fail
  refine HC.out.mono ?_
  rintro e w1 ⟨rfl, hb1⟩
  have HB : Hid (∀ t c, Below w.heap.size w ((w1.alloc (.cells z48 t)).setCells w1.heap.size 0 c)) := Lib.hid (fun t c => Below.setCells (Below.refl _ _) _ hb1.size _ _ _ (hb1.alloc hb1.size _))
  go_wp2_with (first | ((with_reducible refine alloc_is 60 ?_); refine alloc_arr 60 z48 ZM.out ?_) | ((with_reducible refine store_is 60 (.tmp 3) (.tmp 8) ?_); refine store_arr 60 (.tmp 3) (.tmp 8) w1.heap.size 0 cs rfl rfl (there_row (heap_alloc_new w1 _) (by rw [ZS.out, HS.out]; omega)) (info_mem HS.out) HO.out ?_))
  go_ret
  exact ⟨rfl, HB.out _ _⟩
theorem exWalk_all (W : World) (v : Value) (xss : List (List Int)) (r a : Int) (h : Rows2 W v xss) :
    Calls Try.prog 9 #[v, .int .i64 r, .int .i64 a] W fun e w' => e = .returned (.bool true) ∧ Below W.heap.size W w' :=
  exWalk_walk W v xss r a (walkF xss r a).f (walkF xss r a).t (walkF xss r a).c (walkF xss r a).b h (fun w v h => swalk_any w v xss r a h) (fun w v h => iwalk_any w v xss r a h)
theorem tab_len (xss : List (List Int)) (r : Int) : (tabF xss r).length ≤ 1000 := by
  unfold tabF
  split
  · exact Nat.le_trans (srt_len _ _) (by omega)
  · simp
theorem frm_len (xss : List (List Int)) (r : Int) : (frmF xss r).length ≤ 1000 := by
  unfold frmF
  split
  · exact Nat.le_trans (srt_len _ _) (by omega)
  · simp
theorem exWalkTables_all (W : World) (v : Value) (xss : List (List Int)) (r : Int) (h : Rows2 W v xss) :
    Calls Try.prog 10 #[v, .int .i64 r] W fun e w' => e = .returned (.bool true) ∧ Below W.heap.size W w' :=
  exWalkTables_walk W v xss (tabF xss r) r h (tab_len xss r) (fun w v h => (stabs_any w v xss r h).mono fun _ _ h => NewR.of_new h) (fun w v h => itabs_any w v xss r h)
theorem exWalkFrames_all (W : World) (v : Value) (xss : List (List Int)) (r : Int) (h : Rows2 W v xss) :
    Calls Try.prog 11 #[v, .int .i64 r] W fun e w' => e = .returned (.bool true) ∧ Below W.heap.size W w' :=
  exWalkFrames_walk W v xss (frmF xss r) r h (frm_len xss r) (fun w v h => (sfrms_any w v xss r h).mono fun _ _ h => NewR.of_new h) (fun w v h => ifrms_any w v xss r h)
end Go.Proofs.Ytdockkmodjbfpaa
