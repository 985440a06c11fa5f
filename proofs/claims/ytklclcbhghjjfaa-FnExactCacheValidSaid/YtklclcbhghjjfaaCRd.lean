/- The conditions under which CachePut and CacheDrop leave a translation out. -/
import Derived.Test.YtklclcbhghjjfaaCRw
namespace Go.Proofs.Ytklclcbhghjjfaa
open Go.ChangeShapes Go.WideShapes Go.ChangeAt Go.RowKit
set_option linter.unusedVariables false
set_option linter.unusedSimpArgs false

set_option maxRecDepth 100000 in
theorem putG_any (w : World) (b : Nat) (x y : CV) (hf : Four w b 0 x) : Calls Try.prog 40 #[cvV y, .pointer (some ⟨b, 0, none⟩)] w (BoolRes w (same y x.e x.p)) := by
  have hbl := block_lt_of_cell hf.c0
  obtain ⟨q0, q1, q2, q3⟩ := hf
  rw [Nat.zero_add] at q1 q2 q3
  have HI := Lib.hid (fun w => isOf_any w y x.e x.p)
  obtain ⟨ye, yp, yf, yb⟩ := y
  have HB := Lib.hid ((Below.refl w.heap.size w).alloc (Nat.le_refl _) (.cells #[.int .i64 ye, .int .i64 yp, .int .i64 yf, .bool yb] 25))
  go_enter Try.func40, Try.ntmps40
  go_wp2_with fail
  refine (HI.out _).mono ?_
  rintro en w1 ⟨rfl, hb1⟩
  go_wp2
  go_ret
  exact ⟨rfl, HB.out.trans (hb1.mono HB.out.size)⟩
set_option maxRecDepth 100000 in
theorem dropG_any (w : World) (b : Nat) (e : Int) (y : CV) (hf : w.cell? ⟨b, 0, none⟩ = some (.int .i64 e)) : Calls Try.prog 48 #[cvV y, .pointer (some ⟨b, 0, none⟩)] w (BoolRes w (decide (y.e = e))) := by
  have hbl := block_lt_of_cell hf
  obtain ⟨ye, yp, yf, yb⟩ := y
  dsimp only
  have HB := Lib.hid ((Below.refl w.heap.size w).alloc (Nat.le_refl _) (.cells #[.int .i64 ye, .int .i64 yp, .int .i64 yf, .bool yb] 25))
  obtain ⟨r, hr⟩ : ∃ r, r = decide (ye = e) := ⟨_, rfl⟩
  rw [← hr]
  have he : (ye == e) = r := by rw [hr]; by_cases h : ye = e <;> simp [h]
  clear hr
  go_enter Try.func48, Try.ntmps48
  go_wp2
  go_ret
  exact ⟨rfl, HB.out⟩
end Go.Proofs.Ytklclcbhghjjfaa
