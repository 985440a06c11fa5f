/- What the draw of a page and a place gives: two numbers of a range, whatever the code; nothing that was there before the call changes. -/
import Derived.Test.YtdacffhagnhcfaaDraws
namespace Go.Proofs.Ytdacffhagnhcfaa
open Go.ChangeShapes Go.WideShapes Go.ChangeAt Go.RowKit
set_option linter.unusedVariables false

def ofP (f g : Int) : Prop := -1 ≤ f ∧ f ≤ 16 ∧ -1 ≤ g ∧ g ≤ 4
def inA (v : Int) : Prop := -1 ≤ v ∧ v ≤ 16
def inB (v : Int) : Prop := -1 ≤ v ∧ v ≤ 4
theorem only_cells {B : Nat} {w w' : World} (h : Only B w w') : ∀ b o, B < b → w'.cell? ⟨b, o, none⟩ = w.cell? ⟨b, o, none⟩ := fun b o hb => h.cell (by omega)
theorem only_size {B : Nat} {w w' : World} (h : Only B w w') : w'.heap.size = w.heap.size := h.2.2.2.1
theorem rdr_drew {w0 w : World} {B k : Nat} (h : Rdr w0 w B k) : Rdr w0 w.drew B k := rdr_drewN h 1
theorem listA (m : Int) (h0 : 0 ≤ m) (h1 : m < 3) : ∃ v, [Value.int .i64 (-1), .int .i64 16, .int .i64 15][m.toNat]'(by simp; omega) = .int .i64 v ∧ inA v := by
  have hm : m = 0 ∨ m = 1 ∨ m = 2 := by omega
  rcases hm with rfl | rfl | rfl
  · exact ⟨-1, rfl, by unfold inA; omega⟩
  · exact ⟨16, rfl, by unfold inA; omega⟩
  · exact ⟨15, rfl, by unfold inA; omega⟩
theorem listB (m : Int) (h0 : 0 ≤ m) (h1 : m < 3) : ∃ v, [Value.int .i64 (-1), .int .i64 4, .int .i64 3][m.toNat]'(by simp; omega) = .int .i64 v ∧ inB v := by
  have hm : m = 0 ∨ m = 1 ∨ m = 2 := by omega
  rcases hm with rfl | rfl | rfl
  · exact ⟨-1, rfl, by unfold inB; omega⟩
  · exact ⟨4, rfl, by unfold inB; omega⟩
  · exact ⟨3, rfl, by unfold inB; omega⟩
theorem of_end {w w' : World} {x y : Value} (hx : ∃ v, x = .int .i64 v ∧ inA v) (hy : ∃ v, y = .int .i64 v ∧ inB v) (hb : Below w.heap.size w w') :
    ∃ f' g' : Int, ofP f' g' ∧ Ending.returned (.tuple #[x, y]) = Ending.returned (.tuple #[.int .i64 f', .int .i64 g']) ∧ Below w.heap.size w w' := by
  obtain ⟨f, rfl, hf⟩ := hx
  obtain ⟨g, rfl, hg⟩ := hy
  exact ⟨f, g, ⟨hf.1, hf.2, hg.1, hg.2⟩, rfl, hb⟩
set_option maxHeartbeats 8000000 in
theorem drawOf_any (w : World) (a : Option Addr) (len cap : Nat) (zs : List Int) (hr : Row .u8 w a len cap zs) :
    Calls Try.prog 28 #[.slice a len cap] w fun e w' => ∃ f g : Int, ofP f g ∧ e = .returned (.tuple #[.int .i64 f, .int .i64 g]) ∧ Below w.heap.size w w' := by
  go_enter Try.func28, Try.ntmps28
  go_wp2_with fail
  refine (open_any w a len cap zs hr).mono ?_
  rintro e w1 ⟨rfl, hR1⟩
  go_wp2_with fail
  refine (pick_any w _ _ _ _ hR1 (by omega) (by omega)).mono ?_
  rintro e w2 ⟨m, h0, h1, rfl, hR2, hO2⟩
  have hlt := rdr_lt hR2
  clear hO2 hR1 hr
  by_cases hm : m = 0
  · subst hm
    go_wp2_with fail
    generalize w.heap.size = B at *
    go_region_with (go_at_call 33; (first | refine (pick_any w _ B 2 _ (by first | exact hR | exact rdr_alloc hR _ | exact rdr_alloc (rdr_alloc hR _) _) (by omega) (by omega)).mono ?_ | refine (pick_any w _ B 1 _ (by first | exact rdr_drew (rdr_alloc hR2 _) | exact rdr_drew (rdr_alloc (rdr_alloc hR2 _) _) | exact rdr_drew hR2 | exact rdr_alloc (rdr_drew hR2) _) (by omega) (by omega)).mono ?_); rintro e w5 ⟨m, h0, h1, rfl, hR, hO⟩; have hc := only_cells hO; have hs := only_size hO; clear hO)
    all_goals
      go_wp2_with fail
      go_ret2
      exact of_end (listA _ (by assumption) (by assumption)) (listB _ (by assumption) (by assumption)) (by first | exact rdr_below hR | exact rdr_below (rdr_alloc hR _) | exact rdr_below (rdr_alloc (rdr_alloc hR _) _))
  · have hm' : (m == 0) = false := by simpa using hm
    go_wp2_with fail
    refine (pick_any w _ _ _ _ hR2 (by omega) (by omega)).mono ?_
    rintro e w3 ⟨m3, h30, h31, rfl, hR3, hO3⟩
    go_wp2_with fail
    refine (pick_any w _ _ _ _ hR3 (by omega) (by omega)).mono ?_
    rintro e w4 ⟨m4, h40, h41, rfl, hR4, hO4⟩
    go_wp2_with fail
    go_ret2
    exact ⟨_, _, ⟨by omega, by omega, by omega, by omega⟩, rfl, rdr_below hR4⟩
end Go.Proofs.Ytdacffhagnhcfaa
