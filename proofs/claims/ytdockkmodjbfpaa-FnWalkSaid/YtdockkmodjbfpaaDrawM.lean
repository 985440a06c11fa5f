/- What the draws of a memory with frames, places and words give; nothing that was there before the call changes. -/
import Derived.Test.YtdockkmodjbfpaaDrawMem
namespace Go.Proofs.Ytdockkmodjbfpaa
open Go.ChangeShapes Go.WideShapes Go.ChangeAt Go.RowKit
set_option linter.unusedVariables false

def atP (f : Int) : Prop := -1 ≤ f ∧ f ≤ 4
def Small (xss : List (List Int)) : Prop := xss.length ≤ 12 ∧ ∀ j, j < xss.length → (xss.getD j []).length ≤ 4
theorem MatW.grown {B B0 B1 : Nat} {w w' : World} {v : Value} {xss : List (List Int)} (h : MatW w B0 B1 v xss) (hg : w.grownBy w' (some B)) (hB : B < B0) (h1 : B1 ≤ w.heap.size) : MatW w' B0 B1 v xss :=
  h.of_blocks (fun b h0 h2 => hg.block b (by omega) (fun e => by injection e with e; omega))

def DrewM0 (W : World) (e : Ending) (w' : World) : Prop := ∃ v xss, e = .returned v ∧ Rows2 w' v xss ∧ Small xss ∧ Below W.heap.size W w'
def DrewM1 (P : Int → Prop) (W : World) (e : Ending) (w' : World) : Prop := ∃ v xss f, P f ∧ e = .returned (.tuple #[v, .int .i64 f]) ∧ Rows2 w' v xss ∧ Small xss ∧ Below W.heap.size W w'
def DrewM2 (P : Int → Int → Prop) (W : World) (e : Ending) (w' : World) : Prop := ∃ v xss f t, P f t ∧ e = .returned (.tuple #[v, .int .i64 f, .int .i64 t]) ∧ Rows2 w' v xss ∧ Small xss ∧ Below W.heap.size W w'
def DrewM3 (P : Int → Int → Int → Prop) (W : World) (e : Ending) (w' : World) : Prop := ∃ v xss f t x, P f t x ∧ e = .returned (.tuple #[v, .int .i64 f, .int .i64 t, .int .i64 x]) ∧ Rows2 w' v xss ∧ Small xss ∧ Below W.heap.size W w'
theorem drewM1_mk {P : Int → Prop} {W w' : World} {v : Value} {xss : List (List Int)} {B B0 B1 k : Nat} {f : Int} (hP : P f) (hm : MatW w' B0 B1 v xss) (hs : Small xss) (hR : Rdr W w' B k) : DrewM1 P W (.returned (.tuple #[v, .int .i64 f])) w' :=
  ⟨v, xss, f, hP, rfl, hm.rows, hs, rdr_below hR⟩
theorem drewM2_mk {P : Int → Int → Prop} {W w' : World} {v : Value} {xss : List (List Int)} {B B0 B1 k : Nat} {f t : Int} (hP : P f t) (hm : MatW w' B0 B1 v xss) (hs : Small xss) (hR : Rdr W w' B k) : DrewM2 P W (.returned (.tuple #[v, .int .i64 f, .int .i64 t])) w' :=
  ⟨v, xss, f, t, hP, rfl, hm.rows, hs, rdr_below hR⟩
theorem drewM3_mk {P : Int → Int → Int → Prop} {W w' : World} {v : Value} {xss : List (List Int)} {B B0 B1 k : Nat} {f t x : Int} (hP : P f t x) (hm : MatW w' B0 B1 v xss) (hs : Small xss) (hR : Rdr W w' B k) : DrewM3 P W (.returned (.tuple #[v, .int .i64 f, .int .i64 t, .int .i64 x])) w' :=
  ⟨v, xss, f, t, x, hP, rfl, hm.rows, hs, rdr_below hR⟩
theorem results_tmp4 {fn : Func} {t u v x : Tmp} (h : fn.results = #[.tmp t, .tmp u, .tmp v, .tmp x]) (tmps : Array Value) (P : Program) (w : World) :
    (results fn tmps).run P w = .ok (.tuple #[tmps.getD t undef, tmps.getD u undef, tmps.getD v undef, tmps.getD x undef]) w := by simp [results, h]

theorem triple_get (m : Int) (h0 : 0 ≤ m) (h1 : m < 3) : ∃ x : Int, (-1 ≤ x ∧ x ≤ 10000) ∧ [Value.int .i64 (-1), .int .i64 10000, .int .i64 9999][m.toNat]'(by simp; omega) = .int .i64 x := by
  have hm : m = 0 ∨ m = 1 ∨ m = 2 := by omega
  rcases hm with rfl | rfl | rfl
  · exact ⟨-1, by omega, rfl⟩
  · exact ⟨10000, by omega, rfl⟩
  · exact ⟨9999, by omega, rfl⟩
theorem word_any {x : Int} (h0 : 0 ≤ x) (h1 : x < 100) : -1 ≤ x ∧ x ≤ 10000 := by omega
end Go.Proofs.Ytdockkmodjbfpaa
