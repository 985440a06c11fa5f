/- The walks of the exact statements of the cache, out of contracts of the program alone. -/
import Derived.Test.YtklclcbhghjjfaaLawCachePart
import Derived.Test.YtklclcbhghjjfaaLawCacheDrop
import Derived.Test.YtklclcbhghjjfaaExCachePut
namespace Go.Proofs.Ytklclcbhghjjfaa
open Go.ChangeShapes Go.WideShapes Go.ChangeAt Go.RowKit
set_option linter.unusedVariables false

theorem drop_lenC (xs : List CV) (e : Int) : (dropF xs e).length ≤ 1000 := by
  unfold dropF
  split
  · rename_i h
    have := drp_len xs e
    have := cOk_len h
    omega
  · simp
theorem put_lenC (xs : List CV) (x : CV) : (putF xs x).length ≤ 1000 := by
  cases h : putB xs x with
  | true => have := put_len4 h; omega
  | false => unfold putF; rw [h]; simp
theorem exCacheValid_all (hV : CVal) (W : World) (v0 : Value) (xs : List CV) (h : Cs W v0 xs) :
    Calls Try.prog 10 #[v0] W fun e w' => e = .returned (.bool true) ∧ Below W.heap.size W w' :=
  exCacheValid_walk W v0 xs (cOk xs) h (fun w v k => cValid_any w v xs k) (fun w v k => hV w v xs k)
theorem exCacheFind_all (hF : CFind) (W : World) (v0 : Value) (xs : List CV) (e p : Int) (h : Cs W v0 xs) :
    Calls Try.prog 11 #[v0, .int .i64 e, .int .i64 p] W fun en w' => en = .returned (.bool true) ∧ Below W.heap.size W w' :=
  exCacheFind_walk W v0 xs (cFind xs e p) e p h (fun w v k => cFind_any w v xs e p k) (fun w v k => hF w v xs e p k)
theorem exCacheDrop_all (hD : CDrop) (W : World) (v0 : Value) (xs : List CV) (f : Int) (h : Cs W v0 xs) :
    Calls Try.prog 13 #[v0, .int .i64 f] W fun e w' => e = .returned (.bool true) ∧ Below W.heap.size W w' :=
  exCacheDrop_walk W v0 xs (dropF xs f) f h (drop_lenC xs f) (fun w v k => (cDrop_any w v xs f k).mono fun _ _ h => NewCR.of_new h) (fun w v k => hD w v xs f k)
theorem exCachePut_all (hP : CPut) (W : World) (v0 : Value) (xs : List CV) (x : CV) (h : Cs W v0 xs) :
    Calls Try.prog 12 #[v0, cvV x] W fun e w' => e = .returned (.bool true) ∧ Below W.heap.size W w' :=
  exCachePut_walk W v0 xs (putF xs x) (putB xs x) x h (put_lenC xs x) (fun w v k => (cPut_any w v xs x k).mono fun _ _ h => PutCR.of_new h) (fun w v k => hP w v xs x k)
end Go.Proofs.Ytklclcbhghjjfaa
