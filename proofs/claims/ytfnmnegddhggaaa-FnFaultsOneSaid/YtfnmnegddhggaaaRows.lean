/-
  No cell of these rows narrows 'for every input' (looked for: loops, veiled, ifaces, maps, wideKeys, modest, calm, conditions, laid).
  DERIVED. THE GIVEN ROWS OF THIS SEAT. 15 by the template 'for every input the law returns true; each argument reads behind the call as it read before'; 0 by the template 'total and deterministic' (their statements: YtfnmnegddhggaaaTotals.lean).
  GIVEN WITH THE SEED: the statements are not yours to turn. If you find one false, say at which input.
  Laid BY PROGRAM, IN A SANDBOX (cutbox-rows.mjs): the forced cells as the released guide's own fill.sh prints them over the translation 51dc20307fb52abf… (all of the seat's roots in one cut). By AI agents, Wed Nov 11 2026. No macro, syntax, notation, axiom, sorry.
-/
import Derived.Test.YtfnmnegddhggaaaChecked
import GoSem.Claim
import GoSem.ClaimJoined
import GoSem.ClaimMapViews
import Derived.JoinedTies
import Derived.KernelRfl
namespace Go.Proofs.Ytfnmnegddhggaaa
/- THE CELL 'sum', in the pinned program and in every row, IS THE sha256 OF THE DUMP (.gsa) THAT YtfnmnegddhggaaaProg.lean LOADS. Nothing in Lean hashes anything: it is a label: what it is worth is what the hold of that sum in a sandbox is worth. -/
noncomputable def Try.pinned : Pinned := { name := "ytfnmnegddhggaaa", sum := "51dc20307fb52abf95df3d1d81dc9b6f341c91e12c019ab209af9c8d2071fcc8", checked := Try.checked }
namespace Rows
def none {H : Type} : Left H := { results := [], args := [] }

/-- 'laws.FnSpans': WHATEVER THE INPUT: true; the input reads as it did. -/
def fnSpansSpec : ChangeSpec := { name := "fnSpans", fn := fun _ => fun
  | [d] => { results := [.lit (.bool true)], args := [d] }
  | _ => none }
def fnSpansRow : OpenClaim := { program := "ytfnmnegddhggaaa", sum := "51dc20307fb52abf95df3d1d81dc9b6f341c91e12c019ab209af9c8d2071fcc8", func := "loop.example/exopager/laws.FnSpans", spec := "fnSpans", recurses := true, apart := false }
def FnSpansSaid : Prop := fnSpansRow.holds Try.pinned (OpenSpec.ofChange fnSpansSpec)

/-- ITS FALSE NEIGHBOUR: 'it returns false'. Refute it at one input. -/
def fnSpansWrong : ChangeSpec := { name := "fnSpans", fn := fun _ => fun
  | [d] => { results := [.lit (.bool false)], args := [d] }
  | _ => none }
def FnSpansWrongFalsely : Prop := fnSpansRow.holds Try.pinned (OpenSpec.ofChange fnSpansWrong)

/-- 'laws.FnFaultsLast': WHATEVER THE INPUT: true; the input reads as it did. -/
def fnFaultsLastSpec : ChangeSpec := { name := "fnFaultsLast", fn := fun _ => fun
  | [d] => { results := [.lit (.bool true)], args := [d] }
  | _ => none }
def fnFaultsLastRow : OpenClaim := { program := "ytfnmnegddhggaaa", sum := "51dc20307fb52abf95df3d1d81dc9b6f341c91e12c019ab209af9c8d2071fcc8", func := "loop.example/exopager/laws.FnFaultsLast", spec := "fnFaultsLast", unfollowed := true, recurses := true, apart := false }
def FnFaultsLastSaid : Prop := fnFaultsLastRow.holds Try.pinned (OpenSpec.ofChange fnFaultsLastSpec)

/-- ITS FALSE NEIGHBOUR: 'it returns false'. Refute it at one input. -/
def fnFaultsLastWrong : ChangeSpec := { name := "fnFaultsLast", fn := fun _ => fun
  | [d] => { results := [.lit (.bool false)], args := [d] }
  | _ => none }
def FnFaultsLastWrongFalsely : Prop := fnFaultsLastRow.holds Try.pinned (OpenSpec.ofChange fnFaultsLastWrong)

/-- 'laws.FnFaultsLastMore': WHATEVER THE INPUT: true; the input reads as it did. -/
def fnFaultsLastMoreSpec : ChangeSpec := { name := "fnFaultsLastMore", fn := fun _ => fun
  | [d] => { results := [.lit (.bool true)], args := [d] }
  | _ => none }
def fnFaultsLastMoreRow : OpenClaim := { program := "ytfnmnegddhggaaa", sum := "51dc20307fb52abf95df3d1d81dc9b6f341c91e12c019ab209af9c8d2071fcc8", func := "loop.example/exopager/laws.FnFaultsLastMore", spec := "fnFaultsLastMore", unfollowed := true, recurses := true, apart := false }
def FnFaultsLastMoreSaid : Prop := fnFaultsLastMoreRow.holds Try.pinned (OpenSpec.ofChange fnFaultsLastMoreSpec)

/-- ITS FALSE NEIGHBOUR: 'it returns false'. Refute it at one input. -/
def fnFaultsLastMoreWrong : ChangeSpec := { name := "fnFaultsLastMore", fn := fun _ => fun
  | [d] => { results := [.lit (.bool false)], args := [d] }
  | _ => none }
def FnFaultsLastMoreWrongFalsely : Prop := fnFaultsLastMoreRow.holds Try.pinned (OpenSpec.ofChange fnFaultsLastMoreWrong)

/-- 'laws.FnFaultsBest': WHATEVER THE INPUT: true; the input reads as it did. -/
def fnFaultsBestSpec : ChangeSpec := { name := "fnFaultsBest", fn := fun _ => fun
  | [d] => { results := [.lit (.bool true)], args := [d] }
  | _ => none }
def fnFaultsBestRow : OpenClaim := { program := "ytfnmnegddhggaaa", sum := "51dc20307fb52abf95df3d1d81dc9b6f341c91e12c019ab209af9c8d2071fcc8", func := "loop.example/exopager/laws.FnFaultsBest", spec := "fnFaultsBest", unfollowed := true, recurses := true, apart := false }
def FnFaultsBestSaid : Prop := fnFaultsBestRow.holds Try.pinned (OpenSpec.ofChange fnFaultsBestSpec)

/-- ITS FALSE NEIGHBOUR: 'it returns false'. Refute it at one input. -/
def fnFaultsBestWrong : ChangeSpec := { name := "fnFaultsBest", fn := fun _ => fun
  | [d] => { results := [.lit (.bool false)], args := [d] }
  | _ => none }
def FnFaultsBestWrongFalsely : Prop := fnFaultsBestRow.holds Try.pinned (OpenSpec.ofChange fnFaultsBestWrong)

/-- 'laws.FnFaultsLeast': WHATEVER THE INPUT: true; the input reads as it did. -/
def fnFaultsLeastSpec : ChangeSpec := { name := "fnFaultsLeast", fn := fun _ => fun
  | [d] => { results := [.lit (.bool true)], args := [d] }
  | _ => none }
def fnFaultsLeastRow : OpenClaim := { program := "ytfnmnegddhggaaa", sum := "51dc20307fb52abf95df3d1d81dc9b6f341c91e12c019ab209af9c8d2071fcc8", func := "loop.example/exopager/laws.FnFaultsLeast", spec := "fnFaultsLeast", unfollowed := true, recurses := true, apart := false }
def FnFaultsLeastSaid : Prop := fnFaultsLeastRow.holds Try.pinned (OpenSpec.ofChange fnFaultsLeastSpec)

/-- ITS FALSE NEIGHBOUR: 'it returns false'. Refute it at one input. -/
def fnFaultsLeastWrong : ChangeSpec := { name := "fnFaultsLeast", fn := fun _ => fun
  | [d] => { results := [.lit (.bool false)], args := [d] }
  | _ => none }
def FnFaultsLeastWrongFalsely : Prop := fnFaultsLeastRow.holds Try.pinned (OpenSpec.ofChange fnFaultsLeastWrong)

/-- 'laws.FnFaultsOne': WHATEVER THE INPUT: true; the input reads as it did. -/
def fnFaultsOneSpec : ChangeSpec := { name := "fnFaultsOne", fn := fun _ => fun
  | [d] => { results := [.lit (.bool true)], args := [d] }
  | _ => none }
def fnFaultsOneRow : OpenClaim := { program := "ytfnmnegddhggaaa", sum := "51dc20307fb52abf95df3d1d81dc9b6f341c91e12c019ab209af9c8d2071fcc8", func := "loop.example/exopager/laws.FnFaultsOne", spec := "fnFaultsOne", unfollowed := true, recurses := true, apart := false }
def FnFaultsOneSaid : Prop := fnFaultsOneRow.holds Try.pinned (OpenSpec.ofChange fnFaultsOneSpec)

/-- ITS FALSE NEIGHBOUR: 'it returns false'. Refute it at one input. -/
def fnFaultsOneWrong : ChangeSpec := { name := "fnFaultsOne", fn := fun _ => fun
  | [d] => { results := [.lit (.bool false)], args := [d] }
  | _ => none }
def FnFaultsOneWrongFalsely : Prop := fnFaultsOneRow.holds Try.pinned (OpenSpec.ofChange fnFaultsOneWrong)

/-- 'laws.FnFaultsAgain': WHATEVER THE INPUT: true; the input reads as it did. -/
def fnFaultsAgainSpec : ChangeSpec := { name := "fnFaultsAgain", fn := fun _ => fun
  | [d1, d2] => { results := [.lit (.bool true)], args := [d1, d2] }
  | _ => none }
def fnFaultsAgainRow : OpenClaim := { program := "ytfnmnegddhggaaa", sum := "51dc20307fb52abf95df3d1d81dc9b6f341c91e12c019ab209af9c8d2071fcc8", func := "loop.example/exopager/laws.FnFaultsAgain", spec := "fnFaultsAgain", unfollowed := true, recurses := true, apart := false }
def FnFaultsAgainSaid : Prop := fnFaultsAgainRow.holds Try.pinned (OpenSpec.ofChange fnFaultsAgainSpec)

/-- ITS FALSE NEIGHBOUR: 'it returns false'. Refute it at one input. -/
def fnFaultsAgainWrong : ChangeSpec := { name := "fnFaultsAgain", fn := fun _ => fun
  | [d1, d2] => { results := [.lit (.bool false)], args := [d1, d2] }
  | _ => none }
def FnFaultsAgainWrongFalsely : Prop := fnFaultsAgainRow.holds Try.pinned (OpenSpec.ofChange fnFaultsAgainWrong)

/-- 'laws.FnFaultsBegin': WHATEVER THE INPUT: true; the input reads as it did. -/
def fnFaultsBeginSpec : ChangeSpec := { name := "fnFaultsBegin", fn := fun _ => fun
  | [d1, d2] => { results := [.lit (.bool true)], args := [d1, d2] }
  | _ => none }
def fnFaultsBeginRow : OpenClaim := { program := "ytfnmnegddhggaaa", sum := "51dc20307fb52abf95df3d1d81dc9b6f341c91e12c019ab209af9c8d2071fcc8", func := "loop.example/exopager/laws.FnFaultsBegin", spec := "fnFaultsBegin", unfollowed := true, recurses := true, apart := false }
def FnFaultsBeginSaid : Prop := fnFaultsBeginRow.holds Try.pinned (OpenSpec.ofChange fnFaultsBeginSpec)

/-- ITS FALSE NEIGHBOUR: 'it returns false'. Refute it at one input. -/
def fnFaultsBeginWrong : ChangeSpec := { name := "fnFaultsBegin", fn := fun _ => fun
  | [d1, d2] => { results := [.lit (.bool false)], args := [d1, d2] }
  | _ => none }
def FnFaultsBeginWrongFalsely : Prop := fnFaultsBeginRow.holds Try.pinned (OpenSpec.ofChange fnFaultsBeginWrong)

/-- 'laws.FnFaultsNames': WHATEVER THE INPUT: true; the input reads as it did. -/
def fnFaultsNamesSpec : ChangeSpec := { name := "fnFaultsNames", fn := fun _ => fun
  | [d] => { results := [.lit (.bool true)], args := [d] }
  | _ => none }
def fnFaultsNamesRow : OpenClaim := { program := "ytfnmnegddhggaaa", sum := "51dc20307fb52abf95df3d1d81dc9b6f341c91e12c019ab209af9c8d2071fcc8", func := "loop.example/exopager/laws.FnFaultsNames", spec := "fnFaultsNames", unfollowed := true, recurses := true, apart := false }
def FnFaultsNamesSaid : Prop := fnFaultsNamesRow.holds Try.pinned (OpenSpec.ofChange fnFaultsNamesSpec)

/-- ITS FALSE NEIGHBOUR: 'it returns false'. Refute it at one input. -/
def fnFaultsNamesWrong : ChangeSpec := { name := "fnFaultsNames", fn := fun _ => fun
  | [d] => { results := [.lit (.bool false)], args := [d] }
  | _ => none }
def FnFaultsNamesWrongFalsely : Prop := fnFaultsNamesRow.holds Try.pinned (OpenSpec.ofChange fnFaultsNamesWrong)

/-- 'laws.FnTracePart': WHATEVER THE INPUT: true; the input reads as it did. -/
def fnTracePartSpec : ChangeSpec := { name := "fnTracePart", fn := fun _ => fun
  | [d1, d2] => { results := [.lit (.bool true)], args := [d1, d2] }
  | _ => none }
def fnTracePartRow : OpenClaim := { program := "ytfnmnegddhggaaa", sum := "51dc20307fb52abf95df3d1d81dc9b6f341c91e12c019ab209af9c8d2071fcc8", func := "loop.example/exopager/laws.FnTracePart", spec := "fnTracePart", apart := false }
def FnTracePartSaid : Prop := fnTracePartRow.holds Try.pinned (OpenSpec.ofChange fnTracePartSpec)

/-- ITS FALSE NEIGHBOUR: 'it returns false'. Refute it at one input. -/
def fnTracePartWrong : ChangeSpec := { name := "fnTracePart", fn := fun _ => fun
  | [d1, d2] => { results := [.lit (.bool false)], args := [d1, d2] }
  | _ => none }
def FnTracePartWrongFalsely : Prop := fnTracePartRow.holds Try.pinned (OpenSpec.ofChange fnTracePartWrong)

/-- 'laws.FnExactTraceValid': WHATEVER THE INPUT: true; the input reads as it did. -/
def fnExactTraceValidSpec : ChangeSpec := { name := "fnExactTraceValid", fn := fun _ => fun
  | [d] => { results := [.lit (.bool true)], args := [d] }
  | _ => none }
def fnExactTraceValidRow : OpenClaim := { program := "ytfnmnegddhggaaa", sum := "51dc20307fb52abf95df3d1d81dc9b6f341c91e12c019ab209af9c8d2071fcc8", func := "loop.example/exopager/laws.FnExactTraceValid", spec := "fnExactTraceValid", apart := false }
def FnExactTraceValidSaid : Prop := fnExactTraceValidRow.holds Try.pinned (OpenSpec.ofChange fnExactTraceValidSpec)

/-- ITS FALSE NEIGHBOUR: 'it returns false'. Refute it at one input. -/
def fnExactTraceValidWrong : ChangeSpec := { name := "fnExactTraceValid", fn := fun _ => fun
  | [d] => { results := [.lit (.bool false)], args := [d] }
  | _ => none }
def FnExactTraceValidWrongFalsely : Prop := fnExactTraceValidRow.holds Try.pinned (OpenSpec.ofChange fnExactTraceValidWrong)

/-- 'laws.FnExactTraceSpans': WHATEVER THE INPUT: true; the input reads as it did. -/
def fnExactTraceSpansSpec : ChangeSpec := { name := "fnExactTraceSpans", fn := fun _ => fun
  | [d] => { results := [.lit (.bool true)], args := [d] }
  | _ => none }
def fnExactTraceSpansRow : OpenClaim := { program := "ytfnmnegddhggaaa", sum := "51dc20307fb52abf95df3d1d81dc9b6f341c91e12c019ab209af9c8d2071fcc8", func := "loop.example/exopager/laws.FnExactTraceSpans", spec := "fnExactTraceSpans", recurses := true, apart := false }
def FnExactTraceSpansSaid : Prop := fnExactTraceSpansRow.holds Try.pinned (OpenSpec.ofChange fnExactTraceSpansSpec)

/-- ITS FALSE NEIGHBOUR: 'it returns false'. Refute it at one input. -/
def fnExactTraceSpansWrong : ChangeSpec := { name := "fnExactTraceSpans", fn := fun _ => fun
  | [d] => { results := [.lit (.bool false)], args := [d] }
  | _ => none }
def FnExactTraceSpansWrongFalsely : Prop := fnExactTraceSpansRow.holds Try.pinned (OpenSpec.ofChange fnExactTraceSpansWrong)

/-- 'laws.FnExactFaultsFirst': WHATEVER THE INPUT: true; the input reads as it did. -/
def fnExactFaultsFirstSpec : ChangeSpec := { name := "fnExactFaultsFirst", fn := fun _ => fun
  | [d1, d2] => { results := [.lit (.bool true)], args := [d1, d2] }
  | _ => none }
def fnExactFaultsFirstRow : OpenClaim := { program := "ytfnmnegddhggaaa", sum := "51dc20307fb52abf95df3d1d81dc9b6f341c91e12c019ab209af9c8d2071fcc8", func := "loop.example/exopager/laws.FnExactFaultsFirst", spec := "fnExactFaultsFirst", unfollowed := true, recurses := true, apart := false }
def FnExactFaultsFirstSaid : Prop := fnExactFaultsFirstRow.holds Try.pinned (OpenSpec.ofChange fnExactFaultsFirstSpec)

/-- ITS FALSE NEIGHBOUR: 'it returns false'. Refute it at one input. -/
def fnExactFaultsFirstWrong : ChangeSpec := { name := "fnExactFaultsFirst", fn := fun _ => fun
  | [d1, d2] => { results := [.lit (.bool false)], args := [d1, d2] }
  | _ => none }
def FnExactFaultsFirstWrongFalsely : Prop := fnExactFaultsFirstRow.holds Try.pinned (OpenSpec.ofChange fnExactFaultsFirstWrong)

/-- 'laws.FnExactFaultsLast': WHATEVER THE INPUT: true; the input reads as it did. -/
def fnExactFaultsLastSpec : ChangeSpec := { name := "fnExactFaultsLast", fn := fun _ => fun
  | [d1, d2] => { results := [.lit (.bool true)], args := [d1, d2] }
  | _ => none }
def fnExactFaultsLastRow : OpenClaim := { program := "ytfnmnegddhggaaa", sum := "51dc20307fb52abf95df3d1d81dc9b6f341c91e12c019ab209af9c8d2071fcc8", func := "loop.example/exopager/laws.FnExactFaultsLast", spec := "fnExactFaultsLast", unfollowed := true, recurses := true, apart := false }
def FnExactFaultsLastSaid : Prop := fnExactFaultsLastRow.holds Try.pinned (OpenSpec.ofChange fnExactFaultsLastSpec)

/-- ITS FALSE NEIGHBOUR: 'it returns false'. Refute it at one input. -/
def fnExactFaultsLastWrong : ChangeSpec := { name := "fnExactFaultsLast", fn := fun _ => fun
  | [d1, d2] => { results := [.lit (.bool false)], args := [d1, d2] }
  | _ => none }
def FnExactFaultsLastWrongFalsely : Prop := fnExactFaultsLastRow.holds Try.pinned (OpenSpec.ofChange fnExactFaultsLastWrong)

/-- 'laws.FnExactFaultsBest': WHATEVER THE INPUT: true; the input reads as it did. -/
def fnExactFaultsBestSpec : ChangeSpec := { name := "fnExactFaultsBest", fn := fun _ => fun
  | [d1, d2] => { results := [.lit (.bool true)], args := [d1, d2] }
  | _ => none }
def fnExactFaultsBestRow : OpenClaim := { program := "ytfnmnegddhggaaa", sum := "51dc20307fb52abf95df3d1d81dc9b6f341c91e12c019ab209af9c8d2071fcc8", func := "loop.example/exopager/laws.FnExactFaultsBest", spec := "fnExactFaultsBest", unfollowed := true, recurses := true, apart := false }
def FnExactFaultsBestSaid : Prop := fnExactFaultsBestRow.holds Try.pinned (OpenSpec.ofChange fnExactFaultsBestSpec)

/-- ITS FALSE NEIGHBOUR: 'it returns false'. Refute it at one input. -/
def fnExactFaultsBestWrong : ChangeSpec := { name := "fnExactFaultsBest", fn := fun _ => fun
  | [d1, d2] => { results := [.lit (.bool false)], args := [d1, d2] }
  | _ => none }
def FnExactFaultsBestWrongFalsely : Prop := fnExactFaultsBestRow.holds Try.pinned (OpenSpec.ofChange fnExactFaultsBestWrong)

/- THE SECOND FORM. 'bulk': how many values and letters a reading holds, each counted each time it is reached (what is shared counts as often as it is met; a slice's spare places count too). A statement '..UptoSaid' is the law's where the arguments, and the package variables that the reading takes, are together of bulk at most 1048576: NARROWER than '..Said'. Prove '..Said' where nothing that the law and all that it calls make is longer than what came in: it says more and counts as full. Else prove '..UptoSaid'. A law counts once. -/
mutual
def uptoBulk {H : Type} : DataW H → Nat
  | .lit (.string bytes) => bytes.length + 1
  | .lit _ => 1
  | .nil => 1
  | .ptr d => uptoBulk d + 1
  | .slice elems spare => uptoBulkAll elems + uptoBulkAll spare + 1
  | .agg parts => uptoBulkAll parts + 1
  | .iface _ d => uptoBulk d + 1
  | .map entries => uptoBulkEntries entries + 1
  | .held _ => 1
def uptoBulkAll {H : Type} : List (DataW H) → Nat
  | [] => 0
  | d :: r => uptoBulk d + uptoBulkAll r
def uptoBulkEntries {H : Type} : List (Lit × DataW H) → Nat
  | [] => 0
  | x :: r => uptoBulkEntry x + uptoBulkEntries r
def uptoBulkEntry {H : Type} : Lit × DataW H → Nat
  | (.string bytes, d) => bytes.length + uptoBulk d + 1
  | (_, d) => uptoBulk d + 1
 end
def uptoSmall : (H : Type) → List (DataW H) → Bool := fun _ ds => decide (uptoBulkAll ds ≤ 1048576)
def OpenSpec.upto (s : _root_.Go.ChangeSpec) : _root_.Go.OpenSpec := { _root_.Go.OpenSpec.ofChange s with cond := some uptoSmall }

/-- 'laws.FnSpans', WHERE WHAT IT READS IS OF BULK AT MOST 1048576: true; the input reads as it did. -/
def fnSpansUptoRow : OpenClaim := { program := "ytfnmnegddhggaaa", sum := "51dc20307fb52abf95df3d1d81dc9b6f341c91e12c019ab209af9c8d2071fcc8", func := "loop.example/exopager/laws.FnSpans", spec := "fnSpans", recurses := true, apart := false, narrowed := true }
def FnSpansUptoSaid : Prop := fnSpansUptoRow.holds Try.pinned (OpenSpec.upto fnSpansSpec)

/-- 'laws.FnFaultsLast', WHERE WHAT IT READS IS OF BULK AT MOST 1048576: true; the input reads as it did. -/
def fnFaultsLastUptoRow : OpenClaim := { program := "ytfnmnegddhggaaa", sum := "51dc20307fb52abf95df3d1d81dc9b6f341c91e12c019ab209af9c8d2071fcc8", func := "loop.example/exopager/laws.FnFaultsLast", spec := "fnFaultsLast", unfollowed := true, recurses := true, apart := false, narrowed := true }
def FnFaultsLastUptoSaid : Prop := fnFaultsLastUptoRow.holds Try.pinned (OpenSpec.upto fnFaultsLastSpec)

/-- 'laws.FnFaultsLastMore', WHERE WHAT IT READS IS OF BULK AT MOST 1048576: true; the input reads as it did. -/
def fnFaultsLastMoreUptoRow : OpenClaim := { program := "ytfnmnegddhggaaa", sum := "51dc20307fb52abf95df3d1d81dc9b6f341c91e12c019ab209af9c8d2071fcc8", func := "loop.example/exopager/laws.FnFaultsLastMore", spec := "fnFaultsLastMore", unfollowed := true, recurses := true, apart := false, narrowed := true }
def FnFaultsLastMoreUptoSaid : Prop := fnFaultsLastMoreUptoRow.holds Try.pinned (OpenSpec.upto fnFaultsLastMoreSpec)

/-- 'laws.FnFaultsBest', WHERE WHAT IT READS IS OF BULK AT MOST 1048576: true; the input reads as it did. -/
def fnFaultsBestUptoRow : OpenClaim := { program := "ytfnmnegddhggaaa", sum := "51dc20307fb52abf95df3d1d81dc9b6f341c91e12c019ab209af9c8d2071fcc8", func := "loop.example/exopager/laws.FnFaultsBest", spec := "fnFaultsBest", unfollowed := true, recurses := true, apart := false, narrowed := true }
def FnFaultsBestUptoSaid : Prop := fnFaultsBestUptoRow.holds Try.pinned (OpenSpec.upto fnFaultsBestSpec)

/-- 'laws.FnFaultsLeast', WHERE WHAT IT READS IS OF BULK AT MOST 1048576: true; the input reads as it did. -/
def fnFaultsLeastUptoRow : OpenClaim := { program := "ytfnmnegddhggaaa", sum := "51dc20307fb52abf95df3d1d81dc9b6f341c91e12c019ab209af9c8d2071fcc8", func := "loop.example/exopager/laws.FnFaultsLeast", spec := "fnFaultsLeast", unfollowed := true, recurses := true, apart := false, narrowed := true }
def FnFaultsLeastUptoSaid : Prop := fnFaultsLeastUptoRow.holds Try.pinned (OpenSpec.upto fnFaultsLeastSpec)

/-- 'laws.FnFaultsOne', WHERE WHAT IT READS IS OF BULK AT MOST 1048576: true; the input reads as it did. -/
def fnFaultsOneUptoRow : OpenClaim := { program := "ytfnmnegddhggaaa", sum := "51dc20307fb52abf95df3d1d81dc9b6f341c91e12c019ab209af9c8d2071fcc8", func := "loop.example/exopager/laws.FnFaultsOne", spec := "fnFaultsOne", unfollowed := true, recurses := true, apart := false, narrowed := true }
def FnFaultsOneUptoSaid : Prop := fnFaultsOneUptoRow.holds Try.pinned (OpenSpec.upto fnFaultsOneSpec)

/-- 'laws.FnFaultsAgain', WHERE WHAT IT READS IS OF BULK AT MOST 1048576: true; the input reads as it did. -/
def fnFaultsAgainUptoRow : OpenClaim := { program := "ytfnmnegddhggaaa", sum := "51dc20307fb52abf95df3d1d81dc9b6f341c91e12c019ab209af9c8d2071fcc8", func := "loop.example/exopager/laws.FnFaultsAgain", spec := "fnFaultsAgain", unfollowed := true, recurses := true, apart := false, narrowed := true }
def FnFaultsAgainUptoSaid : Prop := fnFaultsAgainUptoRow.holds Try.pinned (OpenSpec.upto fnFaultsAgainSpec)

/-- 'laws.FnFaultsBegin', WHERE WHAT IT READS IS OF BULK AT MOST 1048576: true; the input reads as it did. -/
def fnFaultsBeginUptoRow : OpenClaim := { program := "ytfnmnegddhggaaa", sum := "51dc20307fb52abf95df3d1d81dc9b6f341c91e12c019ab209af9c8d2071fcc8", func := "loop.example/exopager/laws.FnFaultsBegin", spec := "fnFaultsBegin", unfollowed := true, recurses := true, apart := false, narrowed := true }
def FnFaultsBeginUptoSaid : Prop := fnFaultsBeginUptoRow.holds Try.pinned (OpenSpec.upto fnFaultsBeginSpec)

/-- 'laws.FnFaultsNames', WHERE WHAT IT READS IS OF BULK AT MOST 1048576: true; the input reads as it did. -/
def fnFaultsNamesUptoRow : OpenClaim := { program := "ytfnmnegddhggaaa", sum := "51dc20307fb52abf95df3d1d81dc9b6f341c91e12c019ab209af9c8d2071fcc8", func := "loop.example/exopager/laws.FnFaultsNames", spec := "fnFaultsNames", unfollowed := true, recurses := true, apart := false, narrowed := true }
def FnFaultsNamesUptoSaid : Prop := fnFaultsNamesUptoRow.holds Try.pinned (OpenSpec.upto fnFaultsNamesSpec)

/-- 'laws.FnTracePart', WHERE WHAT IT READS IS OF BULK AT MOST 1048576: true; the input reads as it did. -/
def fnTracePartUptoRow : OpenClaim := { program := "ytfnmnegddhggaaa", sum := "51dc20307fb52abf95df3d1d81dc9b6f341c91e12c019ab209af9c8d2071fcc8", func := "loop.example/exopager/laws.FnTracePart", spec := "fnTracePart", apart := false, narrowed := true }
def FnTracePartUptoSaid : Prop := fnTracePartUptoRow.holds Try.pinned (OpenSpec.upto fnTracePartSpec)

/-- 'laws.FnExactTraceValid', WHERE WHAT IT READS IS OF BULK AT MOST 1048576: true; the input reads as it did. -/
def fnExactTraceValidUptoRow : OpenClaim := { program := "ytfnmnegddhggaaa", sum := "51dc20307fb52abf95df3d1d81dc9b6f341c91e12c019ab209af9c8d2071fcc8", func := "loop.example/exopager/laws.FnExactTraceValid", spec := "fnExactTraceValid", apart := false, narrowed := true }
def FnExactTraceValidUptoSaid : Prop := fnExactTraceValidUptoRow.holds Try.pinned (OpenSpec.upto fnExactTraceValidSpec)

/-- 'laws.FnExactTraceSpans', WHERE WHAT IT READS IS OF BULK AT MOST 1048576: true; the input reads as it did. -/
def fnExactTraceSpansUptoRow : OpenClaim := { program := "ytfnmnegddhggaaa", sum := "51dc20307fb52abf95df3d1d81dc9b6f341c91e12c019ab209af9c8d2071fcc8", func := "loop.example/exopager/laws.FnExactTraceSpans", spec := "fnExactTraceSpans", recurses := true, apart := false, narrowed := true }
def FnExactTraceSpansUptoSaid : Prop := fnExactTraceSpansUptoRow.holds Try.pinned (OpenSpec.upto fnExactTraceSpansSpec)

/-- 'laws.FnExactFaultsFirst', WHERE WHAT IT READS IS OF BULK AT MOST 1048576: true; the input reads as it did. -/
def fnExactFaultsFirstUptoRow : OpenClaim := { program := "ytfnmnegddhggaaa", sum := "51dc20307fb52abf95df3d1d81dc9b6f341c91e12c019ab209af9c8d2071fcc8", func := "loop.example/exopager/laws.FnExactFaultsFirst", spec := "fnExactFaultsFirst", unfollowed := true, recurses := true, apart := false, narrowed := true }
def FnExactFaultsFirstUptoSaid : Prop := fnExactFaultsFirstUptoRow.holds Try.pinned (OpenSpec.upto fnExactFaultsFirstSpec)

/-- 'laws.FnExactFaultsLast', WHERE WHAT IT READS IS OF BULK AT MOST 1048576: true; the input reads as it did. -/
def fnExactFaultsLastUptoRow : OpenClaim := { program := "ytfnmnegddhggaaa", sum := "51dc20307fb52abf95df3d1d81dc9b6f341c91e12c019ab209af9c8d2071fcc8", func := "loop.example/exopager/laws.FnExactFaultsLast", spec := "fnExactFaultsLast", unfollowed := true, recurses := true, apart := false, narrowed := true }
def FnExactFaultsLastUptoSaid : Prop := fnExactFaultsLastUptoRow.holds Try.pinned (OpenSpec.upto fnExactFaultsLastSpec)

/-- 'laws.FnExactFaultsBest', WHERE WHAT IT READS IS OF BULK AT MOST 1048576: true; the input reads as it did. -/
def fnExactFaultsBestUptoRow : OpenClaim := { program := "ytfnmnegddhggaaa", sum := "51dc20307fb52abf95df3d1d81dc9b6f341c91e12c019ab209af9c8d2071fcc8", func := "loop.example/exopager/laws.FnExactFaultsBest", spec := "fnExactFaultsBest", unfollowed := true, recurses := true, apart := false, narrowed := true }
def FnExactFaultsBestUptoSaid : Prop := fnExactFaultsBestUptoRow.holds Try.pinned (OpenSpec.upto fnExactFaultsBestSpec)

end Rows
end Go.Proofs.Ytfnmnegddhggaaa
