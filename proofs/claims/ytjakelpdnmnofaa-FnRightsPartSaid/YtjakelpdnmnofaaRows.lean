/-
  No cell of these rows narrows 'for every input' (looked for: loops, veiled, ifaces, maps, wideKeys, modest, calm, conditions, laid).
  DERIVED. THE GIVEN ROWS OF THIS SEAT. 15 by the template 'for every input the law returns true; each argument reads behind the call as it read before'; 0 by the template 'total and deterministic' (their statements: YtjakelpdnmnofaaTotals.lean).
  GIVEN WITH THE SEED: the statements are not yours to turn. If you find one false, say at which input.
  Laid BY PROGRAM, IN A SANDBOX (cutbox-rows.mjs): the forced cells as the released guide's own fill.sh prints them over the translation ae01562db48193a9… (all of the seat's roots in one cut). By AI agents, Wed Nov 11 2026. No macro, syntax, notation, axiom, sorry.
-/
import Derived.Test.YtjakelpdnmnofaaChecked
import GoSem.Claim
import GoSem.ClaimJoined
import GoSem.ClaimMapViews
import Derived.JoinedTies
import Derived.KernelRfl
namespace Go.Proofs.Ytjakelpdnmnofaa
/- THE CELL 'sum', in the pinned program and in every row, IS THE sha256 OF THE DUMP (.gsa) THAT YtjakelpdnmnofaaProg.lean LOADS. Nothing in Lean hashes anything: it is a label: what it is worth is what the hold of that sum in a sandbox is worth. -/
noncomputable def Try.pinned : Pinned := { name := "ytjakelpdnmnofaa", sum := "ae01562db48193a91f57343a7a79b6b89f3f8b6a520ce4e020722f349a232d8c", checked := Try.checked }
namespace Rows
def none {H : Type} : Left H := { results := [], args := [] }

/-- 'laws.FnRightPart': WHATEVER THE INPUT: true; the input reads as it did. -/
def fnRightPartSpec : ChangeSpec := { name := "fnRightPart", fn := fun _ => fun
  | [d] => { results := [.lit (.bool true)], args := [d] }
  | _ => none }
def fnRightPartRow : OpenClaim := { program := "ytjakelpdnmnofaa", sum := "ae01562db48193a91f57343a7a79b6b89f3f8b6a520ce4e020722f349a232d8c", func := "loop.example/exopager/laws.FnRightPart", spec := "fnRightPart", apart := false }
def FnRightPartSaid : Prop := fnRightPartRow.holds Try.pinned (OpenSpec.ofChange fnRightPartSpec)

/-- ITS FALSE NEIGHBOUR: 'it returns false'. Refute it at one input. -/
def fnRightPartWrong : ChangeSpec := { name := "fnRightPart", fn := fun _ => fun
  | [d] => { results := [.lit (.bool false)], args := [d] }
  | _ => none }
def FnRightPartWrongFalsely : Prop := fnRightPartRow.holds Try.pinned (OpenSpec.ofChange fnRightPartWrong)

/-- 'laws.FnRightCovers': WHATEVER THE INPUT: true; the input reads as it did. -/
def fnRightCoversSpec : ChangeSpec := { name := "fnRightCovers", fn := fun _ => fun
  | [d] => { results := [.lit (.bool true)], args := [d] }
  | _ => none }
def fnRightCoversRow : OpenClaim := { program := "ytjakelpdnmnofaa", sum := "ae01562db48193a91f57343a7a79b6b89f3f8b6a520ce4e020722f349a232d8c", func := "loop.example/exopager/laws.FnRightCovers", spec := "fnRightCovers", apart := false }
def FnRightCoversSaid : Prop := fnRightCoversRow.holds Try.pinned (OpenSpec.ofChange fnRightCoversSpec)

/-- ITS FALSE NEIGHBOUR: 'it returns false'. Refute it at one input. -/
def fnRightCoversWrong : ChangeSpec := { name := "fnRightCovers", fn := fun _ => fun
  | [d] => { results := [.lit (.bool false)], args := [d] }
  | _ => none }
def FnRightCoversWrongFalsely : Prop := fnRightCoversRow.holds Try.pinned (OpenSpec.ofChange fnRightCoversWrong)

/-- 'laws.FnRightCoversTwo': WHATEVER THE INPUT: true; the input reads as it did. -/
def fnRightCoversTwoSpec : ChangeSpec := { name := "fnRightCoversTwo", fn := fun _ => fun
  | [d] => { results := [.lit (.bool true)], args := [d] }
  | _ => none }
def fnRightCoversTwoRow : OpenClaim := { program := "ytjakelpdnmnofaa", sum := "ae01562db48193a91f57343a7a79b6b89f3f8b6a520ce4e020722f349a232d8c", func := "loop.example/exopager/laws.FnRightCoversTwo", spec := "fnRightCoversTwo", apart := false }
def FnRightCoversTwoSaid : Prop := fnRightCoversTwoRow.holds Try.pinned (OpenSpec.ofChange fnRightCoversTwoSpec)

/-- ITS FALSE NEIGHBOUR: 'it returns false'. Refute it at one input. -/
def fnRightCoversTwoWrong : ChangeSpec := { name := "fnRightCoversTwo", fn := fun _ => fun
  | [d] => { results := [.lit (.bool false)], args := [d] }
  | _ => none }
def FnRightCoversTwoWrongFalsely : Prop := fnRightCoversTwoRow.holds Try.pinned (OpenSpec.ofChange fnRightCoversTwoWrong)

/-- 'laws.FnRightsMay': WHATEVER THE INPUT: true; the input reads as it did. -/
def fnRightsMaySpec : ChangeSpec := { name := "fnRightsMay", fn := fun _ => fun
  | [d] => { results := [.lit (.bool true)], args := [d] }
  | _ => none }
def fnRightsMayRow : OpenClaim := { program := "ytjakelpdnmnofaa", sum := "ae01562db48193a91f57343a7a79b6b89f3f8b6a520ce4e020722f349a232d8c", func := "loop.example/exopager/laws.FnRightsMay", spec := "fnRightsMay", apart := false }
def FnRightsMaySaid : Prop := fnRightsMayRow.holds Try.pinned (OpenSpec.ofChange fnRightsMaySpec)

/-- ITS FALSE NEIGHBOUR: 'it returns false'. Refute it at one input. -/
def fnRightsMayWrong : ChangeSpec := { name := "fnRightsMay", fn := fun _ => fun
  | [d] => { results := [.lit (.bool false)], args := [d] }
  | _ => none }
def FnRightsMayWrongFalsely : Prop := fnRightsMayRow.holds Try.pinned (OpenSpec.ofChange fnRightsMayWrong)

/-- 'laws.FnRightsMayLong': WHATEVER THE INPUT: true; the input reads as it did. -/
def fnRightsMayLongSpec : ChangeSpec := { name := "fnRightsMayLong", fn := fun _ => fun
  | [d] => { results := [.lit (.bool true)], args := [d] }
  | _ => none }
def fnRightsMayLongRow : OpenClaim := { program := "ytjakelpdnmnofaa", sum := "ae01562db48193a91f57343a7a79b6b89f3f8b6a520ce4e020722f349a232d8c", func := "loop.example/exopager/laws.FnRightsMayLong", spec := "fnRightsMayLong", apart := false }
def FnRightsMayLongSaid : Prop := fnRightsMayLongRow.holds Try.pinned (OpenSpec.ofChange fnRightsMayLongSpec)

/-- ITS FALSE NEIGHBOUR: 'it returns false'. Refute it at one input. -/
def fnRightsMayLongWrong : ChangeSpec := { name := "fnRightsMayLong", fn := fun _ => fun
  | [d] => { results := [.lit (.bool false)], args := [d] }
  | _ => none }
def FnRightsMayLongWrongFalsely : Prop := fnRightsMayLongRow.holds Try.pinned (OpenSpec.ofChange fnRightsMayLongWrong)

/-- 'laws.FnRightsAdd': WHATEVER THE INPUT: true; the input reads as it did. -/
def fnRightsAddSpec : ChangeSpec := { name := "fnRightsAdd", fn := fun _ => fun
  | [d] => { results := [.lit (.bool true)], args := [d] }
  | _ => none }
def fnRightsAddRow : OpenClaim := { program := "ytjakelpdnmnofaa", sum := "ae01562db48193a91f57343a7a79b6b89f3f8b6a520ce4e020722f349a232d8c", func := "loop.example/exopager/laws.FnRightsAdd", spec := "fnRightsAdd", unfollowed := true, recurses := true, apart := false }
def FnRightsAddSaid : Prop := fnRightsAddRow.holds Try.pinned (OpenSpec.ofChange fnRightsAddSpec)

/-- ITS FALSE NEIGHBOUR: 'it returns false'. Refute it at one input. -/
def fnRightsAddWrong : ChangeSpec := { name := "fnRightsAdd", fn := fun _ => fun
  | [d] => { results := [.lit (.bool false)], args := [d] }
  | _ => none }
def FnRightsAddWrongFalsely : Prop := fnRightsAddRow.holds Try.pinned (OpenSpec.ofChange fnRightsAddWrong)

/-- 'laws.FnRightsAddFull': WHATEVER THE INPUT: true; the input reads as it did. -/
def fnRightsAddFullSpec : ChangeSpec := { name := "fnRightsAddFull", fn := fun _ => fun
  | [d] => { results := [.lit (.bool true)], args := [d] }
  | _ => none }
def fnRightsAddFullRow : OpenClaim := { program := "ytjakelpdnmnofaa", sum := "ae01562db48193a91f57343a7a79b6b89f3f8b6a520ce4e020722f349a232d8c", func := "loop.example/exopager/laws.FnRightsAddFull", spec := "fnRightsAddFull", unfollowed := true, recurses := true, apart := false }
def FnRightsAddFullSaid : Prop := fnRightsAddFullRow.holds Try.pinned (OpenSpec.ofChange fnRightsAddFullSpec)

/-- ITS FALSE NEIGHBOUR: 'it returns false'. Refute it at one input. -/
def fnRightsAddFullWrong : ChangeSpec := { name := "fnRightsAddFull", fn := fun _ => fun
  | [d] => { results := [.lit (.bool false)], args := [d] }
  | _ => none }
def FnRightsAddFullWrongFalsely : Prop := fnRightsAddFullRow.holds Try.pinned (OpenSpec.ofChange fnRightsAddFullWrong)

/-- 'laws.FnRightsDrop': WHATEVER THE INPUT: true; the input reads as it did. -/
def fnRightsDropSpec : ChangeSpec := { name := "fnRightsDrop", fn := fun _ => fun
  | [d] => { results := [.lit (.bool true)], args := [d] }
  | _ => none }
def fnRightsDropRow : OpenClaim := { program := "ytjakelpdnmnofaa", sum := "ae01562db48193a91f57343a7a79b6b89f3f8b6a520ce4e020722f349a232d8c", func := "loop.example/exopager/laws.FnRightsDrop", spec := "fnRightsDrop", unfollowed := true, recurses := true, apart := false }
def FnRightsDropSaid : Prop := fnRightsDropRow.holds Try.pinned (OpenSpec.ofChange fnRightsDropSpec)

/-- ITS FALSE NEIGHBOUR: 'it returns false'. Refute it at one input. -/
def fnRightsDropWrong : ChangeSpec := { name := "fnRightsDrop", fn := fun _ => fun
  | [d] => { results := [.lit (.bool false)], args := [d] }
  | _ => none }
def FnRightsDropWrongFalsely : Prop := fnRightsDropRow.holds Try.pinned (OpenSpec.ofChange fnRightsDropWrong)

/-- 'laws.FnRightsPart': WHATEVER THE INPUT: true; the input reads as it did. -/
def fnRightsPartSpec : ChangeSpec := { name := "fnRightsPart", fn := fun _ => fun
  | [d1, d2] => { results := [.lit (.bool true)], args := [d1, d2] }
  | _ => none }
def fnRightsPartRow : OpenClaim := { program := "ytjakelpdnmnofaa", sum := "ae01562db48193a91f57343a7a79b6b89f3f8b6a520ce4e020722f349a232d8c", func := "loop.example/exopager/laws.FnRightsPart", spec := "fnRightsPart", apart := false }
def FnRightsPartSaid : Prop := fnRightsPartRow.holds Try.pinned (OpenSpec.ofChange fnRightsPartSpec)

/-- ITS FALSE NEIGHBOUR: 'it returns false'. Refute it at one input. -/
def fnRightsPartWrong : ChangeSpec := { name := "fnRightsPart", fn := fun _ => fun
  | [d1, d2] => { results := [.lit (.bool false)], args := [d1, d2] }
  | _ => none }
def FnRightsPartWrongFalsely : Prop := fnRightsPartRow.holds Try.pinned (OpenSpec.ofChange fnRightsPartWrong)

/-- 'laws.FnExactRightValid': WHATEVER THE INPUT: true; the input reads as it did. -/
def fnExactRightValidSpec : ChangeSpec := { name := "fnExactRightValid", fn := fun _ => fun
  | [d] => { results := [.lit (.bool true)], args := [d] }
  | _ => none }
def fnExactRightValidRow : OpenClaim := { program := "ytjakelpdnmnofaa", sum := "ae01562db48193a91f57343a7a79b6b89f3f8b6a520ce4e020722f349a232d8c", func := "loop.example/exopager/laws.FnExactRightValid", spec := "fnExactRightValid", apart := false }
def FnExactRightValidSaid : Prop := fnExactRightValidRow.holds Try.pinned (OpenSpec.ofChange fnExactRightValidSpec)

/-- ITS FALSE NEIGHBOUR: 'it returns false'. Refute it at one input. -/
def fnExactRightValidWrong : ChangeSpec := { name := "fnExactRightValid", fn := fun _ => fun
  | [d] => { results := [.lit (.bool false)], args := [d] }
  | _ => none }
def FnExactRightValidWrongFalsely : Prop := fnExactRightValidRow.holds Try.pinned (OpenSpec.ofChange fnExactRightValidWrong)

/-- 'laws.FnExactRightCovers': WHATEVER THE INPUT: true; the input reads as it did. -/
def fnExactRightCoversSpec : ChangeSpec := { name := "fnExactRightCovers", fn := fun _ => fun
  | [d1, d2] => { results := [.lit (.bool true)], args := [d1, d2] }
  | _ => none }
def fnExactRightCoversRow : OpenClaim := { program := "ytjakelpdnmnofaa", sum := "ae01562db48193a91f57343a7a79b6b89f3f8b6a520ce4e020722f349a232d8c", func := "loop.example/exopager/laws.FnExactRightCovers", spec := "fnExactRightCovers", apart := false }
def FnExactRightCoversSaid : Prop := fnExactRightCoversRow.holds Try.pinned (OpenSpec.ofChange fnExactRightCoversSpec)

/-- ITS FALSE NEIGHBOUR: 'it returns false'. Refute it at one input. -/
def fnExactRightCoversWrong : ChangeSpec := { name := "fnExactRightCovers", fn := fun _ => fun
  | [d1, d2] => { results := [.lit (.bool false)], args := [d1, d2] }
  | _ => none }
def FnExactRightCoversWrongFalsely : Prop := fnExactRightCoversRow.holds Try.pinned (OpenSpec.ofChange fnExactRightCoversWrong)

/-- 'laws.FnExactRightsValid': WHATEVER THE INPUT: true; the input reads as it did. -/
def fnExactRightsValidSpec : ChangeSpec := { name := "fnExactRightsValid", fn := fun _ => fun
  | [d] => { results := [.lit (.bool true)], args := [d] }
  | _ => none }
def fnExactRightsValidRow : OpenClaim := { program := "ytjakelpdnmnofaa", sum := "ae01562db48193a91f57343a7a79b6b89f3f8b6a520ce4e020722f349a232d8c", func := "loop.example/exopager/laws.FnExactRightsValid", spec := "fnExactRightsValid", apart := false }
def FnExactRightsValidSaid : Prop := fnExactRightsValidRow.holds Try.pinned (OpenSpec.ofChange fnExactRightsValidSpec)

/-- ITS FALSE NEIGHBOUR: 'it returns false'. Refute it at one input. -/
def fnExactRightsValidWrong : ChangeSpec := { name := "fnExactRightsValid", fn := fun _ => fun
  | [d] => { results := [.lit (.bool false)], args := [d] }
  | _ => none }
def FnExactRightsValidWrongFalsely : Prop := fnExactRightsValidRow.holds Try.pinned (OpenSpec.ofChange fnExactRightsValidWrong)

/-- 'laws.FnExactRightsMay': WHATEVER THE INPUT: true; the input reads as it did. -/
def fnExactRightsMaySpec : ChangeSpec := { name := "fnExactRightsMay", fn := fun _ => fun
  | [d1, d2] => { results := [.lit (.bool true)], args := [d1, d2] }
  | _ => none }
def fnExactRightsMayRow : OpenClaim := { program := "ytjakelpdnmnofaa", sum := "ae01562db48193a91f57343a7a79b6b89f3f8b6a520ce4e020722f349a232d8c", func := "loop.example/exopager/laws.FnExactRightsMay", spec := "fnExactRightsMay", apart := false }
def FnExactRightsMaySaid : Prop := fnExactRightsMayRow.holds Try.pinned (OpenSpec.ofChange fnExactRightsMaySpec)

/-- ITS FALSE NEIGHBOUR: 'it returns false'. Refute it at one input. -/
def fnExactRightsMayWrong : ChangeSpec := { name := "fnExactRightsMay", fn := fun _ => fun
  | [d1, d2] => { results := [.lit (.bool false)], args := [d1, d2] }
  | _ => none }
def FnExactRightsMayWrongFalsely : Prop := fnExactRightsMayRow.holds Try.pinned (OpenSpec.ofChange fnExactRightsMayWrong)

/-- 'laws.FnExactRightsAdd': WHATEVER THE INPUT: true; the input reads as it did. -/
def fnExactRightsAddSpec : ChangeSpec := { name := "fnExactRightsAdd", fn := fun _ => fun
  | [d1, d2] => { results := [.lit (.bool true)], args := [d1, d2] }
  | _ => none }
def fnExactRightsAddRow : OpenClaim := { program := "ytjakelpdnmnofaa", sum := "ae01562db48193a91f57343a7a79b6b89f3f8b6a520ce4e020722f349a232d8c", func := "loop.example/exopager/laws.FnExactRightsAdd", spec := "fnExactRightsAdd", unfollowed := true, recurses := true, apart := false }
def FnExactRightsAddSaid : Prop := fnExactRightsAddRow.holds Try.pinned (OpenSpec.ofChange fnExactRightsAddSpec)

/-- ITS FALSE NEIGHBOUR: 'it returns false'. Refute it at one input. -/
def fnExactRightsAddWrong : ChangeSpec := { name := "fnExactRightsAdd", fn := fun _ => fun
  | [d1, d2] => { results := [.lit (.bool false)], args := [d1, d2] }
  | _ => none }
def FnExactRightsAddWrongFalsely : Prop := fnExactRightsAddRow.holds Try.pinned (OpenSpec.ofChange fnExactRightsAddWrong)

/-- 'laws.FnExactRightsDrop': WHATEVER THE INPUT: true; the input reads as it did. -/
def fnExactRightsDropSpec : ChangeSpec := { name := "fnExactRightsDrop", fn := fun _ => fun
  | [d1, d2] => { results := [.lit (.bool true)], args := [d1, d2] }
  | _ => none }
def fnExactRightsDropRow : OpenClaim := { program := "ytjakelpdnmnofaa", sum := "ae01562db48193a91f57343a7a79b6b89f3f8b6a520ce4e020722f349a232d8c", func := "loop.example/exopager/laws.FnExactRightsDrop", spec := "fnExactRightsDrop", unfollowed := true, recurses := true, apart := false }
def FnExactRightsDropSaid : Prop := fnExactRightsDropRow.holds Try.pinned (OpenSpec.ofChange fnExactRightsDropSpec)

/-- ITS FALSE NEIGHBOUR: 'it returns false'. Refute it at one input. -/
def fnExactRightsDropWrong : ChangeSpec := { name := "fnExactRightsDrop", fn := fun _ => fun
  | [d1, d2] => { results := [.lit (.bool false)], args := [d1, d2] }
  | _ => none }
def FnExactRightsDropWrongFalsely : Prop := fnExactRightsDropRow.holds Try.pinned (OpenSpec.ofChange fnExactRightsDropWrong)

/- THE SECOND FORM. 'bulk': how many values and letters a reading holds, each counted each time it is reached (what is shared counts as often as it is met; a slice's spare places count too). A statement '..UptoSaid' is the law's where the arguments, and the package variables that the reading takes, are together of bulk at most 1048576: NARROWER than '..Said'. Prove '..Said' where nothing that the law and all that it calls make is longer than what came in: it says more and counts as full. Else prove '..UptoSaid'. A law counts once. -/
mutual
def uptoBulk {H : Type} : DataW H → Nat
  | .lit (.string bytes) => bytes.length + 1
  | .lit _ => 1
  | .nil => 1
  | .ptr d => uptoBulk d + 1
  | .slice elems spare => uptoBulkAll elems + uptoBulkAll spare + 1
  | .agg parts => uptoBulkAll parts + 1
  | .iface _ d => uptoBulk d + 1
  | .map entries => uptoBulkEntries entries + 1
  | .held _ => 1
def uptoBulkAll {H : Type} : List (DataW H) → Nat
  | [] => 0
  | d :: r => uptoBulk d + uptoBulkAll r
def uptoBulkEntries {H : Type} : List (Lit × DataW H) → Nat
  | [] => 0
  | x :: r => uptoBulkEntry x + uptoBulkEntries r
def uptoBulkEntry {H : Type} : Lit × DataW H → Nat
  | (.string bytes, d) => bytes.length + uptoBulk d + 1
  | (_, d) => uptoBulk d + 1
 end
def uptoSmall : (H : Type) → List (DataW H) → Bool := fun _ ds => decide (uptoBulkAll ds ≤ 1048576)
def OpenSpec.upto (s : _root_.Go.ChangeSpec) : _root_.Go.OpenSpec := { _root_.Go.OpenSpec.ofChange s with cond := some uptoSmall }

/-- 'laws.FnRightPart', WHERE WHAT IT READS IS OF BULK AT MOST 1048576: true; the input reads as it did. -/
def fnRightPartUptoRow : OpenClaim := { program := "ytjakelpdnmnofaa", sum := "ae01562db48193a91f57343a7a79b6b89f3f8b6a520ce4e020722f349a232d8c", func := "loop.example/exopager/laws.FnRightPart", spec := "fnRightPart", apart := false, narrowed := true }
def FnRightPartUptoSaid : Prop := fnRightPartUptoRow.holds Try.pinned (OpenSpec.upto fnRightPartSpec)

/-- 'laws.FnRightCovers', WHERE WHAT IT READS IS OF BULK AT MOST 1048576: true; the input reads as it did. -/
def fnRightCoversUptoRow : OpenClaim := { program := "ytjakelpdnmnofaa", sum := "ae01562db48193a91f57343a7a79b6b89f3f8b6a520ce4e020722f349a232d8c", func := "loop.example/exopager/laws.FnRightCovers", spec := "fnRightCovers", apart := false, narrowed := true }
def FnRightCoversUptoSaid : Prop := fnRightCoversUptoRow.holds Try.pinned (OpenSpec.upto fnRightCoversSpec)

/-- 'laws.FnRightCoversTwo', WHERE WHAT IT READS IS OF BULK AT MOST 1048576: true; the input reads as it did. -/
def fnRightCoversTwoUptoRow : OpenClaim := { program := "ytjakelpdnmnofaa", sum := "ae01562db48193a91f57343a7a79b6b89f3f8b6a520ce4e020722f349a232d8c", func := "loop.example/exopager/laws.FnRightCoversTwo", spec := "fnRightCoversTwo", apart := false, narrowed := true }
def FnRightCoversTwoUptoSaid : Prop := fnRightCoversTwoUptoRow.holds Try.pinned (OpenSpec.upto fnRightCoversTwoSpec)

/-- 'laws.FnRightsMay', WHERE WHAT IT READS IS OF BULK AT MOST 1048576: true; the input reads as it did. -/
def fnRightsMayUptoRow : OpenClaim := { program := "ytjakelpdnmnofaa", sum := "ae01562db48193a91f57343a7a79b6b89f3f8b6a520ce4e020722f349a232d8c", func := "loop.example/exopager/laws.FnRightsMay", spec := "fnRightsMay", apart := false, narrowed := true }
def FnRightsMayUptoSaid : Prop := fnRightsMayUptoRow.holds Try.pinned (OpenSpec.upto fnRightsMaySpec)

/-- 'laws.FnRightsMayLong', WHERE WHAT IT READS IS OF BULK AT MOST 1048576: true; the input reads as it did. -/
def fnRightsMayLongUptoRow : OpenClaim := { program := "ytjakelpdnmnofaa", sum := "ae01562db48193a91f57343a7a79b6b89f3f8b6a520ce4e020722f349a232d8c", func := "loop.example/exopager/laws.FnRightsMayLong", spec := "fnRightsMayLong", apart := false, narrowed := true }
def FnRightsMayLongUptoSaid : Prop := fnRightsMayLongUptoRow.holds Try.pinned (OpenSpec.upto fnRightsMayLongSpec)

/-- 'laws.FnRightsAdd', WHERE WHAT IT READS IS OF BULK AT MOST 1048576: true; the input reads as it did. -/
def fnRightsAddUptoRow : OpenClaim := { program := "ytjakelpdnmnofaa", sum := "ae01562db48193a91f57343a7a79b6b89f3f8b6a520ce4e020722f349a232d8c", func := "loop.example/exopager/laws.FnRightsAdd", spec := "fnRightsAdd", unfollowed := true, recurses := true, apart := false, narrowed := true }
def FnRightsAddUptoSaid : Prop := fnRightsAddUptoRow.holds Try.pinned (OpenSpec.upto fnRightsAddSpec)

/-- 'laws.FnRightsAddFull', WHERE WHAT IT READS IS OF BULK AT MOST 1048576: true; the input reads as it did. -/
def fnRightsAddFullUptoRow : OpenClaim := { program := "ytjakelpdnmnofaa", sum := "ae01562db48193a91f57343a7a79b6b89f3f8b6a520ce4e020722f349a232d8c", func := "loop.example/exopager/laws.FnRightsAddFull", spec := "fnRightsAddFull", unfollowed := true, recurses := true, apart := false, narrowed := true }
def FnRightsAddFullUptoSaid : Prop := fnRightsAddFullUptoRow.holds Try.pinned (OpenSpec.upto fnRightsAddFullSpec)

/-- 'laws.FnRightsDrop', WHERE WHAT IT READS IS OF BULK AT MOST 1048576: true; the input reads as it did. -/
def fnRightsDropUptoRow : OpenClaim := { program := "ytjakelpdnmnofaa", sum := "ae01562db48193a91f57343a7a79b6b89f3f8b6a520ce4e020722f349a232d8c", func := "loop.example/exopager/laws.FnRightsDrop", spec := "fnRightsDrop", unfollowed := true, recurses := true, apart := false, narrowed := true }
def FnRightsDropUptoSaid : Prop := fnRightsDropUptoRow.holds Try.pinned (OpenSpec.upto fnRightsDropSpec)

/-- 'laws.FnRightsPart', WHERE WHAT IT READS IS OF BULK AT MOST 1048576: true; the input reads as it did. -/
def fnRightsPartUptoRow : OpenClaim := { program := "ytjakelpdnmnofaa", sum := "ae01562db48193a91f57343a7a79b6b89f3f8b6a520ce4e020722f349a232d8c", func := "loop.example/exopager/laws.FnRightsPart", spec := "fnRightsPart", apart := false, narrowed := true }
def FnRightsPartUptoSaid : Prop := fnRightsPartUptoRow.holds Try.pinned (OpenSpec.upto fnRightsPartSpec)

/-- 'laws.FnExactRightValid', WHERE WHAT IT READS IS OF BULK AT MOST 1048576: true; the input reads as it did. -/
def fnExactRightValidUptoRow : OpenClaim := { program := "ytjakelpdnmnofaa", sum := "ae01562db48193a91f57343a7a79b6b89f3f8b6a520ce4e020722f349a232d8c", func := "loop.example/exopager/laws.FnExactRightValid", spec := "fnExactRightValid", apart := false, narrowed := true }
def FnExactRightValidUptoSaid : Prop := fnExactRightValidUptoRow.holds Try.pinned (OpenSpec.upto fnExactRightValidSpec)

/-- 'laws.FnExactRightCovers', WHERE WHAT IT READS IS OF BULK AT MOST 1048576: true; the input reads as it did. -/
def fnExactRightCoversUptoRow : OpenClaim := { program := "ytjakelpdnmnofaa", sum := "ae01562db48193a91f57343a7a79b6b89f3f8b6a520ce4e020722f349a232d8c", func := "loop.example/exopager/laws.FnExactRightCovers", spec := "fnExactRightCovers", apart := false, narrowed := true }
def FnExactRightCoversUptoSaid : Prop := fnExactRightCoversUptoRow.holds Try.pinned (OpenSpec.upto fnExactRightCoversSpec)

/-- 'laws.FnExactRightsValid', WHERE WHAT IT READS IS OF BULK AT MOST 1048576: true; the input reads as it did. -/
def fnExactRightsValidUptoRow : OpenClaim := { program := "ytjakelpdnmnofaa", sum := "ae01562db48193a91f57343a7a79b6b89f3f8b6a520ce4e020722f349a232d8c", func := "loop.example/exopager/laws.FnExactRightsValid", spec := "fnExactRightsValid", apart := false, narrowed := true }
def FnExactRightsValidUptoSaid : Prop := fnExactRightsValidUptoRow.holds Try.pinned (OpenSpec.upto fnExactRightsValidSpec)

/-- 'laws.FnExactRightsMay', WHERE WHAT IT READS IS OF BULK AT MOST 1048576: true; the input reads as it did. -/
def fnExactRightsMayUptoRow : OpenClaim := { program := "ytjakelpdnmnofaa", sum := "ae01562db48193a91f57343a7a79b6b89f3f8b6a520ce4e020722f349a232d8c", func := "loop.example/exopager/laws.FnExactRightsMay", spec := "fnExactRightsMay", apart := false, narrowed := true }
def FnExactRightsMayUptoSaid : Prop := fnExactRightsMayUptoRow.holds Try.pinned (OpenSpec.upto fnExactRightsMaySpec)

/-- 'laws.FnExactRightsAdd', WHERE WHAT IT READS IS OF BULK AT MOST 1048576: true; the input reads as it did. -/
def fnExactRightsAddUptoRow : OpenClaim := { program := "ytjakelpdnmnofaa", sum := "ae01562db48193a91f57343a7a79b6b89f3f8b6a520ce4e020722f349a232d8c", func := "loop.example/exopager/laws.FnExactRightsAdd", spec := "fnExactRightsAdd", unfollowed := true, recurses := true, apart := false, narrowed := true }
def FnExactRightsAddUptoSaid : Prop := fnExactRightsAddUptoRow.holds Try.pinned (OpenSpec.upto fnExactRightsAddSpec)

/-- 'laws.FnExactRightsDrop', WHERE WHAT IT READS IS OF BULK AT MOST 1048576: true; the input reads as it did. -/
def fnExactRightsDropUptoRow : OpenClaim := { program := "ytjakelpdnmnofaa", sum := "ae01562db48193a91f57343a7a79b6b89f3f8b6a520ce4e020722f349a232d8c", func := "loop.example/exopager/laws.FnExactRightsDrop", spec := "fnExactRightsDrop", unfollowed := true, recurses := true, apart := false, narrowed := true }
def FnExactRightsDropUptoSaid : Prop := fnExactRightsDropUptoRow.holds Try.pinned (OpenSpec.upto fnExactRightsDropSpec)

end Rows
end Go.Proofs.Ytjakelpdnmnofaa
