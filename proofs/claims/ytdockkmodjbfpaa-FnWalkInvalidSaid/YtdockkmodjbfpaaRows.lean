/-
  No cell of these rows narrows 'for every input' (looked for: loops, veiled, ifaces, maps, wideKeys, modest, calm, conditions, laid).
  DERIVED. THE GIVEN ROWS OF THIS SEAT. 9 by the template 'for every input the law returns true; each argument reads behind the call as it read before'; 0 by the template 'total and deterministic' (their statements: YtdockkmodjbfpaaTotals.lean).
  GIVEN WITH THE SEED: the statements are not yours to turn. If you find one false, say at which input.
  Laid BY PROGRAM, IN A SANDBOX (cutbox-rows.mjs): the forced cells as the released guide's own fill.sh prints them over the translation 09d9b505ed41b6f4… (all of the seat's roots in one cut). By AI agents, Wed Nov 11 2026. No macro, syntax, notation, axiom, sorry.
-/
import Derived.Test.YtdockkmodjbfpaaChecked
import GoSem.Claim
import GoSem.ClaimJoined
import GoSem.ClaimMapViews
import Derived.JoinedTies
import Derived.KernelRfl
namespace Go.Proofs.Ytdockkmodjbfpaa
/- THE CELL 'sum', in the pinned program and in every row, IS THE sha256 OF THE DUMP (.gsa) THAT YtdockkmodjbfpaaProg.lean LOADS. Nothing in Lean hashes anything: it is a label: what it is worth is what the hold of that sum in a sandbox is worth. -/
noncomputable def Try.pinned : Pinned := { name := "ytdockkmodjbfpaa", sum := "09d9b505ed41b6f4fb0edbe1dbb73e481402555f8f45529cdb8608b2f5eecb95", checked := Try.checked }
namespace Rows
def none {H : Type} : Left H := { results := [], args := [] }

/-- 'laws.FnWalk': WHATEVER THE INPUT: true; the input reads as it did. -/
def fnWalkSpec : ChangeSpec := { name := "fnWalk", fn := fun _ => fun
  | [d] => { results := [.lit (.bool true)], args := [d] }
  | _ => none }
def fnWalkRow : OpenClaim := { program := "ytdockkmodjbfpaa", sum := "09d9b505ed41b6f4fb0edbe1dbb73e481402555f8f45529cdb8608b2f5eecb95", func := "loop.example/exopager/laws.FnWalk", spec := "fnWalk", apart := false }
def FnWalkSaid : Prop := fnWalkRow.holds Try.pinned (OpenSpec.ofChange fnWalkSpec)

/-- ITS FALSE NEIGHBOUR: 'it returns false'. Refute it at one input. -/
def fnWalkWrong : ChangeSpec := { name := "fnWalk", fn := fun _ => fun
  | [d] => { results := [.lit (.bool false)], args := [d] }
  | _ => none }
def FnWalkWrongFalsely : Prop := fnWalkRow.holds Try.pinned (OpenSpec.ofChange fnWalkWrong)

/-- 'laws.FnWalkTop': WHATEVER THE INPUT: true; the input reads as it did. -/
def fnWalkTopSpec : ChangeSpec := { name := "fnWalkTop", fn := fun _ => fun
  | [d] => { results := [.lit (.bool true)], args := [d] }
  | _ => none }
def fnWalkTopRow : OpenClaim := { program := "ytdockkmodjbfpaa", sum := "09d9b505ed41b6f4fb0edbe1dbb73e481402555f8f45529cdb8608b2f5eecb95", func := "loop.example/exopager/laws.FnWalkTop", spec := "fnWalkTop", apart := false }
def FnWalkTopSaid : Prop := fnWalkTopRow.holds Try.pinned (OpenSpec.ofChange fnWalkTopSpec)

/-- ITS FALSE NEIGHBOUR: 'it returns false'. Refute it at one input. -/
def fnWalkTopWrong : ChangeSpec := { name := "fnWalkTop", fn := fun _ => fun
  | [d] => { results := [.lit (.bool false)], args := [d] }
  | _ => none }
def FnWalkTopWrongFalsely : Prop := fnWalkTopRow.holds Try.pinned (OpenSpec.ofChange fnWalkTopWrong)

/-- 'laws.FnWalkInvalid': WHATEVER THE INPUT: true; the input reads as it did. -/
def fnWalkInvalidSpec : ChangeSpec := { name := "fnWalkInvalid", fn := fun _ => fun
  | [d] => { results := [.lit (.bool true)], args := [d] }
  | _ => none }
def fnWalkInvalidRow : OpenClaim := { program := "ytdockkmodjbfpaa", sum := "09d9b505ed41b6f4fb0edbe1dbb73e481402555f8f45529cdb8608b2f5eecb95", func := "loop.example/exopager/laws.FnWalkInvalid", spec := "fnWalkInvalid", apart := false }
def FnWalkInvalidSaid : Prop := fnWalkInvalidRow.holds Try.pinned (OpenSpec.ofChange fnWalkInvalidSpec)

/-- ITS FALSE NEIGHBOUR: 'it returns false'. Refute it at one input. -/
def fnWalkInvalidWrong : ChangeSpec := { name := "fnWalkInvalid", fn := fun _ => fun
  | [d] => { results := [.lit (.bool false)], args := [d] }
  | _ => none }
def FnWalkInvalidWrongFalsely : Prop := fnWalkInvalidRow.holds Try.pinned (OpenSpec.ofChange fnWalkInvalidWrong)

/-- 'laws.FnWalkPage': WHATEVER THE INPUT: true; the input reads as it did. -/
def fnWalkPageSpec : ChangeSpec := { name := "fnWalkPage", fn := fun _ => fun
  | [d] => { results := [.lit (.bool true)], args := [d] }
  | _ => none }
def fnWalkPageRow : OpenClaim := { program := "ytdockkmodjbfpaa", sum := "09d9b505ed41b6f4fb0edbe1dbb73e481402555f8f45529cdb8608b2f5eecb95", func := "loop.example/exopager/laws.FnWalkPage", spec := "fnWalkPage", apart := false }
def FnWalkPageSaid : Prop := fnWalkPageRow.holds Try.pinned (OpenSpec.ofChange fnWalkPageSpec)

/-- ITS FALSE NEIGHBOUR: 'it returns false'. Refute it at one input. -/
def fnWalkPageWrong : ChangeSpec := { name := "fnWalkPage", fn := fun _ => fun
  | [d] => { results := [.lit (.bool false)], args := [d] }
  | _ => none }
def FnWalkPageWrongFalsely : Prop := fnWalkPageRow.holds Try.pinned (OpenSpec.ofChange fnWalkPageWrong)

/-- 'laws.FnWalkTables': WHATEVER THE INPUT: true; the input reads as it did. -/
def fnWalkTablesSpec : ChangeSpec := { name := "fnWalkTables", fn := fun _ => fun
  | [d] => { results := [.lit (.bool true)], args := [d] }
  | _ => none }
def fnWalkTablesRow : OpenClaim := { program := "ytdockkmodjbfpaa", sum := "09d9b505ed41b6f4fb0edbe1dbb73e481402555f8f45529cdb8608b2f5eecb95", func := "loop.example/exopager/laws.FnWalkTables", spec := "fnWalkTables", unfollowed := true, recurses := true, apart := false }
def FnWalkTablesSaid : Prop := fnWalkTablesRow.holds Try.pinned (OpenSpec.ofChange fnWalkTablesSpec)

/-- ITS FALSE NEIGHBOUR: 'it returns false'. Refute it at one input. -/
def fnWalkTablesWrong : ChangeSpec := { name := "fnWalkTables", fn := fun _ => fun
  | [d] => { results := [.lit (.bool false)], args := [d] }
  | _ => none }
def FnWalkTablesWrongFalsely : Prop := fnWalkTablesRow.holds Try.pinned (OpenSpec.ofChange fnWalkTablesWrong)

/-- 'laws.FnWalkFrames': WHATEVER THE INPUT: true; the input reads as it did. -/
def fnWalkFramesSpec : ChangeSpec := { name := "fnWalkFrames", fn := fun _ => fun
  | [d] => { results := [.lit (.bool true)], args := [d] }
  | _ => none }
def fnWalkFramesRow : OpenClaim := { program := "ytdockkmodjbfpaa", sum := "09d9b505ed41b6f4fb0edbe1dbb73e481402555f8f45529cdb8608b2f5eecb95", func := "loop.example/exopager/laws.FnWalkFrames", spec := "fnWalkFrames", unfollowed := true, recurses := true, apart := false }
def FnWalkFramesSaid : Prop := fnWalkFramesRow.holds Try.pinned (OpenSpec.ofChange fnWalkFramesSpec)

/-- ITS FALSE NEIGHBOUR: 'it returns false'. Refute it at one input. -/
def fnWalkFramesWrong : ChangeSpec := { name := "fnWalkFrames", fn := fun _ => fun
  | [d] => { results := [.lit (.bool false)], args := [d] }
  | _ => none }
def FnWalkFramesWrongFalsely : Prop := fnWalkFramesRow.holds Try.pinned (OpenSpec.ofChange fnWalkFramesWrong)

/-- 'laws.FnExactWalk': WHATEVER THE INPUT: true; the input reads as it did. -/
def fnExactWalkSpec : ChangeSpec := { name := "fnExactWalk", fn := fun _ => fun
  | [d1, d2, d3] => { results := [.lit (.bool true)], args := [d1, d2, d3] }
  | _ => none }
def fnExactWalkRow : OpenClaim := { program := "ytdockkmodjbfpaa", sum := "09d9b505ed41b6f4fb0edbe1dbb73e481402555f8f45529cdb8608b2f5eecb95", func := "loop.example/exopager/laws.FnExactWalk", spec := "fnExactWalk", apart := false }
def FnExactWalkSaid : Prop := fnExactWalkRow.holds Try.pinned (OpenSpec.ofChange fnExactWalkSpec)

/-- ITS FALSE NEIGHBOUR: 'it returns false'. Refute it at one input. -/
def fnExactWalkWrong : ChangeSpec := { name := "fnExactWalk", fn := fun _ => fun
  | [d1, d2, d3] => { results := [.lit (.bool false)], args := [d1, d2, d3] }
  | _ => none }
def FnExactWalkWrongFalsely : Prop := fnExactWalkRow.holds Try.pinned (OpenSpec.ofChange fnExactWalkWrong)

/-- 'laws.FnExactWalkTables': WHATEVER THE INPUT: true; the input reads as it did. -/
def fnExactWalkTablesSpec : ChangeSpec := { name := "fnExactWalkTables", fn := fun _ => fun
  | [d1, d2] => { results := [.lit (.bool true)], args := [d1, d2] }
  | _ => none }
def fnExactWalkTablesRow : OpenClaim := { program := "ytdockkmodjbfpaa", sum := "09d9b505ed41b6f4fb0edbe1dbb73e481402555f8f45529cdb8608b2f5eecb95", func := "loop.example/exopager/laws.FnExactWalkTables", spec := "fnExactWalkTables", unfollowed := true, recurses := true, apart := false }
def FnExactWalkTablesSaid : Prop := fnExactWalkTablesRow.holds Try.pinned (OpenSpec.ofChange fnExactWalkTablesSpec)

/-- ITS FALSE NEIGHBOUR: 'it returns false'. Refute it at one input. -/
def fnExactWalkTablesWrong : ChangeSpec := { name := "fnExactWalkTables", fn := fun _ => fun
  | [d1, d2] => { results := [.lit (.bool false)], args := [d1, d2] }
  | _ => none }
def FnExactWalkTablesWrongFalsely : Prop := fnExactWalkTablesRow.holds Try.pinned (OpenSpec.ofChange fnExactWalkTablesWrong)

/-- 'laws.FnExactWalkFrames': WHATEVER THE INPUT: true; the input reads as it did. -/
def fnExactWalkFramesSpec : ChangeSpec := { name := "fnExactWalkFrames", fn := fun _ => fun
  | [d1, d2] => { results := [.lit (.bool true)], args := [d1, d2] }
  | _ => none }
def fnExactWalkFramesRow : OpenClaim := { program := "ytdockkmodjbfpaa", sum := "09d9b505ed41b6f4fb0edbe1dbb73e481402555f8f45529cdb8608b2f5eecb95", func := "loop.example/exopager/laws.FnExactWalkFrames", spec := "fnExactWalkFrames", unfollowed := true, recurses := true, apart := false }
def FnExactWalkFramesSaid : Prop := fnExactWalkFramesRow.holds Try.pinned (OpenSpec.ofChange fnExactWalkFramesSpec)

/-- ITS FALSE NEIGHBOUR: 'it returns false'. Refute it at one input. -/
def fnExactWalkFramesWrong : ChangeSpec := { name := "fnExactWalkFrames", fn := fun _ => fun
  | [d1, d2] => { results := [.lit (.bool false)], args := [d1, d2] }
  | _ => none }
def FnExactWalkFramesWrongFalsely : Prop := fnExactWalkFramesRow.holds Try.pinned (OpenSpec.ofChange fnExactWalkFramesWrong)

/- THE SECOND FORM. 'bulk': how many values and letters a reading holds, each counted each time it is reached (what is shared counts as often as it is met; a slice's spare places count too). A statement '..UptoSaid' is the law's where the arguments, and the package variables that the reading takes, are together of bulk at most 1048576: NARROWER than '..Said'. Prove '..Said' where nothing that the law and all that it calls make is longer than what came in: it says more and counts as full. Else prove '..UptoSaid'. A law counts once. -/
mutual
def uptoBulk {H : Type} : DataW H → Nat
  | .lit (.string bytes) => bytes.length + 1
  | .lit _ => 1
  | .nil => 1
  | .ptr d => uptoBulk d + 1
  | .slice elems spare => uptoBulkAll elems + uptoBulkAll spare + 1
  | .agg parts => uptoBulkAll parts + 1
  | .iface _ d => uptoBulk d + 1
  | .map entries => uptoBulkEntries entries + 1
  | .held _ => 1
def uptoBulkAll {H : Type} : List (DataW H) → Nat
  | [] => 0
  | d :: r => uptoBulk d + uptoBulkAll r
def uptoBulkEntries {H : Type} : List (Lit × DataW H) → Nat
  | [] => 0
  | x :: r => uptoBulkEntry x + uptoBulkEntries r
def uptoBulkEntry {H : Type} : Lit × DataW H → Nat
  | (.string bytes, d) => bytes.length + uptoBulk d + 1
  | (_, d) => uptoBulk d + 1
 end
def uptoSmall : (H : Type) → List (DataW H) → Bool := fun _ ds => decide (uptoBulkAll ds ≤ 1048576)
def OpenSpec.upto (s : _root_.Go.ChangeSpec) : _root_.Go.OpenSpec := { _root_.Go.OpenSpec.ofChange s with cond := some uptoSmall }

/-- 'laws.FnWalk', WHERE WHAT IT READS IS OF BULK AT MOST 1048576: true; the input reads as it did. -/
def fnWalkUptoRow : OpenClaim := { program := "ytdockkmodjbfpaa", sum := "09d9b505ed41b6f4fb0edbe1dbb73e481402555f8f45529cdb8608b2f5eecb95", func := "loop.example/exopager/laws.FnWalk", spec := "fnWalk", apart := false, narrowed := true }
def FnWalkUptoSaid : Prop := fnWalkUptoRow.holds Try.pinned (OpenSpec.upto fnWalkSpec)

/-- 'laws.FnWalkTop', WHERE WHAT IT READS IS OF BULK AT MOST 1048576: true; the input reads as it did. -/
def fnWalkTopUptoRow : OpenClaim := { program := "ytdockkmodjbfpaa", sum := "09d9b505ed41b6f4fb0edbe1dbb73e481402555f8f45529cdb8608b2f5eecb95", func := "loop.example/exopager/laws.FnWalkTop", spec := "fnWalkTop", apart := false, narrowed := true }
def FnWalkTopUptoSaid : Prop := fnWalkTopUptoRow.holds Try.pinned (OpenSpec.upto fnWalkTopSpec)

/-- 'laws.FnWalkInvalid', WHERE WHAT IT READS IS OF BULK AT MOST 1048576: true; the input reads as it did. -/
def fnWalkInvalidUptoRow : OpenClaim := { program := "ytdockkmodjbfpaa", sum := "09d9b505ed41b6f4fb0edbe1dbb73e481402555f8f45529cdb8608b2f5eecb95", func := "loop.example/exopager/laws.FnWalkInvalid", spec := "fnWalkInvalid", apart := false, narrowed := true }
def FnWalkInvalidUptoSaid : Prop := fnWalkInvalidUptoRow.holds Try.pinned (OpenSpec.upto fnWalkInvalidSpec)

/-- 'laws.FnWalkPage', WHERE WHAT IT READS IS OF BULK AT MOST 1048576: true; the input reads as it did. -/
def fnWalkPageUptoRow : OpenClaim := { program := "ytdockkmodjbfpaa", sum := "09d9b505ed41b6f4fb0edbe1dbb73e481402555f8f45529cdb8608b2f5eecb95", func := "loop.example/exopager/laws.FnWalkPage", spec := "fnWalkPage", apart := false, narrowed := true }
def FnWalkPageUptoSaid : Prop := fnWalkPageUptoRow.holds Try.pinned (OpenSpec.upto fnWalkPageSpec)

/-- 'laws.FnWalkTables', WHERE WHAT IT READS IS OF BULK AT MOST 1048576: true; the input reads as it did. -/
def fnWalkTablesUptoRow : OpenClaim := { program := "ytdockkmodjbfpaa", sum := "09d9b505ed41b6f4fb0edbe1dbb73e481402555f8f45529cdb8608b2f5eecb95", func := "loop.example/exopager/laws.FnWalkTables", spec := "fnWalkTables", unfollowed := true, recurses := true, apart := false, narrowed := true }
def FnWalkTablesUptoSaid : Prop := fnWalkTablesUptoRow.holds Try.pinned (OpenSpec.upto fnWalkTablesSpec)

/-- 'laws.FnWalkFrames', WHERE WHAT IT READS IS OF BULK AT MOST 1048576: true; the input reads as it did. -/
def fnWalkFramesUptoRow : OpenClaim := { program := "ytdockkmodjbfpaa", sum := "09d9b505ed41b6f4fb0edbe1dbb73e481402555f8f45529cdb8608b2f5eecb95", func := "loop.example/exopager/laws.FnWalkFrames", spec := "fnWalkFrames", unfollowed := true, recurses := true, apart := false, narrowed := true }
def FnWalkFramesUptoSaid : Prop := fnWalkFramesUptoRow.holds Try.pinned (OpenSpec.upto fnWalkFramesSpec)

/-- 'laws.FnExactWalk', WHERE WHAT IT READS IS OF BULK AT MOST 1048576: true; the input reads as it did. -/
def fnExactWalkUptoRow : OpenClaim := { program := "ytdockkmodjbfpaa", sum := "09d9b505ed41b6f4fb0edbe1dbb73e481402555f8f45529cdb8608b2f5eecb95", func := "loop.example/exopager/laws.FnExactWalk", spec := "fnExactWalk", apart := false, narrowed := true }
def FnExactWalkUptoSaid : Prop := fnExactWalkUptoRow.holds Try.pinned (OpenSpec.upto fnExactWalkSpec)

/-- 'laws.FnExactWalkTables', WHERE WHAT IT READS IS OF BULK AT MOST 1048576: true; the input reads as it did. -/
def fnExactWalkTablesUptoRow : OpenClaim := { program := "ytdockkmodjbfpaa", sum := "09d9b505ed41b6f4fb0edbe1dbb73e481402555f8f45529cdb8608b2f5eecb95", func := "loop.example/exopager/laws.FnExactWalkTables", spec := "fnExactWalkTables", unfollowed := true, recurses := true, apart := false, narrowed := true }
def FnExactWalkTablesUptoSaid : Prop := fnExactWalkTablesUptoRow.holds Try.pinned (OpenSpec.upto fnExactWalkTablesSpec)

/-- 'laws.FnExactWalkFrames', WHERE WHAT IT READS IS OF BULK AT MOST 1048576: true; the input reads as it did. -/
def fnExactWalkFramesUptoRow : OpenClaim := { program := "ytdockkmodjbfpaa", sum := "09d9b505ed41b6f4fb0edbe1dbb73e481402555f8f45529cdb8608b2f5eecb95", func := "loop.example/exopager/laws.FnExactWalkFrames", spec := "fnExactWalkFrames", unfollowed := true, recurses := true, apart := false, narrowed := true }
def FnExactWalkFramesUptoSaid : Prop := fnExactWalkFramesUptoRow.holds Try.pinned (OpenSpec.upto fnExactWalkFramesSpec)

end Rows
end Go.Proofs.Ytdockkmodjbfpaa
