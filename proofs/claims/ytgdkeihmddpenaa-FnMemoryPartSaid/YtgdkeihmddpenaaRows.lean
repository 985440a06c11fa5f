/-
  No cell of these rows narrows 'for every input' (looked for: loops, veiled, ifaces, maps, wideKeys, modest, calm, conditions, laid).
  DERIVED. THE GIVEN ROWS OF THIS SEAT. 11 by the template 'for every input the law returns true; each argument reads behind the call as it read before'; 0 by the template 'total and deterministic' (their statements: YtgdkeihmddpenaaTotals.lean).
  GIVEN WITH THE SEED: the statements are not yours to turn. If you find one false, say at which input.
  Laid BY PROGRAM, IN A SANDBOX (cutbox-rows.mjs): the forced cells as the released guide's own fill.sh prints them over the translation 9d82cf9e89f0b2e8… (all of the seat's roots in one cut). By AI agents, Wed Nov 11 2026. No macro, syntax, notation, axiom, sorry.
-/
import Derived.Test.YtgdkeihmddpenaaChecked
import GoSem.Claim
import GoSem.ClaimJoined
import GoSem.ClaimMapViews
import Derived.JoinedTies
import Derived.KernelRfl
namespace Go.Proofs.Ytgdkeihmddpenaa
/- THE CELL 'sum', in the pinned program and in every row, IS THE sha256 OF THE DUMP (.gsa) THAT YtgdkeihmddpenaaProg.lean LOADS. Nothing in Lean hashes anything: it is a label: what it is worth is what the hold of that sum in a sandbox is worth. -/
noncomputable def Try.pinned : Pinned := { name := "ytgdkeihmddpenaa", sum := "9d82cf9e89f0b2e8bfb5e4468d50c2ad7d3053c47ed9a4445eb98206185de985", checked := Try.checked }
namespace Rows
def none {H : Type} : Left H := { results := [], args := [] }

/-- 'laws.FnMemoryGet': WHATEVER THE INPUT: true; the input reads as it did. -/
def fnMemoryGetSpec : ChangeSpec := { name := "fnMemoryGet", fn := fun _ => fun
  | [d] => { results := [.lit (.bool true)], args := [d] }
  | _ => none }
def fnMemoryGetRow : OpenClaim := { program := "ytgdkeihmddpenaa", sum := "9d82cf9e89f0b2e8bfb5e4468d50c2ad7d3053c47ed9a4445eb98206185de985", func := "loop.example/exopager/laws.FnMemoryGet", spec := "fnMemoryGet", apart := false }
def FnMemoryGetSaid : Prop := fnMemoryGetRow.holds Try.pinned (OpenSpec.ofChange fnMemoryGetSpec)

/-- ITS FALSE NEIGHBOUR: 'it returns false'. Refute it at one input. -/
def fnMemoryGetWrong : ChangeSpec := { name := "fnMemoryGet", fn := fun _ => fun
  | [d] => { results := [.lit (.bool false)], args := [d] }
  | _ => none }
def FnMemoryGetWrongFalsely : Prop := fnMemoryGetRow.holds Try.pinned (OpenSpec.ofChange fnMemoryGetWrong)

/-- 'laws.FnMemoryPut': WHATEVER THE INPUT: true; the input reads as it did. -/
def fnMemoryPutSpec : ChangeSpec := { name := "fnMemoryPut", fn := fun _ => fun
  | [d] => { results := [.lit (.bool true)], args := [d] }
  | _ => none }
def fnMemoryPutRow : OpenClaim := { program := "ytgdkeihmddpenaa", sum := "9d82cf9e89f0b2e8bfb5e4468d50c2ad7d3053c47ed9a4445eb98206185de985", func := "loop.example/exopager/laws.FnMemoryPut", spec := "fnMemoryPut", apart := false }
def FnMemoryPutSaid : Prop := fnMemoryPutRow.holds Try.pinned (OpenSpec.ofChange fnMemoryPutSpec)

/-- ITS FALSE NEIGHBOUR: 'it returns false'. Refute it at one input. -/
def fnMemoryPutWrong : ChangeSpec := { name := "fnMemoryPut", fn := fun _ => fun
  | [d] => { results := [.lit (.bool false)], args := [d] }
  | _ => none }
def FnMemoryPutWrongFalsely : Prop := fnMemoryPutRow.holds Try.pinned (OpenSpec.ofChange fnMemoryPutWrong)

/-- 'laws.FnMemoryPutBack': WHATEVER THE INPUT: true; the input reads as it did. -/
def fnMemoryPutBackSpec : ChangeSpec := { name := "fnMemoryPutBack", fn := fun _ => fun
  | [d] => { results := [.lit (.bool true)], args := [d] }
  | _ => none }
def fnMemoryPutBackRow : OpenClaim := { program := "ytgdkeihmddpenaa", sum := "9d82cf9e89f0b2e8bfb5e4468d50c2ad7d3053c47ed9a4445eb98206185de985", func := "loop.example/exopager/laws.FnMemoryPutBack", spec := "fnMemoryPutBack", apart := false }
def FnMemoryPutBackSaid : Prop := fnMemoryPutBackRow.holds Try.pinned (OpenSpec.ofChange fnMemoryPutBackSpec)

/-- ITS FALSE NEIGHBOUR: 'it returns false'. Refute it at one input. -/
def fnMemoryPutBackWrong : ChangeSpec := { name := "fnMemoryPutBack", fn := fun _ => fun
  | [d] => { results := [.lit (.bool false)], args := [d] }
  | _ => none }
def FnMemoryPutBackWrongFalsely : Prop := fnMemoryPutBackRow.holds Try.pinned (OpenSpec.ofChange fnMemoryPutBackWrong)

/-- 'laws.FnMemoryCopy': WHATEVER THE INPUT: true; the input reads as it did. -/
def fnMemoryCopySpec : ChangeSpec := { name := "fnMemoryCopy", fn := fun _ => fun
  | [d] => { results := [.lit (.bool true)], args := [d] }
  | _ => none }
def fnMemoryCopyRow : OpenClaim := { program := "ytgdkeihmddpenaa", sum := "9d82cf9e89f0b2e8bfb5e4468d50c2ad7d3053c47ed9a4445eb98206185de985", func := "loop.example/exopager/laws.FnMemoryCopy", spec := "fnMemoryCopy", apart := false }
def FnMemoryCopySaid : Prop := fnMemoryCopyRow.holds Try.pinned (OpenSpec.ofChange fnMemoryCopySpec)

/-- ITS FALSE NEIGHBOUR: 'it returns false'. Refute it at one input. -/
def fnMemoryCopyWrong : ChangeSpec := { name := "fnMemoryCopy", fn := fun _ => fun
  | [d] => { results := [.lit (.bool false)], args := [d] }
  | _ => none }
def FnMemoryCopyWrongFalsely : Prop := fnMemoryCopyRow.holds Try.pinned (OpenSpec.ofChange fnMemoryCopyWrong)

/-- 'laws.FnMemoryClear': WHATEVER THE INPUT: true; the input reads as it did. -/
def fnMemoryClearSpec : ChangeSpec := { name := "fnMemoryClear", fn := fun _ => fun
  | [d] => { results := [.lit (.bool true)], args := [d] }
  | _ => none }
def fnMemoryClearRow : OpenClaim := { program := "ytgdkeihmddpenaa", sum := "9d82cf9e89f0b2e8bfb5e4468d50c2ad7d3053c47ed9a4445eb98206185de985", func := "loop.example/exopager/laws.FnMemoryClear", spec := "fnMemoryClear", apart := false }
def FnMemoryClearSaid : Prop := fnMemoryClearRow.holds Try.pinned (OpenSpec.ofChange fnMemoryClearSpec)

/-- ITS FALSE NEIGHBOUR: 'it returns false'. Refute it at one input. -/
def fnMemoryClearWrong : ChangeSpec := { name := "fnMemoryClear", fn := fun _ => fun
  | [d] => { results := [.lit (.bool false)], args := [d] }
  | _ => none }
def FnMemoryClearWrongFalsely : Prop := fnMemoryClearRow.holds Try.pinned (OpenSpec.ofChange fnMemoryClearWrong)

/-- 'laws.FnMemoryPart': WHATEVER THE INPUT: true; the input reads as it did. -/
def fnMemoryPartSpec : ChangeSpec := { name := "fnMemoryPart", fn := fun _ => fun
  | [d1, d2] => { results := [.lit (.bool true)], args := [d1, d2] }
  | _ => none }
def fnMemoryPartRow : OpenClaim := { program := "ytgdkeihmddpenaa", sum := "9d82cf9e89f0b2e8bfb5e4468d50c2ad7d3053c47ed9a4445eb98206185de985", func := "loop.example/exopager/laws.FnMemoryPart", spec := "fnMemoryPart", apart := false }
def FnMemoryPartSaid : Prop := fnMemoryPartRow.holds Try.pinned (OpenSpec.ofChange fnMemoryPartSpec)

/-- ITS FALSE NEIGHBOUR: 'it returns false'. Refute it at one input. -/
def fnMemoryPartWrong : ChangeSpec := { name := "fnMemoryPart", fn := fun _ => fun
  | [d1, d2] => { results := [.lit (.bool false)], args := [d1, d2] }
  | _ => none }
def FnMemoryPartWrongFalsely : Prop := fnMemoryPartRow.holds Try.pinned (OpenSpec.ofChange fnMemoryPartWrong)

/-- 'laws.FnExactMemoryValid': WHATEVER THE INPUT: true; the input reads as it did. -/
def fnExactMemoryValidSpec : ChangeSpec := { name := "fnExactMemoryValid", fn := fun _ => fun
  | [d] => { results := [.lit (.bool true)], args := [d] }
  | _ => none }
def fnExactMemoryValidRow : OpenClaim := { program := "ytgdkeihmddpenaa", sum := "9d82cf9e89f0b2e8bfb5e4468d50c2ad7d3053c47ed9a4445eb98206185de985", func := "loop.example/exopager/laws.FnExactMemoryValid", spec := "fnExactMemoryValid", apart := false }
def FnExactMemoryValidSaid : Prop := fnExactMemoryValidRow.holds Try.pinned (OpenSpec.ofChange fnExactMemoryValidSpec)

/-- ITS FALSE NEIGHBOUR: 'it returns false'. Refute it at one input. -/
def fnExactMemoryValidWrong : ChangeSpec := { name := "fnExactMemoryValid", fn := fun _ => fun
  | [d] => { results := [.lit (.bool false)], args := [d] }
  | _ => none }
def FnExactMemoryValidWrongFalsely : Prop := fnExactMemoryValidRow.holds Try.pinned (OpenSpec.ofChange fnExactMemoryValidWrong)

/-- 'laws.FnExactMemoryGet': WHATEVER THE INPUT: true; the input reads as it did. -/
def fnExactMemoryGetSpec : ChangeSpec := { name := "fnExactMemoryGet", fn := fun _ => fun
  | [d1, d2, d3] => { results := [.lit (.bool true)], args := [d1, d2, d3] }
  | _ => none }
def fnExactMemoryGetRow : OpenClaim := { program := "ytgdkeihmddpenaa", sum := "9d82cf9e89f0b2e8bfb5e4468d50c2ad7d3053c47ed9a4445eb98206185de985", func := "loop.example/exopager/laws.FnExactMemoryGet", spec := "fnExactMemoryGet", apart := false }
def FnExactMemoryGetSaid : Prop := fnExactMemoryGetRow.holds Try.pinned (OpenSpec.ofChange fnExactMemoryGetSpec)

/-- ITS FALSE NEIGHBOUR: 'it returns false'. Refute it at one input. -/
def fnExactMemoryGetWrong : ChangeSpec := { name := "fnExactMemoryGet", fn := fun _ => fun
  | [d1, d2, d3] => { results := [.lit (.bool false)], args := [d1, d2, d3] }
  | _ => none }
def FnExactMemoryGetWrongFalsely : Prop := fnExactMemoryGetRow.holds Try.pinned (OpenSpec.ofChange fnExactMemoryGetWrong)

/-- 'laws.FnExactMemoryPut': WHATEVER THE INPUT: true; the input reads as it did. -/
def fnExactMemoryPutSpec : ChangeSpec := { name := "fnExactMemoryPut", fn := fun _ => fun
  | [d1, d2, d3, d4] => { results := [.lit (.bool true)], args := [d1, d2, d3, d4] }
  | _ => none }
def fnExactMemoryPutRow : OpenClaim := { program := "ytgdkeihmddpenaa", sum := "9d82cf9e89f0b2e8bfb5e4468d50c2ad7d3053c47ed9a4445eb98206185de985", func := "loop.example/exopager/laws.FnExactMemoryPut", spec := "fnExactMemoryPut", apart := false }
def FnExactMemoryPutSaid : Prop := fnExactMemoryPutRow.holds Try.pinned (OpenSpec.ofChange fnExactMemoryPutSpec)

/-- ITS FALSE NEIGHBOUR: 'it returns false'. Refute it at one input. -/
def fnExactMemoryPutWrong : ChangeSpec := { name := "fnExactMemoryPut", fn := fun _ => fun
  | [d1, d2, d3, d4] => { results := [.lit (.bool false)], args := [d1, d2, d3, d4] }
  | _ => none }
def FnExactMemoryPutWrongFalsely : Prop := fnExactMemoryPutRow.holds Try.pinned (OpenSpec.ofChange fnExactMemoryPutWrong)

/-- 'laws.FnExactMemoryCopy': WHATEVER THE INPUT: true; the input reads as it did. -/
def fnExactMemoryCopySpec : ChangeSpec := { name := "fnExactMemoryCopy", fn := fun _ => fun
  | [d1, d2, d3] => { results := [.lit (.bool true)], args := [d1, d2, d3] }
  | _ => none }
def fnExactMemoryCopyRow : OpenClaim := { program := "ytgdkeihmddpenaa", sum := "9d82cf9e89f0b2e8bfb5e4468d50c2ad7d3053c47ed9a4445eb98206185de985", func := "loop.example/exopager/laws.FnExactMemoryCopy", spec := "fnExactMemoryCopy", apart := false }
def FnExactMemoryCopySaid : Prop := fnExactMemoryCopyRow.holds Try.pinned (OpenSpec.ofChange fnExactMemoryCopySpec)

/-- ITS FALSE NEIGHBOUR: 'it returns false'. Refute it at one input. -/
def fnExactMemoryCopyWrong : ChangeSpec := { name := "fnExactMemoryCopy", fn := fun _ => fun
  | [d1, d2, d3] => { results := [.lit (.bool false)], args := [d1, d2, d3] }
  | _ => none }
def FnExactMemoryCopyWrongFalsely : Prop := fnExactMemoryCopyRow.holds Try.pinned (OpenSpec.ofChange fnExactMemoryCopyWrong)

/-- 'laws.FnExactMemoryClear': WHATEVER THE INPUT: true; the input reads as it did. -/
def fnExactMemoryClearSpec : ChangeSpec := { name := "fnExactMemoryClear", fn := fun _ => fun
  | [d1, d2] => { results := [.lit (.bool true)], args := [d1, d2] }
  | _ => none }
def fnExactMemoryClearRow : OpenClaim := { program := "ytgdkeihmddpenaa", sum := "9d82cf9e89f0b2e8bfb5e4468d50c2ad7d3053c47ed9a4445eb98206185de985", func := "loop.example/exopager/laws.FnExactMemoryClear", spec := "fnExactMemoryClear", apart := false }
def FnExactMemoryClearSaid : Prop := fnExactMemoryClearRow.holds Try.pinned (OpenSpec.ofChange fnExactMemoryClearSpec)

/-- ITS FALSE NEIGHBOUR: 'it returns false'. Refute it at one input. -/
def fnExactMemoryClearWrong : ChangeSpec := { name := "fnExactMemoryClear", fn := fun _ => fun
  | [d1, d2] => { results := [.lit (.bool false)], args := [d1, d2] }
  | _ => none }
def FnExactMemoryClearWrongFalsely : Prop := fnExactMemoryClearRow.holds Try.pinned (OpenSpec.ofChange fnExactMemoryClearWrong)

/- THE SECOND FORM. 'bulk': how many values and letters a reading holds, each counted each time it is reached (what is shared counts as often as it is met; a slice's spare places count too). A statement '..UptoSaid' is the law's where the arguments, and the package variables that the reading takes, are together of bulk at most 1048576: NARROWER than '..Said'. Prove '..Said' where nothing that the law and all that it calls make is longer than what came in: it says more and counts as full. Else prove '..UptoSaid'. A law counts once. -/
mutual
def uptoBulk {H : Type} : DataW H → Nat
  | .lit (.string bytes) => bytes.length + 1
  | .lit _ => 1
  | .nil => 1
  | .ptr d => uptoBulk d + 1
  | .slice elems spare => uptoBulkAll elems + uptoBulkAll spare + 1
  | .agg parts => uptoBulkAll parts + 1
  | .iface _ d => uptoBulk d + 1
  | .map entries => uptoBulkEntries entries + 1
  | .held _ => 1
def uptoBulkAll {H : Type} : List (DataW H) → Nat
  | [] => 0
  | d :: r => uptoBulk d + uptoBulkAll r
def uptoBulkEntries {H : Type} : List (Lit × DataW H) → Nat
  | [] => 0
  | x :: r => uptoBulkEntry x + uptoBulkEntries r
def uptoBulkEntry {H : Type} : Lit × DataW H → Nat
  | (.string bytes, d) => bytes.length + uptoBulk d + 1
  | (_, d) => uptoBulk d + 1
 end
def uptoSmall : (H : Type) → List (DataW H) → Bool := fun _ ds => decide (uptoBulkAll ds ≤ 1048576)
def OpenSpec.upto (s : _root_.Go.ChangeSpec) : _root_.Go.OpenSpec := { _root_.Go.OpenSpec.ofChange s with cond := some uptoSmall }

/-- 'laws.FnMemoryGet', WHERE WHAT IT READS IS OF BULK AT MOST 1048576: true; the input reads as it did. -/
def fnMemoryGetUptoRow : OpenClaim := { program := "ytgdkeihmddpenaa", sum := "9d82cf9e89f0b2e8bfb5e4468d50c2ad7d3053c47ed9a4445eb98206185de985", func := "loop.example/exopager/laws.FnMemoryGet", spec := "fnMemoryGet", apart := false, narrowed := true }
def FnMemoryGetUptoSaid : Prop := fnMemoryGetUptoRow.holds Try.pinned (OpenSpec.upto fnMemoryGetSpec)

/-- 'laws.FnMemoryPut', WHERE WHAT IT READS IS OF BULK AT MOST 1048576: true; the input reads as it did. -/
def fnMemoryPutUptoRow : OpenClaim := { program := "ytgdkeihmddpenaa", sum := "9d82cf9e89f0b2e8bfb5e4468d50c2ad7d3053c47ed9a4445eb98206185de985", func := "loop.example/exopager/laws.FnMemoryPut", spec := "fnMemoryPut", apart := false, narrowed := true }
def FnMemoryPutUptoSaid : Prop := fnMemoryPutUptoRow.holds Try.pinned (OpenSpec.upto fnMemoryPutSpec)

/-- 'laws.FnMemoryPutBack', WHERE WHAT IT READS IS OF BULK AT MOST 1048576: true; the input reads as it did. -/
def fnMemoryPutBackUptoRow : OpenClaim := { program := "ytgdkeihmddpenaa", sum := "9d82cf9e89f0b2e8bfb5e4468d50c2ad7d3053c47ed9a4445eb98206185de985", func := "loop.example/exopager/laws.FnMemoryPutBack", spec := "fnMemoryPutBack", apart := false, narrowed := true }
def FnMemoryPutBackUptoSaid : Prop := fnMemoryPutBackUptoRow.holds Try.pinned (OpenSpec.upto fnMemoryPutBackSpec)

/-- 'laws.FnMemoryCopy', WHERE WHAT IT READS IS OF BULK AT MOST 1048576: true; the input reads as it did. -/
def fnMemoryCopyUptoRow : OpenClaim := { program := "ytgdkeihmddpenaa", sum := "9d82cf9e89f0b2e8bfb5e4468d50c2ad7d3053c47ed9a4445eb98206185de985", func := "loop.example/exopager/laws.FnMemoryCopy", spec := "fnMemoryCopy", apart := false, narrowed := true }
def FnMemoryCopyUptoSaid : Prop := fnMemoryCopyUptoRow.holds Try.pinned (OpenSpec.upto fnMemoryCopySpec)

/-- 'laws.FnMemoryClear', WHERE WHAT IT READS IS OF BULK AT MOST 1048576: true; the input reads as it did. -/
def fnMemoryClearUptoRow : OpenClaim := { program := "ytgdkeihmddpenaa", sum := "9d82cf9e89f0b2e8bfb5e4468d50c2ad7d3053c47ed9a4445eb98206185de985", func := "loop.example/exopager/laws.FnMemoryClear", spec := "fnMemoryClear", apart := false, narrowed := true }
def FnMemoryClearUptoSaid : Prop := fnMemoryClearUptoRow.holds Try.pinned (OpenSpec.upto fnMemoryClearSpec)

/-- 'laws.FnMemoryPart', WHERE WHAT IT READS IS OF BULK AT MOST 1048576: true; the input reads as it did. -/
def fnMemoryPartUptoRow : OpenClaim := { program := "ytgdkeihmddpenaa", sum := "9d82cf9e89f0b2e8bfb5e4468d50c2ad7d3053c47ed9a4445eb98206185de985", func := "loop.example/exopager/laws.FnMemoryPart", spec := "fnMemoryPart", apart := false, narrowed := true }
def FnMemoryPartUptoSaid : Prop := fnMemoryPartUptoRow.holds Try.pinned (OpenSpec.upto fnMemoryPartSpec)

/-- 'laws.FnExactMemoryValid', WHERE WHAT IT READS IS OF BULK AT MOST 1048576: true; the input reads as it did. -/
def fnExactMemoryValidUptoRow : OpenClaim := { program := "ytgdkeihmddpenaa", sum := "9d82cf9e89f0b2e8bfb5e4468d50c2ad7d3053c47ed9a4445eb98206185de985", func := "loop.example/exopager/laws.FnExactMemoryValid", spec := "fnExactMemoryValid", apart := false, narrowed := true }
def FnExactMemoryValidUptoSaid : Prop := fnExactMemoryValidUptoRow.holds Try.pinned (OpenSpec.upto fnExactMemoryValidSpec)

/-- 'laws.FnExactMemoryGet', WHERE WHAT IT READS IS OF BULK AT MOST 1048576: true; the input reads as it did. -/
def fnExactMemoryGetUptoRow : OpenClaim := { program := "ytgdkeihmddpenaa", sum := "9d82cf9e89f0b2e8bfb5e4468d50c2ad7d3053c47ed9a4445eb98206185de985", func := "loop.example/exopager/laws.FnExactMemoryGet", spec := "fnExactMemoryGet", apart := false, narrowed := true }
def FnExactMemoryGetUptoSaid : Prop := fnExactMemoryGetUptoRow.holds Try.pinned (OpenSpec.upto fnExactMemoryGetSpec)

/-- 'laws.FnExactMemoryPut', WHERE WHAT IT READS IS OF BULK AT MOST 1048576: true; the input reads as it did. -/
def fnExactMemoryPutUptoRow : OpenClaim := { program := "ytgdkeihmddpenaa", sum := "9d82cf9e89f0b2e8bfb5e4468d50c2ad7d3053c47ed9a4445eb98206185de985", func := "loop.example/exopager/laws.FnExactMemoryPut", spec := "fnExactMemoryPut", apart := false, narrowed := true }
def FnExactMemoryPutUptoSaid : Prop := fnExactMemoryPutUptoRow.holds Try.pinned (OpenSpec.upto fnExactMemoryPutSpec)

/-- 'laws.FnExactMemoryCopy', WHERE WHAT IT READS IS OF BULK AT MOST 1048576: true; the input reads as it did. -/
def fnExactMemoryCopyUptoRow : OpenClaim := { program := "ytgdkeihmddpenaa", sum := "9d82cf9e89f0b2e8bfb5e4468d50c2ad7d3053c47ed9a4445eb98206185de985", func := "loop.example/exopager/laws.FnExactMemoryCopy", spec := "fnExactMemoryCopy", apart := false, narrowed := true }
def FnExactMemoryCopyUptoSaid : Prop := fnExactMemoryCopyUptoRow.holds Try.pinned (OpenSpec.upto fnExactMemoryCopySpec)

/-- 'laws.FnExactMemoryClear', WHERE WHAT IT READS IS OF BULK AT MOST 1048576: true; the input reads as it did. -/
def fnExactMemoryClearUptoRow : OpenClaim := { program := "ytgdkeihmddpenaa", sum := "9d82cf9e89f0b2e8bfb5e4468d50c2ad7d3053c47ed9a4445eb98206185de985", func := "loop.example/exopager/laws.FnExactMemoryClear", spec := "fnExactMemoryClear", apart := false, narrowed := true }
def FnExactMemoryClearUptoSaid : Prop := fnExactMemoryClearUptoRow.holds Try.pinned (OpenSpec.upto fnExactMemoryClearSpec)

end Rows
end Go.Proofs.Ytgdkeihmddpenaa
