/-
  No cell of these rows narrows 'for every input' (looked for: loops, veiled, ifaces, maps, wideKeys, modest, calm, conditions, laid).
  DERIVED. THE GIVEN ROWS OF THIS SEAT. 17 by the template 'for every input the law returns true; each argument reads behind the call as it read before'; 0 by the template 'total and deterministic' (their statements: YticnfekjbknomaaTotals.lean).
  GIVEN WITH THE SEED: the statements are not yours to turn. If you find one false, say at which input.
  Laid BY PROGRAM, IN A SANDBOX (cutbox-rows.mjs): the forced cells as the released guide's own fill.sh prints them over the translation 019f500e00d9119e… (all of the seat's roots in one cut). By AI agents, Wed Nov 11 2026. No macro, syntax, notation, axiom, sorry.
-/
import Derived.Test.YticnfekjbknomaaChecked
import GoSem.Claim
import GoSem.ClaimJoined
import GoSem.ClaimMapViews
import Derived.JoinedTies
import Derived.KernelRfl
namespace Go.Proofs.Yticnfekjbknomaa
/- THE CELL 'sum', in the pinned program and in every row, IS THE sha256 OF THE DUMP (.gsa) THAT YticnfekjbknomaaProg.lean LOADS. Nothing in Lean hashes anything: it is a label: what it is worth is what the hold of that sum in a sandbox is worth. -/
noncomputable def Try.pinned : Pinned := { name := "yticnfekjbknomaa", sum := "019f500e00d9119e6cc8485290b4c9e5af1a17dd62a72aacb6f8ceba5eee31a2", checked := Try.checked }
namespace Rows
def none {H : Type} : Left H := { results := [], args := [] }

/-- 'laws.FnTableNeeds': WHATEVER THE INPUT: true; the input reads as it did. -/
def fnTableNeedsSpec : ChangeSpec := { name := "fnTableNeeds", fn := fun _ => fun
  | [d] => { results := [.lit (.bool true)], args := [d] }
  | _ => none }
def fnTableNeedsRow : OpenClaim := { program := "yticnfekjbknomaa", sum := "019f500e00d9119e6cc8485290b4c9e5af1a17dd62a72aacb6f8ceba5eee31a2", func := "loop.example/exopager/laws.FnTableNeeds", spec := "fnTableNeeds", apart := false }
def FnTableNeedsSaid : Prop := fnTableNeedsRow.holds Try.pinned (OpenSpec.ofChange fnTableNeedsSpec)

/-- ITS FALSE NEIGHBOUR: 'it returns false'. Refute it at one input. -/
def fnTableNeedsWrong : ChangeSpec := { name := "fnTableNeeds", fn := fun _ => fun
  | [d] => { results := [.lit (.bool false)], args := [d] }
  | _ => none }
def FnTableNeedsWrongFalsely : Prop := fnTableNeedsRow.holds Try.pinned (OpenSpec.ofChange fnTableNeedsWrong)

/-- 'laws.FnTableOk': WHATEVER THE INPUT: true; the input reads as it did. -/
def fnTableOkSpec : ChangeSpec := { name := "fnTableOk", fn := fun _ => fun
  | [d] => { results := [.lit (.bool true)], args := [d] }
  | _ => none }
def fnTableOkRow : OpenClaim := { program := "yticnfekjbknomaa", sum := "019f500e00d9119e6cc8485290b4c9e5af1a17dd62a72aacb6f8ceba5eee31a2", func := "loop.example/exopager/laws.FnTableOk", spec := "fnTableOk", apart := false }
def FnTableOkSaid : Prop := fnTableOkRow.holds Try.pinned (OpenSpec.ofChange fnTableOkSpec)

/-- ITS FALSE NEIGHBOUR: 'it returns false'. Refute it at one input. -/
def fnTableOkWrong : ChangeSpec := { name := "fnTableOk", fn := fun _ => fun
  | [d] => { results := [.lit (.bool false)], args := [d] }
  | _ => none }
def FnTableOkWrongFalsely : Prop := fnTableOkRow.holds Try.pinned (OpenSpec.ofChange fnTableOkWrong)

/-- 'laws.FnTableOkAll': WHATEVER THE INPUT: true; the input reads as it did. -/
def fnTableOkAllSpec : ChangeSpec := { name := "fnTableOkAll", fn := fun _ => fun
  | [d] => { results := [.lit (.bool true)], args := [d] }
  | _ => none }
def fnTableOkAllRow : OpenClaim := { program := "yticnfekjbknomaa", sum := "019f500e00d9119e6cc8485290b4c9e5af1a17dd62a72aacb6f8ceba5eee31a2", func := "loop.example/exopager/laws.FnTableOkAll", spec := "fnTableOkAll", apart := false }
def FnTableOkAllSaid : Prop := fnTableOkAllRow.holds Try.pinned (OpenSpec.ofChange fnTableOkAllSpec)

/-- ITS FALSE NEIGHBOUR: 'it returns false'. Refute it at one input. -/
def fnTableOkAllWrong : ChangeSpec := { name := "fnTableOkAll", fn := fun _ => fun
  | [d] => { results := [.lit (.bool false)], args := [d] }
  | _ => none }
def FnTableOkAllWrongFalsely : Prop := fnTableOkAllRow.holds Try.pinned (OpenSpec.ofChange fnTableOkAllWrong)

/-- 'laws.FnTableEmpty': WHATEVER THE INPUT: true; the input reads as it did. -/
def fnTableEmptySpec : ChangeSpec := { name := "fnTableEmpty", fn := fun _ => fun
  | [d] => { results := [.lit (.bool true)], args := [d] }
  | _ => none }
def fnTableEmptyRow : OpenClaim := { program := "yticnfekjbknomaa", sum := "019f500e00d9119e6cc8485290b4c9e5af1a17dd62a72aacb6f8ceba5eee31a2", func := "loop.example/exopager/laws.FnTableEmpty", spec := "fnTableEmpty", apart := false }
def FnTableEmptySaid : Prop := fnTableEmptyRow.holds Try.pinned (OpenSpec.ofChange fnTableEmptySpec)

/-- ITS FALSE NEIGHBOUR: 'it returns false'. Refute it at one input. -/
def fnTableEmptyWrong : ChangeSpec := { name := "fnTableEmpty", fn := fun _ => fun
  | [d] => { results := [.lit (.bool false)], args := [d] }
  | _ => none }
def FnTableEmptyWrongFalsely : Prop := fnTableEmptyRow.holds Try.pinned (OpenSpec.ofChange fnTableEmptyWrong)

/-- 'laws.FnTableCount': WHATEVER THE INPUT: true; the input reads as it did. -/
def fnTableCountSpec : ChangeSpec := { name := "fnTableCount", fn := fun _ => fun
  | [d] => { results := [.lit (.bool true)], args := [d] }
  | _ => none }
def fnTableCountRow : OpenClaim := { program := "yticnfekjbknomaa", sum := "019f500e00d9119e6cc8485290b4c9e5af1a17dd62a72aacb6f8ceba5eee31a2", func := "loop.example/exopager/laws.FnTableCount", spec := "fnTableCount", unfollowed := true, recurses := true, apart := false }
def FnTableCountSaid : Prop := fnTableCountRow.holds Try.pinned (OpenSpec.ofChange fnTableCountSpec)

/-- ITS FALSE NEIGHBOUR: 'it returns false'. Refute it at one input. -/
def fnTableCountWrong : ChangeSpec := { name := "fnTableCount", fn := fun _ => fun
  | [d] => { results := [.lit (.bool false)], args := [d] }
  | _ => none }
def FnTableCountWrongFalsely : Prop := fnTableCountRow.holds Try.pinned (OpenSpec.ofChange fnTableCountWrong)

/-- 'laws.FnPin': WHATEVER THE INPUT: true; the input reads as it did. -/
def fnPinSpec : ChangeSpec := { name := "fnPin", fn := fun _ => fun
  | [d] => { results := [.lit (.bool true)], args := [d] }
  | _ => none }
def fnPinRow : OpenClaim := { program := "yticnfekjbknomaa", sum := "019f500e00d9119e6cc8485290b4c9e5af1a17dd62a72aacb6f8ceba5eee31a2", func := "loop.example/exopager/laws.FnPin", spec := "fnPin", unfollowed := true, recurses := true, apart := false }
def FnPinSaid : Prop := fnPinRow.holds Try.pinned (OpenSpec.ofChange fnPinSpec)

/-- ITS FALSE NEIGHBOUR: 'it returns false'. Refute it at one input. -/
def fnPinWrong : ChangeSpec := { name := "fnPin", fn := fun _ => fun
  | [d] => { results := [.lit (.bool false)], args := [d] }
  | _ => none }
def FnPinWrongFalsely : Prop := fnPinRow.holds Try.pinned (OpenSpec.ofChange fnPinWrong)

/-- 'laws.FnPinOthers': WHATEVER THE INPUT: true; the input reads as it did. -/
def fnPinOthersSpec : ChangeSpec := { name := "fnPinOthers", fn := fun _ => fun
  | [d] => { results := [.lit (.bool true)], args := [d] }
  | _ => none }
def fnPinOthersRow : OpenClaim := { program := "yticnfekjbknomaa", sum := "019f500e00d9119e6cc8485290b4c9e5af1a17dd62a72aacb6f8ceba5eee31a2", func := "loop.example/exopager/laws.FnPinOthers", spec := "fnPinOthers", unfollowed := true, recurses := true, apart := false }
def FnPinOthersSaid : Prop := fnPinOthersRow.holds Try.pinned (OpenSpec.ofChange fnPinOthersSpec)

/-- ITS FALSE NEIGHBOUR: 'it returns false'. Refute it at one input. -/
def fnPinOthersWrong : ChangeSpec := { name := "fnPinOthers", fn := fun _ => fun
  | [d] => { results := [.lit (.bool false)], args := [d] }
  | _ => none }
def FnPinOthersWrongFalsely : Prop := fnPinOthersRow.holds Try.pinned (OpenSpec.ofChange fnPinOthersWrong)

/-- 'laws.FnPinBusy': WHATEVER THE INPUT: true; the input reads as it did. -/
def fnPinBusySpec : ChangeSpec := { name := "fnPinBusy", fn := fun _ => fun
  | [d] => { results := [.lit (.bool true)], args := [d] }
  | _ => none }
def fnPinBusyRow : OpenClaim := { program := "yticnfekjbknomaa", sum := "019f500e00d9119e6cc8485290b4c9e5af1a17dd62a72aacb6f8ceba5eee31a2", func := "loop.example/exopager/laws.FnPinBusy", spec := "fnPinBusy", unfollowed := true, recurses := true, apart := false }
def FnPinBusySaid : Prop := fnPinBusyRow.holds Try.pinned (OpenSpec.ofChange fnPinBusySpec)

/-- ITS FALSE NEIGHBOUR: 'it returns false'. Refute it at one input. -/
def fnPinBusyWrong : ChangeSpec := { name := "fnPinBusy", fn := fun _ => fun
  | [d] => { results := [.lit (.bool false)], args := [d] }
  | _ => none }
def FnPinBusyWrongFalsely : Prop := fnPinBusyRow.holds Try.pinned (OpenSpec.ofChange fnPinBusyWrong)

/-- 'laws.FnPinBad': WHATEVER THE INPUT: true; the input reads as it did. -/
def fnPinBadSpec : ChangeSpec := { name := "fnPinBad", fn := fun _ => fun
  | [d] => { results := [.lit (.bool true)], args := [d] }
  | _ => none }
def fnPinBadRow : OpenClaim := { program := "yticnfekjbknomaa", sum := "019f500e00d9119e6cc8485290b4c9e5af1a17dd62a72aacb6f8ceba5eee31a2", func := "loop.example/exopager/laws.FnPinBad", spec := "fnPinBad", unfollowed := true, recurses := true, apart := false }
def FnPinBadSaid : Prop := fnPinBadRow.holds Try.pinned (OpenSpec.ofChange fnPinBadSpec)

/-- ITS FALSE NEIGHBOUR: 'it returns false'. Refute it at one input. -/
def fnPinBadWrong : ChangeSpec := { name := "fnPinBad", fn := fun _ => fun
  | [d] => { results := [.lit (.bool false)], args := [d] }
  | _ => none }
def FnPinBadWrongFalsely : Prop := fnPinBadRow.holds Try.pinned (OpenSpec.ofChange fnPinBadWrong)

/-- 'laws.FnPinBack': WHATEVER THE INPUT: true; the input reads as it did. -/
def fnPinBackSpec : ChangeSpec := { name := "fnPinBack", fn := fun _ => fun
  | [d] => { results := [.lit (.bool true)], args := [d] }
  | _ => none }
def fnPinBackRow : OpenClaim := { program := "yticnfekjbknomaa", sum := "019f500e00d9119e6cc8485290b4c9e5af1a17dd62a72aacb6f8ceba5eee31a2", func := "loop.example/exopager/laws.FnPinBack", spec := "fnPinBack", unfollowed := true, recurses := true, apart := false }
def FnPinBackSaid : Prop := fnPinBackRow.holds Try.pinned (OpenSpec.ofChange fnPinBackSpec)

/-- ITS FALSE NEIGHBOUR: 'it returns false'. Refute it at one input. -/
def fnPinBackWrong : ChangeSpec := { name := "fnPinBack", fn := fun _ => fun
  | [d] => { results := [.lit (.bool false)], args := [d] }
  | _ => none }
def FnPinBackWrongFalsely : Prop := fnPinBackRow.holds Try.pinned (OpenSpec.ofChange fnPinBackWrong)

/-- 'laws.FnUnpin': WHATEVER THE INPUT: true; the input reads as it did. -/
def fnUnpinSpec : ChangeSpec := { name := "fnUnpin", fn := fun _ => fun
  | [d] => { results := [.lit (.bool true)], args := [d] }
  | _ => none }
def fnUnpinRow : OpenClaim := { program := "yticnfekjbknomaa", sum := "019f500e00d9119e6cc8485290b4c9e5af1a17dd62a72aacb6f8ceba5eee31a2", func := "loop.example/exopager/laws.FnUnpin", spec := "fnUnpin", unfollowed := true, recurses := true, apart := false }
def FnUnpinSaid : Prop := fnUnpinRow.holds Try.pinned (OpenSpec.ofChange fnUnpinSpec)

/-- ITS FALSE NEIGHBOUR: 'it returns false'. Refute it at one input. -/
def fnUnpinWrong : ChangeSpec := { name := "fnUnpin", fn := fun _ => fun
  | [d] => { results := [.lit (.bool false)], args := [d] }
  | _ => none }
def FnUnpinWrongFalsely : Prop := fnUnpinRow.holds Try.pinned (OpenSpec.ofChange fnUnpinWrong)

/-- 'laws.FnTableSelf': WHATEVER THE INPUT: true; the input reads as it did. -/
def fnTableSelfSpec : ChangeSpec := { name := "fnTableSelf", fn := fun _ => fun
  | [d] => { results := [.lit (.bool true)], args := [d] }
  | _ => none }
def fnTableSelfRow : OpenClaim := { program := "yticnfekjbknomaa", sum := "019f500e00d9119e6cc8485290b4c9e5af1a17dd62a72aacb6f8ceba5eee31a2", func := "loop.example/exopager/laws.FnTableSelf", spec := "fnTableSelf", apart := false }
def FnTableSelfSaid : Prop := fnTableSelfRow.holds Try.pinned (OpenSpec.ofChange fnTableSelfSpec)

/-- ITS FALSE NEIGHBOUR: 'it returns false'. Refute it at one input. -/
def fnTableSelfWrong : ChangeSpec := { name := "fnTableSelf", fn := fun _ => fun
  | [d] => { results := [.lit (.bool false)], args := [d] }
  | _ => none }
def FnTableSelfWrongFalsely : Prop := fnTableSelfRow.holds Try.pinned (OpenSpec.ofChange fnTableSelfWrong)

/-- 'laws.FnExactTableNeeds': WHATEVER THE INPUT: true; the input reads as it did. -/
def fnExactTableNeedsSpec : ChangeSpec := { name := "fnExactTableNeeds", fn := fun _ => fun
  | [d] => { results := [.lit (.bool true)], args := [d] }
  | _ => none }
def fnExactTableNeedsRow : OpenClaim := { program := "yticnfekjbknomaa", sum := "019f500e00d9119e6cc8485290b4c9e5af1a17dd62a72aacb6f8ceba5eee31a2", func := "loop.example/exopager/laws.FnExactTableNeeds", spec := "fnExactTableNeeds", apart := false }
def FnExactTableNeedsSaid : Prop := fnExactTableNeedsRow.holds Try.pinned (OpenSpec.ofChange fnExactTableNeedsSpec)

/-- ITS FALSE NEIGHBOUR: 'it returns false'. Refute it at one input. -/
def fnExactTableNeedsWrong : ChangeSpec := { name := "fnExactTableNeeds", fn := fun _ => fun
  | [d] => { results := [.lit (.bool false)], args := [d] }
  | _ => none }
def FnExactTableNeedsWrongFalsely : Prop := fnExactTableNeedsRow.holds Try.pinned (OpenSpec.ofChange fnExactTableNeedsWrong)

/-- 'laws.FnExactTableOk': WHATEVER THE INPUT: true; the input reads as it did. -/
def fnExactTableOkSpec : ChangeSpec := { name := "fnExactTableOk", fn := fun _ => fun
  | [d1, d2, d3, d4, d5] => { results := [.lit (.bool true)], args := [d1, d2, d3, d4, d5] }
  | _ => none }
def fnExactTableOkRow : OpenClaim := { program := "yticnfekjbknomaa", sum := "019f500e00d9119e6cc8485290b4c9e5af1a17dd62a72aacb6f8ceba5eee31a2", func := "loop.example/exopager/laws.FnExactTableOk", spec := "fnExactTableOk", apart := false }
def FnExactTableOkSaid : Prop := fnExactTableOkRow.holds Try.pinned (OpenSpec.ofChange fnExactTableOkSpec)

/-- ITS FALSE NEIGHBOUR: 'it returns false'. Refute it at one input. -/
def fnExactTableOkWrong : ChangeSpec := { name := "fnExactTableOk", fn := fun _ => fun
  | [d1, d2, d3, d4, d5] => { results := [.lit (.bool false)], args := [d1, d2, d3, d4, d5] }
  | _ => none }
def FnExactTableOkWrongFalsely : Prop := fnExactTableOkRow.holds Try.pinned (OpenSpec.ofChange fnExactTableOkWrong)

/-- 'laws.FnExactTableCount': WHATEVER THE INPUT: true; the input reads as it did. -/
def fnExactTableCountSpec : ChangeSpec := { name := "fnExactTableCount", fn := fun _ => fun
  | [d1, d2] => { results := [.lit (.bool true)], args := [d1, d2] }
  | _ => none }
def fnExactTableCountRow : OpenClaim := { program := "yticnfekjbknomaa", sum := "019f500e00d9119e6cc8485290b4c9e5af1a17dd62a72aacb6f8ceba5eee31a2", func := "loop.example/exopager/laws.FnExactTableCount", spec := "fnExactTableCount", unfollowed := true, recurses := true, apart := false }
def FnExactTableCountSaid : Prop := fnExactTableCountRow.holds Try.pinned (OpenSpec.ofChange fnExactTableCountSpec)

/-- ITS FALSE NEIGHBOUR: 'it returns false'. Refute it at one input. -/
def fnExactTableCountWrong : ChangeSpec := { name := "fnExactTableCount", fn := fun _ => fun
  | [d1, d2] => { results := [.lit (.bool false)], args := [d1, d2] }
  | _ => none }
def FnExactTableCountWrongFalsely : Prop := fnExactTableCountRow.holds Try.pinned (OpenSpec.ofChange fnExactTableCountWrong)

/-- 'laws.FnExactTablePin': WHATEVER THE INPUT: true; the input reads as it did. -/
def fnExactTablePinSpec : ChangeSpec := { name := "fnExactTablePin", fn := fun _ => fun
  | [d1, d2, d3, d4, d5] => { results := [.lit (.bool true)], args := [d1, d2, d3, d4, d5] }
  | _ => none }
def fnExactTablePinRow : OpenClaim := { program := "yticnfekjbknomaa", sum := "019f500e00d9119e6cc8485290b4c9e5af1a17dd62a72aacb6f8ceba5eee31a2", func := "loop.example/exopager/laws.FnExactTablePin", spec := "fnExactTablePin", unfollowed := true, recurses := true, apart := false }
def FnExactTablePinSaid : Prop := fnExactTablePinRow.holds Try.pinned (OpenSpec.ofChange fnExactTablePinSpec)

/-- ITS FALSE NEIGHBOUR: 'it returns false'. Refute it at one input. -/
def fnExactTablePinWrong : ChangeSpec := { name := "fnExactTablePin", fn := fun _ => fun
  | [d1, d2, d3, d4, d5] => { results := [.lit (.bool false)], args := [d1, d2, d3, d4, d5] }
  | _ => none }
def FnExactTablePinWrongFalsely : Prop := fnExactTablePinRow.holds Try.pinned (OpenSpec.ofChange fnExactTablePinWrong)

/-- 'laws.FnExactTableUnpin': WHATEVER THE INPUT: true; the input reads as it did. -/
def fnExactTableUnpinSpec : ChangeSpec := { name := "fnExactTableUnpin", fn := fun _ => fun
  | [d1, d2, d3] => { results := [.lit (.bool true)], args := [d1, d2, d3] }
  | _ => none }
def fnExactTableUnpinRow : OpenClaim := { program := "yticnfekjbknomaa", sum := "019f500e00d9119e6cc8485290b4c9e5af1a17dd62a72aacb6f8ceba5eee31a2", func := "loop.example/exopager/laws.FnExactTableUnpin", spec := "fnExactTableUnpin", unfollowed := true, recurses := true, apart := false }
def FnExactTableUnpinSaid : Prop := fnExactTableUnpinRow.holds Try.pinned (OpenSpec.ofChange fnExactTableUnpinSpec)

/-- ITS FALSE NEIGHBOUR: 'it returns false'. Refute it at one input. -/
def fnExactTableUnpinWrong : ChangeSpec := { name := "fnExactTableUnpin", fn := fun _ => fun
  | [d1, d2, d3] => { results := [.lit (.bool false)], args := [d1, d2, d3] }
  | _ => none }
def FnExactTableUnpinWrongFalsely : Prop := fnExactTableUnpinRow.holds Try.pinned (OpenSpec.ofChange fnExactTableUnpinWrong)

/- THE SECOND FORM. 'bulk': how many values and letters a reading holds, each counted each time it is reached (what is shared counts as often as it is met; a slice's spare places count too). A statement '..UptoSaid' is the law's where the arguments, and the package variables that the reading takes, are together of bulk at most 1048576: NARROWER than '..Said'. Prove '..Said' where nothing that the law and all that it calls make is longer than what came in: it says more and counts as full. Else prove '..UptoSaid'. A law counts once. -/
mutual
def uptoBulk {H : Type} : DataW H → Nat
  | .lit (.string bytes) => bytes.length + 1
  | .lit _ => 1
  | .nil => 1
  | .ptr d => uptoBulk d + 1
  | .slice elems spare => uptoBulkAll elems + uptoBulkAll spare + 1
  | .agg parts => uptoBulkAll parts + 1
  | .iface _ d => uptoBulk d + 1
  | .map entries => uptoBulkEntries entries + 1
  | .held _ => 1
def uptoBulkAll {H : Type} : List (DataW H) → Nat
  | [] => 0
  | d :: r => uptoBulk d + uptoBulkAll r
def uptoBulkEntries {H : Type} : List (Lit × DataW H) → Nat
  | [] => 0
  | x :: r => uptoBulkEntry x + uptoBulkEntries r
def uptoBulkEntry {H : Type} : Lit × DataW H → Nat
  | (.string bytes, d) => bytes.length + uptoBulk d + 1
  | (_, d) => uptoBulk d + 1
 end
def uptoSmall : (H : Type) → List (DataW H) → Bool := fun _ ds => decide (uptoBulkAll ds ≤ 1048576)
def OpenSpec.upto (s : _root_.Go.ChangeSpec) : _root_.Go.OpenSpec := { _root_.Go.OpenSpec.ofChange s with cond := some uptoSmall }

/-- 'laws.FnTableNeeds', WHERE WHAT IT READS IS OF BULK AT MOST 1048576: true; the input reads as it did. -/
def fnTableNeedsUptoRow : OpenClaim := { program := "yticnfekjbknomaa", sum := "019f500e00d9119e6cc8485290b4c9e5af1a17dd62a72aacb6f8ceba5eee31a2", func := "loop.example/exopager/laws.FnTableNeeds", spec := "fnTableNeeds", apart := false, narrowed := true }
def FnTableNeedsUptoSaid : Prop := fnTableNeedsUptoRow.holds Try.pinned (OpenSpec.upto fnTableNeedsSpec)

/-- 'laws.FnTableOk', WHERE WHAT IT READS IS OF BULK AT MOST 1048576: true; the input reads as it did. -/
def fnTableOkUptoRow : OpenClaim := { program := "yticnfekjbknomaa", sum := "019f500e00d9119e6cc8485290b4c9e5af1a17dd62a72aacb6f8ceba5eee31a2", func := "loop.example/exopager/laws.FnTableOk", spec := "fnTableOk", apart := false, narrowed := true }
def FnTableOkUptoSaid : Prop := fnTableOkUptoRow.holds Try.pinned (OpenSpec.upto fnTableOkSpec)

/-- 'laws.FnTableOkAll', WHERE WHAT IT READS IS OF BULK AT MOST 1048576: true; the input reads as it did. -/
def fnTableOkAllUptoRow : OpenClaim := { program := "yticnfekjbknomaa", sum := "019f500e00d9119e6cc8485290b4c9e5af1a17dd62a72aacb6f8ceba5eee31a2", func := "loop.example/exopager/laws.FnTableOkAll", spec := "fnTableOkAll", apart := false, narrowed := true }
def FnTableOkAllUptoSaid : Prop := fnTableOkAllUptoRow.holds Try.pinned (OpenSpec.upto fnTableOkAllSpec)

/-- 'laws.FnTableEmpty', WHERE WHAT IT READS IS OF BULK AT MOST 1048576: true; the input reads as it did. -/
def fnTableEmptyUptoRow : OpenClaim := { program := "yticnfekjbknomaa", sum := "019f500e00d9119e6cc8485290b4c9e5af1a17dd62a72aacb6f8ceba5eee31a2", func := "loop.example/exopager/laws.FnTableEmpty", spec := "fnTableEmpty", apart := false, narrowed := true }
def FnTableEmptyUptoSaid : Prop := fnTableEmptyUptoRow.holds Try.pinned (OpenSpec.upto fnTableEmptySpec)

/-- 'laws.FnTableCount', WHERE WHAT IT READS IS OF BULK AT MOST 1048576: true; the input reads as it did. -/
def fnTableCountUptoRow : OpenClaim := { program := "yticnfekjbknomaa", sum := "019f500e00d9119e6cc8485290b4c9e5af1a17dd62a72aacb6f8ceba5eee31a2", func := "loop.example/exopager/laws.FnTableCount", spec := "fnTableCount", unfollowed := true, recurses := true, apart := false, narrowed := true }
def FnTableCountUptoSaid : Prop := fnTableCountUptoRow.holds Try.pinned (OpenSpec.upto fnTableCountSpec)

/-- 'laws.FnPin', WHERE WHAT IT READS IS OF BULK AT MOST 1048576: true; the input reads as it did. -/
def fnPinUptoRow : OpenClaim := { program := "yticnfekjbknomaa", sum := "019f500e00d9119e6cc8485290b4c9e5af1a17dd62a72aacb6f8ceba5eee31a2", func := "loop.example/exopager/laws.FnPin", spec := "fnPin", unfollowed := true, recurses := true, apart := false, narrowed := true }
def FnPinUptoSaid : Prop := fnPinUptoRow.holds Try.pinned (OpenSpec.upto fnPinSpec)

/-- 'laws.FnPinOthers', WHERE WHAT IT READS IS OF BULK AT MOST 1048576: true; the input reads as it did. -/
def fnPinOthersUptoRow : OpenClaim := { program := "yticnfekjbknomaa", sum := "019f500e00d9119e6cc8485290b4c9e5af1a17dd62a72aacb6f8ceba5eee31a2", func := "loop.example/exopager/laws.FnPinOthers", spec := "fnPinOthers", unfollowed := true, recurses := true, apart := false, narrowed := true }
def FnPinOthersUptoSaid : Prop := fnPinOthersUptoRow.holds Try.pinned (OpenSpec.upto fnPinOthersSpec)

/-- 'laws.FnPinBusy', WHERE WHAT IT READS IS OF BULK AT MOST 1048576: true; the input reads as it did. -/
def fnPinBusyUptoRow : OpenClaim := { program := "yticnfekjbknomaa", sum := "019f500e00d9119e6cc8485290b4c9e5af1a17dd62a72aacb6f8ceba5eee31a2", func := "loop.example/exopager/laws.FnPinBusy", spec := "fnPinBusy", unfollowed := true, recurses := true, apart := false, narrowed := true }
def FnPinBusyUptoSaid : Prop := fnPinBusyUptoRow.holds Try.pinned (OpenSpec.upto fnPinBusySpec)

/-- 'laws.FnPinBad', WHERE WHAT IT READS IS OF BULK AT MOST 1048576: true; the input reads as it did. -/
def fnPinBadUptoRow : OpenClaim := { program := "yticnfekjbknomaa", sum := "019f500e00d9119e6cc8485290b4c9e5af1a17dd62a72aacb6f8ceba5eee31a2", func := "loop.example/exopager/laws.FnPinBad", spec := "fnPinBad", unfollowed := true, recurses := true, apart := false, narrowed := true }
def FnPinBadUptoSaid : Prop := fnPinBadUptoRow.holds Try.pinned (OpenSpec.upto fnPinBadSpec)

/-- 'laws.FnPinBack', WHERE WHAT IT READS IS OF BULK AT MOST 1048576: true; the input reads as it did. -/
def fnPinBackUptoRow : OpenClaim := { program := "yticnfekjbknomaa", sum := "019f500e00d9119e6cc8485290b4c9e5af1a17dd62a72aacb6f8ceba5eee31a2", func := "loop.example/exopager/laws.FnPinBack", spec := "fnPinBack", unfollowed := true, recurses := true, apart := false, narrowed := true }
def FnPinBackUptoSaid : Prop := fnPinBackUptoRow.holds Try.pinned (OpenSpec.upto fnPinBackSpec)

/-- 'laws.FnUnpin', WHERE WHAT IT READS IS OF BULK AT MOST 1048576: true; the input reads as it did. -/
def fnUnpinUptoRow : OpenClaim := { program := "yticnfekjbknomaa", sum := "019f500e00d9119e6cc8485290b4c9e5af1a17dd62a72aacb6f8ceba5eee31a2", func := "loop.example/exopager/laws.FnUnpin", spec := "fnUnpin", unfollowed := true, recurses := true, apart := false, narrowed := true }
def FnUnpinUptoSaid : Prop := fnUnpinUptoRow.holds Try.pinned (OpenSpec.upto fnUnpinSpec)

/-- 'laws.FnTableSelf', WHERE WHAT IT READS IS OF BULK AT MOST 1048576: true; the input reads as it did. -/
def fnTableSelfUptoRow : OpenClaim := { program := "yticnfekjbknomaa", sum := "019f500e00d9119e6cc8485290b4c9e5af1a17dd62a72aacb6f8ceba5eee31a2", func := "loop.example/exopager/laws.FnTableSelf", spec := "fnTableSelf", apart := false, narrowed := true }
def FnTableSelfUptoSaid : Prop := fnTableSelfUptoRow.holds Try.pinned (OpenSpec.upto fnTableSelfSpec)

/-- 'laws.FnExactTableNeeds', WHERE WHAT IT READS IS OF BULK AT MOST 1048576: true; the input reads as it did. -/
def fnExactTableNeedsUptoRow : OpenClaim := { program := "yticnfekjbknomaa", sum := "019f500e00d9119e6cc8485290b4c9e5af1a17dd62a72aacb6f8ceba5eee31a2", func := "loop.example/exopager/laws.FnExactTableNeeds", spec := "fnExactTableNeeds", apart := false, narrowed := true }
def FnExactTableNeedsUptoSaid : Prop := fnExactTableNeedsUptoRow.holds Try.pinned (OpenSpec.upto fnExactTableNeedsSpec)

/-- 'laws.FnExactTableOk', WHERE WHAT IT READS IS OF BULK AT MOST 1048576: true; the input reads as it did. -/
def fnExactTableOkUptoRow : OpenClaim := { program := "yticnfekjbknomaa", sum := "019f500e00d9119e6cc8485290b4c9e5af1a17dd62a72aacb6f8ceba5eee31a2", func := "loop.example/exopager/laws.FnExactTableOk", spec := "fnExactTableOk", apart := false, narrowed := true }
def FnExactTableOkUptoSaid : Prop := fnExactTableOkUptoRow.holds Try.pinned (OpenSpec.upto fnExactTableOkSpec)

/-- 'laws.FnExactTableCount', WHERE WHAT IT READS IS OF BULK AT MOST 1048576: true; the input reads as it did. -/
def fnExactTableCountUptoRow : OpenClaim := { program := "yticnfekjbknomaa", sum := "019f500e00d9119e6cc8485290b4c9e5af1a17dd62a72aacb6f8ceba5eee31a2", func := "loop.example/exopager/laws.FnExactTableCount", spec := "fnExactTableCount", unfollowed := true, recurses := true, apart := false, narrowed := true }
def FnExactTableCountUptoSaid : Prop := fnExactTableCountUptoRow.holds Try.pinned (OpenSpec.upto fnExactTableCountSpec)

/-- 'laws.FnExactTablePin', WHERE WHAT IT READS IS OF BULK AT MOST 1048576: true; the input reads as it did. -/
def fnExactTablePinUptoRow : OpenClaim := { program := "yticnfekjbknomaa", sum := "019f500e00d9119e6cc8485290b4c9e5af1a17dd62a72aacb6f8ceba5eee31a2", func := "loop.example/exopager/laws.FnExactTablePin", spec := "fnExactTablePin", unfollowed := true, recurses := true, apart := false, narrowed := true }
def FnExactTablePinUptoSaid : Prop := fnExactTablePinUptoRow.holds Try.pinned (OpenSpec.upto fnExactTablePinSpec)

/-- 'laws.FnExactTableUnpin', WHERE WHAT IT READS IS OF BULK AT MOST 1048576: true; the input reads as it did. -/
def fnExactTableUnpinUptoRow : OpenClaim := { program := "yticnfekjbknomaa", sum := "019f500e00d9119e6cc8485290b4c9e5af1a17dd62a72aacb6f8ceba5eee31a2", func := "loop.example/exopager/laws.FnExactTableUnpin", spec := "fnExactTableUnpin", unfollowed := true, recurses := true, apart := false, narrowed := true }
def FnExactTableUnpinUptoSaid : Prop := fnExactTableUnpinUptoRow.holds Try.pinned (OpenSpec.upto fnExactTableUnpinSpec)

end Rows
end Go.Proofs.Yticnfekjbknomaa
