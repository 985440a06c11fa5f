/-
  No cell of these rows narrows 'for every input' (looked for: loops, veiled, ifaces, maps, wideKeys, modest, calm, conditions, laid).
  DERIVED. THE GIVEN ROWS OF THIS SEAT. 10 by the template 'for every input the law returns true; each argument reads behind the call as it read before'; 0 by the template 'total and deterministic' (their statements: YtopnomklfkkjfaaTotals.lean).
  GIVEN WITH THE SEED: the statements are not yours to turn. If you find one false, say at which input.
  Laid BY PROGRAM, IN A SANDBOX (cutbox-rows.mjs): the forced cells as the released guide's own fill.sh prints them over the translation a5a43f2f043fd67f… (all of the seat's roots in one cut). By AI agents, Wed Nov 11 2026. No macro, syntax, notation, axiom, sorry.
-/
import Derived.Test.YtopnomklfkkjfaaChecked
import GoSem.Claim
import GoSem.ClaimJoined
import GoSem.ClaimMapViews
import Derived.JoinedTies
import Derived.KernelRfl
namespace Go.Proofs.Ytopnomklfkkjfaa
/- THE CELL 'sum', in the pinned program and in every row, IS THE sha256 OF THE DUMP (.gsa) THAT YtopnomklfkkjfaaProg.lean LOADS. Nothing in Lean hashes anything: it is a label: what it is worth is what the hold of that sum in a sandbox is worth. -/
noncomputable def Try.pinned : Pinned := { name := "ytopnomklfkkjfaa", sum := "a5a43f2f043fd67fbf09b913ab7d73892b5d553cfb77d953b32a768110aa1d65", checked := Try.checked }
namespace Rows
def none {H : Type} : Left H := { results := [], args := [] }

/-- 'laws.FnInfosTake': WHATEVER THE INPUT: true; the input reads as it did. -/
def fnInfosTakeSpec : ChangeSpec := { name := "fnInfosTake", fn := fun _ => fun
  | [d] => { results := [.lit (.bool true)], args := [d] }
  | _ => none }
def fnInfosTakeRow : OpenClaim := { program := "ytopnomklfkkjfaa", sum := "a5a43f2f043fd67fbf09b913ab7d73892b5d553cfb77d953b32a768110aa1d65", func := "loop.example/exopager/laws.FnInfosTake", spec := "fnInfosTake", apart := false }
def FnInfosTakeSaid : Prop := fnInfosTakeRow.holds Try.pinned (OpenSpec.ofChange fnInfosTakeSpec)

/-- ITS FALSE NEIGHBOUR: 'it returns false'. Refute it at one input. -/
def fnInfosTakeWrong : ChangeSpec := { name := "fnInfosTake", fn := fun _ => fun
  | [d] => { results := [.lit (.bool false)], args := [d] }
  | _ => none }
def FnInfosTakeWrongFalsely : Prop := fnInfosTakeRow.holds Try.pinned (OpenSpec.ofChange fnInfosTakeWrong)

/-- 'laws.FnInfosTakeNone': WHATEVER THE INPUT: true; the input reads as it did. -/
def fnInfosTakeNoneSpec : ChangeSpec := { name := "fnInfosTakeNone", fn := fun _ => fun
  | [d] => { results := [.lit (.bool true)], args := [d] }
  | _ => none }
def fnInfosTakeNoneRow : OpenClaim := { program := "ytopnomklfkkjfaa", sum := "a5a43f2f043fd67fbf09b913ab7d73892b5d553cfb77d953b32a768110aa1d65", func := "loop.example/exopager/laws.FnInfosTakeNone", spec := "fnInfosTakeNone", apart := false }
def FnInfosTakeNoneSaid : Prop := fnInfosTakeNoneRow.holds Try.pinned (OpenSpec.ofChange fnInfosTakeNoneSpec)

/-- ITS FALSE NEIGHBOUR: 'it returns false'. Refute it at one input. -/
def fnInfosTakeNoneWrong : ChangeSpec := { name := "fnInfosTakeNone", fn := fun _ => fun
  | [d] => { results := [.lit (.bool false)], args := [d] }
  | _ => none }
def FnInfosTakeNoneWrongFalsely : Prop := fnInfosTakeNoneRow.holds Try.pinned (OpenSpec.ofChange fnInfosTakeNoneWrong)

/-- 'laws.FnInfosGive': WHATEVER THE INPUT: true; the input reads as it did. -/
def fnInfosGiveSpec : ChangeSpec := { name := "fnInfosGive", fn := fun _ => fun
  | [d] => { results := [.lit (.bool true)], args := [d] }
  | _ => none }
def fnInfosGiveRow : OpenClaim := { program := "ytopnomklfkkjfaa", sum := "a5a43f2f043fd67fbf09b913ab7d73892b5d553cfb77d953b32a768110aa1d65", func := "loop.example/exopager/laws.FnInfosGive", spec := "fnInfosGive", apart := false }
def FnInfosGiveSaid : Prop := fnInfosGiveRow.holds Try.pinned (OpenSpec.ofChange fnInfosGiveSpec)

/-- ITS FALSE NEIGHBOUR: 'it returns false'. Refute it at one input. -/
def fnInfosGiveWrong : ChangeSpec := { name := "fnInfosGive", fn := fun _ => fun
  | [d] => { results := [.lit (.bool false)], args := [d] }
  | _ => none }
def FnInfosGiveWrongFalsely : Prop := fnInfosGiveRow.holds Try.pinned (OpenSpec.ofChange fnInfosGiveWrong)

/-- 'laws.FnInfosTakeGive': WHATEVER THE INPUT: true; the input reads as it did. -/
def fnInfosTakeGiveSpec : ChangeSpec := { name := "fnInfosTakeGive", fn := fun _ => fun
  | [d] => { results := [.lit (.bool true)], args := [d] }
  | _ => none }
def fnInfosTakeGiveRow : OpenClaim := { program := "ytopnomklfkkjfaa", sum := "a5a43f2f043fd67fbf09b913ab7d73892b5d553cfb77d953b32a768110aa1d65", func := "loop.example/exopager/laws.FnInfosTakeGive", spec := "fnInfosTakeGive", apart := false }
def FnInfosTakeGiveSaid : Prop := fnInfosTakeGiveRow.holds Try.pinned (OpenSpec.ofChange fnInfosTakeGiveSpec)

/-- ITS FALSE NEIGHBOUR: 'it returns false'. Refute it at one input. -/
def fnInfosTakeGiveWrong : ChangeSpec := { name := "fnInfosTakeGive", fn := fun _ => fun
  | [d] => { results := [.lit (.bool false)], args := [d] }
  | _ => none }
def FnInfosTakeGiveWrongFalsely : Prop := fnInfosTakeGiveRow.holds Try.pinned (OpenSpec.ofChange fnInfosTakeGiveWrong)

/-- 'laws.FnInfosFree': WHATEVER THE INPUT: true; the input reads as it did. -/
def fnInfosFreeSpec : ChangeSpec := { name := "fnInfosFree", fn := fun _ => fun
  | [d] => { results := [.lit (.bool true)], args := [d] }
  | _ => none }
def fnInfosFreeRow : OpenClaim := { program := "ytopnomklfkkjfaa", sum := "a5a43f2f043fd67fbf09b913ab7d73892b5d553cfb77d953b32a768110aa1d65", func := "loop.example/exopager/laws.FnInfosFree", spec := "fnInfosFree", apart := false }
def FnInfosFreeSaid : Prop := fnInfosFreeRow.holds Try.pinned (OpenSpec.ofChange fnInfosFreeSpec)

/-- ITS FALSE NEIGHBOUR: 'it returns false'. Refute it at one input. -/
def fnInfosFreeWrong : ChangeSpec := { name := "fnInfosFree", fn := fun _ => fun
  | [d] => { results := [.lit (.bool false)], args := [d] }
  | _ => none }
def FnInfosFreeWrongFalsely : Prop := fnInfosFreeRow.holds Try.pinned (OpenSpec.ofChange fnInfosFreeWrong)

/-- 'laws.FnInfosPart': WHATEVER THE INPUT: true; the input reads as it did. -/
def fnInfosPartSpec : ChangeSpec := { name := "fnInfosPart", fn := fun _ => fun
  | [d1, d2] => { results := [.lit (.bool true)], args := [d1, d2] }
  | _ => none }
def fnInfosPartRow : OpenClaim := { program := "ytopnomklfkkjfaa", sum := "a5a43f2f043fd67fbf09b913ab7d73892b5d553cfb77d953b32a768110aa1d65", func := "loop.example/exopager/laws.FnInfosPart", spec := "fnInfosPart", apart := false }
def FnInfosPartSaid : Prop := fnInfosPartRow.holds Try.pinned (OpenSpec.ofChange fnInfosPartSpec)

/-- ITS FALSE NEIGHBOUR: 'it returns false'. Refute it at one input. -/
def fnInfosPartWrong : ChangeSpec := { name := "fnInfosPart", fn := fun _ => fun
  | [d1, d2] => { results := [.lit (.bool false)], args := [d1, d2] }
  | _ => none }
def FnInfosPartWrongFalsely : Prop := fnInfosPartRow.holds Try.pinned (OpenSpec.ofChange fnInfosPartWrong)

/-- 'laws.FnExactInfosValid': WHATEVER THE INPUT: true; the input reads as it did. -/
def fnExactInfosValidSpec : ChangeSpec := { name := "fnExactInfosValid", fn := fun _ => fun
  | [d] => { results := [.lit (.bool true)], args := [d] }
  | _ => none }
def fnExactInfosValidRow : OpenClaim := { program := "ytopnomklfkkjfaa", sum := "a5a43f2f043fd67fbf09b913ab7d73892b5d553cfb77d953b32a768110aa1d65", func := "loop.example/exopager/laws.FnExactInfosValid", spec := "fnExactInfosValid", apart := false }
def FnExactInfosValidSaid : Prop := fnExactInfosValidRow.holds Try.pinned (OpenSpec.ofChange fnExactInfosValidSpec)

/-- ITS FALSE NEIGHBOUR: 'it returns false'. Refute it at one input. -/
def fnExactInfosValidWrong : ChangeSpec := { name := "fnExactInfosValid", fn := fun _ => fun
  | [d] => { results := [.lit (.bool false)], args := [d] }
  | _ => none }
def FnExactInfosValidWrongFalsely : Prop := fnExactInfosValidRow.holds Try.pinned (OpenSpec.ofChange fnExactInfosValidWrong)

/-- 'laws.FnExactInfosFree': WHATEVER THE INPUT: true; the input reads as it did. -/
def fnExactInfosFreeSpec : ChangeSpec := { name := "fnExactInfosFree", fn := fun _ => fun
  | [d] => { results := [.lit (.bool true)], args := [d] }
  | _ => none }
def fnExactInfosFreeRow : OpenClaim := { program := "ytopnomklfkkjfaa", sum := "a5a43f2f043fd67fbf09b913ab7d73892b5d553cfb77d953b32a768110aa1d65", func := "loop.example/exopager/laws.FnExactInfosFree", spec := "fnExactInfosFree", apart := false }
def FnExactInfosFreeSaid : Prop := fnExactInfosFreeRow.holds Try.pinned (OpenSpec.ofChange fnExactInfosFreeSpec)

/-- ITS FALSE NEIGHBOUR: 'it returns false'. Refute it at one input. -/
def fnExactInfosFreeWrong : ChangeSpec := { name := "fnExactInfosFree", fn := fun _ => fun
  | [d] => { results := [.lit (.bool false)], args := [d] }
  | _ => none }
def FnExactInfosFreeWrongFalsely : Prop := fnExactInfosFreeRow.holds Try.pinned (OpenSpec.ofChange fnExactInfosFreeWrong)

/-- 'laws.FnExactInfosTake': WHATEVER THE INPUT: true; the input reads as it did. -/
def fnExactInfosTakeSpec : ChangeSpec := { name := "fnExactInfosTake", fn := fun _ => fun
  | [d1, d2] => { results := [.lit (.bool true)], args := [d1, d2] }
  | _ => none }
def fnExactInfosTakeRow : OpenClaim := { program := "ytopnomklfkkjfaa", sum := "a5a43f2f043fd67fbf09b913ab7d73892b5d553cfb77d953b32a768110aa1d65", func := "loop.example/exopager/laws.FnExactInfosTake", spec := "fnExactInfosTake", apart := false }
def FnExactInfosTakeSaid : Prop := fnExactInfosTakeRow.holds Try.pinned (OpenSpec.ofChange fnExactInfosTakeSpec)

/-- ITS FALSE NEIGHBOUR: 'it returns false'. Refute it at one input. -/
def fnExactInfosTakeWrong : ChangeSpec := { name := "fnExactInfosTake", fn := fun _ => fun
  | [d1, d2] => { results := [.lit (.bool false)], args := [d1, d2] }
  | _ => none }
def FnExactInfosTakeWrongFalsely : Prop := fnExactInfosTakeRow.holds Try.pinned (OpenSpec.ofChange fnExactInfosTakeWrong)

/-- 'laws.FnExactInfosGive': WHATEVER THE INPUT: true; the input reads as it did. -/
def fnExactInfosGiveSpec : ChangeSpec := { name := "fnExactInfosGive", fn := fun _ => fun
  | [d1, d2] => { results := [.lit (.bool true)], args := [d1, d2] }
  | _ => none }
def fnExactInfosGiveRow : OpenClaim := { program := "ytopnomklfkkjfaa", sum := "a5a43f2f043fd67fbf09b913ab7d73892b5d553cfb77d953b32a768110aa1d65", func := "loop.example/exopager/laws.FnExactInfosGive", spec := "fnExactInfosGive", apart := false }
def FnExactInfosGiveSaid : Prop := fnExactInfosGiveRow.holds Try.pinned (OpenSpec.ofChange fnExactInfosGiveSpec)

/-- ITS FALSE NEIGHBOUR: 'it returns false'. Refute it at one input. -/
def fnExactInfosGiveWrong : ChangeSpec := { name := "fnExactInfosGive", fn := fun _ => fun
  | [d1, d2] => { results := [.lit (.bool false)], args := [d1, d2] }
  | _ => none }
def FnExactInfosGiveWrongFalsely : Prop := fnExactInfosGiveRow.holds Try.pinned (OpenSpec.ofChange fnExactInfosGiveWrong)

/- THE SECOND FORM. 'bulk': how many values and letters a reading holds, each counted each time it is reached (what is shared counts as often as it is met; a slice's spare places count too). A statement '..UptoSaid' is the law's where the arguments, and the package variables that the reading takes, are together of bulk at most 1048576: NARROWER than '..Said'. Prove '..Said' where nothing that the law and all that it calls make is longer than what came in: it says more and counts as full. Else prove '..UptoSaid'. A law counts once. -/
mutual
def uptoBulk {H : Type} : DataW H → Nat
  | .lit (.string bytes) => bytes.length + 1
  | .lit _ => 1
  | .nil => 1
  | .ptr d => uptoBulk d + 1
  | .slice elems spare => uptoBulkAll elems + uptoBulkAll spare + 1
  | .agg parts => uptoBulkAll parts + 1
  | .iface _ d => uptoBulk d + 1
  | .map entries => uptoBulkEntries entries + 1
  | .held _ => 1
def uptoBulkAll {H : Type} : List (DataW H) → Nat
  | [] => 0
  | d :: r => uptoBulk d + uptoBulkAll r
def uptoBulkEntries {H : Type} : List (Lit × DataW H) → Nat
  | [] => 0
  | x :: r => uptoBulkEntry x + uptoBulkEntries r
def uptoBulkEntry {H : Type} : Lit × DataW H → Nat
  | (.string bytes, d) => bytes.length + uptoBulk d + 1
  | (_, d) => uptoBulk d + 1
 end
def uptoSmall : (H : Type) → List (DataW H) → Bool := fun _ ds => decide (uptoBulkAll ds ≤ 1048576)
def OpenSpec.upto (s : _root_.Go.ChangeSpec) : _root_.Go.OpenSpec := { _root_.Go.OpenSpec.ofChange s with cond := some uptoSmall }

/-- 'laws.FnInfosTake', WHERE WHAT IT READS IS OF BULK AT MOST 1048576: true; the input reads as it did. -/
def fnInfosTakeUptoRow : OpenClaim := { program := "ytopnomklfkkjfaa", sum := "a5a43f2f043fd67fbf09b913ab7d73892b5d553cfb77d953b32a768110aa1d65", func := "loop.example/exopager/laws.FnInfosTake", spec := "fnInfosTake", apart := false, narrowed := true }
def FnInfosTakeUptoSaid : Prop := fnInfosTakeUptoRow.holds Try.pinned (OpenSpec.upto fnInfosTakeSpec)

/-- 'laws.FnInfosTakeNone', WHERE WHAT IT READS IS OF BULK AT MOST 1048576: true; the input reads as it did. -/
def fnInfosTakeNoneUptoRow : OpenClaim := { program := "ytopnomklfkkjfaa", sum := "a5a43f2f043fd67fbf09b913ab7d73892b5d553cfb77d953b32a768110aa1d65", func := "loop.example/exopager/laws.FnInfosTakeNone", spec := "fnInfosTakeNone", apart := false, narrowed := true }
def FnInfosTakeNoneUptoSaid : Prop := fnInfosTakeNoneUptoRow.holds Try.pinned (OpenSpec.upto fnInfosTakeNoneSpec)

/-- 'laws.FnInfosGive', WHERE WHAT IT READS IS OF BULK AT MOST 1048576: true; the input reads as it did. -/
def fnInfosGiveUptoRow : OpenClaim := { program := "ytopnomklfkkjfaa", sum := "a5a43f2f043fd67fbf09b913ab7d73892b5d553cfb77d953b32a768110aa1d65", func := "loop.example/exopager/laws.FnInfosGive", spec := "fnInfosGive", apart := false, narrowed := true }
def FnInfosGiveUptoSaid : Prop := fnInfosGiveUptoRow.holds Try.pinned (OpenSpec.upto fnInfosGiveSpec)

/-- 'laws.FnInfosTakeGive', WHERE WHAT IT READS IS OF BULK AT MOST 1048576: true; the input reads as it did. -/
def fnInfosTakeGiveUptoRow : OpenClaim := { program := "ytopnomklfkkjfaa", sum := "a5a43f2f043fd67fbf09b913ab7d73892b5d553cfb77d953b32a768110aa1d65", func := "loop.example/exopager/laws.FnInfosTakeGive", spec := "fnInfosTakeGive", apart := false, narrowed := true }
def FnInfosTakeGiveUptoSaid : Prop := fnInfosTakeGiveUptoRow.holds Try.pinned (OpenSpec.upto fnInfosTakeGiveSpec)

/-- 'laws.FnInfosFree', WHERE WHAT IT READS IS OF BULK AT MOST 1048576: true; the input reads as it did. -/
def fnInfosFreeUptoRow : OpenClaim := { program := "ytopnomklfkkjfaa", sum := "a5a43f2f043fd67fbf09b913ab7d73892b5d553cfb77d953b32a768110aa1d65", func := "loop.example/exopager/laws.FnInfosFree", spec := "fnInfosFree", apart := false, narrowed := true }
def FnInfosFreeUptoSaid : Prop := fnInfosFreeUptoRow.holds Try.pinned (OpenSpec.upto fnInfosFreeSpec)

/-- 'laws.FnInfosPart', WHERE WHAT IT READS IS OF BULK AT MOST 1048576: true; the input reads as it did. -/
def fnInfosPartUptoRow : OpenClaim := { program := "ytopnomklfkkjfaa", sum := "a5a43f2f043fd67fbf09b913ab7d73892b5d553cfb77d953b32a768110aa1d65", func := "loop.example/exopager/laws.FnInfosPart", spec := "fnInfosPart", apart := false, narrowed := true }
def FnInfosPartUptoSaid : Prop := fnInfosPartUptoRow.holds Try.pinned (OpenSpec.upto fnInfosPartSpec)

/-- 'laws.FnExactInfosValid', WHERE WHAT IT READS IS OF BULK AT MOST 1048576: true; the input reads as it did. -/
def fnExactInfosValidUptoRow : OpenClaim := { program := "ytopnomklfkkjfaa", sum := "a5a43f2f043fd67fbf09b913ab7d73892b5d553cfb77d953b32a768110aa1d65", func := "loop.example/exopager/laws.FnExactInfosValid", spec := "fnExactInfosValid", apart := false, narrowed := true }
def FnExactInfosValidUptoSaid : Prop := fnExactInfosValidUptoRow.holds Try.pinned (OpenSpec.upto fnExactInfosValidSpec)

/-- 'laws.FnExactInfosFree', WHERE WHAT IT READS IS OF BULK AT MOST 1048576: true; the input reads as it did. -/
def fnExactInfosFreeUptoRow : OpenClaim := { program := "ytopnomklfkkjfaa", sum := "a5a43f2f043fd67fbf09b913ab7d73892b5d553cfb77d953b32a768110aa1d65", func := "loop.example/exopager/laws.FnExactInfosFree", spec := "fnExactInfosFree", apart := false, narrowed := true }
def FnExactInfosFreeUptoSaid : Prop := fnExactInfosFreeUptoRow.holds Try.pinned (OpenSpec.upto fnExactInfosFreeSpec)

/-- 'laws.FnExactInfosTake', WHERE WHAT IT READS IS OF BULK AT MOST 1048576: true; the input reads as it did. -/
def fnExactInfosTakeUptoRow : OpenClaim := { program := "ytopnomklfkkjfaa", sum := "a5a43f2f043fd67fbf09b913ab7d73892b5d553cfb77d953b32a768110aa1d65", func := "loop.example/exopager/laws.FnExactInfosTake", spec := "fnExactInfosTake", apart := false, narrowed := true }
def FnExactInfosTakeUptoSaid : Prop := fnExactInfosTakeUptoRow.holds Try.pinned (OpenSpec.upto fnExactInfosTakeSpec)

/-- 'laws.FnExactInfosGive', WHERE WHAT IT READS IS OF BULK AT MOST 1048576: true; the input reads as it did. -/
def fnExactInfosGiveUptoRow : OpenClaim := { program := "ytopnomklfkkjfaa", sum := "a5a43f2f043fd67fbf09b913ab7d73892b5d553cfb77d953b32a768110aa1d65", func := "loop.example/exopager/laws.FnExactInfosGive", spec := "fnExactInfosGive", apart := false, narrowed := true }
def FnExactInfosGiveUptoSaid : Prop := fnExactInfosGiveUptoRow.holds Try.pinned (OpenSpec.upto fnExactInfosGiveSpec)

end Rows
end Go.Proofs.Ytopnomklfkkjfaa
