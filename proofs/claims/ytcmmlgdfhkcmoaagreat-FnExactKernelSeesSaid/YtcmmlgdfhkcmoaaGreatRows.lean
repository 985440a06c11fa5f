/-
  No cell of these rows narrows 'for every input' (looked for: loops, veiled, ifaces, maps, wideKeys, modest, calm, conditions, laid).
  DERIVED. THE GIVEN ROWS OF THIS SEAT. 12 by the template 'for every input the law returns true; each argument reads behind the call as it read before'; 0 by the template 'total and deterministic' (their statements: YtcmmlgdfhkcmoaaGreatTotals.lean).
  GIVEN WITH THE SEED: the statements are not yours to turn. If you find one false, say at which input.
  Laid BY PROGRAM, IN A SANDBOX (cutbox-rows.mjs): the forced cells as the released guide's own fill.sh prints them over the translation 3cbf8a92c2653c8b… (all of the seat's roots in one cut). By AI agents, Wed Nov 11 2026. No macro, syntax, notation, axiom, sorry.
-/
import Derived.Test.YtcmmlgdfhkcmoaaGreatChecked
import GoSem.Claim
import GoSem.ClaimJoined
import GoSem.ClaimMapViews
import Derived.JoinedTies
import Derived.KernelRfl
namespace Go.Proofs.YtcmmlgdfhkcmoaaGreat
/- THE CELL 'sum', in the pinned program and in every row, IS THE sha256 OF THE DUMP (.gsa) THAT YtcmmlgdfhkcmoaaGreatProg.lean LOADS. Nothing in Lean hashes anything: it is a label: what it is worth is what the hold of that sum in a sandbox is worth. -/
noncomputable def Tryz.pinned : Pinned := { name := "ytcmmlgdfhkcmoaagreat", sum := "3cbf8a92c2653c8bcc8c69009f4c37385497c0b864ec6290fdf27ba397bae9dd", checked := Tryz.checked }
namespace Rows
def none {H : Type} : Left H := { results := [], args := [] }

/-- 'laws.FnKernelNew': WHATEVER THE INPUT: true; the input reads as it did. -/
def fnKernelNewSpec : ChangeSpec := { name := "fnKernelNew", fn := fun _ => fun
  | [d] => { results := [.lit (.bool true)], args := [d] }
  | _ => none }
def fnKernelNewRow : OpenClaim := { program := "ytcmmlgdfhkcmoaagreat", sum := "3cbf8a92c2653c8bcc8c69009f4c37385497c0b864ec6290fdf27ba397bae9dd", func := "loop.example/exopager/laws.FnKernelNew", spec := "fnKernelNew", unfollowed := true, recurses := true, apart := false }
def FnKernelNewSaid : Prop := fnKernelNewRow.holds Tryz.pinned (OpenSpec.ofChange fnKernelNewSpec)

/-- ITS FALSE NEIGHBOUR: 'it returns false'. Refute it at one input. -/
def fnKernelNewWrong : ChangeSpec := { name := "fnKernelNew", fn := fun _ => fun
  | [d] => { results := [.lit (.bool false)], args := [d] }
  | _ => none }
def FnKernelNewWrongFalsely : Prop := fnKernelNewRow.holds Tryz.pinned (OpenSpec.ofChange fnKernelNewWrong)

/-- 'laws.FnKernelRights': WHATEVER THE INPUT: true; the input reads as it did. -/
def fnKernelRightsSpec : ChangeSpec := { name := "fnKernelRights", fn := fun _ => fun
  | [d] => { results := [.lit (.bool true)], args := [d] }
  | _ => none }
def fnKernelRightsRow : OpenClaim := { program := "ytcmmlgdfhkcmoaagreat", sum := "3cbf8a92c2653c8bcc8c69009f4c37385497c0b864ec6290fdf27ba397bae9dd", func := "loop.example/exopager/laws.FnKernelRights", spec := "fnKernelRights", unfollowed := true, recurses := true, apart := false }
def FnKernelRightsSaid : Prop := fnKernelRightsRow.holds Tryz.pinned (OpenSpec.ofChange fnKernelRightsSpec)

/-- ITS FALSE NEIGHBOUR: 'it returns false'. Refute it at one input. -/
def fnKernelRightsWrong : ChangeSpec := { name := "fnKernelRights", fn := fun _ => fun
  | [d] => { results := [.lit (.bool false)], args := [d] }
  | _ => none }
def FnKernelRightsWrongFalsely : Prop := fnKernelRightsRow.holds Tryz.pinned (OpenSpec.ofChange fnKernelRightsWrong)

/-- 'laws.FnKernelTables': WHATEVER THE INPUT: true; the input reads as it did. -/
def fnKernelTablesSpec : ChangeSpec := { name := "fnKernelTables", fn := fun _ => fun
  | [d] => { results := [.lit (.bool true)], args := [d] }
  | _ => none }
def fnKernelTablesRow : OpenClaim := { program := "ytcmmlgdfhkcmoaagreat", sum := "3cbf8a92c2653c8bcc8c69009f4c37385497c0b864ec6290fdf27ba397bae9dd", func := "loop.example/exopager/laws.FnKernelTables", spec := "fnKernelTables", unfollowed := true, recurses := true, apart := false }
def FnKernelTablesSaid : Prop := fnKernelTablesRow.holds Tryz.pinned (OpenSpec.ofChange fnKernelTablesSpec)

/-- ITS FALSE NEIGHBOUR: 'it returns false'. Refute it at one input. -/
def fnKernelTablesWrong : ChangeSpec := { name := "fnKernelTables", fn := fun _ => fun
  | [d] => { results := [.lit (.bool false)], args := [d] }
  | _ => none }
def FnKernelTablesWrongFalsely : Prop := fnKernelTablesRow.holds Tryz.pinned (OpenSpec.ofChange fnKernelTablesWrong)

/-- 'laws.FnKernelRefs': WHATEVER THE INPUT: true; the input reads as it did. -/
def fnKernelRefsSpec : ChangeSpec := { name := "fnKernelRefs", fn := fun _ => fun
  | [d] => { results := [.lit (.bool true)], args := [d] }
  | _ => none }
def fnKernelRefsRow : OpenClaim := { program := "ytcmmlgdfhkcmoaagreat", sum := "3cbf8a92c2653c8bcc8c69009f4c37385497c0b864ec6290fdf27ba397bae9dd", func := "loop.example/exopager/laws.FnKernelRefs", spec := "fnKernelRefs", unfollowed := true, recurses := true, apart := false }
def FnKernelRefsSaid : Prop := fnKernelRefsRow.holds Tryz.pinned (OpenSpec.ofChange fnKernelRefsSpec)

/-- ITS FALSE NEIGHBOUR: 'it returns false'. Refute it at one input. -/
def fnKernelRefsWrong : ChangeSpec := { name := "fnKernelRefs", fn := fun _ => fun
  | [d] => { results := [.lit (.bool false)], args := [d] }
  | _ => none }
def FnKernelRefsWrongFalsely : Prop := fnKernelRefsRow.holds Tryz.pinned (OpenSpec.ofChange fnKernelRefsWrong)

/-- 'laws.FnKernelCache': WHATEVER THE INPUT: true; the input reads as it did. -/
def fnKernelCacheSpec : ChangeSpec := { name := "fnKernelCache", fn := fun _ => fun
  | [d] => { results := [.lit (.bool true)], args := [d] }
  | _ => none }
def fnKernelCacheRow : OpenClaim := { program := "ytcmmlgdfhkcmoaagreat", sum := "3cbf8a92c2653c8bcc8c69009f4c37385497c0b864ec6290fdf27ba397bae9dd", func := "loop.example/exopager/laws.FnKernelCache", spec := "fnKernelCache", unfollowed := true, recurses := true, apart := false }
def FnKernelCacheSaid : Prop := fnKernelCacheRow.holds Tryz.pinned (OpenSpec.ofChange fnKernelCacheSpec)

/-- ITS FALSE NEIGHBOUR: 'it returns false'. Refute it at one input. -/
def fnKernelCacheWrong : ChangeSpec := { name := "fnKernelCache", fn := fun _ => fun
  | [d] => { results := [.lit (.bool false)], args := [d] }
  | _ => none }
def FnKernelCacheWrongFalsely : Prop := fnKernelCacheRow.holds Tryz.pinned (OpenSpec.ofChange fnKernelCacheWrong)

/-- 'laws.FnKernelForget': WHATEVER THE INPUT: true; the input reads as it did. -/
def fnKernelForgetSpec : ChangeSpec := { name := "fnKernelForget", fn := fun _ => fun
  | [d1, d2] => { results := [.lit (.bool true)], args := [d1, d2] }
  | _ => none }
def fnKernelForgetRow : OpenClaim := { program := "ytcmmlgdfhkcmoaagreat", sum := "3cbf8a92c2653c8bcc8c69009f4c37385497c0b864ec6290fdf27ba397bae9dd", func := "loop.example/exopager/laws.FnKernelForget", spec := "fnKernelForget", unfollowed := true, recurses := true, apart := false }
def FnKernelForgetSaid : Prop := fnKernelForgetRow.holds Tryz.pinned (OpenSpec.ofChange fnKernelForgetSpec)

/-- ITS FALSE NEIGHBOUR: 'it returns false'. Refute it at one input. -/
def fnKernelForgetWrong : ChangeSpec := { name := "fnKernelForget", fn := fun _ => fun
  | [d1, d2] => { results := [.lit (.bool false)], args := [d1, d2] }
  | _ => none }
def FnKernelForgetWrongFalsely : Prop := fnKernelForgetRow.holds Tryz.pinned (OpenSpec.ofChange fnKernelForgetWrong)

/-- 'laws.FnReach': WHATEVER THE INPUT: true; the input reads as it did. -/
def fnReachSpec : ChangeSpec := { name := "fnReach", fn := fun _ => fun
  | [d] => { results := [.lit (.bool true)], args := [d] }
  | _ => none }
def fnReachRow : OpenClaim := { program := "ytcmmlgdfhkcmoaagreat", sum := "3cbf8a92c2653c8bcc8c69009f4c37385497c0b864ec6290fdf27ba397bae9dd", func := "loop.example/exopager/laws.FnReach", spec := "fnReach", unfollowed := true, recurses := true, apart := false }
def FnReachSaid : Prop := fnReachRow.holds Tryz.pinned (OpenSpec.ofChange fnReachSpec)

/-- ITS FALSE NEIGHBOUR: 'it returns false'. Refute it at one input. -/
def fnReachWrong : ChangeSpec := { name := "fnReach", fn := fun _ => fun
  | [d] => { results := [.lit (.bool false)], args := [d] }
  | _ => none }
def FnReachWrongFalsely : Prop := fnReachRow.holds Tryz.pinned (OpenSpec.ofChange fnReachWrong)

/-- 'laws.FnSees': WHATEVER THE INPUT: true; the input reads as it did. -/
def fnSeesSpec : ChangeSpec := { name := "fnSees", fn := fun _ => fun
  | [d] => { results := [.lit (.bool true)], args := [d] }
  | _ => none }
def fnSeesRow : OpenClaim := { program := "ytcmmlgdfhkcmoaagreat", sum := "3cbf8a92c2653c8bcc8c69009f4c37385497c0b864ec6290fdf27ba397bae9dd", func := "loop.example/exopager/laws.FnSees", spec := "fnSees", unfollowed := true, recurses := true, apart := false }
def FnSeesSaid : Prop := fnSeesRow.holds Tryz.pinned (OpenSpec.ofChange fnSeesSpec)

/-- ITS FALSE NEIGHBOUR: 'it returns false'. Refute it at one input. -/
def fnSeesWrong : ChangeSpec := { name := "fnSees", fn := fun _ => fun
  | [d] => { results := [.lit (.bool false)], args := [d] }
  | _ => none }
def FnSeesWrongFalsely : Prop := fnSeesRow.holds Tryz.pinned (OpenSpec.ofChange fnSeesWrong)

/-- 'laws.FnSeesNone': WHATEVER THE INPUT: true; the input reads as it did. -/
def fnSeesNoneSpec : ChangeSpec := { name := "fnSeesNone", fn := fun _ => fun
  | [d] => { results := [.lit (.bool true)], args := [d] }
  | _ => none }
def fnSeesNoneRow : OpenClaim := { program := "ytcmmlgdfhkcmoaagreat", sum := "3cbf8a92c2653c8bcc8c69009f4c37385497c0b864ec6290fdf27ba397bae9dd", func := "loop.example/exopager/laws.FnSeesNone", spec := "fnSeesNone", unfollowed := true, recurses := true, apart := false }
def FnSeesNoneSaid : Prop := fnSeesNoneRow.holds Tryz.pinned (OpenSpec.ofChange fnSeesNoneSpec)

/-- ITS FALSE NEIGHBOUR: 'it returns false'. Refute it at one input. -/
def fnSeesNoneWrong : ChangeSpec := { name := "fnSeesNone", fn := fun _ => fun
  | [d] => { results := [.lit (.bool false)], args := [d] }
  | _ => none }
def FnSeesNoneWrongFalsely : Prop := fnSeesNoneRow.holds Tryz.pinned (OpenSpec.ofChange fnSeesNoneWrong)

/-- 'laws.FnExactKernelValid': WHATEVER THE INPUT: true; the input reads as it did. -/
def fnExactKernelValidSpec : ChangeSpec := { name := "fnExactKernelValid", fn := fun _ => fun
  | [d] => { results := [.lit (.bool true)], args := [d] }
  | _ => none }
def fnExactKernelValidRow : OpenClaim := { program := "ytcmmlgdfhkcmoaagreat", sum := "3cbf8a92c2653c8bcc8c69009f4c37385497c0b864ec6290fdf27ba397bae9dd", func := "loop.example/exopager/laws.FnExactKernelValid", spec := "fnExactKernelValid", unfollowed := true, recurses := true, apart := false }
def FnExactKernelValidSaid : Prop := fnExactKernelValidRow.holds Tryz.pinned (OpenSpec.ofChange fnExactKernelValidSpec)

/-- ITS FALSE NEIGHBOUR: 'it returns false'. Refute it at one input. -/
def fnExactKernelValidWrong : ChangeSpec := { name := "fnExactKernelValid", fn := fun _ => fun
  | [d] => { results := [.lit (.bool false)], args := [d] }
  | _ => none }
def FnExactKernelValidWrongFalsely : Prop := fnExactKernelValidRow.holds Tryz.pinned (OpenSpec.ofChange fnExactKernelValidWrong)

/-- 'laws.FnExactKernelReach': WHATEVER THE INPUT: true; the input reads as it did. -/
def fnExactKernelReachSpec : ChangeSpec := { name := "fnExactKernelReach", fn := fun _ => fun
  | [d1, d2] => { results := [.lit (.bool true)], args := [d1, d2] }
  | _ => none }
def fnExactKernelReachRow : OpenClaim := { program := "ytcmmlgdfhkcmoaagreat", sum := "3cbf8a92c2653c8bcc8c69009f4c37385497c0b864ec6290fdf27ba397bae9dd", func := "loop.example/exopager/laws.FnExactKernelReach", spec := "fnExactKernelReach", unfollowed := true, recurses := true, apart := false }
def FnExactKernelReachSaid : Prop := fnExactKernelReachRow.holds Tryz.pinned (OpenSpec.ofChange fnExactKernelReachSpec)

/-- ITS FALSE NEIGHBOUR: 'it returns false'. Refute it at one input. -/
def fnExactKernelReachWrong : ChangeSpec := { name := "fnExactKernelReach", fn := fun _ => fun
  | [d1, d2] => { results := [.lit (.bool false)], args := [d1, d2] }
  | _ => none }
def FnExactKernelReachWrongFalsely : Prop := fnExactKernelReachRow.holds Tryz.pinned (OpenSpec.ofChange fnExactKernelReachWrong)

/-- 'laws.FnExactKernelSees': WHATEVER THE INPUT: true; the input reads as it did. -/
def fnExactKernelSeesSpec : ChangeSpec := { name := "fnExactKernelSees", fn := fun _ => fun
  | [d1, d2, d3] => { results := [.lit (.bool true)], args := [d1, d2, d3] }
  | _ => none }
def fnExactKernelSeesRow : OpenClaim := { program := "ytcmmlgdfhkcmoaagreat", sum := "3cbf8a92c2653c8bcc8c69009f4c37385497c0b864ec6290fdf27ba397bae9dd", func := "loop.example/exopager/laws.FnExactKernelSees", spec := "fnExactKernelSees", unfollowed := true, recurses := true, apart := false }
def FnExactKernelSeesSaid : Prop := fnExactKernelSeesRow.holds Tryz.pinned (OpenSpec.ofChange fnExactKernelSeesSpec)

/-- ITS FALSE NEIGHBOUR: 'it returns false'. Refute it at one input. -/
def fnExactKernelSeesWrong : ChangeSpec := { name := "fnExactKernelSees", fn := fun _ => fun
  | [d1, d2, d3] => { results := [.lit (.bool false)], args := [d1, d2, d3] }
  | _ => none }
def FnExactKernelSeesWrongFalsely : Prop := fnExactKernelSeesRow.holds Tryz.pinned (OpenSpec.ofChange fnExactKernelSeesWrong)

/- THE SECOND FORM. 'bulk': how many values and letters a reading holds, each counted each time it is reached (what is shared counts as often as it is met; a slice's spare places count too). A statement '..UptoSaid' is the law's where the arguments, and the package variables that the reading takes, are together of bulk at most 1048576: NARROWER than '..Said'. Prove '..Said' where nothing that the law and all that it calls make is longer than what came in: it says more and counts as full. Else prove '..UptoSaid'. A law counts once. -/
mutual
def uptoBulk {H : Type} : DataW H → Nat
  | .lit (.string bytes) => bytes.length + 1
  | .lit _ => 1
  | .nil => 1
  | .ptr d => uptoBulk d + 1
  | .slice elems spare => uptoBulkAll elems + uptoBulkAll spare + 1
  | .agg parts => uptoBulkAll parts + 1
  | .iface _ d => uptoBulk d + 1
  | .map entries => uptoBulkEntries entries + 1
  | .held _ => 1
def uptoBulkAll {H : Type} : List (DataW H) → Nat
  | [] => 0
  | d :: r => uptoBulk d + uptoBulkAll r
def uptoBulkEntries {H : Type} : List (Lit × DataW H) → Nat
  | [] => 0
  | x :: r => uptoBulkEntry x + uptoBulkEntries r
def uptoBulkEntry {H : Type} : Lit × DataW H → Nat
  | (.string bytes, d) => bytes.length + uptoBulk d + 1
  | (_, d) => uptoBulk d + 1
 end
def uptoSmall : (H : Type) → List (DataW H) → Bool := fun _ ds => decide (uptoBulkAll ds ≤ 1048576)
def OpenSpec.upto (s : _root_.Go.ChangeSpec) : _root_.Go.OpenSpec := { _root_.Go.OpenSpec.ofChange s with cond := some uptoSmall }

/-- 'laws.FnKernelNew', WHERE WHAT IT READS IS OF BULK AT MOST 1048576: true; the input reads as it did. -/
def fnKernelNewUptoRow : OpenClaim := { program := "ytcmmlgdfhkcmoaagreat", sum := "3cbf8a92c2653c8bcc8c69009f4c37385497c0b864ec6290fdf27ba397bae9dd", func := "loop.example/exopager/laws.FnKernelNew", spec := "fnKernelNew", unfollowed := true, recurses := true, apart := false, narrowed := true }
def FnKernelNewUptoSaid : Prop := fnKernelNewUptoRow.holds Tryz.pinned (OpenSpec.upto fnKernelNewSpec)

/-- 'laws.FnKernelRights', WHERE WHAT IT READS IS OF BULK AT MOST 1048576: true; the input reads as it did. -/
def fnKernelRightsUptoRow : OpenClaim := { program := "ytcmmlgdfhkcmoaagreat", sum := "3cbf8a92c2653c8bcc8c69009f4c37385497c0b864ec6290fdf27ba397bae9dd", func := "loop.example/exopager/laws.FnKernelRights", spec := "fnKernelRights", unfollowed := true, recurses := true, apart := false, narrowed := true }
def FnKernelRightsUptoSaid : Prop := fnKernelRightsUptoRow.holds Tryz.pinned (OpenSpec.upto fnKernelRightsSpec)

/-- 'laws.FnKernelTables', WHERE WHAT IT READS IS OF BULK AT MOST 1048576: true; the input reads as it did. -/
def fnKernelTablesUptoRow : OpenClaim := { program := "ytcmmlgdfhkcmoaagreat", sum := "3cbf8a92c2653c8bcc8c69009f4c37385497c0b864ec6290fdf27ba397bae9dd", func := "loop.example/exopager/laws.FnKernelTables", spec := "fnKernelTables", unfollowed := true, recurses := true, apart := false, narrowed := true }
def FnKernelTablesUptoSaid : Prop := fnKernelTablesUptoRow.holds Tryz.pinned (OpenSpec.upto fnKernelTablesSpec)

/-- 'laws.FnKernelRefs', WHERE WHAT IT READS IS OF BULK AT MOST 1048576: true; the input reads as it did. -/
def fnKernelRefsUptoRow : OpenClaim := { program := "ytcmmlgdfhkcmoaagreat", sum := "3cbf8a92c2653c8bcc8c69009f4c37385497c0b864ec6290fdf27ba397bae9dd", func := "loop.example/exopager/laws.FnKernelRefs", spec := "fnKernelRefs", unfollowed := true, recurses := true, apart := false, narrowed := true }
def FnKernelRefsUptoSaid : Prop := fnKernelRefsUptoRow.holds Tryz.pinned (OpenSpec.upto fnKernelRefsSpec)

/-- 'laws.FnKernelCache', WHERE WHAT IT READS IS OF BULK AT MOST 1048576: true; the input reads as it did. -/
def fnKernelCacheUptoRow : OpenClaim := { program := "ytcmmlgdfhkcmoaagreat", sum := "3cbf8a92c2653c8bcc8c69009f4c37385497c0b864ec6290fdf27ba397bae9dd", func := "loop.example/exopager/laws.FnKernelCache", spec := "fnKernelCache", unfollowed := true, recurses := true, apart := false, narrowed := true }
def FnKernelCacheUptoSaid : Prop := fnKernelCacheUptoRow.holds Tryz.pinned (OpenSpec.upto fnKernelCacheSpec)

/-- 'laws.FnKernelForget', WHERE WHAT IT READS IS OF BULK AT MOST 1048576: true; the input reads as it did. -/
def fnKernelForgetUptoRow : OpenClaim := { program := "ytcmmlgdfhkcmoaagreat", sum := "3cbf8a92c2653c8bcc8c69009f4c37385497c0b864ec6290fdf27ba397bae9dd", func := "loop.example/exopager/laws.FnKernelForget", spec := "fnKernelForget", unfollowed := true, recurses := true, apart := false, narrowed := true }
def FnKernelForgetUptoSaid : Prop := fnKernelForgetUptoRow.holds Tryz.pinned (OpenSpec.upto fnKernelForgetSpec)

/-- 'laws.FnReach', WHERE WHAT IT READS IS OF BULK AT MOST 1048576: true; the input reads as it did. -/
def fnReachUptoRow : OpenClaim := { program := "ytcmmlgdfhkcmoaagreat", sum := "3cbf8a92c2653c8bcc8c69009f4c37385497c0b864ec6290fdf27ba397bae9dd", func := "loop.example/exopager/laws.FnReach", spec := "fnReach", unfollowed := true, recurses := true, apart := false, narrowed := true }
def FnReachUptoSaid : Prop := fnReachUptoRow.holds Tryz.pinned (OpenSpec.upto fnReachSpec)

/-- 'laws.FnSees', WHERE WHAT IT READS IS OF BULK AT MOST 1048576: true; the input reads as it did. -/
def fnSeesUptoRow : OpenClaim := { program := "ytcmmlgdfhkcmoaagreat", sum := "3cbf8a92c2653c8bcc8c69009f4c37385497c0b864ec6290fdf27ba397bae9dd", func := "loop.example/exopager/laws.FnSees", spec := "fnSees", unfollowed := true, recurses := true, apart := false, narrowed := true }
def FnSeesUptoSaid : Prop := fnSeesUptoRow.holds Tryz.pinned (OpenSpec.upto fnSeesSpec)

/-- 'laws.FnSeesNone', WHERE WHAT IT READS IS OF BULK AT MOST 1048576: true; the input reads as it did. -/
def fnSeesNoneUptoRow : OpenClaim := { program := "ytcmmlgdfhkcmoaagreat", sum := "3cbf8a92c2653c8bcc8c69009f4c37385497c0b864ec6290fdf27ba397bae9dd", func := "loop.example/exopager/laws.FnSeesNone", spec := "fnSeesNone", unfollowed := true, recurses := true, apart := false, narrowed := true }
def FnSeesNoneUptoSaid : Prop := fnSeesNoneUptoRow.holds Tryz.pinned (OpenSpec.upto fnSeesNoneSpec)

/-- 'laws.FnExactKernelValid', WHERE WHAT IT READS IS OF BULK AT MOST 1048576: true; the input reads as it did. -/
def fnExactKernelValidUptoRow : OpenClaim := { program := "ytcmmlgdfhkcmoaagreat", sum := "3cbf8a92c2653c8bcc8c69009f4c37385497c0b864ec6290fdf27ba397bae9dd", func := "loop.example/exopager/laws.FnExactKernelValid", spec := "fnExactKernelValid", unfollowed := true, recurses := true, apart := false, narrowed := true }
def FnExactKernelValidUptoSaid : Prop := fnExactKernelValidUptoRow.holds Tryz.pinned (OpenSpec.upto fnExactKernelValidSpec)

/-- 'laws.FnExactKernelReach', WHERE WHAT IT READS IS OF BULK AT MOST 1048576: true; the input reads as it did. -/
def fnExactKernelReachUptoRow : OpenClaim := { program := "ytcmmlgdfhkcmoaagreat", sum := "3cbf8a92c2653c8bcc8c69009f4c37385497c0b864ec6290fdf27ba397bae9dd", func := "loop.example/exopager/laws.FnExactKernelReach", spec := "fnExactKernelReach", unfollowed := true, recurses := true, apart := false, narrowed := true }
def FnExactKernelReachUptoSaid : Prop := fnExactKernelReachUptoRow.holds Tryz.pinned (OpenSpec.upto fnExactKernelReachSpec)

/-- 'laws.FnExactKernelSees', WHERE WHAT IT READS IS OF BULK AT MOST 1048576: true; the input reads as it did. -/
def fnExactKernelSeesUptoRow : OpenClaim := { program := "ytcmmlgdfhkcmoaagreat", sum := "3cbf8a92c2653c8bcc8c69009f4c37385497c0b864ec6290fdf27ba397bae9dd", func := "loop.example/exopager/laws.FnExactKernelSees", spec := "fnExactKernelSees", unfollowed := true, recurses := true, apart := false, narrowed := true }
def FnExactKernelSeesUptoSaid : Prop := fnExactKernelSeesUptoRow.holds Tryz.pinned (OpenSpec.upto fnExactKernelSeesSpec)

end Rows
end Go.Proofs.YtcmmlgdfhkcmoaaGreat
