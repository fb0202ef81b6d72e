/-
  No cell of these rows narrows 'for every input' (looked for: loops, veiled, ifaces, maps, wideKeys, modest, calm, conditions, laid).
  DERIVED. THE GIVEN ROWS OF THIS SEAT. 10 by the template 'for every input the law returns true; each argument reads behind the call as it read before'; 0 by the template 'total and deterministic' (their statements: YtdmkbmpgcpggdaaTotals.lean).
  GIVEN WITH THE SEED: the statements are not yours to turn. If you find one false, say at which input.
  Laid BY PROGRAM, IN A SANDBOX (cutbox-rows.mjs): the forced cells as the released guide's own fill.sh prints them over the translation 242a911cb234bcb9… (all of the seat's roots in one cut). By AI agents, Wed Nov 11 2026. No macro, syntax, notation, axiom, sorry.
-/
import Derived.Test.YtdmkbmpgcpggdaaChecked
import GoSem.Claim
import GoSem.ClaimJoined
import GoSem.ClaimMapViews
import Derived.JoinedTies
import Derived.KernelRfl
namespace Go.Proofs.Ytdmkbmpgcpggdaa
/- THE CELL 'sum', in the pinned program and in every row, IS THE sha256 OF THE DUMP (.gsa) THAT YtdmkbmpgcpggdaaProg.lean LOADS. Nothing in Lean hashes anything: it is a label: what it is worth is what the hold of that sum in a sandbox is worth. -/
noncomputable def Try.pinned : Pinned := { name := "ytdmkbmpgcpggdaa", sum := "242a911cb234bcb9f640b1466f9e56faa41e02ebd8aed744bb11d986fed20397", checked := Try.checked }
namespace Rows
def none {H : Type} : Left H := { results := [], args := [] }

/-- 'laws.FnOps': WHATEVER THE INPUT: true; the input reads as it did. -/
def fnOpsSpec : ChangeSpec := { name := "fnOps", fn := fun _ => fun
  | [d] => { results := [.lit (.bool true)], args := [d] }
  | _ => none }
def fnOpsRow : OpenClaim := { program := "ytdmkbmpgcpggdaa", sum := "242a911cb234bcb9f640b1466f9e56faa41e02ebd8aed744bb11d986fed20397", func := "loop.example/g01407/laws.FnOps", spec := "fnOps", unfollowed := true, recurses := true, apart := false }
def FnOpsSaid : Prop := fnOpsRow.holds Try.pinned (OpenSpec.ofChange fnOpsSpec)

/-- ITS FALSE NEIGHBOUR: 'it returns false'. Refute it at one input. -/
def fnOpsWrong : ChangeSpec := { name := "fnOps", fn := fun _ => fun
  | [d] => { results := [.lit (.bool false)], args := [d] }
  | _ => none }
def FnOpsWrongFalsely : Prop := fnOpsRow.holds Try.pinned (OpenSpec.ofChange fnOpsWrong)

/-- 'laws.FnExactOpOk': WHATEVER THE INPUT: true; the input reads as it did. -/
def fnExactOpOkSpec : ChangeSpec := { name := "fnExactOpOk", fn := fun _ => fun
  | [d] => { results := [.lit (.bool true)], args := [d] }
  | _ => none }
def fnExactOpOkRow : OpenClaim := { program := "ytdmkbmpgcpggdaa", sum := "242a911cb234bcb9f640b1466f9e56faa41e02ebd8aed744bb11d986fed20397", func := "loop.example/g01407/laws.FnExactOpOk", spec := "fnExactOpOk", apart := false }
def FnExactOpOkSaid : Prop := fnExactOpOkRow.holds Try.pinned (OpenSpec.ofChange fnExactOpOkSpec)

/-- ITS FALSE NEIGHBOUR: 'it returns false'. Refute it at one input. -/
def fnExactOpOkWrong : ChangeSpec := { name := "fnExactOpOk", fn := fun _ => fun
  | [d] => { results := [.lit (.bool false)], args := [d] }
  | _ => none }
def FnExactOpOkWrongFalsely : Prop := fnExactOpOkRow.holds Try.pinned (OpenSpec.ofChange fnExactOpOkWrong)

/-- 'laws.FnExactOpSize': WHATEVER THE INPUT: true; the input reads as it did. -/
def fnExactOpSizeSpec : ChangeSpec := { name := "fnExactOpSize", fn := fun _ => fun
  | [d] => { results := [.lit (.bool true)], args := [d] }
  | _ => none }
def fnExactOpSizeRow : OpenClaim := { program := "ytdmkbmpgcpggdaa", sum := "242a911cb234bcb9f640b1466f9e56faa41e02ebd8aed744bb11d986fed20397", func := "loop.example/g01407/laws.FnExactOpSize", spec := "fnExactOpSize", apart := false }
def FnExactOpSizeSaid : Prop := fnExactOpSizeRow.holds Try.pinned (OpenSpec.ofChange fnExactOpSizeSpec)

/-- ITS FALSE NEIGHBOUR: 'it returns false'. Refute it at one input. -/
def fnExactOpSizeWrong : ChangeSpec := { name := "fnExactOpSize", fn := fun _ => fun
  | [d] => { results := [.lit (.bool false)], args := [d] }
  | _ => none }
def FnExactOpSizeWrongFalsely : Prop := fnExactOpSizeRow.holds Try.pinned (OpenSpec.ofChange fnExactOpSizeWrong)

/-- 'laws.FnExactOpForward': WHATEVER THE INPUT: true; the input reads as it did. -/
def fnExactOpForwardSpec : ChangeSpec := { name := "fnExactOpForward", fn := fun _ => fun
  | [d1, d2] => { results := [.lit (.bool true)], args := [d1, d2] }
  | _ => none }
def fnExactOpForwardRow : OpenClaim := { program := "ytdmkbmpgcpggdaa", sum := "242a911cb234bcb9f640b1466f9e56faa41e02ebd8aed744bb11d986fed20397", func := "loop.example/g01407/laws.FnExactOpForward", spec := "fnExactOpForward", unfollowed := true, recurses := true, apart := false }
def FnExactOpForwardSaid : Prop := fnExactOpForwardRow.holds Try.pinned (OpenSpec.ofChange fnExactOpForwardSpec)

/-- ITS FALSE NEIGHBOUR: 'it returns false'. Refute it at one input. -/
def fnExactOpForwardWrong : ChangeSpec := { name := "fnExactOpForward", fn := fun _ => fun
  | [d1, d2] => { results := [.lit (.bool false)], args := [d1, d2] }
  | _ => none }
def FnExactOpForwardWrongFalsely : Prop := fnExactOpForwardRow.holds Try.pinned (OpenSpec.ofChange fnExactOpForwardWrong)

/-- 'laws.FnExactOpBackward': WHATEVER THE INPUT: true; the input reads as it did. -/
def fnExactOpBackwardSpec : ChangeSpec := { name := "fnExactOpBackward", fn := fun _ => fun
  | [d1, d2, d3] => { results := [.lit (.bool true)], args := [d1, d2, d3] }
  | _ => none }
def fnExactOpBackwardRow : OpenClaim := { program := "ytdmkbmpgcpggdaa", sum := "242a911cb234bcb9f640b1466f9e56faa41e02ebd8aed744bb11d986fed20397", func := "loop.example/g01407/laws.FnExactOpBackward", spec := "fnExactOpBackward", unfollowed := true, recurses := true, apart := false }
def FnExactOpBackwardSaid : Prop := fnExactOpBackwardRow.holds Try.pinned (OpenSpec.ofChange fnExactOpBackwardSpec)

/-- ITS FALSE NEIGHBOUR: 'it returns false'. Refute it at one input. -/
def fnExactOpBackwardWrong : ChangeSpec := { name := "fnExactOpBackward", fn := fun _ => fun
  | [d1, d2, d3] => { results := [.lit (.bool false)], args := [d1, d2, d3] }
  | _ => none }
def FnExactOpBackwardWrongFalsely : Prop := fnExactOpBackwardRow.holds Try.pinned (OpenSpec.ofChange fnExactOpBackwardWrong)

/-- 'laws.FnExactOpCost': WHATEVER THE INPUT: true; the input reads as it did. -/
def fnExactOpCostSpec : ChangeSpec := { name := "fnExactOpCost", fn := fun _ => fun
  | [d] => { results := [.lit (.bool true)], args := [d] }
  | _ => none }
def fnExactOpCostRow : OpenClaim := { program := "ytdmkbmpgcpggdaa", sum := "242a911cb234bcb9f640b1466f9e56faa41e02ebd8aed744bb11d986fed20397", func := "loop.example/g01407/laws.FnExactOpCost", spec := "fnExactOpCost", apart := false }
def FnExactOpCostSaid : Prop := fnExactOpCostRow.holds Try.pinned (OpenSpec.ofChange fnExactOpCostSpec)

/-- ITS FALSE NEIGHBOUR: 'it returns false'. Refute it at one input. -/
def fnExactOpCostWrong : ChangeSpec := { name := "fnExactOpCost", fn := fun _ => fun
  | [d] => { results := [.lit (.bool false)], args := [d] }
  | _ => none }
def FnExactOpCostWrongFalsely : Prop := fnExactOpCostRow.holds Try.pinned (OpenSpec.ofChange fnExactOpCostWrong)

/-- 'laws.FnExactSameOp': WHATEVER THE INPUT: true; the input reads as it did. -/
def fnExactSameOpSpec : ChangeSpec := { name := "fnExactSameOp", fn := fun _ => fun
  | [d1, d2] => { results := [.lit (.bool true)], args := [d1, d2] }
  | _ => none }
def fnExactSameOpRow : OpenClaim := { program := "ytdmkbmpgcpggdaa", sum := "242a911cb234bcb9f640b1466f9e56faa41e02ebd8aed744bb11d986fed20397", func := "loop.example/g01407/laws.FnExactSameOp", spec := "fnExactSameOp", apart := false }
def FnExactSameOpSaid : Prop := fnExactSameOpRow.holds Try.pinned (OpenSpec.ofChange fnExactSameOpSpec)

/-- ITS FALSE NEIGHBOUR: 'it returns false'. Refute it at one input. -/
def fnExactSameOpWrong : ChangeSpec := { name := "fnExactSameOp", fn := fun _ => fun
  | [d1, d2] => { results := [.lit (.bool false)], args := [d1, d2] }
  | _ => none }
def FnExactSameOpWrongFalsely : Prop := fnExactSameOpRow.holds Try.pinned (OpenSpec.ofChange fnExactSameOpWrong)

/-- 'laws.FnExactMatOk': WHATEVER THE INPUT: true; the input reads as it did. -/
def fnExactMatOkSpec : ChangeSpec := { name := "fnExactMatOk", fn := fun _ => fun
  | [d] => { results := [.lit (.bool true)], args := [d] }
  | _ => none }
def fnExactMatOkRow : OpenClaim := { program := "ytdmkbmpgcpggdaa", sum := "242a911cb234bcb9f640b1466f9e56faa41e02ebd8aed744bb11d986fed20397", func := "loop.example/g01407/laws.FnExactMatOk", spec := "fnExactMatOk", apart := false }
def FnExactMatOkSaid : Prop := fnExactMatOkRow.holds Try.pinned (OpenSpec.ofChange fnExactMatOkSpec)

/-- ITS FALSE NEIGHBOUR: 'it returns false'. Refute it at one input. -/
def fnExactMatOkWrong : ChangeSpec := { name := "fnExactMatOk", fn := fun _ => fun
  | [d] => { results := [.lit (.bool false)], args := [d] }
  | _ => none }
def FnExactMatOkWrongFalsely : Prop := fnExactMatOkRow.holds Try.pinned (OpenSpec.ofChange fnExactMatOkWrong)

/-- 'laws.FnExactTranspose': WHATEVER THE INPUT: true; the input reads as it did. -/
def fnExactTransposeSpec : ChangeSpec := { name := "fnExactTranspose", fn := fun _ => fun
  | [d] => { results := [.lit (.bool true)], args := [d] }
  | _ => none }
def fnExactTransposeRow : OpenClaim := { program := "ytdmkbmpgcpggdaa", sum := "242a911cb234bcb9f640b1466f9e56faa41e02ebd8aed744bb11d986fed20397", func := "loop.example/g01407/laws.FnExactTranspose", spec := "fnExactTranspose", apart := false }
def FnExactTransposeSaid : Prop := fnExactTransposeRow.holds Try.pinned (OpenSpec.ofChange fnExactTransposeSpec)

/-- ITS FALSE NEIGHBOUR: 'it returns false'. Refute it at one input. -/
def fnExactTransposeWrong : ChangeSpec := { name := "fnExactTranspose", fn := fun _ => fun
  | [d] => { results := [.lit (.bool false)], args := [d] }
  | _ => none }
def FnExactTransposeWrongFalsely : Prop := fnExactTransposeRow.holds Try.pinned (OpenSpec.ofChange fnExactTransposeWrong)

/-- 'laws.FnExactSameMat': WHATEVER THE INPUT: true; the input reads as it did. -/
def fnExactSameMatSpec : ChangeSpec := { name := "fnExactSameMat", fn := fun _ => fun
  | [d1, d2] => { results := [.lit (.bool true)], args := [d1, d2] }
  | _ => none }
def fnExactSameMatRow : OpenClaim := { program := "ytdmkbmpgcpggdaa", sum := "242a911cb234bcb9f640b1466f9e56faa41e02ebd8aed744bb11d986fed20397", func := "loop.example/g01407/laws.FnExactSameMat", spec := "fnExactSameMat", apart := false }
def FnExactSameMatSaid : Prop := fnExactSameMatRow.holds Try.pinned (OpenSpec.ofChange fnExactSameMatSpec)

/-- ITS FALSE NEIGHBOUR: 'it returns false'. Refute it at one input. -/
def fnExactSameMatWrong : ChangeSpec := { name := "fnExactSameMat", fn := fun _ => fun
  | [d1, d2] => { results := [.lit (.bool false)], args := [d1, d2] }
  | _ => none }
def FnExactSameMatWrongFalsely : Prop := fnExactSameMatRow.holds Try.pinned (OpenSpec.ofChange fnExactSameMatWrong)

/- THE SECOND FORM. 'bulk': how many values and letters a reading holds, each counted each time it is reached (what is shared counts as often as it is met; a slice's spare places count too). A statement '..UptoSaid' is the law's where the arguments, and the package variables that the reading takes, are together of bulk at most 1048576: NARROWER than '..Said'. Prove '..Said' where nothing that the law and all that it calls make is longer than what came in: it says more and counts as full. Else prove '..UptoSaid'. A law counts once. -/
mutual
def uptoBulk {H : Type} : DataW H → Nat
  | .lit (.string bytes) => bytes.length + 1
  | .lit _ => 1
  | .nil => 1
  | .ptr d => uptoBulk d + 1
  | .slice elems spare => uptoBulkAll elems + uptoBulkAll spare + 1
  | .agg parts => uptoBulkAll parts + 1
  | .iface _ d => uptoBulk d + 1
  | .map entries => uptoBulkEntries entries + 1
  | .held _ => 1
def uptoBulkAll {H : Type} : List (DataW H) → Nat
  | [] => 0
  | d :: r => uptoBulk d + uptoBulkAll r
def uptoBulkEntries {H : Type} : List (Lit × DataW H) → Nat
  | [] => 0
  | x :: r => uptoBulkEntry x + uptoBulkEntries r
def uptoBulkEntry {H : Type} : Lit × DataW H → Nat
  | (.string bytes, d) => bytes.length + uptoBulk d + 1
  | (_, d) => uptoBulk d + 1
 end
def uptoSmall : (H : Type) → List (DataW H) → Bool := fun _ ds => decide (uptoBulkAll ds ≤ 1048576)
def OpenSpec.upto (s : _root_.Go.ChangeSpec) : _root_.Go.OpenSpec := { _root_.Go.OpenSpec.ofChange s with cond := some uptoSmall }

/-- 'laws.FnOps', WHERE WHAT IT READS IS OF BULK AT MOST 1048576: true; the input reads as it did. -/
def fnOpsUptoRow : OpenClaim := { program := "ytdmkbmpgcpggdaa", sum := "242a911cb234bcb9f640b1466f9e56faa41e02ebd8aed744bb11d986fed20397", func := "loop.example/g01407/laws.FnOps", spec := "fnOps", unfollowed := true, recurses := true, apart := false, narrowed := true }
def FnOpsUptoSaid : Prop := fnOpsUptoRow.holds Try.pinned (OpenSpec.upto fnOpsSpec)

/-- 'laws.FnExactOpOk', WHERE WHAT IT READS IS OF BULK AT MOST 1048576: true; the input reads as it did. -/
def fnExactOpOkUptoRow : OpenClaim := { program := "ytdmkbmpgcpggdaa", sum := "242a911cb234bcb9f640b1466f9e56faa41e02ebd8aed744bb11d986fed20397", func := "loop.example/g01407/laws.FnExactOpOk", spec := "fnExactOpOk", apart := false, narrowed := true }
def FnExactOpOkUptoSaid : Prop := fnExactOpOkUptoRow.holds Try.pinned (OpenSpec.upto fnExactOpOkSpec)

/-- 'laws.FnExactOpSize', WHERE WHAT IT READS IS OF BULK AT MOST 1048576: true; the input reads as it did. -/
def fnExactOpSizeUptoRow : OpenClaim := { program := "ytdmkbmpgcpggdaa", sum := "242a911cb234bcb9f640b1466f9e56faa41e02ebd8aed744bb11d986fed20397", func := "loop.example/g01407/laws.FnExactOpSize", spec := "fnExactOpSize", apart := false, narrowed := true }
def FnExactOpSizeUptoSaid : Prop := fnExactOpSizeUptoRow.holds Try.pinned (OpenSpec.upto fnExactOpSizeSpec)

/-- 'laws.FnExactOpForward', WHERE WHAT IT READS IS OF BULK AT MOST 1048576: true; the input reads as it did. -/
def fnExactOpForwardUptoRow : OpenClaim := { program := "ytdmkbmpgcpggdaa", sum := "242a911cb234bcb9f640b1466f9e56faa41e02ebd8aed744bb11d986fed20397", func := "loop.example/g01407/laws.FnExactOpForward", spec := "fnExactOpForward", unfollowed := true, recurses := true, apart := false, narrowed := true }
def FnExactOpForwardUptoSaid : Prop := fnExactOpForwardUptoRow.holds Try.pinned (OpenSpec.upto fnExactOpForwardSpec)

/-- 'laws.FnExactOpBackward', WHERE WHAT IT READS IS OF BULK AT MOST 1048576: true; the input reads as it did. -/
def fnExactOpBackwardUptoRow : OpenClaim := { program := "ytdmkbmpgcpggdaa", sum := "242a911cb234bcb9f640b1466f9e56faa41e02ebd8aed744bb11d986fed20397", func := "loop.example/g01407/laws.FnExactOpBackward", spec := "fnExactOpBackward", unfollowed := true, recurses := true, apart := false, narrowed := true }
def FnExactOpBackwardUptoSaid : Prop := fnExactOpBackwardUptoRow.holds Try.pinned (OpenSpec.upto fnExactOpBackwardSpec)

/-- 'laws.FnExactOpCost', WHERE WHAT IT READS IS OF BULK AT MOST 1048576: true; the input reads as it did. -/
def fnExactOpCostUptoRow : OpenClaim := { program := "ytdmkbmpgcpggdaa", sum := "242a911cb234bcb9f640b1466f9e56faa41e02ebd8aed744bb11d986fed20397", func := "loop.example/g01407/laws.FnExactOpCost", spec := "fnExactOpCost", apart := false, narrowed := true }
def FnExactOpCostUptoSaid : Prop := fnExactOpCostUptoRow.holds Try.pinned (OpenSpec.upto fnExactOpCostSpec)

/-- 'laws.FnExactSameOp', WHERE WHAT IT READS IS OF BULK AT MOST 1048576: true; the input reads as it did. -/
def fnExactSameOpUptoRow : OpenClaim := { program := "ytdmkbmpgcpggdaa", sum := "242a911cb234bcb9f640b1466f9e56faa41e02ebd8aed744bb11d986fed20397", func := "loop.example/g01407/laws.FnExactSameOp", spec := "fnExactSameOp", apart := false, narrowed := true }
def FnExactSameOpUptoSaid : Prop := fnExactSameOpUptoRow.holds Try.pinned (OpenSpec.upto fnExactSameOpSpec)

/-- 'laws.FnExactMatOk', WHERE WHAT IT READS IS OF BULK AT MOST 1048576: true; the input reads as it did. -/
def fnExactMatOkUptoRow : OpenClaim := { program := "ytdmkbmpgcpggdaa", sum := "242a911cb234bcb9f640b1466f9e56faa41e02ebd8aed744bb11d986fed20397", func := "loop.example/g01407/laws.FnExactMatOk", spec := "fnExactMatOk", apart := false, narrowed := true }
def FnExactMatOkUptoSaid : Prop := fnExactMatOkUptoRow.holds Try.pinned (OpenSpec.upto fnExactMatOkSpec)

/-- 'laws.FnExactTranspose', WHERE WHAT IT READS IS OF BULK AT MOST 1048576: true; the input reads as it did. -/
def fnExactTransposeUptoRow : OpenClaim := { program := "ytdmkbmpgcpggdaa", sum := "242a911cb234bcb9f640b1466f9e56faa41e02ebd8aed744bb11d986fed20397", func := "loop.example/g01407/laws.FnExactTranspose", spec := "fnExactTranspose", apart := false, narrowed := true }
def FnExactTransposeUptoSaid : Prop := fnExactTransposeUptoRow.holds Try.pinned (OpenSpec.upto fnExactTransposeSpec)

/-- 'laws.FnExactSameMat', WHERE WHAT IT READS IS OF BULK AT MOST 1048576: true; the input reads as it did. -/
def fnExactSameMatUptoRow : OpenClaim := { program := "ytdmkbmpgcpggdaa", sum := "242a911cb234bcb9f640b1466f9e56faa41e02ebd8aed744bb11d986fed20397", func := "loop.example/g01407/laws.FnExactSameMat", spec := "fnExactSameMat", apart := false, narrowed := true }
def FnExactSameMatUptoSaid : Prop := fnExactSameMatUptoRow.holds Try.pinned (OpenSpec.upto fnExactSameMatSpec)

end Rows
end Go.Proofs.Ytdmkbmpgcpggdaa
