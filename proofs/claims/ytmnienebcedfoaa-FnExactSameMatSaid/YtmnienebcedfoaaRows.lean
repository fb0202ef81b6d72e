/-
  No cell of these rows narrows 'for every input' (looked for: loops, veiled, ifaces, maps, wideKeys, modest, calm, conditions, laid).
  DERIVED. THE GIVEN ROWS OF THIS SEAT. 3 by the template 'for every input the law returns true; each argument reads behind the call as it read before'; 0 by the template 'total and deterministic' (their statements: YtmnienebcedfoaaTotals.lean).
  GIVEN WITH THE SEED: the statements are not yours to turn. If you find one false, say at which input.
  Laid BY PROGRAM, IN A SANDBOX (cutbox-rows.mjs): the forced cells as the released guide's own fill.sh prints them over the translation 5504d062e1cd68fe… (all of the seat's roots in one cut). By AI agents, Wed Nov 11 2026. No macro, syntax, notation, axiom, sorry.
-/
import Derived.Test.YtmnienebcedfoaaChecked
import GoSem.Claim
import GoSem.ClaimJoined
import GoSem.ClaimMapViews
import Derived.JoinedTies
import Derived.KernelRfl
namespace Go.Proofs.Ytmnienebcedfoaa
/- THE CELL 'sum', in the pinned program and in every row, IS THE sha256 OF THE DUMP (.gsa) THAT YtmnienebcedfoaaProg.lean LOADS. Nothing in Lean hashes anything: it is a label: what it is worth is what the hold of that sum in a sandbox is worth. -/
noncomputable def Try.pinned : Pinned := { name := "ytmnienebcedfoaa", sum := "5504d062e1cd68feceb58d2ae31e4717ccdea390343ac7ed431833cf9d6f2630", checked := Try.checked }
namespace Rows
def none {H : Type} : Left H := { results := [], args := [] }

/-- 'laws.FnExactMatOk': WHATEVER THE INPUT: true; the input reads as it did. -/
def fnExactMatOkSpec : ChangeSpec := { name := "fnExactMatOk", fn := fun _ => fun
  | [d] => { results := [.lit (.bool true)], args := [d] }
  | _ => none }
def fnExactMatOkRow : OpenClaim := { program := "ytmnienebcedfoaa", sum := "5504d062e1cd68feceb58d2ae31e4717ccdea390343ac7ed431833cf9d6f2630", func := "loop.example/g01407/laws.FnExactMatOk", spec := "fnExactMatOk", unfollowed := true, recurses := true, apart := false }
def FnExactMatOkSaid : Prop := fnExactMatOkRow.holds Try.pinned (OpenSpec.ofChange fnExactMatOkSpec)

/-- ITS FALSE NEIGHBOUR: 'it returns false'. Refute it at one input. -/
def fnExactMatOkWrong : ChangeSpec := { name := "fnExactMatOk", fn := fun _ => fun
  | [d] => { results := [.lit (.bool false)], args := [d] }
  | _ => none }
def FnExactMatOkWrongFalsely : Prop := fnExactMatOkRow.holds Try.pinned (OpenSpec.ofChange fnExactMatOkWrong)

/-- 'laws.FnExactTranspose': WHATEVER THE INPUT: true; the input reads as it did. -/
def fnExactTransposeSpec : ChangeSpec := { name := "fnExactTranspose", fn := fun _ => fun
  | [d] => { results := [.lit (.bool true)], args := [d] }
  | _ => none }
def fnExactTransposeRow : OpenClaim := { program := "ytmnienebcedfoaa", sum := "5504d062e1cd68feceb58d2ae31e4717ccdea390343ac7ed431833cf9d6f2630", func := "loop.example/g01407/laws.FnExactTranspose", spec := "fnExactTranspose", unfollowed := true, recurses := true, apart := false }
def FnExactTransposeSaid : Prop := fnExactTransposeRow.holds Try.pinned (OpenSpec.ofChange fnExactTransposeSpec)

/-- ITS FALSE NEIGHBOUR: 'it returns false'. Refute it at one input. -/
def fnExactTransposeWrong : ChangeSpec := { name := "fnExactTranspose", fn := fun _ => fun
  | [d] => { results := [.lit (.bool false)], args := [d] }
  | _ => none }
def FnExactTransposeWrongFalsely : Prop := fnExactTransposeRow.holds Try.pinned (OpenSpec.ofChange fnExactTransposeWrong)

/-- 'laws.FnExactSameMat': WHATEVER THE INPUT: true; the input reads as it did. -/
def fnExactSameMatSpec : ChangeSpec := { name := "fnExactSameMat", fn := fun _ => fun
  | [d1, d2] => { results := [.lit (.bool true)], args := [d1, d2] }
  | _ => none }
def fnExactSameMatRow : OpenClaim := { program := "ytmnienebcedfoaa", sum := "5504d062e1cd68feceb58d2ae31e4717ccdea390343ac7ed431833cf9d6f2630", func := "loop.example/g01407/laws.FnExactSameMat", spec := "fnExactSameMat", apart := false }
def FnExactSameMatSaid : Prop := fnExactSameMatRow.holds Try.pinned (OpenSpec.ofChange fnExactSameMatSpec)

/-- ITS FALSE NEIGHBOUR: 'it returns false'. Refute it at one input. -/
def fnExactSameMatWrong : ChangeSpec := { name := "fnExactSameMat", fn := fun _ => fun
  | [d1, d2] => { results := [.lit (.bool false)], args := [d1, d2] }
  | _ => none }
def FnExactSameMatWrongFalsely : Prop := fnExactSameMatRow.holds Try.pinned (OpenSpec.ofChange fnExactSameMatWrong)

/- THE SECOND FORM. 'bulk': how many values and letters a reading holds, each counted each time it is reached (what is shared counts as often as it is met; a slice's spare places count too). A statement '..UptoSaid' is the law's where the arguments, and the package variables that the reading takes, are together of bulk at most 1048576: NARROWER than '..Said'. Prove '..Said' where nothing that the law and all that it calls make is longer than what came in: it says more and counts as full. Else prove '..UptoSaid'. A law counts once. -/
mutual
def uptoBulk {H : Type} : DataW H → Nat
  | .lit (.string bytes) => bytes.length + 1
  | .lit _ => 1
  | .nil => 1
  | .ptr d => uptoBulk d + 1
  | .slice elems spare => uptoBulkAll elems + uptoBulkAll spare + 1
  | .agg parts => uptoBulkAll parts + 1
  | .iface _ d => uptoBulk d + 1
  | .map entries => uptoBulkEntries entries + 1
  | .held _ => 1
def uptoBulkAll {H : Type} : List (DataW H) → Nat
  | [] => 0
  | d :: r => uptoBulk d + uptoBulkAll r
def uptoBulkEntries {H : Type} : List (Lit × DataW H) → Nat
  | [] => 0
  | x :: r => uptoBulkEntry x + uptoBulkEntries r
def uptoBulkEntry {H : Type} : Lit × DataW H → Nat
  | (.string bytes, d) => bytes.length + uptoBulk d + 1
  | (_, d) => uptoBulk d + 1
 end
def uptoSmall : (H : Type) → List (DataW H) → Bool := fun _ ds => decide (uptoBulkAll ds ≤ 1048576)
def OpenSpec.upto (s : _root_.Go.ChangeSpec) : _root_.Go.OpenSpec := { _root_.Go.OpenSpec.ofChange s with cond := some uptoSmall }

/-- 'laws.FnExactMatOk', WHERE WHAT IT READS IS OF BULK AT MOST 1048576: true; the input reads as it did. -/
def fnExactMatOkUptoRow : OpenClaim := { program := "ytmnienebcedfoaa", sum := "5504d062e1cd68feceb58d2ae31e4717ccdea390343ac7ed431833cf9d6f2630", func := "loop.example/g01407/laws.FnExactMatOk", spec := "fnExactMatOk", unfollowed := true, recurses := true, apart := false, narrowed := true }
def FnExactMatOkUptoSaid : Prop := fnExactMatOkUptoRow.holds Try.pinned (OpenSpec.upto fnExactMatOkSpec)

/-- 'laws.FnExactTranspose', WHERE WHAT IT READS IS OF BULK AT MOST 1048576: true; the input reads as it did. -/
def fnExactTransposeUptoRow : OpenClaim := { program := "ytmnienebcedfoaa", sum := "5504d062e1cd68feceb58d2ae31e4717ccdea390343ac7ed431833cf9d6f2630", func := "loop.example/g01407/laws.FnExactTranspose", spec := "fnExactTranspose", unfollowed := true, recurses := true, apart := false, narrowed := true }
def FnExactTransposeUptoSaid : Prop := fnExactTransposeUptoRow.holds Try.pinned (OpenSpec.upto fnExactTransposeSpec)

/-- 'laws.FnExactSameMat', WHERE WHAT IT READS IS OF BULK AT MOST 1048576: true; the input reads as it did. -/
def fnExactSameMatUptoRow : OpenClaim := { program := "ytmnienebcedfoaa", sum := "5504d062e1cd68feceb58d2ae31e4717ccdea390343ac7ed431833cf9d6f2630", func := "loop.example/g01407/laws.FnExactSameMat", spec := "fnExactSameMat", apart := false, narrowed := true }
def FnExactSameMatUptoSaid : Prop := fnExactSameMatUptoRow.holds Try.pinned (OpenSpec.upto fnExactSameMatSpec)

end Rows
end Go.Proofs.Ytmnienebcedfoaa
