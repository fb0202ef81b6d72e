/-
  NARROWER THAN 'FOR EVERY INPUT', by the rows' own cells (each row's printed sentence says how): FnMatrices: laid · FnExactMatVec: laid · FnExactMatBack: laid · FnExactOuter: laid.
  DERIVED. THE GIVEN ROWS OF THIS SEAT. 4 by the template 'for every input the law returns true; each argument reads behind the call as it read before'; 0 by the template 'total and deterministic' (their statements: YtdmkbmpgcpggdaaDoorTotals.lean).
  GIVEN WITH THE SEED: the statements are not yours to turn. If you find one false, say at which input.
  Laid BY PROGRAM, IN A SANDBOX (cutbox-rows.mjs): the forced cells as the released guide's own fill.sh prints them over the translation 4d6e3effba09ed9f… (all of the seat's roots in one cut). By AI agents, Wed Nov 11 2026. No macro, syntax, notation, axiom, sorry.
-/
import Derived.Test.YtdmkbmpgcpggdaaDoorChecked
import GoSem.Claim
import GoSem.ClaimJoined
import GoSem.ClaimMapViews
import Derived.JoinedTies
import Derived.KernelRfl
namespace Go.Proofs.YtdmkbmpgcpggdaaDoor
/- THE CELL 'sum', in the pinned program and in every row, IS THE sha256 OF THE DUMP (.gsa) THAT YtdmkbmpgcpggdaaDoorProg.lean LOADS. Nothing in Lean hashes anything: it is a label: what it is worth is what the hold of that sum in a sandbox is worth. -/
noncomputable def Tryd.pinned : Pinned := { name := "ytdmkbmpgcpggdaadoor", sum := "4d6e3effba09ed9ff8795e50a9a3125a99a298e17eb395cd5d15f5ba65aada41", checked := Tryd.checked }
namespace Rows
def none {H : Type} : Left H := { results := [], args := [] }

/- WHAT THE LISTED PACKAGE-LEVEL VARIABLES READ AS WHEN THE CALL BEGINS. Each datum BY PROGRAM (the guide's laid-datum.mjs) off the statement by which the dump's own 'gosem.cut.vars' lays the variable. In a bare row this is a premise. The card (YtdmkbmpgcpggdaaDoorCards.lean) ties it to the program's text. -/
def laid_errors_errorType {H : Type} : DataW H := .iface "internal/reflectlite.rtype" (.agg [.ptr (.lit (.string [101, 114, 114, 111, 114]))])

/-- 'laws.FnMatrices': WHATEVER THE INPUT: true; the input reads as it did. -/
def fnMatricesSpec : ChangeSpec := { name := "fnMatrices", fn := fun _ => fun
  | [d] => { results := [.lit (.bool true)], args := [d] }
  | _ => none }
def fnMatricesRow : OpenClaim := { program := "ytdmkbmpgcpggdaadoor", sum := "4d6e3effba09ed9ff8795e50a9a3125a99a298e17eb395cd5d15f5ba65aada41", func := "loop.example/g01407/laws.FnMatrices", spec := "fnMatrices", inPlace := ["internal/reflectlite.ValueOf", "(internal/reflectlite.Value).Type", "(internal/reflectlite.Value).IsNil", "internal/reflectlite.TypeOf", "(internal/reflectlite.Value).Elem", "(internal/reflectlite.Value).Set"], unfollowed := true, recurses := true, named := ["errors.errorType"], apart := false, laid := [("errors.errorType", laid_errors_errorType)] }
def FnMatricesSaid : Prop := fnMatricesRow.holds Tryd.pinned (OpenSpec.ofChange fnMatricesSpec)

/-- ITS FALSE NEIGHBOUR: 'it returns false'. Refute it at one input. -/
def fnMatricesWrong : ChangeSpec := { name := "fnMatrices", fn := fun _ => fun
  | [d] => { results := [.lit (.bool false)], args := [d] }
  | _ => none }
def FnMatricesWrongFalsely : Prop := fnMatricesRow.holds Tryd.pinned (OpenSpec.ofChange fnMatricesWrong)

/-- 'laws.FnExactMatVec': WHATEVER THE INPUT: true; the input reads as it did. -/
def fnExactMatVecSpec : ChangeSpec := { name := "fnExactMatVec", fn := fun _ => fun
  | [d1, d2] => { results := [.lit (.bool true)], args := [d1, d2] }
  | _ => none }
def fnExactMatVecRow : OpenClaim := { program := "ytdmkbmpgcpggdaadoor", sum := "4d6e3effba09ed9ff8795e50a9a3125a99a298e17eb395cd5d15f5ba65aada41", func := "loop.example/g01407/laws.FnExactMatVec", spec := "fnExactMatVec", inPlace := ["internal/reflectlite.ValueOf", "(internal/reflectlite.Value).Type", "(internal/reflectlite.Value).IsNil", "internal/reflectlite.TypeOf", "(internal/reflectlite.Value).Elem", "(internal/reflectlite.Value).Set"], unfollowed := true, recurses := true, named := ["errors.errorType"], apart := false, laid := [("errors.errorType", laid_errors_errorType)] }
def FnExactMatVecSaid : Prop := fnExactMatVecRow.holds Tryd.pinned (OpenSpec.ofChange fnExactMatVecSpec)

/-- ITS FALSE NEIGHBOUR: 'it returns false'. Refute it at one input. -/
def fnExactMatVecWrong : ChangeSpec := { name := "fnExactMatVec", fn := fun _ => fun
  | [d1, d2] => { results := [.lit (.bool false)], args := [d1, d2] }
  | _ => none }
def FnExactMatVecWrongFalsely : Prop := fnExactMatVecRow.holds Tryd.pinned (OpenSpec.ofChange fnExactMatVecWrong)

/-- 'laws.FnExactMatBack': WHATEVER THE INPUT: true; the input reads as it did. -/
def fnExactMatBackSpec : ChangeSpec := { name := "fnExactMatBack", fn := fun _ => fun
  | [d1, d2] => { results := [.lit (.bool true)], args := [d1, d2] }
  | _ => none }
def fnExactMatBackRow : OpenClaim := { program := "ytdmkbmpgcpggdaadoor", sum := "4d6e3effba09ed9ff8795e50a9a3125a99a298e17eb395cd5d15f5ba65aada41", func := "loop.example/g01407/laws.FnExactMatBack", spec := "fnExactMatBack", inPlace := ["internal/reflectlite.ValueOf", "(internal/reflectlite.Value).Type", "(internal/reflectlite.Value).IsNil", "internal/reflectlite.TypeOf", "(internal/reflectlite.Value).Elem", "(internal/reflectlite.Value).Set"], unfollowed := true, recurses := true, named := ["errors.errorType"], apart := false, laid := [("errors.errorType", laid_errors_errorType)] }
def FnExactMatBackSaid : Prop := fnExactMatBackRow.holds Tryd.pinned (OpenSpec.ofChange fnExactMatBackSpec)

/-- ITS FALSE NEIGHBOUR: 'it returns false'. Refute it at one input. -/
def fnExactMatBackWrong : ChangeSpec := { name := "fnExactMatBack", fn := fun _ => fun
  | [d1, d2] => { results := [.lit (.bool false)], args := [d1, d2] }
  | _ => none }
def FnExactMatBackWrongFalsely : Prop := fnExactMatBackRow.holds Tryd.pinned (OpenSpec.ofChange fnExactMatBackWrong)

/-- 'laws.FnExactOuter': WHATEVER THE INPUT: true; the input reads as it did. -/
def fnExactOuterSpec : ChangeSpec := { name := "fnExactOuter", fn := fun _ => fun
  | [d1, d2] => { results := [.lit (.bool true)], args := [d1, d2] }
  | _ => none }
def fnExactOuterRow : OpenClaim := { program := "ytdmkbmpgcpggdaadoor", sum := "4d6e3effba09ed9ff8795e50a9a3125a99a298e17eb395cd5d15f5ba65aada41", func := "loop.example/g01407/laws.FnExactOuter", spec := "fnExactOuter", inPlace := ["internal/reflectlite.ValueOf", "(internal/reflectlite.Value).Type", "(internal/reflectlite.Value).IsNil", "internal/reflectlite.TypeOf", "(internal/reflectlite.Value).Elem", "(internal/reflectlite.Value).Set"], unfollowed := true, recurses := true, named := ["errors.errorType"], apart := false, laid := [("errors.errorType", laid_errors_errorType)] }
def FnExactOuterSaid : Prop := fnExactOuterRow.holds Tryd.pinned (OpenSpec.ofChange fnExactOuterSpec)

/-- ITS FALSE NEIGHBOUR: 'it returns false'. Refute it at one input. -/
def fnExactOuterWrong : ChangeSpec := { name := "fnExactOuter", fn := fun _ => fun
  | [d1, d2] => { results := [.lit (.bool false)], args := [d1, d2] }
  | _ => none }
def FnExactOuterWrongFalsely : Prop := fnExactOuterRow.holds Tryd.pinned (OpenSpec.ofChange fnExactOuterWrong)

/- THE SECOND FORM. 'bulk': how many values and letters a reading holds, each counted each time it is reached (what is shared counts as often as it is met; a slice's spare places count too). A statement '..UptoSaid' is the law's where the arguments, and the package variables that the reading takes, are together of bulk at most 1048576: NARROWER than '..Said'. Prove '..Said' where nothing that the law and all that it calls make is longer than what came in: it says more and counts as full. Else prove '..UptoSaid'. A law counts once. -/
mutual
def uptoBulk {H : Type} : DataW H → Nat
  | .lit (.string bytes) => bytes.length + 1
  | .lit _ => 1
  | .nil => 1
  | .ptr d => uptoBulk d + 1
  | .slice elems spare => uptoBulkAll elems + uptoBulkAll spare + 1
  | .agg parts => uptoBulkAll parts + 1
  | .iface _ d => uptoBulk d + 1
  | .map entries => uptoBulkEntries entries + 1
  | .held _ => 1
def uptoBulkAll {H : Type} : List (DataW H) → Nat
  | [] => 0
  | d :: r => uptoBulk d + uptoBulkAll r
def uptoBulkEntries {H : Type} : List (Lit × DataW H) → Nat
  | [] => 0
  | x :: r => uptoBulkEntry x + uptoBulkEntries r
def uptoBulkEntry {H : Type} : Lit × DataW H → Nat
  | (.string bytes, d) => bytes.length + uptoBulk d + 1
  | (_, d) => uptoBulk d + 1
 end
def uptoSmall : (H : Type) → List (DataW H) → Bool := fun _ ds => decide (uptoBulkAll ds ≤ 1048576)
def OpenSpec.upto (s : _root_.Go.ChangeSpec) : _root_.Go.OpenSpec := { _root_.Go.OpenSpec.ofChange s with cond := some uptoSmall }

/-- 'laws.FnMatrices', WHERE WHAT IT READS IS OF BULK AT MOST 1048576: true; the input reads as it did. -/
def fnMatricesUptoRow : OpenClaim := { program := "ytdmkbmpgcpggdaadoor", sum := "4d6e3effba09ed9ff8795e50a9a3125a99a298e17eb395cd5d15f5ba65aada41", func := "loop.example/g01407/laws.FnMatrices", spec := "fnMatrices", inPlace := ["internal/reflectlite.ValueOf", "(internal/reflectlite.Value).Type", "(internal/reflectlite.Value).IsNil", "internal/reflectlite.TypeOf", "(internal/reflectlite.Value).Elem", "(internal/reflectlite.Value).Set"], unfollowed := true, recurses := true, named := ["errors.errorType"], apart := false, laid := [("errors.errorType", laid_errors_errorType)], narrowed := true }
def FnMatricesUptoSaid : Prop := fnMatricesUptoRow.holds Tryd.pinned (OpenSpec.upto fnMatricesSpec)

/-- 'laws.FnExactMatVec', WHERE WHAT IT READS IS OF BULK AT MOST 1048576: true; the input reads as it did. -/
def fnExactMatVecUptoRow : OpenClaim := { program := "ytdmkbmpgcpggdaadoor", sum := "4d6e3effba09ed9ff8795e50a9a3125a99a298e17eb395cd5d15f5ba65aada41", func := "loop.example/g01407/laws.FnExactMatVec", spec := "fnExactMatVec", inPlace := ["internal/reflectlite.ValueOf", "(internal/reflectlite.Value).Type", "(internal/reflectlite.Value).IsNil", "internal/reflectlite.TypeOf", "(internal/reflectlite.Value).Elem", "(internal/reflectlite.Value).Set"], unfollowed := true, recurses := true, named := ["errors.errorType"], apart := false, laid := [("errors.errorType", laid_errors_errorType)], narrowed := true }
def FnExactMatVecUptoSaid : Prop := fnExactMatVecUptoRow.holds Tryd.pinned (OpenSpec.upto fnExactMatVecSpec)

/-- 'laws.FnExactMatBack', WHERE WHAT IT READS IS OF BULK AT MOST 1048576: true; the input reads as it did. -/
def fnExactMatBackUptoRow : OpenClaim := { program := "ytdmkbmpgcpggdaadoor", sum := "4d6e3effba09ed9ff8795e50a9a3125a99a298e17eb395cd5d15f5ba65aada41", func := "loop.example/g01407/laws.FnExactMatBack", spec := "fnExactMatBack", inPlace := ["internal/reflectlite.ValueOf", "(internal/reflectlite.Value).Type", "(internal/reflectlite.Value).IsNil", "internal/reflectlite.TypeOf", "(internal/reflectlite.Value).Elem", "(internal/reflectlite.Value).Set"], unfollowed := true, recurses := true, named := ["errors.errorType"], apart := false, laid := [("errors.errorType", laid_errors_errorType)], narrowed := true }
def FnExactMatBackUptoSaid : Prop := fnExactMatBackUptoRow.holds Tryd.pinned (OpenSpec.upto fnExactMatBackSpec)

/-- 'laws.FnExactOuter', WHERE WHAT IT READS IS OF BULK AT MOST 1048576: true; the input reads as it did. -/
def fnExactOuterUptoRow : OpenClaim := { program := "ytdmkbmpgcpggdaadoor", sum := "4d6e3effba09ed9ff8795e50a9a3125a99a298e17eb395cd5d15f5ba65aada41", func := "loop.example/g01407/laws.FnExactOuter", spec := "fnExactOuter", inPlace := ["internal/reflectlite.ValueOf", "(internal/reflectlite.Value).Type", "(internal/reflectlite.Value).IsNil", "internal/reflectlite.TypeOf", "(internal/reflectlite.Value).Elem", "(internal/reflectlite.Value).Set"], unfollowed := true, recurses := true, named := ["errors.errorType"], apart := false, laid := [("errors.errorType", laid_errors_errorType)], narrowed := true }
def FnExactOuterUptoSaid : Prop := fnExactOuterUptoRow.holds Tryd.pinned (OpenSpec.upto fnExactOuterSpec)

end Rows
end Go.Proofs.YtdmkbmpgcpggdaaDoor
