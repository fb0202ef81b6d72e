/-
  NARROWER THAN 'FOR EVERY INPUT', by the rows' own cells (each row's printed sentence says how): FnOnceMore: laid · FnExactStageFwd: laid · FnExactStageBwd: laid · FnExactEnabled: laid · FnExactPick: laid.
  DERIVED. THE GIVEN ROWS OF THIS SEAT. 5 by the template 'for every input the law returns true; each argument reads behind the call as it read before'; 0 by the template 'total and deterministic' (their statements: YtcooobnaocbdjaaGreatDoorTotals.lean).
  GIVEN WITH THE SEED: the statements are not yours to turn. If you find one false, say at which input.
  Laid BY PROGRAM, IN A SANDBOX (cutbox-rows.mjs): the forced cells as the released guide's own fill.sh prints them over the translation 1a94ac970f5a23e0… (all of the seat's roots in one cut). By AI agents, Wed Nov 11 2026. No macro, syntax, notation, axiom, sorry.
-/
import Derived.Test.YtcooobnaocbdjaaGreatDoorChecked
import GoSem.Claim
import GoSem.ClaimJoined
import GoSem.ClaimMapViews
import Derived.JoinedTies
import Derived.KernelRfl
namespace Go.Proofs.YtcooobnaocbdjaaGreatDoor
/- THE CELL 'sum', in the pinned program and in every row, IS THE sha256 OF THE DUMP (.gsa) THAT YtcooobnaocbdjaaGreatDoorProg.lean LOADS. Nothing in Lean hashes anything: it is a label: what it is worth is what the hold of that sum in a sandbox is worth. -/
noncomputable def Tryz.pinned : Pinned := { name := "ytcooobnaocbdjaagreatdoor", sum := "1a94ac970f5a23e07d5bd30c208446602f4620ae16d17938087a367af3f0bf8d", checked := Tryz.checked }
namespace Rows
def none {H : Type} : Left H := { results := [], args := [] }

/- WHAT THE LISTED PACKAGE-LEVEL VARIABLES READ AS WHEN THE CALL BEGINS. Each datum BY PROGRAM (the guide's laid-datum.mjs) off the statement by which the dump's own 'gosem.cut.vars' lays the variable. In a bare row this is a premise. The card (YtcooobnaocbdjaaGreatDoorCards.lean) ties it to the program's text. -/
def laid_errors_errorType {H : Type} : DataW H := .iface "internal/reflectlite.rtype" (.agg [.ptr (.lit (.string [101, 114, 114, 111, 114]))])

/-- 'laws.FnOnceMore': WHATEVER THE INPUT: true; the input reads as it did. -/
def fnOnceMoreSpec : ChangeSpec := { name := "fnOnceMore", fn := fun _ => fun
  | [d] => { results := [.lit (.bool true)], args := [d] }
  | _ => none }
def fnOnceMoreRow : OpenClaim := { program := "ytcooobnaocbdjaagreatdoor", sum := "1a94ac970f5a23e07d5bd30c208446602f4620ae16d17938087a367af3f0bf8d", func := "loop.example/g01407/laws.FnOnceMore", spec := "fnOnceMore", inPlace := ["internal/reflectlite.ValueOf", "(internal/reflectlite.Value).Type", "(internal/reflectlite.Value).IsNil", "internal/reflectlite.TypeOf", "(internal/reflectlite.Value).Elem", "(internal/reflectlite.Value).Set"], unfollowed := true, recurses := true, named := ["errors.errorType"], plainKeys := false, apart := false, laid := [("errors.errorType", laid_errors_errorType)] }
def FnOnceMoreSaid : Prop := fnOnceMoreRow.holds Tryz.pinned (OpenSpec.ofChange fnOnceMoreSpec)

/-- ITS FALSE NEIGHBOUR: 'it returns false'. Refute it at one input. -/
def fnOnceMoreWrong : ChangeSpec := { name := "fnOnceMore", fn := fun _ => fun
  | [d] => { results := [.lit (.bool false)], args := [d] }
  | _ => none }
def FnOnceMoreWrongFalsely : Prop := fnOnceMoreRow.holds Tryz.pinned (OpenSpec.ofChange fnOnceMoreWrong)

/-- 'laws.FnExactStageFwd': WHATEVER THE INPUT: true; the input reads as it did. -/
def fnExactStageFwdSpec : ChangeSpec := { name := "fnExactStageFwd", fn := fun _ => fun
  | [d1, d2, d3, d4] => { results := [.lit (.bool true)], args := [d1, d2, d3, d4] }
  | _ => none }
def fnExactStageFwdRow : OpenClaim := { program := "ytcooobnaocbdjaagreatdoor", sum := "1a94ac970f5a23e07d5bd30c208446602f4620ae16d17938087a367af3f0bf8d", func := "loop.example/g01407/laws.FnExactStageFwd", spec := "fnExactStageFwd", inPlace := ["internal/reflectlite.ValueOf", "(internal/reflectlite.Value).Type", "(internal/reflectlite.Value).IsNil", "internal/reflectlite.TypeOf", "(internal/reflectlite.Value).Elem", "(internal/reflectlite.Value).Set"], unfollowed := true, recurses := true, named := ["errors.errorType"], plainKeys := false, apart := false, laid := [("errors.errorType", laid_errors_errorType)] }
def FnExactStageFwdSaid : Prop := fnExactStageFwdRow.holds Tryz.pinned (OpenSpec.ofChange fnExactStageFwdSpec)

/-- ITS FALSE NEIGHBOUR: 'it returns false'. Refute it at one input. -/
def fnExactStageFwdWrong : ChangeSpec := { name := "fnExactStageFwd", fn := fun _ => fun
  | [d1, d2, d3, d4] => { results := [.lit (.bool false)], args := [d1, d2, d3, d4] }
  | _ => none }
def FnExactStageFwdWrongFalsely : Prop := fnExactStageFwdRow.holds Tryz.pinned (OpenSpec.ofChange fnExactStageFwdWrong)

/-- 'laws.FnExactStageBwd': WHATEVER THE INPUT: true; the input reads as it did. -/
def fnExactStageBwdSpec : ChangeSpec := { name := "fnExactStageBwd", fn := fun _ => fun
  | [d1, d2, d3] => { results := [.lit (.bool true)], args := [d1, d2, d3] }
  | _ => none }
def fnExactStageBwdRow : OpenClaim := { program := "ytcooobnaocbdjaagreatdoor", sum := "1a94ac970f5a23e07d5bd30c208446602f4620ae16d17938087a367af3f0bf8d", func := "loop.example/g01407/laws.FnExactStageBwd", spec := "fnExactStageBwd", inPlace := ["internal/reflectlite.ValueOf", "(internal/reflectlite.Value).Type", "(internal/reflectlite.Value).IsNil", "internal/reflectlite.TypeOf", "(internal/reflectlite.Value).Elem", "(internal/reflectlite.Value).Set"], unfollowed := true, recurses := true, named := ["errors.errorType"], plainKeys := false, apart := false, laid := [("errors.errorType", laid_errors_errorType)] }
def FnExactStageBwdSaid : Prop := fnExactStageBwdRow.holds Tryz.pinned (OpenSpec.ofChange fnExactStageBwdSpec)

/-- ITS FALSE NEIGHBOUR: 'it returns false'. Refute it at one input. -/
def fnExactStageBwdWrong : ChangeSpec := { name := "fnExactStageBwd", fn := fun _ => fun
  | [d1, d2, d3] => { results := [.lit (.bool false)], args := [d1, d2, d3] }
  | _ => none }
def FnExactStageBwdWrongFalsely : Prop := fnExactStageBwdRow.holds Tryz.pinned (OpenSpec.ofChange fnExactStageBwdWrong)

/-- 'laws.FnExactEnabled': WHATEVER THE INPUT: true; the input reads as it did. -/
def fnExactEnabledSpec : ChangeSpec := { name := "fnExactEnabled", fn := fun _ => fun
  | [d1, d2] => { results := [.lit (.bool true)], args := [d1, d2] }
  | _ => none }
def fnExactEnabledRow : OpenClaim := { program := "ytcooobnaocbdjaagreatdoor", sum := "1a94ac970f5a23e07d5bd30c208446602f4620ae16d17938087a367af3f0bf8d", func := "loop.example/g01407/laws.FnExactEnabled", spec := "fnExactEnabled", inPlace := ["internal/reflectlite.ValueOf", "(internal/reflectlite.Value).Type", "(internal/reflectlite.Value).IsNil", "internal/reflectlite.TypeOf", "(internal/reflectlite.Value).Elem", "(internal/reflectlite.Value).Set"], unfollowed := true, recurses := true, named := ["errors.errorType"], plainKeys := false, apart := false, laid := [("errors.errorType", laid_errors_errorType)] }
def FnExactEnabledSaid : Prop := fnExactEnabledRow.holds Tryz.pinned (OpenSpec.ofChange fnExactEnabledSpec)

/-- ITS FALSE NEIGHBOUR: 'it returns false'. Refute it at one input. -/
def fnExactEnabledWrong : ChangeSpec := { name := "fnExactEnabled", fn := fun _ => fun
  | [d1, d2] => { results := [.lit (.bool false)], args := [d1, d2] }
  | _ => none }
def FnExactEnabledWrongFalsely : Prop := fnExactEnabledRow.holds Tryz.pinned (OpenSpec.ofChange fnExactEnabledWrong)

/-- 'laws.FnExactPick': WHATEVER THE INPUT: true; the input reads as it did. -/
def fnExactPickSpec : ChangeSpec := { name := "fnExactPick", fn := fun _ => fun
  | [d1, d2] => { results := [.lit (.bool true)], args := [d1, d2] }
  | _ => none }
def fnExactPickRow : OpenClaim := { program := "ytcooobnaocbdjaagreatdoor", sum := "1a94ac970f5a23e07d5bd30c208446602f4620ae16d17938087a367af3f0bf8d", func := "loop.example/g01407/laws.FnExactPick", spec := "fnExactPick", inPlace := ["internal/reflectlite.ValueOf", "(internal/reflectlite.Value).Type", "(internal/reflectlite.Value).IsNil", "internal/reflectlite.TypeOf", "(internal/reflectlite.Value).Elem", "(internal/reflectlite.Value).Set"], unfollowed := true, recurses := true, named := ["errors.errorType"], plainKeys := false, apart := false, laid := [("errors.errorType", laid_errors_errorType)] }
def FnExactPickSaid : Prop := fnExactPickRow.holds Tryz.pinned (OpenSpec.ofChange fnExactPickSpec)

/-- ITS FALSE NEIGHBOUR: 'it returns false'. Refute it at one input. -/
def fnExactPickWrong : ChangeSpec := { name := "fnExactPick", fn := fun _ => fun
  | [d1, d2] => { results := [.lit (.bool false)], args := [d1, d2] }
  | _ => none }
def FnExactPickWrongFalsely : Prop := fnExactPickRow.holds Tryz.pinned (OpenSpec.ofChange fnExactPickWrong)

/- THE SECOND FORM. 'bulk': how many values and letters a reading holds, each counted each time it is reached (what is shared counts as often as it is met; a slice's spare places count too). A statement '..UptoSaid' is the law's where the arguments, and the package variables that the reading takes, are together of bulk at most 1048576: NARROWER than '..Said'. Prove '..Said' where nothing that the law and all that it calls make is longer than what came in: it says more and counts as full. Else prove '..UptoSaid'. A law counts once. -/
mutual
def uptoBulk {H : Type} : DataW H → Nat
  | .lit (.string bytes) => bytes.length + 1
  | .lit _ => 1
  | .nil => 1
  | .ptr d => uptoBulk d + 1
  | .slice elems spare => uptoBulkAll elems + uptoBulkAll spare + 1
  | .agg parts => uptoBulkAll parts + 1
  | .iface _ d => uptoBulk d + 1
  | .map entries => uptoBulkEntries entries + 1
  | .held _ => 1
def uptoBulkAll {H : Type} : List (DataW H) → Nat
  | [] => 0
  | d :: r => uptoBulk d + uptoBulkAll r
def uptoBulkEntries {H : Type} : List (Lit × DataW H) → Nat
  | [] => 0
  | x :: r => uptoBulkEntry x + uptoBulkEntries r
def uptoBulkEntry {H : Type} : Lit × DataW H → Nat
  | (.string bytes, d) => bytes.length + uptoBulk d + 1
  | (_, d) => uptoBulk d + 1
 end
def uptoSmall : (H : Type) → List (DataW H) → Bool := fun _ ds => decide (uptoBulkAll ds ≤ 1048576)
def OpenSpec.upto (s : _root_.Go.ChangeSpec) : _root_.Go.OpenSpec := { _root_.Go.OpenSpec.ofChange s with cond := some uptoSmall }

/-- 'laws.FnOnceMore', WHERE WHAT IT READS IS OF BULK AT MOST 1048576: true; the input reads as it did. -/
def fnOnceMoreUptoRow : OpenClaim := { program := "ytcooobnaocbdjaagreatdoor", sum := "1a94ac970f5a23e07d5bd30c208446602f4620ae16d17938087a367af3f0bf8d", func := "loop.example/g01407/laws.FnOnceMore", spec := "fnOnceMore", inPlace := ["internal/reflectlite.ValueOf", "(internal/reflectlite.Value).Type", "(internal/reflectlite.Value).IsNil", "internal/reflectlite.TypeOf", "(internal/reflectlite.Value).Elem", "(internal/reflectlite.Value).Set"], unfollowed := true, recurses := true, named := ["errors.errorType"], plainKeys := false, apart := false, laid := [("errors.errorType", laid_errors_errorType)], narrowed := true }
def FnOnceMoreUptoSaid : Prop := fnOnceMoreUptoRow.holds Tryz.pinned (OpenSpec.upto fnOnceMoreSpec)

/-- 'laws.FnExactStageFwd', WHERE WHAT IT READS IS OF BULK AT MOST 1048576: true; the input reads as it did. -/
def fnExactStageFwdUptoRow : OpenClaim := { program := "ytcooobnaocbdjaagreatdoor", sum := "1a94ac970f5a23e07d5bd30c208446602f4620ae16d17938087a367af3f0bf8d", func := "loop.example/g01407/laws.FnExactStageFwd", spec := "fnExactStageFwd", inPlace := ["internal/reflectlite.ValueOf", "(internal/reflectlite.Value).Type", "(internal/reflectlite.Value).IsNil", "internal/reflectlite.TypeOf", "(internal/reflectlite.Value).Elem", "(internal/reflectlite.Value).Set"], unfollowed := true, recurses := true, named := ["errors.errorType"], plainKeys := false, apart := false, laid := [("errors.errorType", laid_errors_errorType)], narrowed := true }
def FnExactStageFwdUptoSaid : Prop := fnExactStageFwdUptoRow.holds Tryz.pinned (OpenSpec.upto fnExactStageFwdSpec)

/-- 'laws.FnExactStageBwd', WHERE WHAT IT READS IS OF BULK AT MOST 1048576: true; the input reads as it did. -/
def fnExactStageBwdUptoRow : OpenClaim := { program := "ytcooobnaocbdjaagreatdoor", sum := "1a94ac970f5a23e07d5bd30c208446602f4620ae16d17938087a367af3f0bf8d", func := "loop.example/g01407/laws.FnExactStageBwd", spec := "fnExactStageBwd", inPlace := ["internal/reflectlite.ValueOf", "(internal/reflectlite.Value).Type", "(internal/reflectlite.Value).IsNil", "internal/reflectlite.TypeOf", "(internal/reflectlite.Value).Elem", "(internal/reflectlite.Value).Set"], unfollowed := true, recurses := true, named := ["errors.errorType"], plainKeys := false, apart := false, laid := [("errors.errorType", laid_errors_errorType)], narrowed := true }
def FnExactStageBwdUptoSaid : Prop := fnExactStageBwdUptoRow.holds Tryz.pinned (OpenSpec.upto fnExactStageBwdSpec)

/-- 'laws.FnExactEnabled', WHERE WHAT IT READS IS OF BULK AT MOST 1048576: true; the input reads as it did. -/
def fnExactEnabledUptoRow : OpenClaim := { program := "ytcooobnaocbdjaagreatdoor", sum := "1a94ac970f5a23e07d5bd30c208446602f4620ae16d17938087a367af3f0bf8d", func := "loop.example/g01407/laws.FnExactEnabled", spec := "fnExactEnabled", inPlace := ["internal/reflectlite.ValueOf", "(internal/reflectlite.Value).Type", "(internal/reflectlite.Value).IsNil", "internal/reflectlite.TypeOf", "(internal/reflectlite.Value).Elem", "(internal/reflectlite.Value).Set"], unfollowed := true, recurses := true, named := ["errors.errorType"], plainKeys := false, apart := false, laid := [("errors.errorType", laid_errors_errorType)], narrowed := true }
def FnExactEnabledUptoSaid : Prop := fnExactEnabledUptoRow.holds Tryz.pinned (OpenSpec.upto fnExactEnabledSpec)

/-- 'laws.FnExactPick', WHERE WHAT IT READS IS OF BULK AT MOST 1048576: true; the input reads as it did. -/
def fnExactPickUptoRow : OpenClaim := { program := "ytcooobnaocbdjaagreatdoor", sum := "1a94ac970f5a23e07d5bd30c208446602f4620ae16d17938087a367af3f0bf8d", func := "loop.example/g01407/laws.FnExactPick", spec := "fnExactPick", inPlace := ["internal/reflectlite.ValueOf", "(internal/reflectlite.Value).Type", "(internal/reflectlite.Value).IsNil", "internal/reflectlite.TypeOf", "(internal/reflectlite.Value).Elem", "(internal/reflectlite.Value).Set"], unfollowed := true, recurses := true, named := ["errors.errorType"], plainKeys := false, apart := false, laid := [("errors.errorType", laid_errors_errorType)], narrowed := true }
def FnExactPickUptoSaid : Prop := fnExactPickUptoRow.holds Tryz.pinned (OpenSpec.upto fnExactPickSpec)

end Rows
end Go.Proofs.YtcooobnaocbdjaaGreatDoor
