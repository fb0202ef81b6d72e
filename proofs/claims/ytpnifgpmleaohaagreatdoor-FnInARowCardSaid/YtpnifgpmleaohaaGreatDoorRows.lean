/-
  NARROWER THAN 'FOR EVERY INPUT', by the rows' own cells (each row's printed sentence says how): FnOnceMore: laid · FnSizes: laid · FnInARow: laid · FnExactMicroGrads: laid · FnExactSequential: laid · FnExactStageFwd: laid · FnExactStageBwd: laid.
  DERIVED. THE GIVEN ROWS OF THIS SEAT. 7 by the template 'for every input the law returns true; each argument reads behind the call as it read before'; 0 by the template 'total and deterministic' (their statements: YtpnifgpmleaohaaGreatDoorTotals.lean).
  GIVEN WITH THE SEED: the statements are not yours to turn. If you find one false, say at which input.
  Laid BY PROGRAM, IN A SANDBOX (cutbox-rows.mjs): the forced cells as the released guide's own fill.sh prints them over the translation 2186ea3cc2f06718… (all of the seat's roots in one cut). By AI agents, Wed Nov 11 2026. No macro, syntax, notation, axiom, sorry.
-/
import Derived.Test.YtpnifgpmleaohaaGreatDoorChecked
import GoSem.Claim
import GoSem.ClaimJoined
import GoSem.ClaimMapViews
import Derived.JoinedTies
import Derived.KernelRfl
namespace Go.Proofs.YtpnifgpmleaohaaGreatDoor
/- THE CELL 'sum', in the pinned program and in every row, IS THE sha256 OF THE DUMP (.gsa) THAT YtpnifgpmleaohaaGreatDoorProg.lean LOADS. Nothing in Lean hashes anything: it is a label: what it is worth is what the hold of that sum in a sandbox is worth. -/
noncomputable def Tryz.pinned : Pinned := { name := "ytpnifgpmleaohaagreatdoor", sum := "2186ea3cc2f06718cceb49a241b529903ef8e742d64a9da8264bd54239f02b05", checked := Tryz.checked }
namespace Rows
def none {H : Type} : Left H := { results := [], args := [] }

/- WHAT THE LISTED PACKAGE-LEVEL VARIABLES READ AS WHEN THE CALL BEGINS. Each datum BY PROGRAM (the guide's laid-datum.mjs) off the statement by which the dump's own 'gosem.cut.vars' lays the variable. In a bare row this is a premise. The card (YtpnifgpmleaohaaGreatDoorCards.lean) ties it to the program's text. -/
def laid_errors_errorType {H : Type} : DataW H := .iface "internal/reflectlite.rtype" (.agg [.ptr (.lit (.string [101, 114, 114, 111, 114]))])

/-- 'laws.FnOnceMore': WHATEVER THE INPUT: true; the input reads as it did. -/
def fnOnceMoreSpec : ChangeSpec := { name := "fnOnceMore", fn := fun _ => fun
  | [d] => { results := [.lit (.bool true)], args := [d] }
  | _ => none }
def fnOnceMoreRow : OpenClaim := { program := "ytpnifgpmleaohaagreatdoor", sum := "2186ea3cc2f06718cceb49a241b529903ef8e742d64a9da8264bd54239f02b05", func := "loop.example/g01407/laws.FnOnceMore", spec := "fnOnceMore", inPlace := ["internal/reflectlite.ValueOf", "(internal/reflectlite.Value).Type", "(internal/reflectlite.Value).IsNil", "internal/reflectlite.TypeOf", "(internal/reflectlite.Value).Elem", "(internal/reflectlite.Value).Set"], unfollowed := true, recurses := true, named := ["errors.errorType"], plainKeys := false, apart := false, laid := [("errors.errorType", laid_errors_errorType)] }
def FnOnceMoreSaid : Prop := fnOnceMoreRow.holds Tryz.pinned (OpenSpec.ofChange fnOnceMoreSpec)

/-- ITS FALSE NEIGHBOUR: 'it returns false'. Refute it at one input. -/
def fnOnceMoreWrong : ChangeSpec := { name := "fnOnceMore", fn := fun _ => fun
  | [d] => { results := [.lit (.bool false)], args := [d] }
  | _ => none }
def FnOnceMoreWrongFalsely : Prop := fnOnceMoreRow.holds Tryz.pinned (OpenSpec.ofChange fnOnceMoreWrong)

/-- 'laws.FnSizes': WHATEVER THE INPUT: true; the input reads as it did. -/
def fnSizesSpec : ChangeSpec := { name := "fnSizes", fn := fun _ => fun
  | [d] => { results := [.lit (.bool true)], args := [d] }
  | _ => none }
def fnSizesRow : OpenClaim := { program := "ytpnifgpmleaohaagreatdoor", sum := "2186ea3cc2f06718cceb49a241b529903ef8e742d64a9da8264bd54239f02b05", func := "loop.example/g01407/laws.FnSizes", spec := "fnSizes", inPlace := ["internal/reflectlite.ValueOf", "(internal/reflectlite.Value).Type", "(internal/reflectlite.Value).IsNil", "internal/reflectlite.TypeOf", "(internal/reflectlite.Value).Elem", "(internal/reflectlite.Value).Set"], unfollowed := true, recurses := true, named := ["errors.errorType"], plainKeys := false, apart := false, laid := [("errors.errorType", laid_errors_errorType)] }
def FnSizesSaid : Prop := fnSizesRow.holds Tryz.pinned (OpenSpec.ofChange fnSizesSpec)

/-- ITS FALSE NEIGHBOUR: 'it returns false'. Refute it at one input. -/
def fnSizesWrong : ChangeSpec := { name := "fnSizes", fn := fun _ => fun
  | [d] => { results := [.lit (.bool false)], args := [d] }
  | _ => none }
def FnSizesWrongFalsely : Prop := fnSizesRow.holds Tryz.pinned (OpenSpec.ofChange fnSizesWrong)

/-- 'laws.FnInARow': WHATEVER THE INPUT: true; the input reads as it did. -/
def fnInARowSpec : ChangeSpec := { name := "fnInARow", fn := fun _ => fun
  | [d] => { results := [.lit (.bool true)], args := [d] }
  | _ => none }
def fnInARowRow : OpenClaim := { program := "ytpnifgpmleaohaagreatdoor", sum := "2186ea3cc2f06718cceb49a241b529903ef8e742d64a9da8264bd54239f02b05", func := "loop.example/g01407/laws.FnInARow", spec := "fnInARow", inPlace := ["internal/reflectlite.ValueOf", "(internal/reflectlite.Value).Type", "(internal/reflectlite.Value).IsNil", "internal/reflectlite.TypeOf", "(internal/reflectlite.Value).Elem", "(internal/reflectlite.Value).Set"], unfollowed := true, recurses := true, named := ["errors.errorType"], plainKeys := false, apart := false, laid := [("errors.errorType", laid_errors_errorType)] }
def FnInARowSaid : Prop := fnInARowRow.holds Tryz.pinned (OpenSpec.ofChange fnInARowSpec)

/-- ITS FALSE NEIGHBOUR: 'it returns false'. Refute it at one input. -/
def fnInARowWrong : ChangeSpec := { name := "fnInARow", fn := fun _ => fun
  | [d] => { results := [.lit (.bool false)], args := [d] }
  | _ => none }
def FnInARowWrongFalsely : Prop := fnInARowRow.holds Tryz.pinned (OpenSpec.ofChange fnInARowWrong)

/-- 'laws.FnExactMicroGrads': WHATEVER THE INPUT: true; the input reads as it did. -/
def fnExactMicroGradsSpec : ChangeSpec := { name := "fnExactMicroGrads", fn := fun _ => fun
  | [d1, d2] => { results := [.lit (.bool true)], args := [d1, d2] }
  | _ => none }
def fnExactMicroGradsRow : OpenClaim := { program := "ytpnifgpmleaohaagreatdoor", sum := "2186ea3cc2f06718cceb49a241b529903ef8e742d64a9da8264bd54239f02b05", func := "loop.example/g01407/laws.FnExactMicroGrads", spec := "fnExactMicroGrads", inPlace := ["internal/reflectlite.ValueOf", "(internal/reflectlite.Value).Type", "(internal/reflectlite.Value).IsNil", "internal/reflectlite.TypeOf", "(internal/reflectlite.Value).Elem", "(internal/reflectlite.Value).Set"], unfollowed := true, recurses := true, named := ["errors.errorType"], plainKeys := false, apart := false, laid := [("errors.errorType", laid_errors_errorType)] }
def FnExactMicroGradsSaid : Prop := fnExactMicroGradsRow.holds Tryz.pinned (OpenSpec.ofChange fnExactMicroGradsSpec)

/-- ITS FALSE NEIGHBOUR: 'it returns false'. Refute it at one input. -/
def fnExactMicroGradsWrong : ChangeSpec := { name := "fnExactMicroGrads", fn := fun _ => fun
  | [d1, d2] => { results := [.lit (.bool false)], args := [d1, d2] }
  | _ => none }
def FnExactMicroGradsWrongFalsely : Prop := fnExactMicroGradsRow.holds Tryz.pinned (OpenSpec.ofChange fnExactMicroGradsWrong)

/-- 'laws.FnExactSequential': WHATEVER THE INPUT: true; the input reads as it did. -/
def fnExactSequentialSpec : ChangeSpec := { name := "fnExactSequential", fn := fun _ => fun
  | [d1, d2] => { results := [.lit (.bool true)], args := [d1, d2] }
  | _ => none }
def fnExactSequentialRow : OpenClaim := { program := "ytpnifgpmleaohaagreatdoor", sum := "2186ea3cc2f06718cceb49a241b529903ef8e742d64a9da8264bd54239f02b05", func := "loop.example/g01407/laws.FnExactSequential", spec := "fnExactSequential", inPlace := ["internal/reflectlite.ValueOf", "(internal/reflectlite.Value).Type", "(internal/reflectlite.Value).IsNil", "internal/reflectlite.TypeOf", "(internal/reflectlite.Value).Elem", "(internal/reflectlite.Value).Set"], unfollowed := true, recurses := true, named := ["errors.errorType"], plainKeys := false, apart := false, laid := [("errors.errorType", laid_errors_errorType)] }
def FnExactSequentialSaid : Prop := fnExactSequentialRow.holds Tryz.pinned (OpenSpec.ofChange fnExactSequentialSpec)

/-- ITS FALSE NEIGHBOUR: 'it returns false'. Refute it at one input. -/
def fnExactSequentialWrong : ChangeSpec := { name := "fnExactSequential", fn := fun _ => fun
  | [d1, d2] => { results := [.lit (.bool false)], args := [d1, d2] }
  | _ => none }
def FnExactSequentialWrongFalsely : Prop := fnExactSequentialRow.holds Tryz.pinned (OpenSpec.ofChange fnExactSequentialWrong)

/-- 'laws.FnExactStageFwd': WHATEVER THE INPUT: true; the input reads as it did. -/
def fnExactStageFwdSpec : ChangeSpec := { name := "fnExactStageFwd", fn := fun _ => fun
  | [d1, d2, d3, d4] => { results := [.lit (.bool true)], args := [d1, d2, d3, d4] }
  | _ => none }
def fnExactStageFwdRow : OpenClaim := { program := "ytpnifgpmleaohaagreatdoor", sum := "2186ea3cc2f06718cceb49a241b529903ef8e742d64a9da8264bd54239f02b05", func := "loop.example/g01407/laws.FnExactStageFwd", spec := "fnExactStageFwd", inPlace := ["internal/reflectlite.ValueOf", "(internal/reflectlite.Value).Type", "(internal/reflectlite.Value).IsNil", "internal/reflectlite.TypeOf", "(internal/reflectlite.Value).Elem", "(internal/reflectlite.Value).Set"], unfollowed := true, recurses := true, named := ["errors.errorType"], plainKeys := false, apart := false, laid := [("errors.errorType", laid_errors_errorType)] }
def FnExactStageFwdSaid : Prop := fnExactStageFwdRow.holds Tryz.pinned (OpenSpec.ofChange fnExactStageFwdSpec)

/-- ITS FALSE NEIGHBOUR: 'it returns false'. Refute it at one input. -/
def fnExactStageFwdWrong : ChangeSpec := { name := "fnExactStageFwd", fn := fun _ => fun
  | [d1, d2, d3, d4] => { results := [.lit (.bool false)], args := [d1, d2, d3, d4] }
  | _ => none }
def FnExactStageFwdWrongFalsely : Prop := fnExactStageFwdRow.holds Tryz.pinned (OpenSpec.ofChange fnExactStageFwdWrong)

/-- 'laws.FnExactStageBwd': WHATEVER THE INPUT: true; the input reads as it did. -/
def fnExactStageBwdSpec : ChangeSpec := { name := "fnExactStageBwd", fn := fun _ => fun
  | [d1, d2, d3] => { results := [.lit (.bool true)], args := [d1, d2, d3] }
  | _ => none }
def fnExactStageBwdRow : OpenClaim := { program := "ytpnifgpmleaohaagreatdoor", sum := "2186ea3cc2f06718cceb49a241b529903ef8e742d64a9da8264bd54239f02b05", func := "loop.example/g01407/laws.FnExactStageBwd", spec := "fnExactStageBwd", inPlace := ["internal/reflectlite.ValueOf", "(internal/reflectlite.Value).Type", "(internal/reflectlite.Value).IsNil", "internal/reflectlite.TypeOf", "(internal/reflectlite.Value).Elem", "(internal/reflectlite.Value).Set"], unfollowed := true, recurses := true, named := ["errors.errorType"], plainKeys := false, apart := false, laid := [("errors.errorType", laid_errors_errorType)] }
def FnExactStageBwdSaid : Prop := fnExactStageBwdRow.holds Tryz.pinned (OpenSpec.ofChange fnExactStageBwdSpec)

/-- ITS FALSE NEIGHBOUR: 'it returns false'. Refute it at one input. -/
def fnExactStageBwdWrong : ChangeSpec := { name := "fnExactStageBwd", fn := fun _ => fun
  | [d1, d2, d3] => { results := [.lit (.bool false)], args := [d1, d2, d3] }
  | _ => none }
def FnExactStageBwdWrongFalsely : Prop := fnExactStageBwdRow.holds Tryz.pinned (OpenSpec.ofChange fnExactStageBwdWrong)

/- THE SECOND FORM. 'bulk': how many values and letters a reading holds, each counted each time it is reached (what is shared counts as often as it is met; a slice's spare places count too). A statement '..UptoSaid' is the law's where the arguments, and the package variables that the reading takes, are together of bulk at most 1048576: NARROWER than '..Said'. Prove '..Said' where nothing that the law and all that it calls make is longer than what came in: it says more and counts as full. Else prove '..UptoSaid'. A law counts once. -/
mutual
def uptoBulk {H : Type} : DataW H → Nat
  | .lit (.string bytes) => bytes.length + 1
  | .lit _ => 1
  | .nil => 1
  | .ptr d => uptoBulk d + 1
  | .slice elems spare => uptoBulkAll elems + uptoBulkAll spare + 1
  | .agg parts => uptoBulkAll parts + 1
  | .iface _ d => uptoBulk d + 1
  | .map entries => uptoBulkEntries entries + 1
  | .held _ => 1
def uptoBulkAll {H : Type} : List (DataW H) → Nat
  | [] => 0
  | d :: r => uptoBulk d + uptoBulkAll r
def uptoBulkEntries {H : Type} : List (Lit × DataW H) → Nat
  | [] => 0
  | x :: r => uptoBulkEntry x + uptoBulkEntries r
def uptoBulkEntry {H : Type} : Lit × DataW H → Nat
  | (.string bytes, d) => bytes.length + uptoBulk d + 1
  | (_, d) => uptoBulk d + 1
 end
def uptoSmall : (H : Type) → List (DataW H) → Bool := fun _ ds => decide (uptoBulkAll ds ≤ 1048576)
def OpenSpec.upto (s : _root_.Go.ChangeSpec) : _root_.Go.OpenSpec := { _root_.Go.OpenSpec.ofChange s with cond := some uptoSmall }

/-- 'laws.FnOnceMore', WHERE WHAT IT READS IS OF BULK AT MOST 1048576: true; the input reads as it did. -/
def fnOnceMoreUptoRow : OpenClaim := { program := "ytpnifgpmleaohaagreatdoor", sum := "2186ea3cc2f06718cceb49a241b529903ef8e742d64a9da8264bd54239f02b05", func := "loop.example/g01407/laws.FnOnceMore", spec := "fnOnceMore", inPlace := ["internal/reflectlite.ValueOf", "(internal/reflectlite.Value).Type", "(internal/reflectlite.Value).IsNil", "internal/reflectlite.TypeOf", "(internal/reflectlite.Value).Elem", "(internal/reflectlite.Value).Set"], unfollowed := true, recurses := true, named := ["errors.errorType"], plainKeys := false, apart := false, laid := [("errors.errorType", laid_errors_errorType)], narrowed := true }
def FnOnceMoreUptoSaid : Prop := fnOnceMoreUptoRow.holds Tryz.pinned (OpenSpec.upto fnOnceMoreSpec)

/-- 'laws.FnSizes', WHERE WHAT IT READS IS OF BULK AT MOST 1048576: true; the input reads as it did. -/
def fnSizesUptoRow : OpenClaim := { program := "ytpnifgpmleaohaagreatdoor", sum := "2186ea3cc2f06718cceb49a241b529903ef8e742d64a9da8264bd54239f02b05", func := "loop.example/g01407/laws.FnSizes", spec := "fnSizes", inPlace := ["internal/reflectlite.ValueOf", "(internal/reflectlite.Value).Type", "(internal/reflectlite.Value).IsNil", "internal/reflectlite.TypeOf", "(internal/reflectlite.Value).Elem", "(internal/reflectlite.Value).Set"], unfollowed := true, recurses := true, named := ["errors.errorType"], plainKeys := false, apart := false, laid := [("errors.errorType", laid_errors_errorType)], narrowed := true }
def FnSizesUptoSaid : Prop := fnSizesUptoRow.holds Tryz.pinned (OpenSpec.upto fnSizesSpec)

/-- 'laws.FnInARow', WHERE WHAT IT READS IS OF BULK AT MOST 1048576: true; the input reads as it did. -/
def fnInARowUptoRow : OpenClaim := { program := "ytpnifgpmleaohaagreatdoor", sum := "2186ea3cc2f06718cceb49a241b529903ef8e742d64a9da8264bd54239f02b05", func := "loop.example/g01407/laws.FnInARow", spec := "fnInARow", inPlace := ["internal/reflectlite.ValueOf", "(internal/reflectlite.Value).Type", "(internal/reflectlite.Value).IsNil", "internal/reflectlite.TypeOf", "(internal/reflectlite.Value).Elem", "(internal/reflectlite.Value).Set"], unfollowed := true, recurses := true, named := ["errors.errorType"], plainKeys := false, apart := false, laid := [("errors.errorType", laid_errors_errorType)], narrowed := true }
def FnInARowUptoSaid : Prop := fnInARowUptoRow.holds Tryz.pinned (OpenSpec.upto fnInARowSpec)

/-- 'laws.FnExactMicroGrads', WHERE WHAT IT READS IS OF BULK AT MOST 1048576: true; the input reads as it did. -/
def fnExactMicroGradsUptoRow : OpenClaim := { program := "ytpnifgpmleaohaagreatdoor", sum := "2186ea3cc2f06718cceb49a241b529903ef8e742d64a9da8264bd54239f02b05", func := "loop.example/g01407/laws.FnExactMicroGrads", spec := "fnExactMicroGrads", inPlace := ["internal/reflectlite.ValueOf", "(internal/reflectlite.Value).Type", "(internal/reflectlite.Value).IsNil", "internal/reflectlite.TypeOf", "(internal/reflectlite.Value).Elem", "(internal/reflectlite.Value).Set"], unfollowed := true, recurses := true, named := ["errors.errorType"], plainKeys := false, apart := false, laid := [("errors.errorType", laid_errors_errorType)], narrowed := true }
def FnExactMicroGradsUptoSaid : Prop := fnExactMicroGradsUptoRow.holds Tryz.pinned (OpenSpec.upto fnExactMicroGradsSpec)

/-- 'laws.FnExactSequential', WHERE WHAT IT READS IS OF BULK AT MOST 1048576: true; the input reads as it did. -/
def fnExactSequentialUptoRow : OpenClaim := { program := "ytpnifgpmleaohaagreatdoor", sum := "2186ea3cc2f06718cceb49a241b529903ef8e742d64a9da8264bd54239f02b05", func := "loop.example/g01407/laws.FnExactSequential", spec := "fnExactSequential", inPlace := ["internal/reflectlite.ValueOf", "(internal/reflectlite.Value).Type", "(internal/reflectlite.Value).IsNil", "internal/reflectlite.TypeOf", "(internal/reflectlite.Value).Elem", "(internal/reflectlite.Value).Set"], unfollowed := true, recurses := true, named := ["errors.errorType"], plainKeys := false, apart := false, laid := [("errors.errorType", laid_errors_errorType)], narrowed := true }
def FnExactSequentialUptoSaid : Prop := fnExactSequentialUptoRow.holds Tryz.pinned (OpenSpec.upto fnExactSequentialSpec)

/-- 'laws.FnExactStageFwd', WHERE WHAT IT READS IS OF BULK AT MOST 1048576: true; the input reads as it did. -/
def fnExactStageFwdUptoRow : OpenClaim := { program := "ytpnifgpmleaohaagreatdoor", sum := "2186ea3cc2f06718cceb49a241b529903ef8e742d64a9da8264bd54239f02b05", func := "loop.example/g01407/laws.FnExactStageFwd", spec := "fnExactStageFwd", inPlace := ["internal/reflectlite.ValueOf", "(internal/reflectlite.Value).Type", "(internal/reflectlite.Value).IsNil", "internal/reflectlite.TypeOf", "(internal/reflectlite.Value).Elem", "(internal/reflectlite.Value).Set"], unfollowed := true, recurses := true, named := ["errors.errorType"], plainKeys := false, apart := false, laid := [("errors.errorType", laid_errors_errorType)], narrowed := true }
def FnExactStageFwdUptoSaid : Prop := fnExactStageFwdUptoRow.holds Tryz.pinned (OpenSpec.upto fnExactStageFwdSpec)

/-- 'laws.FnExactStageBwd', WHERE WHAT IT READS IS OF BULK AT MOST 1048576: true; the input reads as it did. -/
def fnExactStageBwdUptoRow : OpenClaim := { program := "ytpnifgpmleaohaagreatdoor", sum := "2186ea3cc2f06718cceb49a241b529903ef8e742d64a9da8264bd54239f02b05", func := "loop.example/g01407/laws.FnExactStageBwd", spec := "fnExactStageBwd", inPlace := ["internal/reflectlite.ValueOf", "(internal/reflectlite.Value).Type", "(internal/reflectlite.Value).IsNil", "internal/reflectlite.TypeOf", "(internal/reflectlite.Value).Elem", "(internal/reflectlite.Value).Set"], unfollowed := true, recurses := true, named := ["errors.errorType"], plainKeys := false, apart := false, laid := [("errors.errorType", laid_errors_errorType)], narrowed := true }
def FnExactStageBwdUptoSaid : Prop := fnExactStageBwdUptoRow.holds Tryz.pinned (OpenSpec.upto fnExactStageBwdSpec)

end Rows
end Go.Proofs.YtpnifgpmleaohaaGreatDoor
