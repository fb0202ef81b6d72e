/-
  No cell of these rows narrows 'for every input' (looked for: loops, veiled, ifaces, maps, wideKeys, modest, calm, conditions, laid).
  DERIVED. THE GIVEN ROWS OF THIS SEAT. 4 by the template 'for every input the law returns true; each argument reads behind the call as it read before'; 0 by the template 'total and deterministic' (their statements: YtpnifgpmleaohaaTotals.lean).
  GIVEN WITH THE SEED: the statements are not yours to turn. If you find one false, say at which input.
  Laid BY PROGRAM, IN A SANDBOX (cutbox-rows.mjs): the forced cells as the released guide's own fill.sh prints them over the translation e6fac7e49fc3445c… (all of the seat's roots in one cut). By AI agents, Wed Nov 11 2026. No macro, syntax, notation, axiom, sorry.
-/
import Derived.Test.YtpnifgpmleaohaaChecked
import GoSem.Claim
import GoSem.ClaimJoined
import GoSem.ClaimMapViews
import Derived.JoinedTies
import Derived.KernelRfl
namespace Go.Proofs.Ytpnifgpmleaohaa
/- THE CELL 'sum', in the pinned program and in every row, IS THE sha256 OF THE DUMP (.gsa) THAT YtpnifgpmleaohaaProg.lean LOADS. Nothing in Lean hashes anything: it is a label: what it is worth is what the hold of that sum in a sandbox is worth. -/
noncomputable def Try.pinned : Pinned := { name := "ytpnifgpmleaohaa", sum := "e6fac7e49fc3445c0c08a189f8e5b00e380a7df83b587eeb7c32cdffc961dfba", checked := Try.checked }
namespace Rows
def none {H : Type} : Left H := { results := [], args := [] }

/-- 'laws.FnExactStageNew': WHATEVER THE INPUT: true; the input reads as it did. -/
def fnExactStageNewSpec : ChangeSpec := { name := "fnExactStageNew", fn := fun _ => fun
  | [d1, d2, d3, d4] => { results := [.lit (.bool true)], args := [d1, d2, d3, d4] }
  | _ => none }
def fnExactStageNewRow : OpenClaim := { program := "ytpnifgpmleaohaa", sum := "e6fac7e49fc3445c0c08a189f8e5b00e380a7df83b587eeb7c32cdffc961dfba", func := "loop.example/g01407/laws.FnExactStageNew", spec := "fnExactStageNew", unfollowed := true, recurses := true, plainKeys := false, apart := false }
def FnExactStageNewSaid : Prop := fnExactStageNewRow.holds Try.pinned (OpenSpec.ofChange fnExactStageNewSpec)

/-- ITS FALSE NEIGHBOUR: 'it returns false'. Refute it at one input. -/
def fnExactStageNewWrong : ChangeSpec := { name := "fnExactStageNew", fn := fun _ => fun
  | [d1, d2, d3, d4] => { results := [.lit (.bool false)], args := [d1, d2, d3, d4] }
  | _ => none }
def FnExactStageNewWrongFalsely : Prop := fnExactStageNewRow.holds Try.pinned (OpenSpec.ofChange fnExactStageNewWrong)

/-- 'laws.FnExactStageOk': WHATEVER THE INPUT: true; the input reads as it did. -/
def fnExactStageOkSpec : ChangeSpec := { name := "fnExactStageOk", fn := fun _ => fun
  | [d] => { results := [.lit (.bool true)], args := [d] }
  | _ => none }
def fnExactStageOkRow : OpenClaim := { program := "ytpnifgpmleaohaa", sum := "e6fac7e49fc3445c0c08a189f8e5b00e380a7df83b587eeb7c32cdffc961dfba", func := "loop.example/g01407/laws.FnExactStageOk", spec := "fnExactStageOk", unfollowed := true, recurses := true, plainKeys := false, apart := false }
def FnExactStageOkSaid : Prop := fnExactStageOkRow.holds Try.pinned (OpenSpec.ofChange fnExactStageOkSpec)

/-- ITS FALSE NEIGHBOUR: 'it returns false'. Refute it at one input. -/
def fnExactStageOkWrong : ChangeSpec := { name := "fnExactStageOk", fn := fun _ => fun
  | [d] => { results := [.lit (.bool false)], args := [d] }
  | _ => none }
def FnExactStageOkWrongFalsely : Prop := fnExactStageOkRow.holds Try.pinned (OpenSpec.ofChange fnExactStageOkWrong)

/-- 'laws.FnExactLedger': WHATEVER THE INPUT: true; the input reads as it did. -/
def fnExactLedgerSpec : ChangeSpec := { name := "fnExactLedger", fn := fun _ => fun
  | [d] => { results := [.lit (.bool true)], args := [d] }
  | _ => none }
def fnExactLedgerRow : OpenClaim := { program := "ytpnifgpmleaohaa", sum := "e6fac7e49fc3445c0c08a189f8e5b00e380a7df83b587eeb7c32cdffc961dfba", func := "loop.example/g01407/laws.FnExactLedger", spec := "fnExactLedger", plainKeys := false, apart := false }
def FnExactLedgerSaid : Prop := fnExactLedgerRow.holds Try.pinned (OpenSpec.ofChange fnExactLedgerSpec)

/-- ITS FALSE NEIGHBOUR: 'it returns false'. Refute it at one input. -/
def fnExactLedgerWrong : ChangeSpec := { name := "fnExactLedger", fn := fun _ => fun
  | [d] => { results := [.lit (.bool false)], args := [d] }
  | _ => none }
def FnExactLedgerWrongFalsely : Prop := fnExactLedgerRow.holds Try.pinned (OpenSpec.ofChange fnExactLedgerWrong)

/-- 'laws.FnExactFindSaved': WHATEVER THE INPUT: true; the input reads as it did. -/
def fnExactFindSavedSpec : ChangeSpec := { name := "fnExactFindSaved", fn := fun _ => fun
  | [d1, d2] => { results := [.lit (.bool true)], args := [d1, d2] }
  | _ => none }
def fnExactFindSavedRow : OpenClaim := { program := "ytpnifgpmleaohaa", sum := "e6fac7e49fc3445c0c08a189f8e5b00e380a7df83b587eeb7c32cdffc961dfba", func := "loop.example/g01407/laws.FnExactFindSaved", spec := "fnExactFindSaved", plainKeys := false, apart := false }
def FnExactFindSavedSaid : Prop := fnExactFindSavedRow.holds Try.pinned (OpenSpec.ofChange fnExactFindSavedSpec)

/-- ITS FALSE NEIGHBOUR: 'it returns false'. Refute it at one input. -/
def fnExactFindSavedWrong : ChangeSpec := { name := "fnExactFindSaved", fn := fun _ => fun
  | [d1, d2] => { results := [.lit (.bool false)], args := [d1, d2] }
  | _ => none }
def FnExactFindSavedWrongFalsely : Prop := fnExactFindSavedRow.holds Try.pinned (OpenSpec.ofChange fnExactFindSavedWrong)

/- THE SECOND FORM. 'bulk': how many values and letters a reading holds, each counted each time it is reached (what is shared counts as often as it is met; a slice's spare places count too). A statement '..UptoSaid' is the law's where the arguments, and the package variables that the reading takes, are together of bulk at most 1048576: NARROWER than '..Said'. Prove '..Said' where nothing that the law and all that it calls make is longer than what came in: it says more and counts as full. Else prove '..UptoSaid'. A law counts once. -/
mutual
def uptoBulk {H : Type} : DataW H → Nat
  | .lit (.string bytes) => bytes.length + 1
  | .lit _ => 1
  | .nil => 1
  | .ptr d => uptoBulk d + 1
  | .slice elems spare => uptoBulkAll elems + uptoBulkAll spare + 1
  | .agg parts => uptoBulkAll parts + 1
  | .iface _ d => uptoBulk d + 1
  | .map entries => uptoBulkEntries entries + 1
  | .held _ => 1
def uptoBulkAll {H : Type} : List (DataW H) → Nat
  | [] => 0
  | d :: r => uptoBulk d + uptoBulkAll r
def uptoBulkEntries {H : Type} : List (Lit × DataW H) → Nat
  | [] => 0
  | x :: r => uptoBulkEntry x + uptoBulkEntries r
def uptoBulkEntry {H : Type} : Lit × DataW H → Nat
  | (.string bytes, d) => bytes.length + uptoBulk d + 1
  | (_, d) => uptoBulk d + 1
 end
def uptoSmall : (H : Type) → List (DataW H) → Bool := fun _ ds => decide (uptoBulkAll ds ≤ 1048576)
def OpenSpec.upto (s : _root_.Go.ChangeSpec) : _root_.Go.OpenSpec := { _root_.Go.OpenSpec.ofChange s with cond := some uptoSmall }

/-- 'laws.FnExactStageNew', WHERE WHAT IT READS IS OF BULK AT MOST 1048576: true; the input reads as it did. -/
def fnExactStageNewUptoRow : OpenClaim := { program := "ytpnifgpmleaohaa", sum := "e6fac7e49fc3445c0c08a189f8e5b00e380a7df83b587eeb7c32cdffc961dfba", func := "loop.example/g01407/laws.FnExactStageNew", spec := "fnExactStageNew", unfollowed := true, recurses := true, plainKeys := false, apart := false, narrowed := true }
def FnExactStageNewUptoSaid : Prop := fnExactStageNewUptoRow.holds Try.pinned (OpenSpec.upto fnExactStageNewSpec)

/-- 'laws.FnExactStageOk', WHERE WHAT IT READS IS OF BULK AT MOST 1048576: true; the input reads as it did. -/
def fnExactStageOkUptoRow : OpenClaim := { program := "ytpnifgpmleaohaa", sum := "e6fac7e49fc3445c0c08a189f8e5b00e380a7df83b587eeb7c32cdffc961dfba", func := "loop.example/g01407/laws.FnExactStageOk", spec := "fnExactStageOk", unfollowed := true, recurses := true, plainKeys := false, apart := false, narrowed := true }
def FnExactStageOkUptoSaid : Prop := fnExactStageOkUptoRow.holds Try.pinned (OpenSpec.upto fnExactStageOkSpec)

/-- 'laws.FnExactLedger', WHERE WHAT IT READS IS OF BULK AT MOST 1048576: true; the input reads as it did. -/
def fnExactLedgerUptoRow : OpenClaim := { program := "ytpnifgpmleaohaa", sum := "e6fac7e49fc3445c0c08a189f8e5b00e380a7df83b587eeb7c32cdffc961dfba", func := "loop.example/g01407/laws.FnExactLedger", spec := "fnExactLedger", plainKeys := false, apart := false, narrowed := true }
def FnExactLedgerUptoSaid : Prop := fnExactLedgerUptoRow.holds Try.pinned (OpenSpec.upto fnExactLedgerSpec)

/-- 'laws.FnExactFindSaved', WHERE WHAT IT READS IS OF BULK AT MOST 1048576: true; the input reads as it did. -/
def fnExactFindSavedUptoRow : OpenClaim := { program := "ytpnifgpmleaohaa", sum := "e6fac7e49fc3445c0c08a189f8e5b00e380a7df83b587eeb7c32cdffc961dfba", func := "loop.example/g01407/laws.FnExactFindSaved", spec := "fnExactFindSaved", plainKeys := false, apart := false, narrowed := true }
def FnExactFindSavedUptoSaid : Prop := fnExactFindSavedUptoRow.holds Try.pinned (OpenSpec.upto fnExactFindSavedSpec)

end Rows
end Go.Proofs.Ytpnifgpmleaohaa
