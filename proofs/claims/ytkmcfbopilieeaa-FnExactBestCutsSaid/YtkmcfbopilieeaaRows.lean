/-
  No cell of these rows narrows 'for every input' (looked for: loops, veiled, ifaces, maps, wideKeys, modest, calm, conditions, laid).
  DERIVED. THE GIVEN ROWS OF THIS SEAT. 9 by the template 'for every input the law returns true; each argument reads behind the call as it read before'; 0 by the template 'total and deterministic' (their statements: YtkmcfbopilieeaaTotals.lean).
  GIVEN WITH THE SEED: the statements are not yours to turn. If you find one false, say at which input.
  Laid BY PROGRAM, IN A SANDBOX (cutbox-rows.mjs): the forced cells as the released guide's own fill.sh prints them over the translation 772e4ab0ff4305a0… (all of the seat's roots in one cut). By AI agents, Wed Nov 11 2026. No macro, syntax, notation, axiom, sorry.
-/
import Derived.Test.YtkmcfbopilieeaaChecked
import GoSem.Claim
import GoSem.ClaimJoined
import GoSem.ClaimMapViews
import Derived.JoinedTies
import Derived.KernelRfl
namespace Go.Proofs.Ytkmcfbopilieeaa
/- THE CELL 'sum', in the pinned program and in every row, IS THE sha256 OF THE DUMP (.gsa) THAT YtkmcfbopilieeaaProg.lean LOADS. Nothing in Lean hashes anything: it is a label: what it is worth is what the hold of that sum in a sandbox is worth. -/
noncomputable def Try.pinned : Pinned := { name := "ytkmcfbopilieeaa", sum := "772e4ab0ff4305a0969b5c45de2e8eb8fc2f1b7f8e5f20b34ef50e1ae91aa3bc", checked := Try.checked }
namespace Rows
def none {H : Type} : Left H := { results := [], args := [] }

/-- 'laws.FnBest': WHATEVER THE INPUT: true; the input reads as it did. -/
def fnBestSpec : ChangeSpec := { name := "fnBest", fn := fun _ => fun
  | [d] => { results := [.lit (.bool true)], args := [d] }
  | _ => none }
def fnBestRow : OpenClaim := { program := "ytkmcfbopilieeaa", sum := "772e4ab0ff4305a0969b5c45de2e8eb8fc2f1b7f8e5f20b34ef50e1ae91aa3bc", func := "loop.example/g01407/laws.FnBest", spec := "fnBest", unfollowed := true, recurses := true, apart := false }
def FnBestSaid : Prop := fnBestRow.holds Try.pinned (OpenSpec.ofChange fnBestSpec)

/-- ITS FALSE NEIGHBOUR: 'it returns false'. Refute it at one input. -/
def fnBestWrong : ChangeSpec := { name := "fnBest", fn := fun _ => fun
  | [d] => { results := [.lit (.bool false)], args := [d] }
  | _ => none }
def FnBestWrongFalsely : Prop := fnBestRow.holds Try.pinned (OpenSpec.ofChange fnBestWrong)

/-- 'laws.FnAllCuts': WHATEVER THE INPUT: true; the input reads as it did. -/
def fnAllCutsSpec : ChangeSpec := { name := "fnAllCuts", fn := fun _ => fun
  | [d] => { results := [.lit (.bool true)], args := [d] }
  | _ => none }
def fnAllCutsRow : OpenClaim := { program := "ytkmcfbopilieeaa", sum := "772e4ab0ff4305a0969b5c45de2e8eb8fc2f1b7f8e5f20b34ef50e1ae91aa3bc", func := "loop.example/g01407/laws.FnAllCuts", spec := "fnAllCuts", unfollowed := true, recurses := true, apart := false }
def FnAllCutsSaid : Prop := fnAllCutsRow.holds Try.pinned (OpenSpec.ofChange fnAllCutsSpec)

/-- ITS FALSE NEIGHBOUR: 'it returns false'. Refute it at one input. -/
def fnAllCutsWrong : ChangeSpec := { name := "fnAllCuts", fn := fun _ => fun
  | [d] => { results := [.lit (.bool false)], args := [d] }
  | _ => none }
def FnAllCutsWrongFalsely : Prop := fnAllCutsRow.holds Try.pinned (OpenSpec.ofChange fnAllCutsWrong)

/-- 'laws.FnCovers': WHATEVER THE INPUT: true; the input reads as it did. -/
def fnCoversSpec : ChangeSpec := { name := "fnCovers", fn := fun _ => fun
  | [d] => { results := [.lit (.bool true)], args := [d] }
  | _ => none }
def fnCoversRow : OpenClaim := { program := "ytkmcfbopilieeaa", sum := "772e4ab0ff4305a0969b5c45de2e8eb8fc2f1b7f8e5f20b34ef50e1ae91aa3bc", func := "loop.example/g01407/laws.FnCovers", spec := "fnCovers", apart := false }
def FnCoversSaid : Prop := fnCoversRow.holds Try.pinned (OpenSpec.ofChange fnCoversSpec)

/-- ITS FALSE NEIGHBOUR: 'it returns false'. Refute it at one input. -/
def fnCoversWrong : ChangeSpec := { name := "fnCovers", fn := fun _ => fun
  | [d] => { results := [.lit (.bool false)], args := [d] }
  | _ => none }
def FnCoversWrongFalsely : Prop := fnCoversRow.holds Try.pinned (OpenSpec.ofChange fnCoversWrong)

/-- 'laws.FnExactCutsOk': WHATEVER THE INPUT: true; the input reads as it did. -/
def fnExactCutsOkSpec : ChangeSpec := { name := "fnExactCutsOk", fn := fun _ => fun
  | [d1, d2] => { results := [.lit (.bool true)], args := [d1, d2] }
  | _ => none }
def fnExactCutsOkRow : OpenClaim := { program := "ytkmcfbopilieeaa", sum := "772e4ab0ff4305a0969b5c45de2e8eb8fc2f1b7f8e5f20b34ef50e1ae91aa3bc", func := "loop.example/g01407/laws.FnExactCutsOk", spec := "fnExactCutsOk", apart := false }
def FnExactCutsOkSaid : Prop := fnExactCutsOkRow.holds Try.pinned (OpenSpec.ofChange fnExactCutsOkSpec)

/-- ITS FALSE NEIGHBOUR: 'it returns false'. Refute it at one input. -/
def fnExactCutsOkWrong : ChangeSpec := { name := "fnExactCutsOk", fn := fun _ => fun
  | [d1, d2] => { results := [.lit (.bool false)], args := [d1, d2] }
  | _ => none }
def FnExactCutsOkWrongFalsely : Prop := fnExactCutsOkRow.holds Try.pinned (OpenSpec.ofChange fnExactCutsOkWrong)

/-- 'laws.FnExactStageRange': WHATEVER THE INPUT: true; the input reads as it did. -/
def fnExactStageRangeSpec : ChangeSpec := { name := "fnExactStageRange", fn := fun _ => fun
  | [d1, d2, d3] => { results := [.lit (.bool true)], args := [d1, d2, d3] }
  | _ => none }
def fnExactStageRangeRow : OpenClaim := { program := "ytkmcfbopilieeaa", sum := "772e4ab0ff4305a0969b5c45de2e8eb8fc2f1b7f8e5f20b34ef50e1ae91aa3bc", func := "loop.example/g01407/laws.FnExactStageRange", spec := "fnExactStageRange", apart := false }
def FnExactStageRangeSaid : Prop := fnExactStageRangeRow.holds Try.pinned (OpenSpec.ofChange fnExactStageRangeSpec)

/-- ITS FALSE NEIGHBOUR: 'it returns false'. Refute it at one input. -/
def fnExactStageRangeWrong : ChangeSpec := { name := "fnExactStageRange", fn := fun _ => fun
  | [d1, d2, d3] => { results := [.lit (.bool false)], args := [d1, d2, d3] }
  | _ => none }
def FnExactStageRangeWrongFalsely : Prop := fnExactStageRangeRow.holds Try.pinned (OpenSpec.ofChange fnExactStageRangeWrong)

/-- 'laws.FnExactStageCost': WHATEVER THE INPUT: true; the input reads as it did. -/
def fnExactStageCostSpec : ChangeSpec := { name := "fnExactStageCost", fn := fun _ => fun
  | [d1, d2, d3] => { results := [.lit (.bool true)], args := [d1, d2, d3] }
  | _ => none }
def fnExactStageCostRow : OpenClaim := { program := "ytkmcfbopilieeaa", sum := "772e4ab0ff4305a0969b5c45de2e8eb8fc2f1b7f8e5f20b34ef50e1ae91aa3bc", func := "loop.example/g01407/laws.FnExactStageCost", spec := "fnExactStageCost", apart := false }
def FnExactStageCostSaid : Prop := fnExactStageCostRow.holds Try.pinned (OpenSpec.ofChange fnExactStageCostSpec)

/-- ITS FALSE NEIGHBOUR: 'it returns false'. Refute it at one input. -/
def fnExactStageCostWrong : ChangeSpec := { name := "fnExactStageCost", fn := fun _ => fun
  | [d1, d2, d3] => { results := [.lit (.bool false)], args := [d1, d2, d3] }
  | _ => none }
def FnExactStageCostWrongFalsely : Prop := fnExactStageCostRow.holds Try.pinned (OpenSpec.ofChange fnExactStageCostWrong)

/-- 'laws.FnExactMaxCost': WHATEVER THE INPUT: true; the input reads as it did. -/
def fnExactMaxCostSpec : ChangeSpec := { name := "fnExactMaxCost", fn := fun _ => fun
  | [d1, d2] => { results := [.lit (.bool true)], args := [d1, d2] }
  | _ => none }
def fnExactMaxCostRow : OpenClaim := { program := "ytkmcfbopilieeaa", sum := "772e4ab0ff4305a0969b5c45de2e8eb8fc2f1b7f8e5f20b34ef50e1ae91aa3bc", func := "loop.example/g01407/laws.FnExactMaxCost", spec := "fnExactMaxCost", apart := false }
def FnExactMaxCostSaid : Prop := fnExactMaxCostRow.holds Try.pinned (OpenSpec.ofChange fnExactMaxCostSpec)

/-- ITS FALSE NEIGHBOUR: 'it returns false'. Refute it at one input. -/
def fnExactMaxCostWrong : ChangeSpec := { name := "fnExactMaxCost", fn := fun _ => fun
  | [d1, d2] => { results := [.lit (.bool false)], args := [d1, d2] }
  | _ => none }
def FnExactMaxCostWrongFalsely : Prop := fnExactMaxCostRow.holds Try.pinned (OpenSpec.ofChange fnExactMaxCostWrong)

/-- 'laws.FnExactBestCuts': WHATEVER THE INPUT: true; the input reads as it did. -/
def fnExactBestCutsSpec : ChangeSpec := { name := "fnExactBestCuts", fn := fun _ => fun
  | [d1, d2] => { results := [.lit (.bool true)], args := [d1, d2] }
  | _ => none }
def fnExactBestCutsRow : OpenClaim := { program := "ytkmcfbopilieeaa", sum := "772e4ab0ff4305a0969b5c45de2e8eb8fc2f1b7f8e5f20b34ef50e1ae91aa3bc", func := "loop.example/g01407/laws.FnExactBestCuts", spec := "fnExactBestCuts", unfollowed := true, recurses := true, apart := false }
def FnExactBestCutsSaid : Prop := fnExactBestCutsRow.holds Try.pinned (OpenSpec.ofChange fnExactBestCutsSpec)

/-- ITS FALSE NEIGHBOUR: 'it returns false'. Refute it at one input. -/
def fnExactBestCutsWrong : ChangeSpec := { name := "fnExactBestCuts", fn := fun _ => fun
  | [d1, d2] => { results := [.lit (.bool false)], args := [d1, d2] }
  | _ => none }
def FnExactBestCutsWrongFalsely : Prop := fnExactBestCutsRow.holds Try.pinned (OpenSpec.ofChange fnExactBestCutsWrong)

/-- 'laws.FnExactAllCuts': WHATEVER THE INPUT: true; the input reads as it did. -/
def fnExactAllCutsSpec : ChangeSpec := { name := "fnExactAllCuts", fn := fun _ => fun
  | [d1, d2] => { results := [.lit (.bool true)], args := [d1, d2] }
  | _ => none }
def fnExactAllCutsRow : OpenClaim := { program := "ytkmcfbopilieeaa", sum := "772e4ab0ff4305a0969b5c45de2e8eb8fc2f1b7f8e5f20b34ef50e1ae91aa3bc", func := "loop.example/g01407/laws.FnExactAllCuts", spec := "fnExactAllCuts", unfollowed := true, recurses := true, apart := false }
def FnExactAllCutsSaid : Prop := fnExactAllCutsRow.holds Try.pinned (OpenSpec.ofChange fnExactAllCutsSpec)

/-- ITS FALSE NEIGHBOUR: 'it returns false'. Refute it at one input. -/
def fnExactAllCutsWrong : ChangeSpec := { name := "fnExactAllCuts", fn := fun _ => fun
  | [d1, d2] => { results := [.lit (.bool false)], args := [d1, d2] }
  | _ => none }
def FnExactAllCutsWrongFalsely : Prop := fnExactAllCutsRow.holds Try.pinned (OpenSpec.ofChange fnExactAllCutsWrong)

/- THE SECOND FORM. 'bulk': how many values and letters a reading holds, each counted each time it is reached (what is shared counts as often as it is met; a slice's spare places count too). A statement '..UptoSaid' is the law's where the arguments, and the package variables that the reading takes, are together of bulk at most 1048576: NARROWER than '..Said'. Prove '..Said' where nothing that the law and all that it calls make is longer than what came in: it says more and counts as full. Else prove '..UptoSaid'. A law counts once. -/
mutual
def uptoBulk {H : Type} : DataW H → Nat
  | .lit (.string bytes) => bytes.length + 1
  | .lit _ => 1
  | .nil => 1
  | .ptr d => uptoBulk d + 1
  | .slice elems spare => uptoBulkAll elems + uptoBulkAll spare + 1
  | .agg parts => uptoBulkAll parts + 1
  | .iface _ d => uptoBulk d + 1
  | .map entries => uptoBulkEntries entries + 1
  | .held _ => 1
def uptoBulkAll {H : Type} : List (DataW H) → Nat
  | [] => 0
  | d :: r => uptoBulk d + uptoBulkAll r
def uptoBulkEntries {H : Type} : List (Lit × DataW H) → Nat
  | [] => 0
  | x :: r => uptoBulkEntry x + uptoBulkEntries r
def uptoBulkEntry {H : Type} : Lit × DataW H → Nat
  | (.string bytes, d) => bytes.length + uptoBulk d + 1
  | (_, d) => uptoBulk d + 1
 end
def uptoSmall : (H : Type) → List (DataW H) → Bool := fun _ ds => decide (uptoBulkAll ds ≤ 1048576)
def OpenSpec.upto (s : _root_.Go.ChangeSpec) : _root_.Go.OpenSpec := { _root_.Go.OpenSpec.ofChange s with cond := some uptoSmall }

/-- 'laws.FnBest', WHERE WHAT IT READS IS OF BULK AT MOST 1048576: true; the input reads as it did. -/
def fnBestUptoRow : OpenClaim := { program := "ytkmcfbopilieeaa", sum := "772e4ab0ff4305a0969b5c45de2e8eb8fc2f1b7f8e5f20b34ef50e1ae91aa3bc", func := "loop.example/g01407/laws.FnBest", spec := "fnBest", unfollowed := true, recurses := true, apart := false, narrowed := true }
def FnBestUptoSaid : Prop := fnBestUptoRow.holds Try.pinned (OpenSpec.upto fnBestSpec)

/-- 'laws.FnAllCuts', WHERE WHAT IT READS IS OF BULK AT MOST 1048576: true; the input reads as it did. -/
def fnAllCutsUptoRow : OpenClaim := { program := "ytkmcfbopilieeaa", sum := "772e4ab0ff4305a0969b5c45de2e8eb8fc2f1b7f8e5f20b34ef50e1ae91aa3bc", func := "loop.example/g01407/laws.FnAllCuts", spec := "fnAllCuts", unfollowed := true, recurses := true, apart := false, narrowed := true }
def FnAllCutsUptoSaid : Prop := fnAllCutsUptoRow.holds Try.pinned (OpenSpec.upto fnAllCutsSpec)

/-- 'laws.FnCovers', WHERE WHAT IT READS IS OF BULK AT MOST 1048576: true; the input reads as it did. -/
def fnCoversUptoRow : OpenClaim := { program := "ytkmcfbopilieeaa", sum := "772e4ab0ff4305a0969b5c45de2e8eb8fc2f1b7f8e5f20b34ef50e1ae91aa3bc", func := "loop.example/g01407/laws.FnCovers", spec := "fnCovers", apart := false, narrowed := true }
def FnCoversUptoSaid : Prop := fnCoversUptoRow.holds Try.pinned (OpenSpec.upto fnCoversSpec)

/-- 'laws.FnExactCutsOk', WHERE WHAT IT READS IS OF BULK AT MOST 1048576: true; the input reads as it did. -/
def fnExactCutsOkUptoRow : OpenClaim := { program := "ytkmcfbopilieeaa", sum := "772e4ab0ff4305a0969b5c45de2e8eb8fc2f1b7f8e5f20b34ef50e1ae91aa3bc", func := "loop.example/g01407/laws.FnExactCutsOk", spec := "fnExactCutsOk", apart := false, narrowed := true }
def FnExactCutsOkUptoSaid : Prop := fnExactCutsOkUptoRow.holds Try.pinned (OpenSpec.upto fnExactCutsOkSpec)

/-- 'laws.FnExactStageRange', WHERE WHAT IT READS IS OF BULK AT MOST 1048576: true; the input reads as it did. -/
def fnExactStageRangeUptoRow : OpenClaim := { program := "ytkmcfbopilieeaa", sum := "772e4ab0ff4305a0969b5c45de2e8eb8fc2f1b7f8e5f20b34ef50e1ae91aa3bc", func := "loop.example/g01407/laws.FnExactStageRange", spec := "fnExactStageRange", apart := false, narrowed := true }
def FnExactStageRangeUptoSaid : Prop := fnExactStageRangeUptoRow.holds Try.pinned (OpenSpec.upto fnExactStageRangeSpec)

/-- 'laws.FnExactStageCost', WHERE WHAT IT READS IS OF BULK AT MOST 1048576: true; the input reads as it did. -/
def fnExactStageCostUptoRow : OpenClaim := { program := "ytkmcfbopilieeaa", sum := "772e4ab0ff4305a0969b5c45de2e8eb8fc2f1b7f8e5f20b34ef50e1ae91aa3bc", func := "loop.example/g01407/laws.FnExactStageCost", spec := "fnExactStageCost", apart := false, narrowed := true }
def FnExactStageCostUptoSaid : Prop := fnExactStageCostUptoRow.holds Try.pinned (OpenSpec.upto fnExactStageCostSpec)

/-- 'laws.FnExactMaxCost', WHERE WHAT IT READS IS OF BULK AT MOST 1048576: true; the input reads as it did. -/
def fnExactMaxCostUptoRow : OpenClaim := { program := "ytkmcfbopilieeaa", sum := "772e4ab0ff4305a0969b5c45de2e8eb8fc2f1b7f8e5f20b34ef50e1ae91aa3bc", func := "loop.example/g01407/laws.FnExactMaxCost", spec := "fnExactMaxCost", apart := false, narrowed := true }
def FnExactMaxCostUptoSaid : Prop := fnExactMaxCostUptoRow.holds Try.pinned (OpenSpec.upto fnExactMaxCostSpec)

/-- 'laws.FnExactBestCuts', WHERE WHAT IT READS IS OF BULK AT MOST 1048576: true; the input reads as it did. -/
def fnExactBestCutsUptoRow : OpenClaim := { program := "ytkmcfbopilieeaa", sum := "772e4ab0ff4305a0969b5c45de2e8eb8fc2f1b7f8e5f20b34ef50e1ae91aa3bc", func := "loop.example/g01407/laws.FnExactBestCuts", spec := "fnExactBestCuts", unfollowed := true, recurses := true, apart := false, narrowed := true }
def FnExactBestCutsUptoSaid : Prop := fnExactBestCutsUptoRow.holds Try.pinned (OpenSpec.upto fnExactBestCutsSpec)

/-- 'laws.FnExactAllCuts', WHERE WHAT IT READS IS OF BULK AT MOST 1048576: true; the input reads as it did. -/
def fnExactAllCutsUptoRow : OpenClaim := { program := "ytkmcfbopilieeaa", sum := "772e4ab0ff4305a0969b5c45de2e8eb8fc2f1b7f8e5f20b34ef50e1ae91aa3bc", func := "loop.example/g01407/laws.FnExactAllCuts", spec := "fnExactAllCuts", unfollowed := true, recurses := true, apart := false, narrowed := true }
def FnExactAllCutsUptoSaid : Prop := fnExactAllCutsUptoRow.holds Try.pinned (OpenSpec.upto fnExactAllCutsSpec)

end Rows
end Go.Proofs.Ytkmcfbopilieeaa
