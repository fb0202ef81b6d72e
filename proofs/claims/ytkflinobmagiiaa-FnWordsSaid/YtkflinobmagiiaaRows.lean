/-
  No cell of these rows narrows 'for every input' (looked for: loops, veiled, ifaces, maps, wideKeys, modest, calm, conditions, laid).
  DERIVED. THE GIVEN ROWS OF THIS SEAT. 7 by the template 'for every input the law returns true; each argument reads behind the call as it read before'; 0 by the template 'total and deterministic' (their statements: YtkflinobmagiiaaTotals.lean).
  GIVEN WITH THE SEED: the statements are not yours to turn. If you find one false, say at which input.
  Laid BY PROGRAM, IN A SANDBOX (cutbox-rows.mjs): the forced cells as the released guide's own fill.sh prints them over the translation 53af8f42a89e1e75… (all of the seat's roots in one cut). By AI agents, Wed Nov 11 2026. No macro, syntax, notation, axiom, sorry.
-/
import Derived.Test.YtkflinobmagiiaaChecked
import GoSem.Claim
import GoSem.ClaimJoined
import GoSem.ClaimMapViews
import Derived.JoinedTies
import Derived.KernelRfl
namespace Go.Proofs.Ytkflinobmagiiaa
/- THE CELL 'sum', in the pinned program and in every row, IS THE sha256 OF THE DUMP (.gsa) THAT YtkflinobmagiiaaProg.lean LOADS. Nothing in Lean hashes anything: it is a label: what it is worth is what the hold of that sum in a sandbox is worth. -/
noncomputable def Try.pinned : Pinned := { name := "ytkflinobmagiiaa", sum := "53af8f42a89e1e751e951e01e43d30cdb5bb907357fabff0ff78d4cf84c7548a", checked := Try.checked }
namespace Rows
def none {H : Type} : Left H := { results := [], args := [] }

/-- 'laws.FnWords': WHATEVER THE INPUT: true; the input reads as it did. -/
def fnWordsSpec : ChangeSpec := { name := "fnWords", fn := fun _ => fun
  | [d] => { results := [.lit (.bool true)], args := [d] }
  | _ => none }
def fnWordsRow : OpenClaim := { program := "ytkflinobmagiiaa", sum := "53af8f42a89e1e751e951e01e43d30cdb5bb907357fabff0ff78d4cf84c7548a", func := "loop.example/g01407/laws.FnWords", spec := "fnWords", apart := false }
def FnWordsSaid : Prop := fnWordsRow.holds Try.pinned (OpenSpec.ofChange fnWordsSpec)

/-- ITS FALSE NEIGHBOUR: 'it returns false'. Refute it at one input. -/
def fnWordsWrong : ChangeSpec := { name := "fnWords", fn := fun _ => fun
  | [d] => { results := [.lit (.bool false)], args := [d] }
  | _ => none }
def FnWordsWrongFalsely : Prop := fnWordsRow.holds Try.pinned (OpenSpec.ofChange fnWordsWrong)

/-- 'laws.FnExactStagesOf': WHATEVER THE INPUT: true; the input reads as it did. -/
def fnExactStagesOfSpec : ChangeSpec := { name := "fnExactStagesOf", fn := fun _ => fun
  | [d] => { results := [.lit (.bool true)], args := [d] }
  | _ => none }
def fnExactStagesOfRow : OpenClaim := { program := "ytkflinobmagiiaa", sum := "53af8f42a89e1e751e951e01e43d30cdb5bb907357fabff0ff78d4cf84c7548a", func := "loop.example/g01407/laws.FnExactStagesOf", spec := "fnExactStagesOf", apart := false }
def FnExactStagesOfSaid : Prop := fnExactStagesOfRow.holds Try.pinned (OpenSpec.ofChange fnExactStagesOfSpec)

/-- ITS FALSE NEIGHBOUR: 'it returns false'. Refute it at one input. -/
def fnExactStagesOfWrong : ChangeSpec := { name := "fnExactStagesOf", fn := fun _ => fun
  | [d] => { results := [.lit (.bool false)], args := [d] }
  | _ => none }
def FnExactStagesOfWrongFalsely : Prop := fnExactStagesOfRow.holds Try.pinned (OpenSpec.ofChange fnExactStagesOfWrong)

/-- 'laws.FnExactSavedWords': WHATEVER THE INPUT: true; the input reads as it did. -/
def fnExactSavedWordsSpec : ChangeSpec := { name := "fnExactSavedWords", fn := fun _ => fun
  | [d1, d2] => { results := [.lit (.bool true)], args := [d1, d2] }
  | _ => none }
def fnExactSavedWordsRow : OpenClaim := { program := "ytkflinobmagiiaa", sum := "53af8f42a89e1e751e951e01e43d30cdb5bb907357fabff0ff78d4cf84c7548a", func := "loop.example/g01407/laws.FnExactSavedWords", spec := "fnExactSavedWords", apart := false }
def FnExactSavedWordsSaid : Prop := fnExactSavedWordsRow.holds Try.pinned (OpenSpec.ofChange fnExactSavedWordsSpec)

/-- ITS FALSE NEIGHBOUR: 'it returns false'. Refute it at one input. -/
def fnExactSavedWordsWrong : ChangeSpec := { name := "fnExactSavedWords", fn := fun _ => fun
  | [d1, d2] => { results := [.lit (.bool false)], args := [d1, d2] }
  | _ => none }
def FnExactSavedWordsWrongFalsely : Prop := fnExactSavedWordsRow.holds Try.pinned (OpenSpec.ofChange fnExactSavedWordsWrong)

/-- 'laws.FnExactFullWords': WHATEVER THE INPUT: true; the input reads as it did. -/
def fnExactFullWordsSpec : ChangeSpec := { name := "fnExactFullWords", fn := fun _ => fun
  | [d1, d2] => { results := [.lit (.bool true)], args := [d1, d2] }
  | _ => none }
def fnExactFullWordsRow : OpenClaim := { program := "ytkflinobmagiiaa", sum := "53af8f42a89e1e751e951e01e43d30cdb5bb907357fabff0ff78d4cf84c7548a", func := "loop.example/g01407/laws.FnExactFullWords", spec := "fnExactFullWords", apart := false }
def FnExactFullWordsSaid : Prop := fnExactFullWordsRow.holds Try.pinned (OpenSpec.ofChange fnExactFullWordsSpec)

/-- ITS FALSE NEIGHBOUR: 'it returns false'. Refute it at one input. -/
def fnExactFullWordsWrong : ChangeSpec := { name := "fnExactFullWords", fn := fun _ => fun
  | [d1, d2] => { results := [.lit (.bool false)], args := [d1, d2] }
  | _ => none }
def FnExactFullWordsWrongFalsely : Prop := fnExactFullWordsRow.holds Try.pinned (OpenSpec.ofChange fnExactFullWordsWrong)

/-- 'laws.FnExactPeakOf': WHATEVER THE INPUT: true; the input reads as it did. -/
def fnExactPeakOfSpec : ChangeSpec := { name := "fnExactPeakOf", fn := fun _ => fun
  | [d1, d2, d3] => { results := [.lit (.bool true)], args := [d1, d2, d3] }
  | _ => none }
def fnExactPeakOfRow : OpenClaim := { program := "ytkflinobmagiiaa", sum := "53af8f42a89e1e751e951e01e43d30cdb5bb907357fabff0ff78d4cf84c7548a", func := "loop.example/g01407/laws.FnExactPeakOf", spec := "fnExactPeakOf", apart := false }
def FnExactPeakOfSaid : Prop := fnExactPeakOfRow.holds Try.pinned (OpenSpec.ofChange fnExactPeakOfSpec)

/-- ITS FALSE NEIGHBOUR: 'it returns false'. Refute it at one input. -/
def fnExactPeakOfWrong : ChangeSpec := { name := "fnExactPeakOf", fn := fun _ => fun
  | [d1, d2, d3] => { results := [.lit (.bool false)], args := [d1, d2, d3] }
  | _ => none }
def FnExactPeakOfWrongFalsely : Prop := fnExactPeakOfRow.holds Try.pinned (OpenSpec.ofChange fnExactPeakOfWrong)

/-- 'laws.FnExactAdmit': WHATEVER THE INPUT: true; the input reads as it did. -/
def fnExactAdmitSpec : ChangeSpec := { name := "fnExactAdmit", fn := fun _ => fun
  | [d1, d2] => { results := [.lit (.bool true)], args := [d1, d2] }
  | _ => none }
def fnExactAdmitRow : OpenClaim := { program := "ytkflinobmagiiaa", sum := "53af8f42a89e1e751e951e01e43d30cdb5bb907357fabff0ff78d4cf84c7548a", func := "loop.example/g01407/laws.FnExactAdmit", spec := "fnExactAdmit", unfollowed := true, recurses := true, apart := false }
def FnExactAdmitSaid : Prop := fnExactAdmitRow.holds Try.pinned (OpenSpec.ofChange fnExactAdmitSpec)

/-- ITS FALSE NEIGHBOUR: 'it returns false'. Refute it at one input. -/
def fnExactAdmitWrong : ChangeSpec := { name := "fnExactAdmit", fn := fun _ => fun
  | [d1, d2] => { results := [.lit (.bool false)], args := [d1, d2] }
  | _ => none }
def FnExactAdmitWrongFalsely : Prop := fnExactAdmitRow.holds Try.pinned (OpenSpec.ofChange fnExactAdmitWrong)

/-- 'laws.FnExactAdmitWord': WHATEVER THE INPUT: true; the input reads as it did. -/
def fnExactAdmitWordSpec : ChangeSpec := { name := "fnExactAdmitWord", fn := fun _ => fun
  | [d] => { results := [.lit (.bool true)], args := [d] }
  | _ => none }
def fnExactAdmitWordRow : OpenClaim := { program := "ytkflinobmagiiaa", sum := "53af8f42a89e1e751e951e01e43d30cdb5bb907357fabff0ff78d4cf84c7548a", func := "loop.example/g01407/laws.FnExactAdmitWord", spec := "fnExactAdmitWord", apart := false }
def FnExactAdmitWordSaid : Prop := fnExactAdmitWordRow.holds Try.pinned (OpenSpec.ofChange fnExactAdmitWordSpec)

/-- ITS FALSE NEIGHBOUR: 'it returns false'. Refute it at one input. -/
def fnExactAdmitWordWrong : ChangeSpec := { name := "fnExactAdmitWord", fn := fun _ => fun
  | [d] => { results := [.lit (.bool false)], args := [d] }
  | _ => none }
def FnExactAdmitWordWrongFalsely : Prop := fnExactAdmitWordRow.holds Try.pinned (OpenSpec.ofChange fnExactAdmitWordWrong)

/- THE SECOND FORM. 'bulk': how many values and letters a reading holds, each counted each time it is reached (what is shared counts as often as it is met; a slice's spare places count too). A statement '..UptoSaid' is the law's where the arguments, and the package variables that the reading takes, are together of bulk at most 1048576: NARROWER than '..Said'. Prove '..Said' where nothing that the law and all that it calls make is longer than what came in: it says more and counts as full. Else prove '..UptoSaid'. A law counts once. -/
mutual
def uptoBulk {H : Type} : DataW H → Nat
  | .lit (.string bytes) => bytes.length + 1
  | .lit _ => 1
  | .nil => 1
  | .ptr d => uptoBulk d + 1
  | .slice elems spare => uptoBulkAll elems + uptoBulkAll spare + 1
  | .agg parts => uptoBulkAll parts + 1
  | .iface _ d => uptoBulk d + 1
  | .map entries => uptoBulkEntries entries + 1
  | .held _ => 1
def uptoBulkAll {H : Type} : List (DataW H) → Nat
  | [] => 0
  | d :: r => uptoBulk d + uptoBulkAll r
def uptoBulkEntries {H : Type} : List (Lit × DataW H) → Nat
  | [] => 0
  | x :: r => uptoBulkEntry x + uptoBulkEntries r
def uptoBulkEntry {H : Type} : Lit × DataW H → Nat
  | (.string bytes, d) => bytes.length + uptoBulk d + 1
  | (_, d) => uptoBulk d + 1
 end
def uptoSmall : (H : Type) → List (DataW H) → Bool := fun _ ds => decide (uptoBulkAll ds ≤ 1048576)
def OpenSpec.upto (s : _root_.Go.ChangeSpec) : _root_.Go.OpenSpec := { _root_.Go.OpenSpec.ofChange s with cond := some uptoSmall }

/-- 'laws.FnWords', WHERE WHAT IT READS IS OF BULK AT MOST 1048576: true; the input reads as it did. -/
def fnWordsUptoRow : OpenClaim := { program := "ytkflinobmagiiaa", sum := "53af8f42a89e1e751e951e01e43d30cdb5bb907357fabff0ff78d4cf84c7548a", func := "loop.example/g01407/laws.FnWords", spec := "fnWords", apart := false, narrowed := true }
def FnWordsUptoSaid : Prop := fnWordsUptoRow.holds Try.pinned (OpenSpec.upto fnWordsSpec)

/-- 'laws.FnExactStagesOf', WHERE WHAT IT READS IS OF BULK AT MOST 1048576: true; the input reads as it did. -/
def fnExactStagesOfUptoRow : OpenClaim := { program := "ytkflinobmagiiaa", sum := "53af8f42a89e1e751e951e01e43d30cdb5bb907357fabff0ff78d4cf84c7548a", func := "loop.example/g01407/laws.FnExactStagesOf", spec := "fnExactStagesOf", apart := false, narrowed := true }
def FnExactStagesOfUptoSaid : Prop := fnExactStagesOfUptoRow.holds Try.pinned (OpenSpec.upto fnExactStagesOfSpec)

/-- 'laws.FnExactSavedWords', WHERE WHAT IT READS IS OF BULK AT MOST 1048576: true; the input reads as it did. -/
def fnExactSavedWordsUptoRow : OpenClaim := { program := "ytkflinobmagiiaa", sum := "53af8f42a89e1e751e951e01e43d30cdb5bb907357fabff0ff78d4cf84c7548a", func := "loop.example/g01407/laws.FnExactSavedWords", spec := "fnExactSavedWords", apart := false, narrowed := true }
def FnExactSavedWordsUptoSaid : Prop := fnExactSavedWordsUptoRow.holds Try.pinned (OpenSpec.upto fnExactSavedWordsSpec)

/-- 'laws.FnExactFullWords', WHERE WHAT IT READS IS OF BULK AT MOST 1048576: true; the input reads as it did. -/
def fnExactFullWordsUptoRow : OpenClaim := { program := "ytkflinobmagiiaa", sum := "53af8f42a89e1e751e951e01e43d30cdb5bb907357fabff0ff78d4cf84c7548a", func := "loop.example/g01407/laws.FnExactFullWords", spec := "fnExactFullWords", apart := false, narrowed := true }
def FnExactFullWordsUptoSaid : Prop := fnExactFullWordsUptoRow.holds Try.pinned (OpenSpec.upto fnExactFullWordsSpec)

/-- 'laws.FnExactPeakOf', WHERE WHAT IT READS IS OF BULK AT MOST 1048576: true; the input reads as it did. -/
def fnExactPeakOfUptoRow : OpenClaim := { program := "ytkflinobmagiiaa", sum := "53af8f42a89e1e751e951e01e43d30cdb5bb907357fabff0ff78d4cf84c7548a", func := "loop.example/g01407/laws.FnExactPeakOf", spec := "fnExactPeakOf", apart := false, narrowed := true }
def FnExactPeakOfUptoSaid : Prop := fnExactPeakOfUptoRow.holds Try.pinned (OpenSpec.upto fnExactPeakOfSpec)

/-- 'laws.FnExactAdmit', WHERE WHAT IT READS IS OF BULK AT MOST 1048576: true; the input reads as it did. -/
def fnExactAdmitUptoRow : OpenClaim := { program := "ytkflinobmagiiaa", sum := "53af8f42a89e1e751e951e01e43d30cdb5bb907357fabff0ff78d4cf84c7548a", func := "loop.example/g01407/laws.FnExactAdmit", spec := "fnExactAdmit", unfollowed := true, recurses := true, apart := false, narrowed := true }
def FnExactAdmitUptoSaid : Prop := fnExactAdmitUptoRow.holds Try.pinned (OpenSpec.upto fnExactAdmitSpec)

/-- 'laws.FnExactAdmitWord', WHERE WHAT IT READS IS OF BULK AT MOST 1048576: true; the input reads as it did. -/
def fnExactAdmitWordUptoRow : OpenClaim := { program := "ytkflinobmagiiaa", sum := "53af8f42a89e1e751e951e01e43d30cdb5bb907357fabff0ff78d4cf84c7548a", func := "loop.example/g01407/laws.FnExactAdmitWord", spec := "fnExactAdmitWord", apart := false, narrowed := true }
def FnExactAdmitWordUptoSaid : Prop := fnExactAdmitWordUptoRow.holds Try.pinned (OpenSpec.upto fnExactAdmitWordSpec)

end Rows
end Go.Proofs.Ytkflinobmagiiaa
