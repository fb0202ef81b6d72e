/-
  No cell of these rows narrows 'for every input' (looked for: loops, veiled, ifaces, maps, wideKeys, modest, calm, conditions, laid).
  DERIVED. THE GIVEN ROWS OF THIS SEAT. 3 by the template 'for every input the law returns true; each argument reads behind the call as it read before'; 0 by the template 'total and deterministic' (their statements: YtdmkbmpgcpggdabTotals.lean).
  GIVEN WITH THE SEED: the statements are not yours to turn. If you find one false, say at which input.
  Laid BY PROGRAM, IN A SANDBOX (cutbox-rows.mjs): the forced cells as the released guide's own fill.sh prints them over the translation 977b215ca9238e6c… (all of the seat's roots in one cut). By AI agents, Wed Nov 11 2026. No macro, syntax, notation, axiom, sorry.
-/
import Derived.Test.YtdmkbmpgcpggdabChecked
import GoSem.Claim
import GoSem.ClaimJoined
import GoSem.ClaimMapViews
import Derived.JoinedTies
import Derived.KernelRfl
namespace Go.Proofs.Ytdmkbmpgcpggdab
/- THE CELL 'sum', in the pinned program and in every row, IS THE sha256 OF THE DUMP (.gsa) THAT YtdmkbmpgcpggdabProg.lean LOADS. Nothing in Lean hashes anything: it is a label: what it is worth is what the hold of that sum in a sandbox is worth. -/
noncomputable def Try.pinned : Pinned := { name := "ytdmkbmpgcpggdab", sum := "977b215ca9238e6c47dc59f85ac2a8282c7d32c6de555cc52503729b3083807c", checked := Try.checked }
namespace Rows
def none {H : Type} : Left H := { results := [], args := [] }

/-- 'laws.FnExactVecOk': WHATEVER THE INPUT: true; the input reads as it did. -/
def fnExactVecOkSpec : ChangeSpec := { name := "fnExactVecOk", fn := fun _ => fun
  | [d] => { results := [.lit (.bool true)], args := [d] }
  | _ => none }
def fnExactVecOkRow : OpenClaim := { program := "ytdmkbmpgcpggdab", sum := "977b215ca9238e6c47dc59f85ac2a8282c7d32c6de555cc52503729b3083807c", func := "loop.example/g01407/laws.FnExactVecOk", spec := "fnExactVecOk", apart := false }
def FnExactVecOkSaid : Prop := fnExactVecOkRow.holds Try.pinned (OpenSpec.ofChange fnExactVecOkSpec)

/-- ITS FALSE NEIGHBOUR: 'it returns false'. Refute it at one input. -/
def fnExactVecOkWrong : ChangeSpec := { name := "fnExactVecOk", fn := fun _ => fun
  | [d] => { results := [.lit (.bool false)], args := [d] }
  | _ => none }
def FnExactVecOkWrongFalsely : Prop := fnExactVecOkRow.holds Try.pinned (OpenSpec.ofChange fnExactVecOkWrong)

/-- 'laws.FnExactVecMask': WHATEVER THE INPUT: true; the input reads as it did. -/
def fnExactVecMaskSpec : ChangeSpec := { name := "fnExactVecMask", fn := fun _ => fun
  | [d1, d2] => { results := [.lit (.bool true)], args := [d1, d2] }
  | _ => none }
def fnExactVecMaskRow : OpenClaim := { program := "ytdmkbmpgcpggdab", sum := "977b215ca9238e6c47dc59f85ac2a8282c7d32c6de555cc52503729b3083807c", func := "loop.example/g01407/laws.FnExactVecMask", spec := "fnExactVecMask", unfollowed := true, recurses := true, apart := false }
def FnExactVecMaskSaid : Prop := fnExactVecMaskRow.holds Try.pinned (OpenSpec.ofChange fnExactVecMaskSpec)

/-- ITS FALSE NEIGHBOUR: 'it returns false'. Refute it at one input. -/
def fnExactVecMaskWrong : ChangeSpec := { name := "fnExactVecMask", fn := fun _ => fun
  | [d1, d2] => { results := [.lit (.bool false)], args := [d1, d2] }
  | _ => none }
def FnExactVecMaskWrongFalsely : Prop := fnExactVecMaskRow.holds Try.pinned (OpenSpec.ofChange fnExactVecMaskWrong)

/-- 'laws.FnExactSameVec': WHATEVER THE INPUT: true; the input reads as it did. -/
def fnExactSameVecSpec : ChangeSpec := { name := "fnExactSameVec", fn := fun _ => fun
  | [d1, d2] => { results := [.lit (.bool true)], args := [d1, d2] }
  | _ => none }
def fnExactSameVecRow : OpenClaim := { program := "ytdmkbmpgcpggdab", sum := "977b215ca9238e6c47dc59f85ac2a8282c7d32c6de555cc52503729b3083807c", func := "loop.example/g01407/laws.FnExactSameVec", spec := "fnExactSameVec", apart := false }
def FnExactSameVecSaid : Prop := fnExactSameVecRow.holds Try.pinned (OpenSpec.ofChange fnExactSameVecSpec)

/-- ITS FALSE NEIGHBOUR: 'it returns false'. Refute it at one input. -/
def fnExactSameVecWrong : ChangeSpec := { name := "fnExactSameVec", fn := fun _ => fun
  | [d1, d2] => { results := [.lit (.bool false)], args := [d1, d2] }
  | _ => none }
def FnExactSameVecWrongFalsely : Prop := fnExactSameVecRow.holds Try.pinned (OpenSpec.ofChange fnExactSameVecWrong)

/- THE SECOND FORM. 'bulk': how many values and letters a reading holds, each counted each time it is reached (what is shared counts as often as it is met; a slice's spare places count too). A statement '..UptoSaid' is the law's where the arguments, and the package variables that the reading takes, are together of bulk at most 1048576: NARROWER than '..Said'. Prove '..Said' where nothing that the law and all that it calls make is longer than what came in: it says more and counts as full. Else prove '..UptoSaid'. A law counts once. -/
mutual
def uptoBulk {H : Type} : DataW H → Nat
  | .lit (.string bytes) => bytes.length + 1
  | .lit _ => 1
  | .nil => 1
  | .ptr d => uptoBulk d + 1
  | .slice elems spare => uptoBulkAll elems + uptoBulkAll spare + 1
  | .agg parts => uptoBulkAll parts + 1
  | .iface _ d => uptoBulk d + 1
  | .map entries => uptoBulkEntries entries + 1
  | .held _ => 1
def uptoBulkAll {H : Type} : List (DataW H) → Nat
  | [] => 0
  | d :: r => uptoBulk d + uptoBulkAll r
def uptoBulkEntries {H : Type} : List (Lit × DataW H) → Nat
  | [] => 0
  | x :: r => uptoBulkEntry x + uptoBulkEntries r
def uptoBulkEntry {H : Type} : Lit × DataW H → Nat
  | (.string bytes, d) => bytes.length + uptoBulk d + 1
  | (_, d) => uptoBulk d + 1
 end
def uptoSmall : (H : Type) → List (DataW H) → Bool := fun _ ds => decide (uptoBulkAll ds ≤ 1048576)
def OpenSpec.upto (s : _root_.Go.ChangeSpec) : _root_.Go.OpenSpec := { _root_.Go.OpenSpec.ofChange s with cond := some uptoSmall }

/-- 'laws.FnExactVecOk', WHERE WHAT IT READS IS OF BULK AT MOST 1048576: true; the input reads as it did. -/
def fnExactVecOkUptoRow : OpenClaim := { program := "ytdmkbmpgcpggdab", sum := "977b215ca9238e6c47dc59f85ac2a8282c7d32c6de555cc52503729b3083807c", func := "loop.example/g01407/laws.FnExactVecOk", spec := "fnExactVecOk", apart := false, narrowed := true }
def FnExactVecOkUptoSaid : Prop := fnExactVecOkUptoRow.holds Try.pinned (OpenSpec.upto fnExactVecOkSpec)

/-- 'laws.FnExactVecMask', WHERE WHAT IT READS IS OF BULK AT MOST 1048576: true; the input reads as it did. -/
def fnExactVecMaskUptoRow : OpenClaim := { program := "ytdmkbmpgcpggdab", sum := "977b215ca9238e6c47dc59f85ac2a8282c7d32c6de555cc52503729b3083807c", func := "loop.example/g01407/laws.FnExactVecMask", spec := "fnExactVecMask", unfollowed := true, recurses := true, apart := false, narrowed := true }
def FnExactVecMaskUptoSaid : Prop := fnExactVecMaskUptoRow.holds Try.pinned (OpenSpec.upto fnExactVecMaskSpec)

/-- 'laws.FnExactSameVec', WHERE WHAT IT READS IS OF BULK AT MOST 1048576: true; the input reads as it did. -/
def fnExactSameVecUptoRow : OpenClaim := { program := "ytdmkbmpgcpggdab", sum := "977b215ca9238e6c47dc59f85ac2a8282c7d32c6de555cc52503729b3083807c", func := "loop.example/g01407/laws.FnExactSameVec", spec := "fnExactSameVec", apart := false, narrowed := true }
def FnExactSameVecUptoSaid : Prop := fnExactSameVecUptoRow.holds Try.pinned (OpenSpec.upto fnExactSameVecSpec)

end Rows
end Go.Proofs.Ytdmkbmpgcpggdab
