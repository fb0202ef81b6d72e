/-
  The model's functions of chapter 7 (begun): SameGrads.
-/
import Derived.Test.YtkmcfbopilieeaaModS
namespace Go.Proofs.Ytkmcfbopilieeaa
open Go.RowKit
set_option linter.unusedVariables false

def sameGradsB (a b : dGrads) : Bool := decide (a.2.1 = b.2.1) && (decide (a.2.2 = b.2.2) && sameRowsB a.1 b.1)
end Go.Proofs.Ytkmcfbopilieeaa
