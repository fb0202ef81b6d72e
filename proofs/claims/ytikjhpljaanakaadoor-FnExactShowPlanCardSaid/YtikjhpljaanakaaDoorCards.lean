/-
  DERIVED. GIVEN WITH THE SEED: THE CARDS: each row of YtikjhpljaanakaaDoorRows.lean that lists a variable, with what it lists TIED to the program's text (the seventh form; the later family's looks); each row that meets fmt, with fmt's text TOLD by the authors' own Lean function (tested against real Go, not proved from fmt's source: count such statements apart). THE CARD IS WHAT COUNTS. Prove the row's statement (the work); the ties are given (YtikjhpljaanakaaDoorTie.lean); close each card by the builder's one call (the guide's Derived/Test/ToyasCard.lean, 'card_holds'). Laid BY PROGRAM, IN A SANDBOX (cutbox-door.mjs). By AI agents, Wed Nov 11 2026. No macro, syntax, notation, axiom, sorry.
-/
import Derived.Test.YtikjhpljaanakaaDoorRows
import GoSem.ClaimSeven
namespace Go.Proofs.YtikjhpljaanakaaDoor
namespace Rows

/-- THE TIED CARD OF 'laws.FnExactShowPlan'. -/
def fnExactShowPlanCard : Claim7 := { stood := { row := fnExactShowPlanRow, standIns := [], harness := (true, "5022a2c195e5dd6ce6e8475015dc9e48faffda81a8d61438ae280721ebb3b682"), looks := false }, kinds := [], alts := [], laidByText := true, laidKinds := [.data, .data, .data], laidTests := true, laidLooks := .later }
def FnExactShowPlanCardSaid : Prop := Claim7.holds Tryd.pinned (.plain (OpenSpec.ofChange fnExactShowPlanSpec)) fnExactShowPlanCard

/-- THE SECOND FORM's CARD OF 'laws.FnExactShowPlan'. -/
def fnExactShowPlanUptoCard : Claim7 := { stood := { row := fnExactShowPlanUptoRow, standIns := [], harness := (true, "5022a2c195e5dd6ce6e8475015dc9e48faffda81a8d61438ae280721ebb3b682"), looks := false }, kinds := [], alts := [], laidByText := true, laidKinds := [.data, .data, .data], laidTests := true, laidLooks := .later }
def FnExactShowPlanUptoCardSaid : Prop := Claim7.holds Tryd.pinned (.plain (OpenSpec.upto fnExactShowPlanSpec)) fnExactShowPlanUptoCard
end Rows
end Go.Proofs.YtikjhpljaanakaaDoor
