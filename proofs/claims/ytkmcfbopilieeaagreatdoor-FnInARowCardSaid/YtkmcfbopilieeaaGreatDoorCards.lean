/-
  DERIVED. GIVEN WITH THE SEED: THE CARDS: each row of YtkmcfbopilieeaaGreatDoorRows.lean that lists a variable, with what it lists TIED to the program's text (the seventh form; the later family's looks); each row that meets fmt, with fmt's text TOLD by the authors' own Lean function (tested against real Go, not proved from fmt's source: count such statements apart). THE CARD IS WHAT COUNTS. Prove the row's statement (the work); the ties are given (YtkmcfbopilieeaaGreatDoorTie.lean); close each card by the builder's one call (the guide's Derived/Test/ToyasCard.lean, 'card_holds'). Laid BY PROGRAM, IN A SANDBOX (cutbox-door.mjs). By AI agents, Wed Nov 11 2026. No macro, syntax, notation, axiom, sorry.
-/
import Derived.Test.YtkmcfbopilieeaaGreatDoorRows
import GoSem.ClaimSeven
namespace Go.Proofs.YtkmcfbopilieeaaGreatDoor
namespace Rows

/-- THE TIED CARD OF 'laws.FnSizes'. -/
def fnSizesCard : Claim7 := { stood := { row := fnSizesRow, standIns := [], harness := (true, "39ff7f2cbf27e98d6d5179dd89ebd421105ab181791958d99ce6e2ce1e464a03"), looks := true }, kinds := [], alts := [], laidByText := true, laidKinds := [.handle], laidTests := true, laidLooks := .later }
def FnSizesCardSaid : Prop := Claim7.holds Tryz.pinned (.plain (OpenSpec.ofChange fnSizesSpec)) fnSizesCard

/-- THE TIED CARD OF 'laws.FnInARow'. -/
def fnInARowCard : Claim7 := { stood := { row := fnInARowRow, standIns := [], harness := (true, "39ff7f2cbf27e98d6d5179dd89ebd421105ab181791958d99ce6e2ce1e464a03"), looks := true }, kinds := [], alts := [], laidByText := true, laidKinds := [.handle], laidTests := true, laidLooks := .later }
def FnInARowCardSaid : Prop := Claim7.holds Tryz.pinned (.plain (OpenSpec.ofChange fnInARowSpec)) fnInARowCard

/-- THE SECOND FORM's CARD OF 'laws.FnSizes'. -/
def fnSizesUptoCard : Claim7 := { stood := { row := fnSizesUptoRow, standIns := [], harness := (true, "39ff7f2cbf27e98d6d5179dd89ebd421105ab181791958d99ce6e2ce1e464a03"), looks := true }, kinds := [], alts := [], laidByText := true, laidKinds := [.handle], laidTests := true, laidLooks := .later }
def FnSizesUptoCardSaid : Prop := Claim7.holds Tryz.pinned (.plain (OpenSpec.upto fnSizesSpec)) fnSizesUptoCard

/-- THE SECOND FORM's CARD OF 'laws.FnInARow'. -/
def fnInARowUptoCard : Claim7 := { stood := { row := fnInARowUptoRow, standIns := [], harness := (true, "39ff7f2cbf27e98d6d5179dd89ebd421105ab181791958d99ce6e2ce1e464a03"), looks := true }, kinds := [], alts := [], laidByText := true, laidKinds := [.handle], laidTests := true, laidLooks := .later }
def FnInARowUptoCardSaid : Prop := Claim7.holds Tryz.pinned (.plain (OpenSpec.upto fnInARowSpec)) fnInARowUptoCard
end Rows
end Go.Proofs.YtkmcfbopilieeaaGreatDoor
