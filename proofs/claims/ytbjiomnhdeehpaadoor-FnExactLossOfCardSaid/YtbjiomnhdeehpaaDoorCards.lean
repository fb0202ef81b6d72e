/-
  DERIVED. GIVEN WITH THE SEED: THE CARDS: each row of YtbjiomnhdeehpaaDoorRows.lean that lists a variable, with what it lists TIED to the program's text (the seventh form; the later family's looks); each row that meets fmt, with fmt's text TOLD by the authors' own Lean function (tested against real Go, not proved from fmt's source: count such statements apart). THE CARD IS WHAT COUNTS. Prove the row's statement (the work); the ties are given (YtbjiomnhdeehpaaDoorTie.lean); close each card by the builder's one call (the guide's Derived/Test/ToyasCard.lean, 'card_holds'). Laid BY PROGRAM, IN A SANDBOX (cutbox-door.mjs). By AI agents, Wed Nov 11 2026. No macro, syntax, notation, axiom, sorry.
-/
import Derived.Test.YtbjiomnhdeehpaaDoorRows
import GoSem.ClaimSeven
namespace Go.Proofs.YtbjiomnhdeehpaaDoor
namespace Rows

/-- THE TIED CARD OF 'laws.FnLosses'. -/
def fnLossesCard : Claim7 := { stood := { row := fnLossesRow, standIns := [], harness := (true, "e8f852b4a4646e3914be57d9742d82679357a26eea075e2ba1582aeaf81ecb31"), looks := true }, kinds := [], alts := [], laidByText := true, laidKinds := [.handle], laidTests := true, laidLooks := .later }
def FnLossesCardSaid : Prop := Claim7.holds Tryd.pinned (.plain (OpenSpec.ofChange fnLossesSpec)) fnLossesCard

/-- THE TIED CARD OF 'laws.FnExactLossOf'. -/
def fnExactLossOfCard : Claim7 := { stood := { row := fnExactLossOfRow, standIns := [], harness := (true, "e8f852b4a4646e3914be57d9742d82679357a26eea075e2ba1582aeaf81ecb31"), looks := true }, kinds := [], alts := [], laidByText := true, laidKinds := [.handle], laidTests := true, laidLooks := .later }
def FnExactLossOfCardSaid : Prop := Claim7.holds Tryd.pinned (.plain (OpenSpec.ofChange fnExactLossOfSpec)) fnExactLossOfCard

/-- THE SECOND FORM's CARD OF 'laws.FnLosses'. -/
def fnLossesUptoCard : Claim7 := { stood := { row := fnLossesUptoRow, standIns := [], harness := (true, "e8f852b4a4646e3914be57d9742d82679357a26eea075e2ba1582aeaf81ecb31"), looks := true }, kinds := [], alts := [], laidByText := true, laidKinds := [.handle], laidTests := true, laidLooks := .later }
def FnLossesUptoCardSaid : Prop := Claim7.holds Tryd.pinned (.plain (OpenSpec.upto fnLossesSpec)) fnLossesUptoCard

/-- THE SECOND FORM's CARD OF 'laws.FnExactLossOf'. -/
def fnExactLossOfUptoCard : Claim7 := { stood := { row := fnExactLossOfUptoRow, standIns := [], harness := (true, "e8f852b4a4646e3914be57d9742d82679357a26eea075e2ba1582aeaf81ecb31"), looks := true }, kinds := [], alts := [], laidByText := true, laidKinds := [.handle], laidTests := true, laidLooks := .later }
def FnExactLossOfUptoCardSaid : Prop := Claim7.holds Tryd.pinned (.plain (OpenSpec.upto fnExactLossOfSpec)) fnExactLossOfUptoCard
end Rows
end Go.Proofs.YtbjiomnhdeehpaaDoor
