/-
  DERIVED. GIVEN WITH THE SEED: THE CARDS: each row of YtdmkbmpgcpggdabDoorRows.lean that lists a variable, with what it lists TIED to the program's text (the seventh form; the later family's looks); each row that meets fmt, with fmt's text TOLD by the authors' own Lean function (tested against real Go, not proved from fmt's source: count such statements apart). THE CARD IS WHAT COUNTS. Prove the row's statement (the work); the ties are given (YtdmkbmpgcpggdabDoorTie.lean); close each card by the builder's one call (the guide's Derived/Test/ToyasCard.lean, 'card_holds'). Laid BY PROGRAM, IN A SANDBOX (cutbox-door.mjs). By AI agents, Wed Nov 11 2026. No macro, syntax, notation, axiom, sorry.
-/
import Derived.Test.YtdmkbmpgcpggdabDoorRows
import GoSem.ClaimSeven
namespace Go.Proofs.YtdmkbmpgcpggdabDoor
namespace Rows

/-- THE TIED CARD OF 'laws.FnVectors'. -/
def fnVectorsCard : Claim7 := { stood := { row := fnVectorsRow, standIns := [], harness := (true, "3344c0bda945fd7ce0f30162f75ced2589319a2ac644c7378b72d0f731ab7050"), looks := true }, kinds := [], alts := [], laidByText := true, laidKinds := [.handle], laidTests := true, laidLooks := .later }
def FnVectorsCardSaid : Prop := Claim7.holds Tryd.pinned (.plain (OpenSpec.ofChange fnVectorsSpec)) fnVectorsCard

/-- THE TIED CARD OF 'laws.FnExactVecAdd'. -/
def fnExactVecAddCard : Claim7 := { stood := { row := fnExactVecAddRow, standIns := [], harness := (true, "3344c0bda945fd7ce0f30162f75ced2589319a2ac644c7378b72d0f731ab7050"), looks := true }, kinds := [], alts := [], laidByText := true, laidKinds := [.handle], laidTests := true, laidLooks := .later }
def FnExactVecAddCardSaid : Prop := Claim7.holds Tryd.pinned (.plain (OpenSpec.ofChange fnExactVecAddSpec)) fnExactVecAddCard

/-- THE TIED CARD OF 'laws.FnExactVecSub'. -/
def fnExactVecSubCard : Claim7 := { stood := { row := fnExactVecSubRow, standIns := [], harness := (true, "3344c0bda945fd7ce0f30162f75ced2589319a2ac644c7378b72d0f731ab7050"), looks := true }, kinds := [], alts := [], laidByText := true, laidKinds := [.handle], laidTests := true, laidLooks := .later }
def FnExactVecSubCardSaid : Prop := Claim7.holds Tryd.pinned (.plain (OpenSpec.ofChange fnExactVecSubSpec)) fnExactVecSubCard

/-- THE TIED CARD OF 'laws.FnExactVecScale'. -/
def fnExactVecScaleCard : Claim7 := { stood := { row := fnExactVecScaleRow, standIns := [], harness := (true, "3344c0bda945fd7ce0f30162f75ced2589319a2ac644c7378b72d0f731ab7050"), looks := true }, kinds := [], alts := [], laidByText := true, laidKinds := [.handle], laidTests := true, laidLooks := .later }
def FnExactVecScaleCardSaid : Prop := Claim7.holds Tryd.pinned (.plain (OpenSpec.ofChange fnExactVecScaleSpec)) fnExactVecScaleCard

/-- THE TIED CARD OF 'laws.FnExactVecDot'. -/
def fnExactVecDotCard : Claim7 := { stood := { row := fnExactVecDotRow, standIns := [], harness := (true, "3344c0bda945fd7ce0f30162f75ced2589319a2ac644c7378b72d0f731ab7050"), looks := true }, kinds := [], alts := [], laidByText := true, laidKinds := [.handle], laidTests := true, laidLooks := .later }
def FnExactVecDotCardSaid : Prop := Claim7.holds Tryd.pinned (.plain (OpenSpec.ofChange fnExactVecDotSpec)) fnExactVecDotCard

/-- THE TIED CARD OF 'laws.FnExactVecRelu'. -/
def fnExactVecReluCard : Claim7 := { stood := { row := fnExactVecReluRow, standIns := [], harness := (true, "3344c0bda945fd7ce0f30162f75ced2589319a2ac644c7378b72d0f731ab7050"), looks := true }, kinds := [], alts := [], laidByText := true, laidKinds := [.handle], laidTests := true, laidLooks := .later }
def FnExactVecReluCardSaid : Prop := Claim7.holds Tryd.pinned (.plain (OpenSpec.ofChange fnExactVecReluSpec)) fnExactVecReluCard

/-- THE SECOND FORM's CARD OF 'laws.FnVectors'. -/
def fnVectorsUptoCard : Claim7 := { stood := { row := fnVectorsUptoRow, standIns := [], harness := (true, "3344c0bda945fd7ce0f30162f75ced2589319a2ac644c7378b72d0f731ab7050"), looks := true }, kinds := [], alts := [], laidByText := true, laidKinds := [.handle], laidTests := true, laidLooks := .later }
def FnVectorsUptoCardSaid : Prop := Claim7.holds Tryd.pinned (.plain (OpenSpec.upto fnVectorsSpec)) fnVectorsUptoCard

/-- THE SECOND FORM's CARD OF 'laws.FnExactVecAdd'. -/
def fnExactVecAddUptoCard : Claim7 := { stood := { row := fnExactVecAddUptoRow, standIns := [], harness := (true, "3344c0bda945fd7ce0f30162f75ced2589319a2ac644c7378b72d0f731ab7050"), looks := true }, kinds := [], alts := [], laidByText := true, laidKinds := [.handle], laidTests := true, laidLooks := .later }
def FnExactVecAddUptoCardSaid : Prop := Claim7.holds Tryd.pinned (.plain (OpenSpec.upto fnExactVecAddSpec)) fnExactVecAddUptoCard

/-- THE SECOND FORM's CARD OF 'laws.FnExactVecSub'. -/
def fnExactVecSubUptoCard : Claim7 := { stood := { row := fnExactVecSubUptoRow, standIns := [], harness := (true, "3344c0bda945fd7ce0f30162f75ced2589319a2ac644c7378b72d0f731ab7050"), looks := true }, kinds := [], alts := [], laidByText := true, laidKinds := [.handle], laidTests := true, laidLooks := .later }
def FnExactVecSubUptoCardSaid : Prop := Claim7.holds Tryd.pinned (.plain (OpenSpec.upto fnExactVecSubSpec)) fnExactVecSubUptoCard

/-- THE SECOND FORM's CARD OF 'laws.FnExactVecScale'. -/
def fnExactVecScaleUptoCard : Claim7 := { stood := { row := fnExactVecScaleUptoRow, standIns := [], harness := (true, "3344c0bda945fd7ce0f30162f75ced2589319a2ac644c7378b72d0f731ab7050"), looks := true }, kinds := [], alts := [], laidByText := true, laidKinds := [.handle], laidTests := true, laidLooks := .later }
def FnExactVecScaleUptoCardSaid : Prop := Claim7.holds Tryd.pinned (.plain (OpenSpec.upto fnExactVecScaleSpec)) fnExactVecScaleUptoCard

/-- THE SECOND FORM's CARD OF 'laws.FnExactVecDot'. -/
def fnExactVecDotUptoCard : Claim7 := { stood := { row := fnExactVecDotUptoRow, standIns := [], harness := (true, "3344c0bda945fd7ce0f30162f75ced2589319a2ac644c7378b72d0f731ab7050"), looks := true }, kinds := [], alts := [], laidByText := true, laidKinds := [.handle], laidTests := true, laidLooks := .later }
def FnExactVecDotUptoCardSaid : Prop := Claim7.holds Tryd.pinned (.plain (OpenSpec.upto fnExactVecDotSpec)) fnExactVecDotUptoCard

/-- THE SECOND FORM's CARD OF 'laws.FnExactVecRelu'. -/
def fnExactVecReluUptoCard : Claim7 := { stood := { row := fnExactVecReluUptoRow, standIns := [], harness := (true, "3344c0bda945fd7ce0f30162f75ced2589319a2ac644c7378b72d0f731ab7050"), looks := true }, kinds := [], alts := [], laidByText := true, laidKinds := [.handle], laidTests := true, laidLooks := .later }
def FnExactVecReluUptoCardSaid : Prop := Claim7.holds Tryd.pinned (.plain (OpenSpec.upto fnExactVecReluSpec)) fnExactVecReluUptoCard
end Rows
end Go.Proofs.YtdmkbmpgcpggdabDoor
