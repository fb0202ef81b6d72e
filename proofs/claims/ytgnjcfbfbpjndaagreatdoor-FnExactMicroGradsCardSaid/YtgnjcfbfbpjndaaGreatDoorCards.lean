/-
  DERIVED. GIVEN WITH THE SEED: THE CARDS: each row of YtgnjcfbfbpjndaaGreatDoorRows.lean that lists a variable, with what it lists TIED to the program's text (the seventh form; the later family's looks); each row that meets fmt, with fmt's text TOLD by the authors' own Lean function (tested against real Go, not proved from fmt's source: count such statements apart). THE CARD IS WHAT COUNTS. Prove the row's statement (the work); the ties are given (YtgnjcfbfbpjndaaGreatDoorTie.lean); close each card by the builder's one call (the guide's Derived/Test/ToyasCard.lean, 'card_holds'). Laid BY PROGRAM, IN A SANDBOX (cutbox-door.mjs). By AI agents, Wed Nov 11 2026. No macro, syntax, notation, axiom, sorry.
-/
import Derived.Test.YtgnjcfbfbpjndaaGreatDoorRows
import GoSem.ClaimSeven
namespace Go.Proofs.YtgnjcfbfbpjndaaGreatDoor
namespace Rows

/-- THE TIED CARD OF 'laws.FnInARow'. -/
def fnInARowCard : Claim7 := { stood := { row := fnInARowRow, standIns := [], harness := (true, "d9bf499737aafd4eb07f60ddfa4b4c342e89b4d3949cee959e218386d5f7b7f8"), looks := true }, kinds := [], alts := [], laidByText := true, laidKinds := [.handle], laidTests := true, laidLooks := .later }
def FnInARowCardSaid : Prop := Claim7.holds Tryz.pinned (.plain (OpenSpec.ofChange fnInARowSpec)) fnInARowCard

/-- THE TIED CARD OF 'laws.FnSizes'. -/
def fnSizesCard : Claim7 := { stood := { row := fnSizesRow, standIns := [], harness := (true, "d9bf499737aafd4eb07f60ddfa4b4c342e89b4d3949cee959e218386d5f7b7f8"), looks := true }, kinds := [], alts := [], laidByText := true, laidKinds := [.handle], laidTests := true, laidLooks := .later }
def FnSizesCardSaid : Prop := Claim7.holds Tryz.pinned (.plain (OpenSpec.ofChange fnSizesSpec)) fnSizesCard

/-- THE TIED CARD OF 'laws.FnExactMicroGrads'. -/
def fnExactMicroGradsCard : Claim7 := { stood := { row := fnExactMicroGradsRow, standIns := [], harness := (true, "d9bf499737aafd4eb07f60ddfa4b4c342e89b4d3949cee959e218386d5f7b7f8"), looks := true }, kinds := [], alts := [], laidByText := true, laidKinds := [.handle], laidTests := true, laidLooks := .later }
def FnExactMicroGradsCardSaid : Prop := Claim7.holds Tryz.pinned (.plain (OpenSpec.ofChange fnExactMicroGradsSpec)) fnExactMicroGradsCard

/-- THE TIED CARD OF 'laws.FnExactSequential'. -/
def fnExactSequentialCard : Claim7 := { stood := { row := fnExactSequentialRow, standIns := [], harness := (true, "d9bf499737aafd4eb07f60ddfa4b4c342e89b4d3949cee959e218386d5f7b7f8"), looks := true }, kinds := [], alts := [], laidByText := true, laidKinds := [.handle], laidTests := true, laidLooks := .later }
def FnExactSequentialCardSaid : Prop := Claim7.holds Tryz.pinned (.plain (OpenSpec.ofChange fnExactSequentialSpec)) fnExactSequentialCard

/-- THE SECOND FORM's CARD OF 'laws.FnInARow'. -/
def fnInARowUptoCard : Claim7 := { stood := { row := fnInARowUptoRow, standIns := [], harness := (true, "d9bf499737aafd4eb07f60ddfa4b4c342e89b4d3949cee959e218386d5f7b7f8"), looks := true }, kinds := [], alts := [], laidByText := true, laidKinds := [.handle], laidTests := true, laidLooks := .later }
def FnInARowUptoCardSaid : Prop := Claim7.holds Tryz.pinned (.plain (OpenSpec.upto fnInARowSpec)) fnInARowUptoCard

/-- THE SECOND FORM's CARD OF 'laws.FnSizes'. -/
def fnSizesUptoCard : Claim7 := { stood := { row := fnSizesUptoRow, standIns := [], harness := (true, "d9bf499737aafd4eb07f60ddfa4b4c342e89b4d3949cee959e218386d5f7b7f8"), looks := true }, kinds := [], alts := [], laidByText := true, laidKinds := [.handle], laidTests := true, laidLooks := .later }
def FnSizesUptoCardSaid : Prop := Claim7.holds Tryz.pinned (.plain (OpenSpec.upto fnSizesSpec)) fnSizesUptoCard

/-- THE SECOND FORM's CARD OF 'laws.FnExactMicroGrads'. -/
def fnExactMicroGradsUptoCard : Claim7 := { stood := { row := fnExactMicroGradsUptoRow, standIns := [], harness := (true, "d9bf499737aafd4eb07f60ddfa4b4c342e89b4d3949cee959e218386d5f7b7f8"), looks := true }, kinds := [], alts := [], laidByText := true, laidKinds := [.handle], laidTests := true, laidLooks := .later }
def FnExactMicroGradsUptoCardSaid : Prop := Claim7.holds Tryz.pinned (.plain (OpenSpec.upto fnExactMicroGradsSpec)) fnExactMicroGradsUptoCard

/-- THE SECOND FORM's CARD OF 'laws.FnExactSequential'. -/
def fnExactSequentialUptoCard : Claim7 := { stood := { row := fnExactSequentialUptoRow, standIns := [], harness := (true, "d9bf499737aafd4eb07f60ddfa4b4c342e89b4d3949cee959e218386d5f7b7f8"), looks := true }, kinds := [], alts := [], laidByText := true, laidKinds := [.handle], laidTests := true, laidLooks := .later }
def FnExactSequentialUptoCardSaid : Prop := Claim7.holds Tryz.pinned (.plain (OpenSpec.upto fnExactSequentialSpec)) fnExactSequentialUptoCard
end Rows
end Go.Proofs.YtgnjcfbfbpjndaaGreatDoor
